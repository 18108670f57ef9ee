/- PathLindley: the walk. -/
import Derived.Test.YtfebbjbobogkcaaP14
import Derived.Test.YtfebbjbobogkcaaP18
import Derived.Test.YtfebbjbobogkcaaM15
namespace Go.Proofs.Ytfebbjbobogkcaa
open Go.RowKit Go.Sort Sim

theorem wt_bg {n : Nat} {f : Nat → T3} (hg : Good n f) : ∀ i, i < n → (f i).1 + wt f i = ((bg (qOf n f 1) i : Nat) : Int)
  | 0, h => by
    have := hg.at0 0 h
    show (f 0).1 + 0 = (((f 0).1.toNat : Nat) : Int)
    omega
  | i + 1, h => by
    have ih := wt_bg hg i (by omega)
    have h1 := hg.at0 (i + 1) h
    have h2 := hg.size i (by omega)
    show (f (i + 1)).1 + max 0 (wt f i + (f i).2.1 - ((f (i + 1)).1 - (f i).1)) = ((max ((f (i + 1)).1.toNat) (bg (qOf n f 1) i + (f i).2.1.toNat) : Nat) : Int)
    omega
theorem mfr_tk {n : Nat} {f : Nat → T3} (hg : Good n f) : ∀ k, k ≤ n → mfr 1 f k 0 = ((tk (qOf n f 1) k : Nat) : Int)
  | 0, _ => rfl
  | k + 1, h => by
    have ih := mfr_tk hg k (by omega)
    have h1 := hg.at0 k (by omega)
    have h2 := hg.size k (by omega)
    have hl : lst (mfr 1 f k) 1 = 0 := by have := lst_le (mfr 1 f k) 1; omega
    have hb := bg_tk (qOf n f 1) k
    have hb' : bg (qOf n f 1) k = max ((f k).1.toNat) (tk (qOf n f 1) k) := hb
    show updI (mfr 1 f k) (lst (mfr 1 f k) 1) (max (f k).1 (mfr 1 f k (lst (mfr 1 f k) 1)) + (f k).2.1) 0 = ((bg (qOf n f 1) k + (f k).2.1.toNat : Nat) : Int)
    rw [hl, ih, hb']
    unfold updI
    rw [if_pos rfl]
    omega
theorem mbg_bg {n : Nat} {f : Nat → T3} (hg : Good n f) {i : Nat} (hi : i < n) : mbg 1 f i = ((bg (qOf n f 1) i : Nat) : Int) := by
  have h1 := hg.at0 i hi
  have hl : lst (mfr 1 f i) 1 = 0 := by have := lst_le (mfr 1 f i) 1; omega
  have hb' : bg (qOf n f 1) i = max ((f i).1.toNat) (tk (qOf n f 1) i) := bg_tk (qOf n f 1) i
  unfold mbg
  rw [hl, mfr_tk hg i (by omega), hb']
  omega

theorem first_pieces {n : Nat} {f : Nat → T3} (hg : Good n f) {t : Nat} (hd : Done (qOf n f 1) t) : (sim (qOf n f 1) t).ps = lps (qOf n f 1) n :=
  first_ps (q := qOf n f 1) rfl (fun i j hij hj => by have := good_mono hg hij hj; show (f i).1.toNat ≤ (f j).1.toNat; omega) (fun i hi => by have := hg.size i hi; show 0 < (f i).2.1.toNat; omega) hd
theorem lps_get (q : Q) {k i : Nat} (h : i < k) : (pcsT (lps q k))[i]! = ((i : Int), ((bg q i : Nat) : Int), ((bg q i + q.S i : Nat) : Int)) := by
  have hl : i < (lps q k).length := by unfold lps; simpa using h
  rw [pcsT_get hl]
  have e : (lps q k)[i] = (i, bg q i, bg q i + q.S i) := by
    have h1 : (lps q k)[i]? = some (i, bg q i, bg q i + q.S i) := by unfold lps; simp [h]
    exact (List.getElem?_eq_some_iff.1 h1).2
  rw [e]
  rfl
theorem lps_length (q : Q) (k : Nat) : (pcsT (lps q k)).length = k := by rw [pcsT_length]; unfold lps; simp
theorem bg_fit {n : Nat} {f : Nat → T3} (hg : Good n f) {t : Nat} (hd : Done (qOf n f 1) t) {i : Nat} (hi : i < n) : bg (qOf n f 1) i ≤ 61000000000 := by
  have h := ps_fit hg 1 hd (i, bg (qOf n f 1) i, bg (qOf n f 1) i + (qOf n f 1).S i) (by rw [first_pieces hg hd]; unfold lps; exact List.mem_map.2 ⟨i, List.mem_range.2 hi, rfl⟩)
  have h1 := h.2.2.1
  have h2 := h.2.2.2
  simp only at h1 h2
  omega

set_option maxHeartbeats 8000000 in
set_option maxRecDepth 100000 in
theorem pathLindley_any (a : Option Addr) (n c : Nat) (f : Nat → T3) (w : World) (ha : TRow w a n c f) :
    Calls Try.prog 4 #[.slice a n c] w fun e w' => e = .returned (.bool true) ∧ Below w.heap.size w w' := by
  have hc1 := ha.1
  have hc2 := ha.2.1
  by_cases hn : (40 : Int) < (n : Int)
  · go_enter Try.func4, Try.ntmps4
    go_wp2
    go_ret
    exact ⟨rfl, Below.refl _ _⟩
  have HA := hide ha
  by_cases hj : jcode n f = 0
  · have HJ := hide hj
    have HW1 := hide (waits_any a n c f w ha hj)
    have HG := hide (good_of hj)
    clear ha hj
    go_enter Try.func4, Try.ntmps4
    go_wp2_with fail
    refine (unhide HW1).mono ?_
    rintro e w1 ⟨G1, rfl, hO1, hb1⟩
    have HO1 := hide hO1
    have HB1 := hide hb1
    have HR1 : Hid (Calls Try.prog 15 #[.slice a n c, .int .i64 1] w1 _) := run_any a n c f 1 w1 ((unhide HA).below hb1) (unhide HJ) (by decide) (by decide)
    clear hO1 hb1 HW1
    go_wp2_with fail
    refine (unhide HR1).mono ?_
    rintro e w2 ⟨v, t, rfl, hd, ho, hb2⟩
    have HBF : Hid (∀ i, i < n → bg (qOf n f 1) i ≤ 61000000000) := fun i hi => bg_fit (unhide HG) hd hi
    rw [first_pieces (unhide HG) hd] at ho
    have HO2 := hide ho
    have HO1 := hide ((unhide HO1).keep hb2)
    have HB2 := hide (below_step (unhide HB1) hb2)
    have HM : Hid (Calls Try.prog 16 #[.slice a n c, .int .i64 1] w2 _) := many_any a n c f 1 (by decide) (by decide) w2 ((unhide HA).below (unhide HB2)) (unhide HJ)
    clear hd ho hb2 HR1 HB1
    go_wp2_with fail
    refine (unhide HM).mono ?_
    rintro e w3 ⟨G3, rfl, hO3, hb3⟩
    have HO3 := hide hO3
    have HO2 := hide ((unhide HO2).keep hb3)
    have HO1 := hide ((unhide HO1).keep hb3)
    have HB3 := hide (below_step (unhide HB2) hb3)
    have HSe := hide (served_any w3)
    clear hO3 hb3 HM HB2
    go_wp2_with fail
    refine (unhide HSe).mono ?_
    rintro e w4 ⟨rfl, hb4⟩
    obtain ⟨ap, cp, rfl, htp⟩ := ((unhide HO2).keep hb4).trow
    rw [lps_length] at htp ⊢
    have HTP := hide htp
    have HO3 := hide ((unhide HO3).keep hb4)
    have HO1 := hide ((unhide HO1).keep hb4)
    have HB4 := hide (below_step (unhide HB3) hb4)
    clear hb4 HSe HB3 htp HO2
    go_wp2_with fail
    go_loopw [9] (fun vi wr => ∃ i q : Nat, vi = .int .i64 (i : Int) ∧ i ≤ n ∧ wr = w4.drewN q) (fun vi _ => n - (intOf vi).toNat)
    case atStart => exact ⟨0, 0, rfl, Nat.zero_le _, rfl⟩
    case round =>
      obtain ⟨i, q, rfl, hi, hwr⟩ := hrel
      have HW := hide hwr
      have bw : Below w4.heap.size w4 wr := by rw [hwr]; exact below_drewN _ _
      by_cases hlt : i < n
      · obtain ⟨b, o, rfl, hbl, hc3⟩ := ((unhide HTP).below bw).2.2 (by omega)
        have ⟨q0, q1, q2⟩ := hc3 i hlt
        simp only at q0 q1 q2
        rw [lps_get _ hlt] at q0 q1 q2
        simp only at q0 q1 q2
        obtain ⟨bl, ol, el, hbll, hcl⟩ := ((unhide HA).below (below_step (unhide HB4) bw)).2.2 (by omega)
        have ⟨l0, l1, _⟩ := hcl i hlt
        have g1 := ((unhide HO1).keep bw).cell hlt
        have g3 := ((unhide HO3).keep bw).cell hlt
        have hwb := wt_bg (unhide HG) i hlt
        have hsz := (unhide HG).size i hlt
        have hat := (unhide HG).at0 i hlt
        have hbf := unhide HBF i hlt
        rw [mbg_bg (unhide HG) hlt] at g3
        have hS : (((bg (qOf n f 1) i + (qOf n f 1).S i : Nat)) : Int) = ((bg (qOf n f 1) i : Nat) : Int) + (f i).2.1 := by show (((bg (qOf n f 1) i + (f i).2.1.toNat : Nat)) : Int) = _; omega
        rw [hS] at q2
        obtain ⟨bb, hbb⟩ : ∃ x : Int, ((bg (qOf n f 1) i : Nat) : Int) = x := ⟨_, rfl⟩
        obtain ⟨x, hx⟩ : ∃ x, (f i).1 = x := ⟨_, rfl⟩
        obtain ⟨y, hy⟩ : ∃ x, (f i).2.1 = x := ⟨_, rfl⟩
        obtain ⟨u, hu⟩ : ∃ x, wt f i = x := ⟨_, rfl⟩
        rw [hbb] at q1 q2 g3 hwb
        rw [hx] at l0 hwb hat
        rw [hy] at l1 q2 hsz
        rw [hu] at g1 hwb
        have w1 : IntKind.i64.wrap (x + u) = bb := by rw [IntKind.wrap_i64]; omega
        have w2 : IntKind.i64.wrap (bb + y) = bb + y := by rw [IntKind.wrap_i64]; omega
        have e1 : (i : Int) < (n : Int) := by omega
        have e0 : (0 : Int) ≤ (i : Int) := by omega
        subst el
        clear hc3 hcl hwr bw hS hbb hx hy hu hsz hat hbf hwb
        go_wp2_with fail
        go_quiet (fail)
        go_wp2
        exact ⟨⟨i + 1, q + nq, by go_num, hlt, by rw [unhide HW]; simp⟩, by simp [intOf]; omega⟩
      · obtain rfl : i = n := by omega
        have e1 : ¬ (i : Int) < (i : Int) := by omega
        have FB : Hid (Below w.heap.size w wr) := below_step (unhide HB4) bw
        clear hwr bw
        go_wp2
        go_ret
        exact ⟨rfl, unhide FB⟩
  · have HW1 := hide (waits_bad a n c f w ha hj)
    have HJ := hide hj
    obtain ⟨k, hk⟩ : ∃ k, jcode n f = k := ⟨_, rfl⟩
    rw [hk] at HW1
    have HK := hide hk
    clear ha hj hk
    go_enter Try.func4, Try.ntmps4
    go_wp2_with fail
    refine (unhide HW1).mono ?_
    rintro e w1 ⟨rfl, hb1⟩
    have HB1 := hide hb1
    have HR1 := hide (run_bad a n c f 1 w1 ((unhide HA).below hb1) (unhide HJ))
    rw [unhide HK] at HR1
    clear hb1 HW1
    go_wp2_with fail
    refine (unhide HR1).mono ?_
    rintro e w2 ⟨rfl, hb2⟩
    have HB2 := hide (below_step (unhide HB1) hb2)
    have HM := hide (many_bad a n c f 1 w2 ((unhide HA).below (unhide HB2)) (unhide HJ))
    rw [unhide HK] at HM
    clear hb2 HR1 HB1
    go_wp2_with fail
    refine (unhide HM).mono ?_
    rintro e w3 ⟨rfl, hb3⟩
    have HB3 := hide (below_step (unhide HB2) hb3)
    have HSe := hide (served_any w3)
    clear hb3 HM HB2
    go_wp2_with fail
    refine (unhide HSe).mono ?_
    rintro e w4 ⟨rfl, hb4⟩
    have HB4 := hide (below_step (unhide HB3) hb4)
    have HSe := hide (served_any w4)
    clear hb4 HB3
    go_wp2_with fail
    refine (unhide HSe).mono ?_
    rintro e w5 ⟨rfl, hb5⟩
    have HB5 := hide (below_step (unhide HB4) hb5)
    clear hb5 HB4
    go_wp2
    go_ret
    exact ⟨rfl, unhide HB5⟩
end Go.Proofs.Ytfebbjbobogkcaa
