/- PathShortest: the whole walk. -/
import Derived.Test.YtfebbjbobogkcaaP13
import Derived.Test.YtfebbjbobogkcaaP11
import Derived.Test.YtfebbjbobogkcaaM14
namespace Go.Proofs.Ytfebbjbobogkcaa
open Go.RowKit Go.Sort Sim

theorem pcsT_get {ps : List Pc} {k : Nat} (h : k < ps.length) : (pcsT ps)[k]! = pcT ps[k] := by simp [pcsT, h]
theorem endsI_take {n : Nat} {ps : List Pc} (h : ∀ p ∈ ps, p.1 < n ∧ p.2.1 < p.2.2 ∧ p.2.2 ≤ 100000000000) {j : Nat} : ∀ k, k ≤ ps.length → endsI n (fun i => (pcsT ps)[i]!) k j = ((endN j (ps.take k) : Nat) : Int)
  | 0, _ => rfl
  | k + 1, hk => by
    have ih := endsI_take h (j := j) k (by omega)
    have hlt : k < ps.length := by omega
    have hm := h ps[k] (List.getElem_mem hlt)
    obtain ⟨⟨a, b, c⟩, hp⟩ : ∃ p, ps[k] = p := ⟨_, rfl⟩
    rw [hp] at hm
    simp only at hm
    have hg : (fun i => (pcsT ps)[i]!) k = ((a : Int), (b : Int), (c : Int)) := by
      show (pcsT ps)[k]! = _
      rw [pcsT_get hlt, hp]; rfl
    have hc : cnts ((fun i => (pcsT ps)[i]!) k) = true := by rw [hg]; unfold cnts; simp only; exact decide_eq_true (by omega)
    rw [endsI_yes hg hc hm.1]
    rw [List.take_succ_eq_append_getElem hlt, endN_append, hp, endN_one]
    unfold updI
    by_cases e : j = a
    · subst e
      rw [if_pos rfl, if_pos rfl, ih]
      have : ∀ p q : Nat, max (p : Int) (q : Int) = ((max p q : Nat) : Int) := fun p q => by omega
      exact this _ _
    · rw [if_neg e, if_neg (fun h => e h.symm), ih]
      have : ∀ p : Nat, (p : Int) = ((max p 0 : Nat) : Int) := fun p => by omega
      exact this _
theorem endsI_all {n : Nat} {ps : List Pc} (h : ∀ p ∈ ps, p.1 < n ∧ p.2.1 < p.2.2 ∧ p.2.2 ≤ 100000000000) {j : Nat} : endsI n (fun i => (pcsT ps)[i]!) (pcsT ps).length j = ((endN j ps : Nat) : Int) := by
  rw [pcsT_length, endsI_take h _ (Nat.le_refl _), List.take_length]

theorem ends_fit {n : Nat} {f : Nat → T3} (hg : Good n f) (r : Nat) {t : Nat} (hd : Done (qOf n f r) t) {i : Nat} (hi : i < n) : endN i (sim (qOf n f r) t).ps ≤ 61000000000 := by
  have h1 := ends_le (q := qOf n f r) (M := 1000000000) (fun k hk => by have := hg.at0 k hk; show (f k).1.toNat ≤ _; omega) hd hi
  have h2 := sizes_fit hg r
  have h3 : nsum (qOf n f r).S (qOf n f r).N ≤ 60000000000 := h2
  omega
/-- Pieces are within bounds. -/
theorem ps_fit {n : Nat} {f : Nat → T3} (hg : Good n f) (r : Nat) {t : Nat} (hd : Done (qOf n f r) t) : ∀ p ∈ (sim (qOf n f r) t).ps, p.1 < n ∧ (f p.1).1.toNat ≤ p.2.1 ∧ p.2.1 < p.2.2 ∧ p.2.2 ≤ 61000000000 := by
  intro p hp
  obtain ⟨h1, h2, h3, h4⟩ := (ps_ok (q := qOf n f r) t).1 p hp
  refine ⟨h1, h2, h3, ?_⟩
  have h5 : p.2.2 ≤ endN p.1 (sim (qOf n f r) t).ps := by
    have : ∀ (ps : List Pc), p ∈ ps → p.2.2 ≤ endN p.1 ps := fun ps => by
      induction ps with
      | nil => intro h; cases h
      | cons x xs ih =>
        intro h
        show _ ≤ max _ _
        rcases List.mem_cons.1 h with rfl | h
        · rw [if_pos rfl]; omega
        · have := ih h; omega
    exact this _ hp
  exact Nat.le_trans h5 (ends_fit hg r hd h1)

def isum (f : Nat → Int) : Nat → Int
  | 0 => 0
  | n + 1 => isum f n + f n
theorem isum_bd {f : Nat → Int} {B : Int} : ∀ n, (∀ i, i < n → -B ≤ f i ∧ f i ≤ B) → -(B * n) ≤ isum f n ∧ isum f n ≤ B * n
  | 0, _ => by show -(B * (0 : Int)) ≤ 0 ∧ (0 : Int) ≤ B * 0; omega
  | n + 1, h => by
    have ih := isum_bd n (fun i hi => h i (by omega))
    have := h n (by omega)
    have e : B * ((n + 1 : Nat) : Int) = B * n + B := by rw [show ((n + 1 : Nat) : Int) = (n : Int) + 1 by omega, Int.mul_add]; omega
    rw [e]
    show _ ≤ isum f n + f n ∧ isum f n + f n ≤ _
    omega
theorem isum_sub {a b : Nat → Nat} : ∀ n, isum (fun i => ((b i : Int) - (a i : Int))) n = (nsum b n : Int) - (nsum a n : Int)
  | 0 => rfl
  | n + 1 => by
    show isum _ n + ((b n : Int) - (a n : Int)) = ((nsum b n + b n : Nat) : Int) - ((nsum a n + a n : Nat) : Int)
    rw [isum_sub n]; omega

/-- Ends of a run, as the program answers them. -/
def EndsAre (w : World) (G n : Nat) (f : Nat → T3) (r t : Nat) : Prop := OwnI w G n (fun j => ((endN j (sim (qOf n f r) t).ps : Nat) : Int))
theorem ends_run (a : Option Addr) (n c : Nat) (f : Nat → T3) (hg : Good n f) (r t B : Nat) (hd : Done (qOf n f r) t) (v : Value) (w : World) (ho : OwnP w B v (pcsT (sim (qOf n f r) t).ps)) :
    Calls Try.prog 9 #[.slice a n c, v] w fun e w' => e = .returned (.slice (some ⟨w.heap.size, 0, none⟩) n n) ∧ EndsAre w' w.heap.size n f r t ∧ Below w.heap.size w w' := by
  obtain ⟨a', c', rfl, ht⟩ := ho.trow
  refine (ends_any a a' n c _ c' _ w ht (by have := hg.few; omega)).mono fun e w' ⟨h1, h2, h3⟩ => ⟨h1, ?_, h3⟩
  have hp := ps_fit hg r hd
  refine h2.congr fun j hj => ?_
  exact endsI_all fun p h => by have := hp p h; exact ⟨this.1, this.2.2.1, by omega⟩

set_option maxHeartbeats 4000000 in
theorem pathShortest_any (a : Option Addr) (n c : Nat) (f : Nat → T3) (x : Int) (w : World) (ha : TRow w a n c f) :
    Calls Try.prog 7 #[.slice a n c, .int .i64 x] w fun e w' => e = .returned (.bool true) ∧ Below w.heap.size w w' := by
  have hc1 := ha.1
  have hc2 := ha.2.1
  by_cases hn : (30 : Int) < (n : Int)
  · go_enter Try.func7, Try.ntmps7
    go_wp2
    go_ret
    exact ⟨rfl, Below.refl _ _⟩
  by_cases hj : jcode n f = 0
  · have HA := hide ha
    have HJ := hide hj
    have HR6 : Hid (Calls Try.prog 15 #[.slice a n c, .int .i64 6] w _) := run_any a n c f 6 w ha hj (by decide) (by decide)
    clear ha hj
    go_enter Try.func7, Try.ntmps7
    go_wp2_with fail
    refine (unhide HR6).mono ?_
    rintro e w1 ⟨v, t, rfl, hd, ho, hb⟩
    have HD := hide hd
    have HO := hide ho
    have HB := hide hb
    clear hd ho hb HR6
    have HPk := hide (pick_any x 6 (by decide) (by decide) w1)
    go_wp2_with fail
    refine (unhide HPk).mono ?_
    rintro e w1' ⟨k, rfl, hk, hw⟩
    obtain rfl := hw.symm
    clear HPk
    have HR2 : Hid (Calls Try.prog 15 #[.slice a n c, .int .i64 (1 + (k : Int))] w1 fun e w' => ∃ v t, e = .returned (.tuple #[v, .nilIface]) ∧ Done (qOf n f (k + 1)) t ∧ OwnP w' w1.heap.size v (pcsT (sim (qOf n f (k + 1)) t).ps) ∧ Below w1.heap.size w1 w') := by
      have h := run_any a n c f (k + 1) w1 ((unhide HA).below (unhide HB)) (unhide HJ) (by omega) (by omega)
      rw [show ((k + 1 : Nat) : Int) = 1 + (k : Int) by omega] at h
      exact h
    go_wp2_with fail
    refine (unhide HR2).mono ?_
    rintro e w2 ⟨v2, t2, rfl, hd2, ho2, hb2⟩
    have HD2 := hide hd2
    have HO2 := hide ho2
    have HO1 := hide ((unhide HO).keep hb2)
    have HB2 := hide (below_step (unhide HB) hb2)
    have HSe := hide (served_any w2)
    clear hd2 ho2 hb2 HR2 HO HB
    go_wp2_with fail
    refine (unhide HSe).mono ?_
    rintro e w3 ⟨rfl, hb3⟩
    have HO1 := hide ((unhide HO1).keep hb3)
    have HO2 := hide ((unhide HO2).keep hb3)
    have HB3 := hide (below_step (unhide HB2) hb3)
    have HE1 := hide (ends_run a n c f (good_of (unhide HJ)) 6 t _ (unhide HD) v w3 (unhide HO1))
    clear hb3 HSe HB2
    go_wp2_with fail
    refine (unhide HE1).mono ?_
    rintro e w4 ⟨rfl, he4, hb4⟩
    obtain ⟨G1, hG1⟩ : ∃ G, w3.heap.size = G := ⟨_, rfl⟩
    rw [hG1] at he4 ⊢
    have HE4 := hide he4
    have HO2 := hide ((unhide HO2).keep hb4)
    have HB4 := hide (below_step (unhide HB3) hb4)
    have HE2 := hide (ends_run a n c f (good_of (unhide HJ)) (k + 1) t2 _ (unhide HD2) v2 w4 (unhide HO2))
    clear hb4 he4 HE1 HB3 hG1
    go_wp2_with fail
    refine (unhide HE2).mono ?_
    rintro e w5 ⟨rfl, he5, hb5⟩
    obtain ⟨G2, hG2⟩ : ∃ G, w4.heap.size = G := ⟨_, rfl⟩
    rw [hG2] at he5 ⊢
    have HE4 := hide (OwnI.keep (unhide HE4) hb5)
    have HE5 := hide he5
    have HB5 := hide (below_step (unhide HB4) hb5)
    clear hb5 he5 HE2 HB4 hG2
    obtain ⟨A, hA⟩ : ∃ A : Nat → Nat, A = fun j => endN j (sim (qOf n f 6) t).ps := ⟨_, rfl⟩
    obtain ⟨B, hB⟩ : ∃ B : Nat → Nat, B = fun j => endN j (sim (qOf n f (k + 1)) t2).ps := ⟨_, rfl⟩
    have hAb : Hid (∀ j, j < n → A j ≤ 61000000000) := fun j hj => by rw [hA]; exact ends_fit (good_of (unhide HJ)) 6 (unhide HD) hj
    have hBb : Hid (∀ j, j < n → B j ≤ 61000000000) := fun j hj => by rw [hB]; exact ends_fit (good_of (unhide HJ)) (k + 1) (unhide HD2) hj
    have HAB : Hid (nsum A n ≤ nsum B n) := by rw [hA, hB]; exact shortest_least (s := qOf n f 6) (p := qOf n f (k + 1)) rfl rfl (fun _ _ => rfl) (fun _ _ => rfl) (unhide HD) (unhide HD2)
    have HE4' : Hid (OwnI w5 G1 n (fun j => ((A j : Nat) : Int))) := by rw [hA]; exact unhide HE4
    have HE5' : Hid (OwnI w5 G2 n (fun j => ((B j : Nat) : Int))) := by rw [hB]; exact unhide HE5
    clear hA hB HE4 HE5 HO1 HO2 HD HD2
    go_wp2_with fail
    go_loopw [11, 12] (fun vn vi wr => ∃ i q : Nat, vi = .int .i64 (i : Int) ∧ vn = .int .i64 (isum (fun j => ((B j : Int) - (A j : Int))) i) ∧ i ≤ n ∧ wr = w5.drewN q) (fun _ vi _ => n - (intOf vi).toNat)
    case atStart => exact ⟨0, 0, rfl, rfl, Nat.zero_le _, rfl⟩
    case round =>
      obtain ⟨i, q, rfl, rfl, hi, hwr⟩ := hrel
      have HW := hide hwr
      have bw : Below w5.heap.size w5 wr := by rw [hwr]; exact below_drewN _ _
      obtain ⟨N, hN⟩ : ∃ N, isum (fun j => ((B j : Int) - (A j : Int))) i = N := ⟨_, rfl⟩
      rw [hN]
      by_cases hlt : i < n
      · have e1 : (i : Int) < (n : Int) := by omega
        have e0 : (0 : Int) ≤ (i : Int) := by omega
        have g1 := (OwnI.keep (unhide HE4') bw).cell hlt
        have g2 := (OwnI.keep (unhide HE5') bw).cell hlt
        have b1 := unhide hAb i hlt
        have b2 := unhide hBb i hlt
        have bd := isum_bd (f := fun j => ((B j : Int) - (A j : Int))) (B := 61000000000) i (fun j hj => by have := unhide hAb j (by omega); have := unhide hBb j (by omega); exact ⟨by omega, by omega⟩)
        rw [hN] at bd
        have FIN : Hid (isum (fun j => ((B j : Int) - (A j : Int))) (i + 1) = N + ((B i : Int) - (A i : Int))) := by show isum _ i + _ = _; rw [hN]
        obtain ⟨u, hu⟩ : ∃ u : Int, (A i : Int) = u := ⟨_, rfl⟩
        obtain ⟨y, hy⟩ : ∃ u : Int, (B i : Int) = u := ⟨_, rfl⟩
        rw [hu] at g1 FIN
        rw [hy] at g2 FIN
        have w1 : IntKind.i64.wrap (y - u) = y - u := by rw [IntKind.wrap_i64]; omega
        have w2 : IntKind.i64.wrap (N + (y - u)) = N + (y - u) := by rw [IntKind.wrap_i64]; omega
        clear hwr bw hN b1 b2 bd hu hy
        go_wp2_with fail
        go_quiet (fail)
        go_wp2
        exact ⟨⟨i + 1, q + nq, by go_num, by rw [unhide FIN], hlt, by rw [unhide HW]; simp⟩, by simp [intOf]; omega⟩
      · obtain rfl : i = n := by omega
        have e1 : ¬ (i : Int) < (i : Int) := by omega
        have hge : 0 ≤ N := by
          have h1 := isum_sub (a := A) (b := B) i
          have h2 := unhide HAB
          rw [hN] at h1
          omega
        have FB : Hid (Below w.heap.size w wr) := below_step (unhide HB5) bw
        clear hN hwr bw
        go_wp2
        go_ret
        exact ⟨rfl, unhide FB⟩
  · have HA := hide ha
    have HJ := hide hj
    have HR6 := hide (run_bad a n c f 6 w ha hj)
    clear ha hj
    go_enter Try.func7, Try.ntmps7
    go_wp2_with fail
    refine (unhide HR6).mono ?_
    rintro e w1 ⟨rfl, hb⟩
    have HB := hide hb
    clear hb HR6
    have HPk := hide (pick_any x 6 (by decide) (by decide) w1)
    go_wp2_with fail
    refine (unhide HPk).mono ?_
    rintro e w1' ⟨k, rfl, hk, hw⟩
    obtain rfl := hw.symm
    clear HPk
    have HR2 := hide (run_bad a n c f (1 + (k : Int)) w1 ((unhide HA).below (unhide HB)) (unhide HJ))
    go_wp2_with fail
    refine (unhide HR2).mono ?_
    rintro e w2 ⟨rfl, hb2⟩
    have HB2 := hide (below_step (unhide HB) hb2)
    have HSe := hide (served_any w2)
    clear hb2 HR2 HB
    go_wp2_with fail
    refine (unhide HSe).mono ?_
    rintro e w3 ⟨rfl, hb3⟩
    have HB3 := hide (below_step (unhide HB2) hb3)
    have HSe := hide (served_any w3)
    clear hb3 HB2
    go_wp2_with fail
    refine (unhide HSe).mono ?_
    rintro e w4 ⟨rfl, hb4⟩
    have HB4 := hide (below_step (unhide HB3) hb4)
    clear hb4 HB3
    go_wp2
    go_ret
    exact ⟨rfl, unhide HB4⟩
end Go.Proofs.Ytfebbjbobogkcaa
