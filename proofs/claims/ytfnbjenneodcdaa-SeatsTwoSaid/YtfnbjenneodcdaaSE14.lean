/- SeatsTwo's walk. -/
import Derived.Test.YtfnbjenneodcdaaSE7
import Derived.Test.YtfnbjenneodcdaaSE10
import Derived.Test.YtfnbjenneodcdaaSE11
namespace Go.Proofs.Ytfnbjenneodcdaa
open Go.RowKit Go.Sort Go.Shelf

theorem pfares_two {w : World} {g : Nat} {x1 x2 : Int} {l1 l2 : Sl} {p1 p2 : List (Int × Int)} (h : w.heap[g]? = some (.cells #[.int .i64 x1, .slice l1.a l1.n l1.c, .int .i64 x2, .slice l2.a l2.n l2.c] 24)) (i1 : I64 x1) (i2 : I64 x2) (h1 : PairsAre w l1.val p1) (h2 : PairsAre w l2.val p2) : PFaresAre w (.slice (some ⟨g, 0, none⟩) 2 2) [(x1, p1), (x2, p2)] := by
  refine ⟨_, 2, rfl, Nat.le_refl _, by decide, fun j hj => ?_, fun _ => ⟨g, 0, rfl, (Array.getElem?_eq_some_iff.1 h).1, fun j hj => ?_⟩⟩
  · match j, hj with
    | 0, _ => exact i1
    | 1, _ => exact i2
  · match j, hj with
    | 0, _ => exact ⟨l1, ⟨by simp [World.cell?, h], by simp [World.cell?, h]⟩, h1⟩
    | 1, _ => exact ⟨l2, ⟨by simp [World.cell?, h], by simp [World.cell?, h]⟩, h2⟩
theorem fcode_dear {a b : Int × List Rat} (h : fcode [a, b] = 0) : fcode [a] = 0 := by
  have h0 := h
  unfold fcode at h
  rw [if_pos ⟨by show 1 ≤ 2; omega, by show 2 ≤ 8; omega⟩] at h
  have h1 : fst_ [a, b] 0 = 0 := fcd_zero h 0 (by show 0 < 2; omega)
  unfold fcode
  rw [if_pos ⟨by show 1 ≤ 1; omega, by show 1 ≤ 8; omega⟩]
  show fcd [a] (0 + 1) = 0
  rw [fcd_next rfl]
  exact h1
/-- Of two classes what is kept from the cheap one is Littlewood's number. -/
theorem two_same {x1 x2 : Int} {q1 q2 : List Rat} {n : Nat} (g : GoodF [(x1, q1), (x2, q2)]) (h8 : q1.length ≤ 8) (h : LwIs q1 (Rat.divInt x2 x1) n) : Sea.kpo (pF [(x1, q1), (x2, q2)]) (aF [(x1, q1), (x2, q2)]) (kF [(x1, q1), (x2, q2)]) 12 1 = n := by
  have hp := pF_ps g (j := 0) (by show 0 < 2; omega)
  have h0 : Sea.kp (Sea.wo (pF [(x1, q1), (x2, q2)]) (aF [(x1, q1), (x2, q2)]) (kF [(x1, q1), (x2, q2)]) 12 0) (pF [(x1, q1), (x2, q2)] 0) 12 = 0 := Sea.kpo_zero (Rat.le_of_lt hp)
  show Sea.kp (Sea.sd (pF [(x1, q1), (x2, q2)] 0) (aF [(x1, q1), (x2, q2)] 0) (kF [(x1, q1), (x2, q2)] 0) (fun _ => 0) (Sea.kp (Sea.wo (pF [(x1, q1), (x2, q2)]) (aF [(x1, q1), (x2, q2)]) (kF [(x1, q1), (x2, q2)]) 12 0) (pF [(x1, q1), (x2, q2)] 0) 12)) (pF [(x1, q1), (x2, q2)] 1) 12 = n
  rw [h0]
  have hl := h.lt
  refine Sea.two (c := Rat.divInt x2 x1) (g.law 0 (by show 0 < 2; omega)) hp ?_ h.lt (by omega) h.lo h.hi
  show Rat.divInt x2 x1 * (x1 : Rat) = (x2 : Rat)
  rw [Rat.divInt_eq_div]
  exact Rat.div_mul_cancel (Bth.ne_of_pos hp)

set_option maxHeartbeats 16000000 in
set_option maxRecDepth 100000 in
set_option linter.unusedSimpArgs false in
theorem seatsTwo_any (x1 x2 : Int) (l1 l2 : Sl) (p1 p2 : List (Int × Int)) (w : World) (h1 : PairsAre w l1.val p1) (h2 : PairsAre w l2.val p2) (i1 : I64 x1) (i2 : I64 x2) :
    Calls Try.prog 3 #[.agg #[.int .i64 x1, .slice l1.a l1.n l1.c], .agg #[.int .i64 x2, .slice l2.a l2.n l2.c]] w fun e w' => e = .returned (.bool true) ∧ Below w.heap.size w w' := by
  have e1 := pairs_len h1
  have e2 := pairs_len h2
  have bA := alloc_below w (.cells #[.int .i64 x1, .slice l1.a l1.n l1.c] 24)
  have nA := heap_alloc_new w (.cells #[.int .i64 x1, .slice l1.a l1.n l1.c] 24)
  obtain ⟨WA, hWA⟩ : ∃ W, w.alloc (.cells #[.int .i64 x1, .slice l1.a l1.n l1.c] 24) = W := ⟨_, rfl⟩
  obtain ⟨b2, hb2⟩ : ∃ b, w.heap.size = b := ⟨_, rfl⟩
  rw [hWA] at bA nA
  rw [hb2] at nA
  have bB := alloc_below WA (.cells #[.int .i64 x2, .slice l2.a l2.n l2.c] 24)
  have nB := heap_alloc_new WA (.cells #[.int .i64 x2, .slice l2.a l2.n l2.c] 24)
  obtain ⟨WB, hWB⟩ : ∃ W, WA.alloc (.cells #[.int .i64 x2, .slice l2.a l2.n l2.c] 24) = W := ⟨_, rfl⟩
  obtain ⟨b3, hb3⟩ : ∃ b, WA.heap.size = b := ⟨_, rfl⟩
  rw [hWB] at bB nB
  rw [hb3] at nB
  have hl2 := (Array.getElem?_eq_some_iff.1 nA).1
  have nA' : WB.heap[b2]? = _ := (bB.block b2 hl2).trans nA
  have hl3 := (Array.getElem?_eq_some_iff.1 nB).1
  have HB := hide (below_step bA bB)
  have HNB := hide nB
  have HC3 : Hid (∀ W, Below WB.heap.size WB W → W.cell? ⟨b3, 0, none⟩ = some (.int .i64 x2)) := fun W hW => by
    have h2 : W.heap[b3]? = _ := (hW.block b3 hl3).trans (unhide HNB)
    simp [World.cell?, h2]
  have c0 : WB.cell? ⟨b2, 0, none⟩ = some (.int .i64 x1) := by simp [World.cell?, nA']
  have c1 : WB.cell? ⟨b2, 1, none⟩ = some (.slice l1.a l1.n l1.c) := by simp [World.cell?, nA']
  have c2 : WB.cell? ⟨b3, 0, none⟩ = some (.int .i64 x2) := by simp [World.cell?, nB]
  have c3 : WB.cell? ⟨b3, 1, none⟩ = some (.slice l2.a l2.n l2.c) := by simp [World.cell?, nB]
  have H1 := hide (h1.below (unhide HB))
  have H2 := hide (h2.below (unhide HB))
  have HE1 := hide e1
  have HE2 := hide e2
  obtain ⟨n1, hn1⟩ : ∃ n, l1.n = n := ⟨_, rfl⟩
  obtain ⟨n2, hn2⟩ : ∃ n, l2.n = n := ⟨_, rfl⟩
  have HN1 := hide hn1
  have HN2 := hide hn2
  have HI1 := hide i1
  have HI2 := hide i2
  rw [hn1] at c1 hWA ⊢
  rw [hn2] at c3 hWB ⊢
  clear h1 h2 e1 e2 bA nA bB nB nA' hl2 hl3 hn1 hn2 i1 i2
  go_enter Try.func3, Try.ntmps3
  by_cases h8 : (8 : Int) < (n1 : Int)
  · go_wp2
    go_ret
    exact ⟨rfl, by first | exact unhide HB | (rw [← hb2]; exact unhide HB)⟩
  by_cases h9 : (8 : Int) < (n2 : Int)
  · go_wp2
    go_ret
    exact ⟨rfl, by first | exact unhide HB | (rw [← hb2]; exact unhide HB)⟩
  have bC := alloc_below WB (.cells #[.int .i64 x1, .slice l1.a n1 l1.c, .int .i64 x2, .slice l2.a n2 l2.c] 24)
  have nC := heap_alloc_new WB (.cells #[.int .i64 x1, .slice l1.a n1 l1.c, .int .i64 x2, .slice l2.a n2 l2.c] 24)
  obtain ⟨WC, hWC⟩ : ∃ W, WB.alloc (.cells #[.int .i64 x1, .slice l1.a n1 l1.c, .int .i64 x2, .slice l2.a n2 l2.c] 24) = W := ⟨_, rfl⟩
  obtain ⟨gC, hgC⟩ : ∃ b, WB.heap.size = b := ⟨_, rfl⟩
  rw [hWC] at bC nC
  rw [hgC] at nC
  rw [← unhide HN1, ← unhide HN2] at nC
  have hpf := pfares_two nC (unhide HI1) (unhide HI2) ((unhide H1).below bC) ((unhide H2).below bC)
  have hk8 : ∀ j, j < [(x1, p1), (x2, p2)].length → (([(x1, p1), (x2, p2)] : List (Int × List (Int × Int)))[j]!).2.length ≤ 8 := fun j hj => by
    have q1 := unhide HE1
    have q2 := unhide HE2
    have q3 := unhide HN1
    have q4 := unhide HN2
    match j, hj with
    | 0, _ => show p1.length ≤ 8; omega
    | 1, _ => show p2.length ≤ 8; omega
  have HSM := hide (smF_of hpf (by show 2 ≤ 4; omega) hk8)
  have HFA := hide (fares_any _ _ WC hpf (by show 2 ≤ 1000; omega) (fun j hj => Nat.le_trans (hk8 j hj) (by omega)))
  have HBC := hide bC
  have HP8 : Hid (p1.length ≤ 8) := hk8 0 (by show 0 < 2; omega)
  clear bC nC hpf hk8
  go_wp2_with fail
  clear hWA hb2 hWB hb3 hWC hgC c0 c1 c2 c3
  refine (unhide HFA).mono ?_
  rintro e w2 ⟨vf, rfl, hvf, hbf⟩
  have e0 : frOf [(x1, p1), (x2, p2)] = [(x1, pqs p1), (x2, pqs p2)] := rfl
  rw [e0] at hvf HSM
  have HB2 := hide (below_step (unhide HBC) hbf)
  have HKE := hide (keep_any vf _ 12 w2 hvf (unhide HSM) (by omega))
  have HVF := hide hvf
  obtain ⟨fa, fc, rfl, -, -, -⟩ := hvf
  clear hbf HFA e0
  go_wp2_with fail
  refine (unhide HKE).mono ?_
  rintro e w3 (⟨hne, k, rfl, hbk⟩ | ⟨hz, vk, rfl, hrow, hbk⟩)
  · have HB3 := hide (below_step (unhide HB2) hbk)
    clear hne hbk HKE
    go_wp2_with fail
    refine (flown_any w3).mono ?_
    rintro e w4 ⟨rfl, hb4⟩
    have HB4 := hide (below_step (unhide HB3) hb4)
    clear hb4
    go_wp2_with fail
    refine (flown_any w4).mono ?_
    rintro e w5 ⟨rfl, hb5⟩
    have HB5 := hide (below_step (unhide HB) (below_step (unhide HB4) hb5))
    clear hb5
    go_wp2
    go_ret
    exact ⟨rfl, unhide HB5⟩
  have hgf := goodF_of hz
  have HGF := hide hgf
  have HB3 := hide (below_step (unhide HB2) hbk)
  have HV3 := hide ((unhide HVF).below hbk)
  have HROW := hide hrow
  have HZ := hide hz
  have hx1 : 1 ≤ x2 := hgf.p1 1 (by show 1 < 2; omega)
  have hx2 : x2 ≤ x1 := hgf.ord 0 (by show 0 + 1 < 2; omega)
  have HX12 := hide (And.intro hx1 hx2)
  obtain ⟨ka, kc, rfl, hk1, hk2, hk3⟩ := hrow
  have hl1 : [(x1, pqs p1), (x2, pqs p2)].length - 1 = 1 := rfl
  rw [hl1] at hk1 hk3 ⊢
  have HK3 := hide hk3
  have hl2 : [(x1, pqs p1), (x2, pqs p2)].length = 2 := rfl
  (try rw [hl2] at HV3)
  (try rw [hl2])
  clear hgf hbk hz HKE HVF hx1 hx2 hl1 hl2 hk3
  go_wp2_with fail
  refine (flown_any w3).mono ?_
  rintro e w4 ⟨rfl, hb4⟩
  have HB4 := hide (below_step (unhide HB3) hb4)
  have HV4 := hide ((unhide HV3).below hb4)
  have HB34 := hide hb4
  obtain ⟨b_, o_, l, ea, hbk, k0, k1, hL⟩ := (unhide HV4).at (j := 0) (by show 0 < 2; omega)
  subst ea
  simp only [Nat.zero_mul, Nat.add_zero] at k0 k1
  have k0 : w4.cell? ⟨b_, o_, none⟩ = some (.int .i64 x1) := k0
  obtain ⟨ln, hln⟩ : ∃ x, (pqs p1).length = x := ⟨_, rfl⟩
  have k1 : w4.cell? ⟨b_, o_ + 1, none⟩ = some (.slice l.a (pqs p1).length l.c) := k1
  rw [hln] at k1
  have hL : LawIs w4 l.val (pqs p1) := hL
  have HCC : Hid (∀ W, Below w4.heap.size w4 W → (fun w' : World => (w'.cell? ⟨b_, o_, none⟩ = some (.int .i64 x1) ∧ w'.cell? ⟨b_, o_ + 1, none⟩ = some (.slice l.a ln l.c)) ∧ w'.cell? ⟨b3, 0, none⟩ = some (.int .i64 x2)) W) := fun W hW => ⟨⟨by rw [hW.cell (p := ⟨b_, o_, none⟩) hbk]; exact k0, by rw [hW.cell (p := ⟨b_, o_ + 1, none⟩) hbk]; exact k1⟩, unhide HC3 W (below_step (unhide HB4) hW)⟩
  have HLW := hide (fun W (hW : Below w4.heap.size w4 W) => littlewood_any x1 x2 l.a l.c ln (pqs p1) W (by have e := law_len hL; rw [hln] at e; rw [show Sl.val (l.a, ln, l.c) = l.val from by show Value.slice _ _ _ = Value.slice _ _ _; rw [e]]; exact hL.below hW) hln (by rw [← hln, pqs_length]; exact unhide HP8) (fun i hi => (unhide HSM).r 0 i (by show 0 < 2; omega) (by show i < (pqs p1).length; omega)) (fcode_dear (unhide HZ)) (unhide HX12).1 (unhide HX12).2)
  have f1 : (0 : Int) < ((2 : Nat) : Int) := by decide
  clear hb4 k0 k1 hL hbk hln
  go_wp2_with fail
  refine wp_region_hold (fun w' : World => (w'.cell? ⟨b_, o_, none⟩ = some (.int .i64 x1) ∧ w'.cell? ⟨b_, o_ + 1, none⟩ = some (.slice l.a ln l.c)) ∧ w'.cell? ⟨b3, 0, none⟩ = some (.int .i64 x2)) (by kernel_rfl) ?_
  have bd0 : Below w4.heap.size w4 w4.drew := (Below.refl _ _).drew
  have hC0 : (fun w' : World => (w'.cell? ⟨b_, o_, none⟩ = some (.int .i64 x1) ∧ w'.cell? ⟨b_, o_ + 1, none⟩ = some (.slice l.a ln l.c)) ∧ w'.cell? ⟨b3, 0, none⟩ = some (.int .i64 x2)) w4.drew := unhide HCC _ bd0
  refine wpHold_take (i := 0) (v := ?_) rfl (by kernel_rfl) (by kernel_rfl) (by kernel_rfl) (fun _ _ _ h => h) (Or.inl ⟨by rfl, ?_⟩) hC0 ?_
  rotate_left
  · intro w hSw; clear hSw; go_simp; (try with_reducible rfl)
  (try simp only [List.getElem_toArray, List.getElem_cons_succ, List.getElem_cons_zero])
  (try simp only [Act.put, List.setIfInBounds_toArray, List.set_cons_zero, List.set_cons_succ])
  refine wpHold_take (i := 1) (v := ?_) rfl (by kernel_rfl) (by kernel_rfl) (by kernel_rfl) (fun _ _ _ h => h) (Or.inl ⟨by rfl, ?_⟩) hC0 ?_
  rotate_left
  · intro w hSw; clear hSw; go_simp; (try with_reducible rfl)
  (try simp only [List.getElem_toArray, List.getElem_cons_succ, List.getElem_cons_zero])
  (try simp only [Act.put, List.setIfInBounds_toArray, List.set_cons_zero, List.set_cons_succ])
  refine wpHold_take (i := 2) (v := ?_) rfl (by kernel_rfl) (by kernel_rfl) (by kernel_rfl) (fun _ _ _ h => h) (Or.inl ⟨by rfl, ?_⟩) hC0 ?_
  rotate_left
  · intro w hSw; (try dsimp only at hSw); obtain ⟨⟨u0, u1⟩, u2⟩ := hSw; go_simp; (try with_reducible rfl)
  (try simp only [List.getElem_toArray, List.getElem_cons_succ, List.getElem_cons_zero])
  (try simp only [Act.put, List.setIfInBounds_toArray, List.set_cons_zero, List.set_cons_succ])
  refine wpHold_take (i := 3) (v := ?_) rfl (by kernel_rfl) (by kernel_rfl) (by kernel_rfl) (fun _ _ _ h => h) (Or.inl ⟨by rfl, ?_⟩) hC0 ?_
  rotate_left
  · intro w hSw; clear hSw; go_simp; (try with_reducible rfl)
  (try simp only [List.getElem_toArray, List.getElem_cons_succ, List.getElem_cons_zero])
  (try simp only [Act.put, List.setIfInBounds_toArray, List.set_cons_zero, List.set_cons_succ])
  refine wpHold_take (i := 4) (v := ?_) rfl (by kernel_rfl) (by kernel_rfl) (by kernel_rfl) (fun _ _ _ h => h) (Or.inl ⟨by rfl, ?_⟩) hC0 ?_
  rotate_left
  · intro w hSw; (try dsimp only at hSw); obtain ⟨⟨u0, u1⟩, u2⟩ := hSw; go_simp; (try with_reducible rfl)
  (try simp only [List.getElem_toArray, List.getElem_cons_succ, List.getElem_cons_zero])
  (try simp only [Act.put, List.setIfInBounds_toArray, List.set_cons_zero, List.set_cons_succ])
  refine wpHold_one (k := 5) (by kernel_rfl) rfl (fun K hK => ?_)
  (try simp only [List.getElem_toArray, List.getElem_cons_succ, List.getElem_cons_zero])
  go_simp
  refine (unhide HLW _ bd0).mono ?_
  rintro e xw_1 ⟨n, rfl, hlw, hb_1⟩
  have cc_1 := below_step bd0 hb_1
  have hC_1 : (fun w' : World => (w'.cell? ⟨b_, o_, none⟩ = some (.int .i64 x1) ∧ w'.cell? ⟨b_, o_ + 1, none⟩ = some (.slice l.a ln l.c)) ∧ w'.cell? ⟨b3, 0, none⟩ = some (.int .i64 x2)) xw_1 := unhide HCC _ cc_1
  refine hK.out _ _ hC_1 ?_
  clear hK K
  (try simp only [Act.put, List.setIfInBounds_toArray, List.set_cons_zero, List.set_cons_succ])
  refine wpHold_take (i := 6) (v := ?_) rfl (by kernel_rfl) (by kernel_rfl) (by kernel_rfl) (fun _ _ _ h => h) (Or.inl ⟨by rfl, ?_⟩) hC_1 ?_
  rotate_left
  · intro w hSw; clear hSw; go_simp; (try with_reducible rfl)
  (try simp only [List.getElem_toArray, List.getElem_cons_succ, List.getElem_cons_zero])
  (try simp only [Act.put, List.setIfInBounds_toArray, List.set_cons_zero, List.set_cons_succ])
  refine wpHold_take (i := 7) (v := ?_) rfl (by kernel_rfl) (by kernel_rfl) (by kernel_rfl) (fun _ _ _ h => h) (Or.inl ⟨by rfl, ?_⟩) hC_1 ?_
  rotate_left
  · intro w hSw; clear hSw; go_simp; (try with_reducible rfl)
  (try simp only [List.getElem_toArray, List.getElem_cons_succ, List.getElem_cons_zero])
  (try simp only [Act.put, List.setIfInBounds_toArray, List.set_cons_zero, List.set_cons_succ])
  refine wpHold_take (i := 8) (v := ?_) rfl (by kernel_rfl) (by kernel_rfl) (by kernel_rfl) (fun _ _ _ h => h) (Or.inl ⟨by rfl, ?_⟩) hC_1 ?_
  rotate_left
  · intro w hSw; clear hSw; go_simp; (try with_reducible rfl)
  (try simp only [List.getElem_toArray, List.getElem_cons_succ, List.getElem_cons_zero])
  (try simp only [Act.put, List.setIfInBounds_toArray, List.set_cons_zero, List.set_cons_succ])
  refine wpHold_one (k := 9) (by kernel_rfl) rfl (fun K hK => ?_)
  (try simp only [List.getElem_toArray, List.getElem_cons_succ, List.getElem_cons_zero])
  go_simp
  refine hK.out _ _ hC_1 ?_
  clear hK K
  (try simp only [Act.put, List.setIfInBounds_toArray, List.set_cons_zero, List.set_cons_succ])
  refine wpHold_one (k := 10) (by kernel_rfl) rfl (fun K hK => ?_)
  (try simp only [List.getElem_toArray, List.getElem_cons_succ, List.getElem_cons_zero])
  go_simp
  refine hK.out _ _ hC_1 ?_
  clear hK K
  (try simp only [Act.put, List.setIfInBounds_toArray, List.set_cons_zero, List.set_cons_succ])
  refine wpHold_done (by kernel_rfl) ?_ _
  have HB7 := hide cc_1
  have HNE := hide (two_same (unhide HGF) (by rw [pqs_length]; exact unhide HP8) hlw)
  obtain ⟨kb, ko, ek, hkl, hkc⟩ := unhide HK3 (by omega)
  subst ek
  have kx := hkc 0 (by omega)
  rw [Nat.add_zero] at kx
  have kx2 : w3.cell? ⟨kb, ko, none⟩ = some (.int .i64 (n : Int)) := by
    rw [kx]
    show some (Value.int .i64 (((Sea.kpo _ _ _ 12 1 : Nat)) : Int)) = _
    rw [unhide HNE]
  have kx3 : xw_1.cell? ⟨kb, ko, none⟩ = some (.int .i64 (n : Int)) := by rw [(below_step (unhide HB34) (unhide HB7)).cell (p := ⟨kb, ko, none⟩) hkl]; exact kx2
  have HBF := hide (below_step (unhide HB) (below_step (unhide HB4) (unhide HB7)))
  clear hC0 hC_1 cc_1 bd0 hb_1 HCC hlw hkl hkc kx kx2 HLW
  go_wp2
  go_ret
  exact ⟨by simp, unhide HBF⟩
end Go.Proofs.Ytfnbjenneodcdaa
