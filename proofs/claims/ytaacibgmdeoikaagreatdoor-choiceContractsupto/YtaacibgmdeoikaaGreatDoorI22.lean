/- ChoiceContracts: the walk. -/
import Derived.Test.YtaacibgmdeoikaaGreatDoorIG
import Derived.Test.YtaacibgmdeoikaaGreatDoorI19
namespace Go.Proofs.YtaacibgmdeoikaaGreatDoor
open Go.RowKit Go.Sort Go.Shelf

theorem pqs_RS {w : World} {v : Value} {qs : List (Int × Int)} (h : PairsAre w v qs) (t : Nat) (ht : t < (pqs qs).length) : RS (pqs qs)[t]! 1 := by
  rw [pqs_length] at ht
  obtain ⟨_, _, _, _, _, h6, _⟩ := h
  rw [pqs_get ht]
  exact pq_RS (h6 t ht).1 (h6 t ht).2
theorem far_congr {f g : Nat → Rat} : ∀ {n : Nat}, (∀ j, j < n → f j = g j) → Mdp.far f n = Mdp.far g n
  | 0, _ => rfl
  | n + 1, h => by
    show (if Mdp.far f n < Mdp.absq (f n) then _ else _) = (if Mdp.far g n < Mdp.absq (g n) then _ else _)
    rw [far_congr (fun j hj => h j (by omega)), h n (by omega)]
theorem ChAt.worth {W : World} {gc np : Nat} {lm : Sl} {tm : Tri} {K : List (List (Rat × List Rat))} {b : Rat} (h : ChAt W gc np lm tm K b) : RatIs W tm.val b := by
  obtain ⟨l, t, e, _, h2⟩ := h.mod
  unfold mval at e
  injection e with e
  have e := congrArg Array.toList e
  simp only [List.cons.injEq, Value.slice.injEq, Value.bool.injEq] at e
  obtain ⟨_, e1, ⟨e2, e3, e4⟩, ⟨e5, e6, e7⟩, _⟩ := e
  have : tm.val = t.val := by simp only [Tri.val, e1, e2, e3, e4, e5, e6, e7]
  rw [this]; exact h2

set_option maxHeartbeats 16000000 in
set_option maxRecDepth 100000 in
set_option linter.unusedSimpArgs false in
theorem choiceContracts_any (v vq vr : Value) (ps : List (List ((Int × Int) × List (Int × Int)))) (wx wy : Int) (qs rs : List (Int × Int)) (w : World) (htab : Tab w) (h : PModelIs w v ps wx wy) (sm : SmB ps) (hq : PairsAre w vq qs) (hr : PairsAre w vr rs) :
    Calls Tryz.prog 4 #[v, vq, vr] w fun e w' => e = .returned (.bool true) ∧ Below w.heap.size w w' := by
  have HRQ := hide (pqs_RS hq)
  have HRR := hide (pqs_RS hr)
  have HPQ := hide hq
  have HPR := hide hr
  obtain ⟨aq, cq, rfl, hq1, hq2, hq3⟩ := hq
  obtain ⟨nq, hnq⟩ : ∃ n, qs.length = n := ⟨_, rfl⟩
  have HNQ := hide hnq
  rw [hnq] at HPQ hq1 ⊢
  obtain ⟨ar, cr, rfl, hr1, hr2, hr3⟩ := hr
  obtain ⟨nr, hnr⟩ : ∃ n, rs.length = n := ⟨_, rfl⟩
  have HNR := hide hnr
  rw [hnr] at HPR hr1 ⊢
  clear hq3 hnq hr3 hnr
  have KKe : KK = 1099511627776 := rfl
  have HTB := hide htab
  have HPM := hide h
  have HSMB := hide sm
  obtain ⟨lp, rfl, hP, hx, hy⟩ := h
  have hln := psts_len hP
  obtain ⟨np, hnp⟩ : ∃ n, ps.length = n := ⟨_, rfl⟩
  rw [hnp] at hln
  have HNP := hide hnp
  have hnb := sm.n
  rw [hnp] at hnb
  unfold pmv at HPM ⊢
  rw [hln] at HPM ⊢
  have b0 := alloc_below w (.cells #[.slice lp.a np lp.c, .int .i64 wx, .int .i64 wy] 26)
  have N0 := heap_alloc_new w (.cells #[.slice lp.a np lp.c, .int .i64 wx, .int .i64 wy] 26)
  obtain ⟨W0, hW0⟩ : ∃ W, w.alloc (.cells #[.slice lp.a np lp.c, .int .i64 wx, .int .i64 wy] 26) = W := ⟨_, rfl⟩
  obtain ⟨gi, hgi⟩ : ∃ g, w.heap.size = g := ⟨_, rfl⟩
  rw [hW0] at b0 N0
  rw [hgi] at N0
  have hgil : gi < W0.heap.size := (Array.getElem?_eq_some_iff.1 N0).1
  have HGI : Hid (∀ W, Below W0.heap.size W0 W → W.cell? ⟨gi, 0, none⟩ = some (.slice lp.a np lp.c) ∧ W.cell? ⟨gi, 1, none⟩ = some (.int .i64 wx) ∧ W.cell? ⟨gi, 2, none⟩ = some (.int .i64 wy)) := fun W hW => by
    have h' := heap_kept N0 hW
    simp [World.cell?, h']
  have HB0 := hide b0
  have ⟨i0, i1, i2⟩ := unhide HGI W0 (Below.refl _ _)
  have HSL := hide (small_any _ ps wx wy W0 ((unhide HPM).below b0) sm)
  have HKL : Hid ((kOf ps).length = np) := by show _ = np; rw [kOf_length]; exact hnp
  clear hP hx hy sm htab b0 N0 hgil hnp hln
  go_enter Tryz.func4, Tryz.ntmps4
  go_wp2_with fail
  refine (unhide HSL).mono ?_
  rintro e w1 ⟨(⟨hsm, rfl⟩ | ⟨hsm, rfl⟩), hb1⟩
  rotate_left
  · have HB1 := hide (below_step (unhide HB0) hb1)
    clear hsm hb1 hW0 hgi i0 i1 i2 HSL
    go_wp2
    go_ret
    exact ⟨rfl, unhide HB1⟩
  have HB1 := hide (below_step (unhide HB0) hb1)
  have HW01 := hide hb1
  have ⟨j0, j1, j2⟩ := unhide HGI w1 hb1
  have hn70 : np ≤ 70 := by have := hsm; unfold totM at this; have := unhide HNP; omega
  have HSM70 := hide hsm
  have hsp : SmPM ps := small_sm hsm
  have HSM := hide (smM_of (unhide HPM) hsp)
  have HCO := hide (choice_any _ ps wx wy w1 ((unhide HPM).below (unhide HB1)) hsp)
  clear hsm hsp hb1 hW0 hgi i0 i1 i2 HSL hnb
  by_cases hl : nq = np
  rotate_left
  · have e1 : ((nq : Int) == (np : Int)) = false := by rw [beq_eq_false_iff_ne]; omega
    clear hl
    go_wp2
    go_ret
    exact ⟨rfl, unhide HB1⟩
  obtain rfl := hl.symm
  have e1 : ((np : Int) == (np : Int)) = true := by rw [beq_iff_eq]
  by_cases hl2 : nr = np
  rotate_left
  · have e2 : ((nr : Int) == (np : Int)) = false := by rw [beq_eq_false_iff_ne]; omega
    clear hl2
    go_wp2
    go_ret
    exact ⟨rfl, unhide HB1⟩
  obtain rfl := hl2.symm
  go_wp2_with fail
  clear e1
  refine (unhide HCO).mono ?_
  rintro e w2 ⟨v2, rfl, hv2, hb2⟩
  obtain ⟨lm, tm, rfl, hCh⟩ := ChAt.new (np := np) hv2 (unhide HKL)
  have bA := alloc_below w2 (.cells #[.slice lm.a np lm.c, .bool tm.s, .slice tm.a1 tm.n1 tm.c1, .slice tm.a2 tm.n2 tm.c2] 35)
  have hB2 := below_step hb2 bA
  obtain ⟨W2, hW2⟩ : ∃ W, w2.alloc (.cells #[.slice lm.a np lm.c, .bool tm.s, .slice tm.a1 tm.n1 tm.c1, .slice tm.a2 tm.n2 tm.c2] 35) = W := ⟨_, rfl⟩
  obtain ⟨gc, hgc⟩ : ∃ g, w2.heap.size = g := ⟨_, rfl⟩
  rw [hW2] at hCh hB2
  rw [hgc] at hCh
  have HCH := hide hCh
  have HB2 := hide (below_step (unhide HB1) hB2)
  have HW0 := hide (below_step (unhide HW01) hB2)
  clear hv2 hb2 hCh bA hB2 HCO
  have HCC : Hid (∀ W, Below W2.heap.size W2 W → (fun W : World => W.cell? ⟨gc, 0, none⟩ = some (.slice lm.a np lm.c) ∧ W.cell? ⟨gc, 1, none⟩ = some (.bool tm.s) ∧ W.cell? ⟨gc, 2, none⟩ = some (.slice tm.a1 tm.n1 tm.c1) ∧ W.cell? ⟨gc, 3, none⟩ = some (.slice tm.a2 tm.n2 tm.c2)) W) := fun W hW => ((unhide HCH).keep hW).cells
  have HFS1 : Hid (∀ W, Below W2.heap.size W2 W → Calls Tryz.prog 16 #[.slice aq np cq] W (FsPost W (pqs qs))) := fun W hW => fs_own _ qs W ((unhide HPQ).below (below_step (unhide HB2) hW)) (by have := unhide HNQ; omega)
  go_wp2_with fail
  clear hW2 hgc j0 j1 j2
  refine wp_region_hold (fun W : World => W.cell? ⟨gc, 0, none⟩ = some (.slice lm.a np lm.c) ∧ W.cell? ⟨gc, 1, none⟩ = some (.bool tm.s) ∧ W.cell? ⟨gc, 2, none⟩ = some (.slice tm.a1 tm.n1 tm.c1) ∧ W.cell? ⟨gc, 3, none⟩ = some (.slice tm.a2 tm.n2 tm.c2)) (by kernel_rfl) ?_
  have bd0 : Below W2.heap.size W2 W2.drew := (Below.refl _ _).drew
  have hC0 : (fun W : World => W.cell? ⟨gc, 0, none⟩ = some (.slice lm.a np lm.c) ∧ W.cell? ⟨gc, 1, none⟩ = some (.bool tm.s) ∧ W.cell? ⟨gc, 2, none⟩ = some (.slice tm.a1 tm.n1 tm.c1) ∧ W.cell? ⟨gc, 3, none⟩ = some (.slice tm.a2 tm.n2 tm.c2)) W2.drew := unhide HCC _ bd0
  refine wpHold_take (i := 0) (v := ?_) rfl (by kernel_rfl) (by kernel_rfl) (by kernel_rfl) (fun _ _ _ h => h) (Or.inl ⟨by rfl, ?_⟩) hC0 ?_
  rotate_left
  · intro w hSw; (try dsimp only at hSw); obtain ⟨z0, z1, z2, z3⟩ := hSw; go_simp; (try with_reducible rfl)
  (try simp only [List.getElem_toArray, List.getElem_cons_succ, List.getElem_cons_zero])
  (try simp only [Act.put, List.setIfInBounds_toArray, List.set_cons_zero, List.set_cons_succ])
  refine wpHold_take (i := 1) (v := ?_) rfl (by kernel_rfl) (by kernel_rfl) (by kernel_rfl) (fun _ _ _ h => h) (Or.inl ⟨by rfl, ?_⟩) hC0 ?_
  rotate_left
  · intro w hSw; clear hSw; go_simp; (try with_reducible rfl)
  (try simp only [List.getElem_toArray, List.getElem_cons_succ, List.getElem_cons_zero])
  (try simp only [Act.put, List.setIfInBounds_toArray, List.set_cons_zero, List.set_cons_succ])
  refine wpHold_one (k := 2) (by kernel_rfl) rfl (fun K hK => ?_)
  (try simp only [List.getElem_toArray, List.getElem_cons_succ, List.getElem_cons_zero])
  go_simp
  refine (unhide HFS1 _ bd0).mono ?_
  rintro e xw_1 ⟨xv_1, rfl, hv_1, hb_1, -⟩
  have cc_1 := below_step bd0 hb_1
  have hC_1 : (fun W : World => W.cell? ⟨gc, 0, none⟩ = some (.slice lm.a np lm.c) ∧ W.cell? ⟨gc, 1, none⟩ = some (.bool tm.s) ∧ W.cell? ⟨gc, 2, none⟩ = some (.slice tm.a1 tm.n1 tm.c1) ∧ W.cell? ⟨gc, 3, none⟩ = some (.slice tm.a2 tm.n2 tm.c2)) xw_1 := unhide HCC _ cc_1
  refine hK.out _ _ hC_1 ?_
  clear hK K
  (try simp only [Act.put, List.setIfInBounds_toArray, List.set_cons_zero, List.set_cons_succ])
  have HVF := hide hv_1
  obtain ⟨af, cf, rfl, _, _, _⟩ := hv_1
  refine wpHold_one (k := 3) (by kernel_rfl) rfl (fun K hK => ?_)
  (try simp only [List.getElem_toArray, List.getElem_cons_succ, List.getElem_cons_zero])
  go_simp
  have BP := Step_any _ _ (kOf ps) (pq (wx, wy)) (pqs qs) 1 xw_1 ((unhide HCH).keep cc_1).mod (unhide HSM) (unhide HVF) (by rw [pqs_length, unhide HNQ]; omega) (unhide HRQ) (by rw [KKe]; omega)
  refine BP.mono ?_
  clear BP
  rintro e xw_2 (⟨gm, -, v1, G1, rfl, hv1, -, -, hb_2⟩ | ⟨gn, k, rfl, hb_2⟩)
  · skip
    rw [unhide HKL] at hv1
    have HV1 := hide hv1
    obtain ⟨a1_, c1_, rfl, _, _, _⟩ := hv1
    rw [row_length] at HV1
    rw [row_length]
    have cc_2 := below_step cc_1 hb_2
    have hC_2 : (fun W : World => W.cell? ⟨gc, 0, none⟩ = some (.slice lm.a np lm.c) ∧ W.cell? ⟨gc, 1, none⟩ = some (.bool tm.s) ∧ W.cell? ⟨gc, 2, none⟩ = some (.slice tm.a1 tm.n1 tm.c1) ∧ W.cell? ⟨gc, 3, none⟩ = some (.slice tm.a2 tm.n2 tm.c2)) xw_2 := unhide HCC _ cc_2
    refine hK.out _ _ hC_2 ?_
    clear hK K
    (try simp only [Act.put, List.setIfInBounds_toArray, List.set_cons_zero, List.set_cons_succ])
    refine wpHold_take (i := 4) (v := ?_) rfl (by kernel_rfl) (by kernel_rfl) (by kernel_rfl) (fun _ _ _ h => h) (Or.inl ⟨by rfl, ?_⟩) hC_2 ?_
    rotate_left
    · intro w hSw; clear hSw; go_simp; (try with_reducible rfl)
    (try simp only [List.getElem_toArray, List.getElem_cons_succ, List.getElem_cons_zero])
    (try simp only [Act.put, List.setIfInBounds_toArray, List.set_cons_zero, List.set_cons_succ])
    refine wpHold_take (i := 5) (v := ?_) rfl (by kernel_rfl) (by kernel_rfl) (by kernel_rfl) (fun _ _ _ h => h) (Or.inl ⟨by rfl, ?_⟩) hC_2 ?_
    rotate_left
    · intro w hSw; clear hSw; go_simp; (try with_reducible rfl)
    (try simp only [List.getElem_toArray, List.getElem_cons_succ, List.getElem_cons_zero])
    (try simp only [Act.put, List.setIfInBounds_toArray, List.set_cons_zero, List.set_cons_succ])
    refine wpHold_take (i := 6) (v := ?_) rfl (by kernel_rfl) (by kernel_rfl) (by kernel_rfl) (fun _ _ _ h => h) (Or.inl ⟨by rfl, ?_⟩) hC_2 ?_
    rotate_left
    · intro w hSw; clear hSw; go_simp; (try with_reducible rfl)
    (try simp only [List.getElem_toArray, List.getElem_cons_succ, List.getElem_cons_zero])
    (try simp only [Act.put, List.setIfInBounds_toArray, List.set_cons_zero, List.set_cons_succ])
    refine wpHold_take (i := 7) (v := ?_) rfl (by kernel_rfl) (by kernel_rfl) (by kernel_rfl) (fun _ _ _ h => h) (Or.inl ⟨by rfl, ?_⟩) hC_2 ?_
    rotate_left
    · intro w hSw; clear hSw; go_simp; (try with_reducible rfl)
    (try simp only [List.getElem_toArray, List.getElem_cons_succ, List.getElem_cons_zero])
    (try simp only [Act.put, List.setIfInBounds_toArray, List.set_cons_zero, List.set_cons_succ])
    refine wpHold_take (i := 8) (v := ?_) rfl (by kernel_rfl) (by kernel_rfl) (by kernel_rfl) (fun _ _ _ h => h) (Or.inl ⟨by rfl, ?_⟩) hC_2 ?_
    rotate_left
    · intro w hSw; clear hSw; go_simp; (try with_reducible rfl)
    (try simp only [List.getElem_toArray, List.getElem_cons_succ, List.getElem_cons_zero])
    (try simp only [Act.put, List.setIfInBounds_toArray, List.set_cons_zero, List.set_cons_succ])
    refine wpHold_take (i := 9) (v := ?_) rfl (by kernel_rfl) (by kernel_rfl) (by kernel_rfl) (fun _ _ _ h => h) (Or.inl ⟨by rfl, ?_⟩) hC_2 ?_
    rotate_left
    · intro w hSw; clear hSw; go_simp; (try with_reducible rfl)
    (try simp only [List.getElem_toArray, List.getElem_cons_succ, List.getElem_cons_zero])
    (try simp only [Act.put, List.setIfInBounds_toArray, List.set_cons_zero, List.set_cons_succ])
    refine wpHold_take (i := 10) (v := ?_) rfl (by kernel_rfl) (by kernel_rfl) (by kernel_rfl) (fun _ _ _ h => h) (Or.inl ⟨by rfl, ?_⟩) hC_2 ?_
    rotate_left
    · intro w hSw; clear hSw; go_simp; (try with_reducible rfl)
    (try simp only [List.getElem_toArray, List.getElem_cons_succ, List.getElem_cons_zero])
    (try simp only [Act.put, List.setIfInBounds_toArray, List.set_cons_zero, List.set_cons_succ])
    refine wpHold_done (by kernel_rfl) ?_ _
    have HB3 := hide (below_step (unhide HB2) cc_2)
    have HC3 := hide ((unhide HCH).keep cc_2)
    have HGM := hide gm
    obtain ⟨w3, rfl⟩ : ∃ W, W = xw_2 := ⟨_, rfl⟩
    clear gm HVF HCC HFS1
    clear hC0 hC_1 hC_2 cc_1 cc_2 bd0 hb_1 hb_2
    have HCC : Hid (∀ W, Below w3.heap.size w3 W → (fun W : World => W.cell? ⟨gc, 0, none⟩ = some (.slice lm.a np lm.c) ∧ W.cell? ⟨gc, 1, none⟩ = some (.bool tm.s) ∧ W.cell? ⟨gc, 2, none⟩ = some (.slice tm.a1 tm.n1 tm.c1) ∧ W.cell? ⟨gc, 3, none⟩ = some (.slice tm.a2 tm.n2 tm.c2)) W) := fun W hW => ((unhide HC3).keep hW).cells
    have HFS2 : Hid (∀ W, Below w3.heap.size w3 W → Calls Tryz.prog 16 #[.slice ar np cr] W (FsPost W (pqs rs))) := fun W hW => fs_own _ rs W ((unhide HPR).below (below_step (unhide HB3) hW)) (by have := unhide HNR; omega)
    go_wp2_with fail
    refine wp_region_hold (fun W : World => W.cell? ⟨gc, 0, none⟩ = some (.slice lm.a np lm.c) ∧ W.cell? ⟨gc, 1, none⟩ = some (.bool tm.s) ∧ W.cell? ⟨gc, 2, none⟩ = some (.slice tm.a1 tm.n1 tm.c1) ∧ W.cell? ⟨gc, 3, none⟩ = some (.slice tm.a2 tm.n2 tm.c2)) (by kernel_rfl) ?_
    have bd0 : Below w3.heap.size w3 w3.drew := (Below.refl _ _).drew
    have hC0 : (fun W : World => W.cell? ⟨gc, 0, none⟩ = some (.slice lm.a np lm.c) ∧ W.cell? ⟨gc, 1, none⟩ = some (.bool tm.s) ∧ W.cell? ⟨gc, 2, none⟩ = some (.slice tm.a1 tm.n1 tm.c1) ∧ W.cell? ⟨gc, 3, none⟩ = some (.slice tm.a2 tm.n2 tm.c2)) w3.drew := unhide HCC _ bd0
    refine wpHold_take (i := 0) (v := ?_) rfl (by kernel_rfl) (by kernel_rfl) (by kernel_rfl) (fun _ _ _ h => h) (Or.inl ⟨by rfl, ?_⟩) hC0 ?_
    rotate_left
    · intro w hSw; (try dsimp only at hSw); obtain ⟨z0, z1, z2, z3⟩ := hSw; go_simp; (try with_reducible rfl)
    (try simp only [List.getElem_toArray, List.getElem_cons_succ, List.getElem_cons_zero])
    (try simp only [Act.put, List.setIfInBounds_toArray, List.set_cons_zero, List.set_cons_succ])
    refine wpHold_take (i := 1) (v := ?_) rfl (by kernel_rfl) (by kernel_rfl) (by kernel_rfl) (fun _ _ _ h => h) (Or.inl ⟨by rfl, ?_⟩) hC0 ?_
    rotate_left
    · intro w hSw; clear hSw; go_simp; (try with_reducible rfl)
    (try simp only [List.getElem_toArray, List.getElem_cons_succ, List.getElem_cons_zero])
    (try simp only [Act.put, List.setIfInBounds_toArray, List.set_cons_zero, List.set_cons_succ])
    refine wpHold_one (k := 2) (by kernel_rfl) rfl (fun K hK => ?_)
    (try simp only [List.getElem_toArray, List.getElem_cons_succ, List.getElem_cons_zero])
    go_simp
    refine (unhide HFS2 _ bd0).mono ?_
    rintro e xw_1 ⟨xv_1, rfl, hv_1, hb_1, -⟩
    have cc_1 := below_step bd0 hb_1
    have hC_1 : (fun W : World => W.cell? ⟨gc, 0, none⟩ = some (.slice lm.a np lm.c) ∧ W.cell? ⟨gc, 1, none⟩ = some (.bool tm.s) ∧ W.cell? ⟨gc, 2, none⟩ = some (.slice tm.a1 tm.n1 tm.c1) ∧ W.cell? ⟨gc, 3, none⟩ = some (.slice tm.a2 tm.n2 tm.c2)) xw_1 := unhide HCC _ cc_1
    refine hK.out _ _ hC_1 ?_
    clear hK K
    (try simp only [Act.put, List.setIfInBounds_toArray, List.set_cons_zero, List.set_cons_succ])
    have HVF := hide hv_1
    obtain ⟨af, cf, rfl, _, _, _⟩ := hv_1
    refine wpHold_one (k := 3) (by kernel_rfl) rfl (fun K hK => ?_)
    (try simp only [List.getElem_toArray, List.getElem_cons_succ, List.getElem_cons_zero])
    go_simp
    have BP := Step_any _ _ (kOf ps) (pq (wx, wy)) (pqs rs) 1 xw_1 ((unhide HC3).keep cc_1).mod (unhide HSM) (unhide HVF) (by rw [pqs_length, unhide HNR]; omega) (unhide HRR) (by rw [KKe]; omega)
    refine BP.mono ?_
    clear BP
    rintro e xw_2 (⟨gm, -, v2, G2, rfl, hv2, -, -, hb_2⟩ | ⟨gn, k2, rfl, hb_2⟩)
    · skip
      rw [unhide HKL] at hv2
      have HV2 := hide hv2
      obtain ⟨a2_, c2_, rfl, _, _, _⟩ := hv2
      rw [row_length] at HV2
      rw [row_length]
      have cc_2 := below_step cc_1 hb_2
      have hC_2 : (fun W : World => W.cell? ⟨gc, 0, none⟩ = some (.slice lm.a np lm.c) ∧ W.cell? ⟨gc, 1, none⟩ = some (.bool tm.s) ∧ W.cell? ⟨gc, 2, none⟩ = some (.slice tm.a1 tm.n1 tm.c1) ∧ W.cell? ⟨gc, 3, none⟩ = some (.slice tm.a2 tm.n2 tm.c2)) xw_2 := unhide HCC _ cc_2
      refine hK.out _ _ hC_2 ?_
      clear hK K
      (try simp only [Act.put, List.setIfInBounds_toArray, List.set_cons_zero, List.set_cons_succ])
      refine wpHold_take (i := 4) (v := ?_) rfl (by kernel_rfl) (by kernel_rfl) (by kernel_rfl) (fun _ _ _ h => h) (Or.inl ⟨by rfl, ?_⟩) hC_2 ?_
      rotate_left
      · intro w hSw; clear hSw; go_simp; (try with_reducible rfl)
      (try simp only [List.getElem_toArray, List.getElem_cons_succ, List.getElem_cons_zero])
      (try simp only [Act.put, List.setIfInBounds_toArray, List.set_cons_zero, List.set_cons_succ])
      refine wpHold_take (i := 5) (v := ?_) rfl (by kernel_rfl) (by kernel_rfl) (by kernel_rfl) (fun _ _ _ h => h) (Or.inl ⟨by rfl, ?_⟩) hC_2 ?_
      rotate_left
      · intro w hSw; clear hSw; go_simp; (try with_reducible rfl)
      (try simp only [List.getElem_toArray, List.getElem_cons_succ, List.getElem_cons_zero])
      (try simp only [Act.put, List.setIfInBounds_toArray, List.set_cons_zero, List.set_cons_succ])
      refine wpHold_take (i := 6) (v := ?_) rfl (by kernel_rfl) (by kernel_rfl) (by kernel_rfl) (fun _ _ _ h => h) (Or.inl ⟨by rfl, ?_⟩) hC_2 ?_
      rotate_left
      · intro w hSw; clear hSw; go_simp; (try with_reducible rfl)
      (try simp only [List.getElem_toArray, List.getElem_cons_succ, List.getElem_cons_zero])
      (try simp only [Act.put, List.setIfInBounds_toArray, List.set_cons_zero, List.set_cons_succ])
      refine wpHold_take (i := 7) (v := ?_) rfl (by kernel_rfl) (by kernel_rfl) (by kernel_rfl) (fun _ _ _ h => h) (Or.inl ⟨by rfl, ?_⟩) hC_2 ?_
      rotate_left
      · intro w hSw; clear hSw; go_simp; (try with_reducible rfl)
      (try simp only [List.getElem_toArray, List.getElem_cons_succ, List.getElem_cons_zero])
      (try simp only [Act.put, List.setIfInBounds_toArray, List.set_cons_zero, List.set_cons_succ])
      refine wpHold_take (i := 8) (v := ?_) rfl (by kernel_rfl) (by kernel_rfl) (by kernel_rfl) (fun _ _ _ h => h) (Or.inl ⟨by rfl, ?_⟩) hC_2 ?_
      rotate_left
      · intro w hSw; clear hSw; go_simp; (try with_reducible rfl)
      (try simp only [List.getElem_toArray, List.getElem_cons_succ, List.getElem_cons_zero])
      (try simp only [Act.put, List.setIfInBounds_toArray, List.set_cons_zero, List.set_cons_succ])
      refine wpHold_take (i := 9) (v := ?_) rfl (by kernel_rfl) (by kernel_rfl) (by kernel_rfl) (fun _ _ _ h => h) (Or.inl ⟨by rfl, ?_⟩) hC_2 ?_
      rotate_left
      · intro w hSw; clear hSw; go_simp; (try with_reducible rfl)
      (try simp only [List.getElem_toArray, List.getElem_cons_succ, List.getElem_cons_zero])
      (try simp only [Act.put, List.setIfInBounds_toArray, List.set_cons_zero, List.set_cons_succ])
      refine wpHold_take (i := 10) (v := ?_) rfl (by kernel_rfl) (by kernel_rfl) (by kernel_rfl) (fun _ _ _ h => h) (Or.inl ⟨by rfl, ?_⟩) hC_2 ?_
      rotate_left
      · intro w hSw; clear hSw; go_simp; (try with_reducible rfl)
      (try simp only [List.getElem_toArray, List.getElem_cons_succ, List.getElem_cons_zero])
      (try simp only [Act.put, List.setIfInBounds_toArray, List.set_cons_zero, List.set_cons_succ])
      refine wpHold_done (by kernel_rfl) ?_ _
      have HB5 := hide (below_step (unhide HB3) cc_2)
      have HC5 := hide ((unhide HC3).keep cc_2)
      have HV5 := hide ((unhide HV1).below cc_2)
      have hn8 := (unhide HGM).n8
      rw [unhide HKL] at hn8
      clear gm HVF
      clear hC0 hC_1 hC_2 cc_1 cc_2 bd0 hb_1 hb_2
      go_wp2_with fail
      refine (chosen_any xw_2 (tab_below (unhide HTB) (unhide HB5))).mono ?_
      rintro e w6 ⟨rfl, hb6⟩
      have HB6 := hide (below_step (unhide HB5) hb6)
      have HC6 := hide ((unhide HC5).keep hb6)
      have HV6 := hide ((unhide HV5).below hb6)
      have HU6 := hide ((unhide HV2).below hb6)
      have e9 : ((np : Int) == (np : Int)) = true := by rw [beq_iff_eq]
      have HC8 : Hid (∀ W, Below w6.heap.size w6 W → (fun w' : World => w'.cell? ⟨gc, 1, none⟩ = some (.bool tm.s) ∧ w'.cell? ⟨gc, 2, none⟩ = some (.slice tm.a1 tm.n1 tm.c1) ∧ w'.cell? ⟨gc, 3, none⟩ = some (.slice tm.a2 tm.n2 tm.c2)) W) := fun W hW => (((unhide HC6).keep hW).cells).2
      have HTR : Hid (∀ xs : List Rat, xs.length = np → (∀ t, t < xs.length → RS xs[t]! 1) → ∀ s, s < np → RS (Mdp.T (mdl (kOf ps) (pq (wx, wy))) (bf xs) s) 29) := fun xs hxs hr s hs => by
        have hsK : s < (kOf ps).length := by rw [unhide HKL]; exact hs
        have h1 : RS (Mdp.T (mdl (kOf ps) (pq (wx, wy))) (bf xs) s) (8 * (1 + 2) + 5) := qv_RS (unhide HSM) (unhide HGM) (x := bf xs) (J := 1) (fun t ht => hr t (by rw [hxs, ← unhide HKL]; exact ht)) hsK (Mdp.bst_plan (unhide HGM).ok _ s hsK)
        exact h1.mono (by omega)
      have HRA := hide (unhide HTR (pqs qs) (by rw [pqs_length, unhide HNQ]) (unhide HRQ))
      have HRB := hide (unhide HTR (pqs rs) (by rw [pqs_length, unhide HNR]) (unhide HRR))
      have HF1 : Hid (∀ W, Below w6.heap.size w6 W → Calls Tryz.prog 17 #[.slice a1_ np c1_, .slice a2_ np c2_] W fun e w' => ∃ v, e = .returned v ∧ RatIs w' v (Mdp.far (df (row (Mdp.T (mdl (kOf ps) (pq (wx, wy))) (bf (pqs qs))) np) (row (Mdp.T (mdl (kOf ps) (pq (wx, wy))) (bf (pqs rs))) np)) np) ∧ Below W.heap.size W w') := fun W hW => by
        have := farthest_any _ _ (row (Mdp.T (mdl (kOf ps) (pq (wx, wy))) (bf (pqs qs))) np) (row (Mdp.T (mdl (kOf ps) (pq (wx, wy))) (bf (pqs rs))) np) 29 W ((unhide HV6).below hW) ((unhide HU6).below hW) (by rw [row_length, row_length]) (by omega) (by rw [KKe]; omega) (fun j hj => by rw [row_length] at hj; rw [row_get hj]; exact unhide HRA j hj) (fun j hj => by rw [row_length] at hj; rw [row_get hj]; exact unhide HRB j hj)
        rw [row_length] at this
        exact this
      have HFSa : Hid (∀ W, Below w6.heap.size w6 W → Calls Tryz.prog 16 #[.slice aq np cq] W (FsPost W (pqs qs))) := fun W hW => fs_own _ qs W ((unhide HPQ).below (below_step (unhide HB6) hW)) (by have := unhide HNQ; omega)
      have HFSb : Hid (∀ W, Below w6.heap.size w6 W → Calls Tryz.prog 16 #[.slice ar np cr] W (FsPost W (pqs rs))) := fun W hW => fs_own _ rs W ((unhide HPR).below (below_step (unhide HB6) hW)) (by have := unhide HNR; omega)
      have HWT : Hid (RatIs w6 tm.val (pq (wx, wy))) := (unhide HC6).worth
      have HWB := hide ((unhide HSM).wb.mono (show 1 ≤ 10 by omega))
      have hfr : RS (Mdp.far (df (pqs qs) (pqs rs)) (pqs qs).length) 3 := far_RS (by omega) (fun j hj => by
        have hj2 : j < (pqs rs).length := by rw [pqs_length, unhide HNR, ← unhide HNQ, ← pqs_length]; exact hj
        unfold df
        exact ((unhide HRQ j hj).sub' (unhide HRR j hj2)).mono (by omega))
      have HR9 := hide (hfr.mono (show 3 ≤ 10 by omega))
      have HR8 := hide (((unhide HSM).wb.mul hfr).mono (show 1 + 3 ≤ 1000 by omega))
      have HR7 : Hid (RS (Mdp.far (df (row (Mdp.T (mdl (kOf ps) (pq (wx, wy))) (bf (pqs qs))) np) (row (Mdp.T (mdl (kOf ps) (pq (wx, wy))) (bf (pqs rs))) np)) np) 1000) := far_RS (by omega) (fun j hj => by
        show RS ((row _ np)[j]! - (row _ np)[j]!) 1000
        rw [row_get hj, row_get hj]
        exact ((unhide HRA j hj).sub' (unhide HRB j hj)).mono (by omega))
      have HLE : Hid (Mdp.far (df (row (Mdp.T (mdl (kOf ps) (pq (wx, wy))) (bf (pqs qs))) np) (row (Mdp.T (mdl (kOf ps) (pq (wx, wy))) (bf (pqs rs))) np)) np ≤ pq (wx, wy) * Mdp.far (df (pqs qs) (pqs rs)) (pqs qs).length) := by
        show _ ≤ _
        have hen : (mdl (kOf ps) (pq (wx, wy))).n = np := unhide HKL
        have hc := Mdp.contracts (unhide HGM).ok (bf (pqs qs)) (bf (pqs rs))
        rw [hen] at hc
        have e1 : (pqs qs).length = np := by rw [pqs_length, unhide HNQ]
        rw [e1]
        have e2 : Mdp.far (df (row (Mdp.T (mdl (kOf ps) (pq (wx, wy))) (bf (pqs qs))) np) (row (Mdp.T (mdl (kOf ps) (pq (wx, wy))) (bf (pqs rs))) np)) np = Mdp.far (fun s => Mdp.T (mdl (kOf ps) (pq (wx, wy))) (bf (pqs qs)) s - Mdp.T (mdl (kOf ps) (pq (wx, wy))) (bf (pqs rs)) s) np := far_congr (fun j hj => by
          show (row _ np)[j]! - (row _ np)[j]! = _
          rw [row_get hj, row_get hj])
        rw [e2]
        exact hc
      clear hb6 hfr HB5 HC5 HV5 HV2 HTR
      go_wp2_with fail
      refine wp_region_hold (fun w' : World => w'.cell? ⟨gc, 1, none⟩ = some (.bool tm.s) ∧ w'.cell? ⟨gc, 2, none⟩ = some (.slice tm.a1 tm.n1 tm.c1) ∧ w'.cell? ⟨gc, 3, none⟩ = some (.slice tm.a2 tm.n2 tm.c2)) (by kernel_rfl) ?_
      have bd0 : Below w6.heap.size w6 w6.drew := (Below.refl _ _).drew
      have hC0 : (fun w' : World => w'.cell? ⟨gc, 1, none⟩ = some (.bool tm.s) ∧ w'.cell? ⟨gc, 2, none⟩ = some (.slice tm.a1 tm.n1 tm.c1) ∧ w'.cell? ⟨gc, 3, none⟩ = some (.slice tm.a2 tm.n2 tm.c2)) w6.drew := unhide HC8 _ bd0
      refine wpHold_take (i := 0) (v := ?_) rfl (by kernel_rfl) (by kernel_rfl) (by kernel_rfl) (fun _ _ _ h => h) (Or.inl ⟨by rfl, ?_⟩) hC0 ?_
      rotate_left
      · intro w hSw; clear hSw; go_simp; (try with_reducible rfl)
      (try simp only [List.getElem_toArray, List.getElem_cons_succ, List.getElem_cons_zero])
      (try simp only [Act.put, List.setIfInBounds_toArray, List.set_cons_zero, List.set_cons_succ])
      refine wpHold_take (i := 1) (v := ?_) rfl (by kernel_rfl) (by kernel_rfl) (by kernel_rfl) (fun _ _ _ h => h) (Or.inl ⟨by rfl, ?_⟩) hC0 ?_
      rotate_left
      · intro w hSw; clear hSw; go_simp; (try with_reducible rfl)
      (try simp only [List.getElem_toArray, List.getElem_cons_succ, List.getElem_cons_zero])
      (try simp only [Act.put, List.setIfInBounds_toArray, List.set_cons_zero, List.set_cons_succ])
      refine wpHold_take (i := 2) (v := ?_) rfl (by kernel_rfl) (by kernel_rfl) (by kernel_rfl) (fun _ _ _ h => h) (Or.inl ⟨by rfl, ?_⟩) hC0 ?_
      rotate_left
      · intro w hSw; clear hSw; go_simp; (try with_reducible rfl)
      (try simp only [List.getElem_toArray, List.getElem_cons_succ, List.getElem_cons_zero])
      (try simp only [Act.put, List.setIfInBounds_toArray, List.set_cons_zero, List.set_cons_succ])
      refine wpHold_take (i := 3) (v := ?_) rfl (by kernel_rfl) (by kernel_rfl) (by kernel_rfl) (fun _ _ _ h => h) (Or.inl ⟨by rfl, ?_⟩) hC0 ?_
      rotate_left
      · intro w hSw; clear hSw; go_simp; (try with_reducible rfl)
      (try simp only [List.getElem_toArray, List.getElem_cons_succ, List.getElem_cons_zero])
      (try simp only [Act.put, List.setIfInBounds_toArray, List.set_cons_zero, List.set_cons_succ])
      refine wpHold_take (i := 4) (v := ?_) rfl (by kernel_rfl) (by kernel_rfl) (by kernel_rfl) (fun _ _ _ h => h) (Or.inl ⟨by rfl, ?_⟩) hC0 ?_
      rotate_left
      · intro w hSw; clear hSw; go_simp; (try with_reducible rfl)
      (try simp only [List.getElem_toArray, List.getElem_cons_succ, List.getElem_cons_zero])
      (try simp only [Act.put, List.setIfInBounds_toArray, List.set_cons_zero, List.set_cons_succ])
      refine wpHold_take (i := 5) (v := ?_) rfl (by kernel_rfl) (by kernel_rfl) (by kernel_rfl) (fun _ _ _ h => h) (Or.inl ⟨by rfl, ?_⟩) hC0 ?_
      rotate_left
      · intro w hSw; clear hSw; go_simp; (try with_reducible rfl)
      (try simp only [List.getElem_toArray, List.getElem_cons_succ, List.getElem_cons_zero])
      (try simp only [Act.put, List.setIfInBounds_toArray, List.set_cons_zero, List.set_cons_succ])
      refine wpHold_take (i := 6) (v := ?_) rfl (by kernel_rfl) (by kernel_rfl) (by kernel_rfl) (fun _ _ _ h => h) (Or.inl ⟨by rfl, ?_⟩) hC0 ?_
      rotate_left
      · intro w hSw; clear hSw; go_simp; (try with_reducible rfl)
      (try simp only [List.getElem_toArray, List.getElem_cons_succ, List.getElem_cons_zero])
      (try simp only [Act.put, List.setIfInBounds_toArray, List.set_cons_zero, List.set_cons_succ])
      refine wpHold_take (i := 7) (v := ?_) rfl (by kernel_rfl) (by kernel_rfl) (by kernel_rfl) (fun _ _ _ h => h) (Or.inl ⟨by rfl, ?_⟩) hC0 ?_
      rotate_left
      · intro w hSw; clear hSw; go_simp; (try with_reducible rfl)
      (try simp only [List.getElem_toArray, List.getElem_cons_succ, List.getElem_cons_zero])
      (try simp only [Act.put, List.setIfInBounds_toArray, List.set_cons_zero, List.set_cons_succ])
      refine wpHold_take (i := 9) (v := ?_) rfl (by kernel_rfl) (by kernel_rfl) (by kernel_rfl) (fun _ _ _ h => h) (Or.inl ⟨by rfl, ?_⟩) hC0 ?_
      rotate_left
      · intro w hSw; clear hSw; go_simp; (try with_reducible rfl)
      (try simp only [List.getElem_toArray, List.getElem_cons_succ, List.getElem_cons_zero])
      (try simp only [Act.put, List.setIfInBounds_toArray, List.set_cons_zero, List.set_cons_succ])
      refine wpHold_take (i := 10) (v := ?_) rfl (by kernel_rfl) (by kernel_rfl) (by kernel_rfl) (fun _ _ _ h => h) (Or.inl ⟨by rfl, ?_⟩) hC0 ?_
      rotate_left
      · intro w hSw; (try dsimp only at hSw); obtain ⟨z0, z1, z2⟩ := hSw; go_simp; (try with_reducible rfl)
      (try simp only [List.getElem_toArray, List.getElem_cons_succ, List.getElem_cons_zero])
      (try simp only [Act.put, List.setIfInBounds_toArray, List.set_cons_zero, List.set_cons_succ])
      refine wpHold_take (i := 11) (v := ?_) rfl (by kernel_rfl) (by kernel_rfl) (by kernel_rfl) (fun _ _ _ h => h) (Or.inl ⟨by rfl, ?_⟩) hC0 ?_
      rotate_left
      · intro w hSw; clear hSw; go_simp; (try with_reducible rfl)
      (try simp only [List.getElem_toArray, List.getElem_cons_succ, List.getElem_cons_zero])
      (try simp only [Act.put, List.setIfInBounds_toArray, List.set_cons_zero, List.set_cons_succ])
      refine wpHold_take (i := 13) (v := ?_) rfl (by kernel_rfl) (by kernel_rfl) (by kernel_rfl) (fun _ _ _ h => h) (Or.inl ⟨by rfl, ?_⟩) hC0 ?_
      rotate_left
      · intro w hSw; clear hSw; go_simp; (try with_reducible rfl)
      (try simp only [List.getElem_toArray, List.getElem_cons_succ, List.getElem_cons_zero])
      (try simp only [Act.put, List.setIfInBounds_toArray, List.set_cons_zero, List.set_cons_succ])
      refine wpHold_one (k := 8) (by kernel_rfl) rfl (fun K hK => ?_)
      (try simp only [List.getElem_toArray, List.getElem_cons_succ, List.getElem_cons_zero])
      go_simp
      refine (unhide HF1 _ bd0).mono ?_
      rintro e xw_1 ⟨xv_1, rfl, hv_1, hb_1⟩
      have cc_1 := below_step bd0 hb_1
      have hC_1 : (fun w' : World => w'.cell? ⟨gc, 1, none⟩ = some (.bool tm.s) ∧ w'.cell? ⟨gc, 2, none⟩ = some (.slice tm.a1 tm.n1 tm.c1) ∧ w'.cell? ⟨gc, 3, none⟩ = some (.slice tm.a2 tm.n2 tm.c2)) xw_1 := unhide HC8 _ cc_1
      refine hK.out _ _ hC_1 ?_
      clear hK K
      (try simp only [Act.put, List.setIfInBounds_toArray, List.set_cons_zero, List.set_cons_succ])
      refine wpHold_one (k := 12) (by kernel_rfl) rfl (fun K hK => ?_)
      (try simp only [List.getElem_toArray, List.getElem_cons_succ, List.getElem_cons_zero])
      go_simp
      refine (unhide HFSa _ cc_1).mono ?_
      rintro e xw_2 ⟨xv_2, rfl, hv_2, hb_2, -⟩
      have cc_2 := below_step cc_1 hb_2
      have hC_2 : (fun w' : World => w'.cell? ⟨gc, 1, none⟩ = some (.bool tm.s) ∧ w'.cell? ⟨gc, 2, none⟩ = some (.slice tm.a1 tm.n1 tm.c1) ∧ w'.cell? ⟨gc, 3, none⟩ = some (.slice tm.a2 tm.n2 tm.c2)) xw_2 := unhide HC8 _ cc_2
      refine hK.out _ _ hC_2 ?_
      clear hK K
      (try simp only [Act.put, List.setIfInBounds_toArray, List.set_cons_zero, List.set_cons_succ])
      refine wpHold_one (k := 14) (by kernel_rfl) rfl (fun K hK => ?_)
      (try simp only [List.getElem_toArray, List.getElem_cons_succ, List.getElem_cons_zero])
      go_simp
      refine (unhide HFSb _ cc_2).mono ?_
      rintro e xw_3 ⟨xv_3, rfl, hv_3, hb_3, -⟩
      have cc_3 := below_step cc_2 hb_3
      have hC_3 : (fun w' : World => w'.cell? ⟨gc, 1, none⟩ = some (.bool tm.s) ∧ w'.cell? ⟨gc, 2, none⟩ = some (.slice tm.a1 tm.n1 tm.c1) ∧ w'.cell? ⟨gc, 3, none⟩ = some (.slice tm.a2 tm.n2 tm.c2)) xw_3 := unhide HC8 _ cc_3
      refine hK.out _ _ hC_3 ?_
      clear hK K
      (try simp only [Act.put, List.setIfInBounds_toArray, List.set_cons_zero, List.set_cons_succ])
      refine wpHold_one (k := 15) (by kernel_rfl) rfl (fun K hK => ?_)
      (try simp only [List.getElem_toArray, List.getElem_cons_succ, List.getElem_cons_zero])
      go_simp
      refine (farthest_any _ _ (pqs qs) (pqs rs) 1 _ (hv_2.below hb_3) hv_3 (by rw [pqs_length, pqs_length, unhide HNR, unhide HNQ]) (by omega) (by rw [KKe]; omega) (unhide HRQ) (fun j hj => unhide HRR j (by rw [pqs_length, unhide HNR, ← unhide HNQ, ← pqs_length]; exact hj))).mono ?_
      rintro e xw_4 ⟨xv_4, rfl, hv_4, hb_4⟩
      have cc_4 := below_step cc_3 hb_4
      have hC_4 : (fun w' : World => w'.cell? ⟨gc, 1, none⟩ = some (.bool tm.s) ∧ w'.cell? ⟨gc, 2, none⟩ = some (.slice tm.a1 tm.n1 tm.c1) ∧ w'.cell? ⟨gc, 3, none⟩ = some (.slice tm.a2 tm.n2 tm.c2)) xw_4 := unhide HC8 _ cc_4
      refine hK.out _ _ hC_4 ?_
      clear hK K
      (try simp only [Act.put, List.setIfInBounds_toArray, List.set_cons_zero, List.set_cons_succ])
      refine wpHold_one (k := 16) (by kernel_rfl) rfl (fun K hK => ?_)
      (try simp only [List.getElem_toArray, List.getElem_cons_succ, List.getElem_cons_zero])
      go_simp
      refine (mulR_any tm.val _ _ _ _ ((unhide HWT).below cc_4) hv_4 10 (unhide HWB) (unhide HR9) (by rw [KKe]; omega)).mono ?_
      rintro e xw_5 ⟨xv_5, rfl, hv_5, hb_5⟩
      have cc_5 := below_step cc_4 hb_5
      have hC_5 : (fun w' : World => w'.cell? ⟨gc, 1, none⟩ = some (.bool tm.s) ∧ w'.cell? ⟨gc, 2, none⟩ = some (.slice tm.a1 tm.n1 tm.c1) ∧ w'.cell? ⟨gc, 3, none⟩ = some (.slice tm.a2 tm.n2 tm.c2)) xw_5 := unhide HC8 _ cc_5
      refine hK.out _ _ hC_5 ?_
      clear hK K
      (try simp only [Act.put, List.setIfInBounds_toArray, List.set_cons_zero, List.set_cons_succ])
      refine wpHold_one (k := 17) (by kernel_rfl) rfl (fun K hK => ?_)
      (try simp only [List.getElem_toArray, List.getElem_cons_succ, List.getElem_cons_zero])
      go_simp
      have CM := cmpR_all _ _ _ _ xw_5 ((((hv_1.below hb_2).below hb_3).below hb_4).below hb_5) hv_5 1000 (unhide HR7) (unhide HR8) (by rw [KKe]; omega)
      refine CM.mono ?_
      rintro e xw_6 ⟨rfl, hb_6⟩
      clear CM
      have cc_6 := below_step cc_5 hb_6
      have hC_6 : (fun w' : World => w'.cell? ⟨gc, 1, none⟩ = some (.bool tm.s) ∧ w'.cell? ⟨gc, 2, none⟩ = some (.slice tm.a1 tm.n1 tm.c1) ∧ w'.cell? ⟨gc, 3, none⟩ = some (.slice tm.a2 tm.n2 tm.c2)) xw_6 := unhide HC8 _ cc_6
      refine hK.out _ _ hC_6 ?_
      clear hK K
      (try simp only [Act.put, List.setIfInBounds_toArray, List.set_cons_zero, List.set_cons_succ])
      have hcl := cmpv_le (unhide HLE)
      obtain ⟨cz, hcz⟩ : ∃ z, cmpv (Mdp.far (df (row (Mdp.T (mdl (kOf ps) (pq (wx, wy))) (bf (pqs qs))) np) (row (Mdp.T (mdl (kOf ps) (pq (wx, wy))) (bf (pqs rs))) np)) np) (pq (wx, wy) * Mdp.far (df (pqs qs) (pqs rs)) (pqs qs).length) = z := ⟨_, rfl⟩
      rw [hcz] at hcl
      rw [hcz]
      have hd : decide (cz ≤ 0) = true := decide_eq_true hcl.2
      clear hcl hcz
      refine wpHold_take (i := 18) (v := ?_) rfl (by kernel_rfl) (by kernel_rfl) (by kernel_rfl) (fun _ _ _ h => h) (Or.inl ⟨by rfl, ?_⟩) hC_6 ?_
      rotate_left
      · intro w hSw; clear hSw; go_simp; (try with_reducible rfl)
      (try simp only [List.getElem_toArray, List.getElem_cons_succ, List.getElem_cons_zero])
      (try simp only [Act.put, List.setIfInBounds_toArray, List.set_cons_zero, List.set_cons_succ])
      refine wpHold_take (i := 19) (v := ?_) rfl (by kernel_rfl) (by kernel_rfl) (by kernel_rfl) (fun _ _ _ h => h) (Or.inl ⟨by rfl, ?_⟩) hC_6 ?_
      rotate_left
      · intro w hSw; clear hSw; go_simp; (try with_reducible rfl)
      (try simp only [List.getElem_toArray, List.getElem_cons_succ, List.getElem_cons_zero])
      (try simp only [Act.put, List.setIfInBounds_toArray, List.set_cons_zero, List.set_cons_succ])
      refine wpHold_take (i := 20) (v := ?_) rfl (by kernel_rfl) (by kernel_rfl) (by kernel_rfl) (fun _ _ _ h => h) (Or.inl ⟨by rfl, ?_⟩) hC_6 ?_
      rotate_left
      · intro w hSw; clear hSw; go_simp; (try with_reducible rfl)
      (try simp only [List.getElem_toArray, List.getElem_cons_succ, List.getElem_cons_zero])
      (try simp only [Act.put, List.setIfInBounds_toArray, List.set_cons_zero, List.set_cons_succ])
      refine wpHold_done (by kernel_rfl) ?_ _
      have HB9 := hide (below_step (unhide HB6) cc_6)
      clear hC0 hC_1 hC_2 hC_3 hC_4 hC_5 hC_6 cc_1 cc_2 cc_3 cc_4 cc_5 cc_6 bd0 hb_1 hb_2 hb_3 hb_4 hb_5 hb_6 hv_1 hv_2 hv_3 hv_4 hv_5
      go_wp2
      go_ret
      exact ⟨rfl, unhide HB9⟩
    · skip
      exact absurd ⟨good_code (unhide HGM), by rw [pqs_length, unhide HNR]; exact (unhide HKL).symm⟩ gn
  · skip
    have cc_2 := below_step cc_1 hb_2
    have hC_2 : (fun W : World => W.cell? ⟨gc, 0, none⟩ = some (.slice lm.a np lm.c) ∧ W.cell? ⟨gc, 1, none⟩ = some (.bool tm.s) ∧ W.cell? ⟨gc, 2, none⟩ = some (.slice tm.a1 tm.n1 tm.c1) ∧ W.cell? ⟨gc, 3, none⟩ = some (.slice tm.a2 tm.n2 tm.c2)) xw_2 := unhide HCC _ cc_2
    refine hK.out _ _ hC_2 ?_
    clear hK K
    (try simp only [Act.put, List.setIfInBounds_toArray, List.set_cons_zero, List.set_cons_succ])
    refine wpHold_take (i := 4) (v := ?_) rfl (by kernel_rfl) (by kernel_rfl) (by kernel_rfl) (fun _ _ _ h => h) (Or.inl ⟨by rfl, ?_⟩) hC_2 ?_
    rotate_left
    · intro w hSw; clear hSw; go_simp; (try with_reducible rfl)
    (try simp only [List.getElem_toArray, List.getElem_cons_succ, List.getElem_cons_zero])
    (try simp only [Act.put, List.setIfInBounds_toArray, List.set_cons_zero, List.set_cons_succ])
    refine wpHold_take (i := 5) (v := ?_) rfl (by kernel_rfl) (by kernel_rfl) (by kernel_rfl) (fun _ _ _ h => h) (Or.inl ⟨by rfl, ?_⟩) hC_2 ?_
    rotate_left
    · intro w hSw; clear hSw; go_simp; (try with_reducible rfl)
    (try simp only [List.getElem_toArray, List.getElem_cons_succ, List.getElem_cons_zero])
    (try simp only [Act.put, List.setIfInBounds_toArray, List.set_cons_zero, List.set_cons_succ])
    refine wpHold_take (i := 6) (v := ?_) rfl (by kernel_rfl) (by kernel_rfl) (by kernel_rfl) (fun _ _ _ h => h) (Or.inl ⟨by rfl, ?_⟩) hC_2 ?_
    rotate_left
    · intro w hSw; clear hSw; go_simp; (try with_reducible rfl)
    (try simp only [List.getElem_toArray, List.getElem_cons_succ, List.getElem_cons_zero])
    (try simp only [Act.put, List.setIfInBounds_toArray, List.set_cons_zero, List.set_cons_succ])
    refine wpHold_take (i := 7) (v := ?_) rfl (by kernel_rfl) (by kernel_rfl) (by kernel_rfl) (fun _ _ _ h => h) (Or.inl ⟨by rfl, ?_⟩) hC_2 ?_
    rotate_left
    · intro w hSw; clear hSw; go_simp; (try with_reducible rfl)
    (try simp only [List.getElem_toArray, List.getElem_cons_succ, List.getElem_cons_zero])
    (try simp only [Act.put, List.setIfInBounds_toArray, List.set_cons_zero, List.set_cons_succ])
    refine wpHold_take (i := 8) (v := ?_) rfl (by kernel_rfl) (by kernel_rfl) (by kernel_rfl) (fun _ _ _ h => h) (Or.inl ⟨by rfl, ?_⟩) hC_2 ?_
    rotate_left
    · intro w hSw; clear hSw; go_simp; (try with_reducible rfl)
    (try simp only [List.getElem_toArray, List.getElem_cons_succ, List.getElem_cons_zero])
    (try simp only [Act.put, List.setIfInBounds_toArray, List.set_cons_zero, List.set_cons_succ])
    refine wpHold_take (i := 9) (v := ?_) rfl (by kernel_rfl) (by kernel_rfl) (by kernel_rfl) (fun _ _ _ h => h) (Or.inl ⟨by rfl, ?_⟩) hC_2 ?_
    rotate_left
    · intro w hSw; clear hSw; go_simp; (try with_reducible rfl)
    (try simp only [List.getElem_toArray, List.getElem_cons_succ, List.getElem_cons_zero])
    (try simp only [Act.put, List.setIfInBounds_toArray, List.set_cons_zero, List.set_cons_succ])
    refine wpHold_take (i := 10) (v := ?_) rfl (by kernel_rfl) (by kernel_rfl) (by kernel_rfl) (fun _ _ _ h => h) (Or.inl ⟨by rfl, ?_⟩) hC_2 ?_
    rotate_left
    · intro w hSw; clear hSw; go_simp; (try with_reducible rfl)
    (try simp only [List.getElem_toArray, List.getElem_cons_succ, List.getElem_cons_zero])
    (try simp only [Act.put, List.setIfInBounds_toArray, List.set_cons_zero, List.set_cons_succ])
    refine wpHold_done (by kernel_rfl) ?_ _
    have HB3 := hide (below_step (unhide HB2) cc_2)
    have HC3 := hide ((unhide HCH).keep cc_2)
    have HNC : Hid (mcode (kOf ps) (pq (wx, wy)) ≠ 0) := fun x => gn ⟨x, by rw [pqs_length, unhide HNQ]; exact (unhide HKL).symm⟩
    obtain ⟨w3, rfl⟩ : ∃ W, W = xw_2 := ⟨_, rfl⟩
    clear gn HVF HCC HFS1
    clear hC0 hC_1 hC_2 cc_1 cc_2 bd0 hb_1 hb_2
    have HCC : Hid (∀ W, Below w3.heap.size w3 W → (fun W : World => W.cell? ⟨gc, 0, none⟩ = some (.slice lm.a np lm.c) ∧ W.cell? ⟨gc, 1, none⟩ = some (.bool tm.s) ∧ W.cell? ⟨gc, 2, none⟩ = some (.slice tm.a1 tm.n1 tm.c1) ∧ W.cell? ⟨gc, 3, none⟩ = some (.slice tm.a2 tm.n2 tm.c2)) W) := fun W hW => ((unhide HC3).keep hW).cells
    have HFS2 : Hid (∀ W, Below w3.heap.size w3 W → Calls Tryz.prog 16 #[.slice ar np cr] W (FsPost W (pqs rs))) := fun W hW => fs_own _ rs W ((unhide HPR).below (below_step (unhide HB3) hW)) (by have := unhide HNR; omega)
    go_wp2_with fail
    refine wp_region_hold (fun W : World => W.cell? ⟨gc, 0, none⟩ = some (.slice lm.a np lm.c) ∧ W.cell? ⟨gc, 1, none⟩ = some (.bool tm.s) ∧ W.cell? ⟨gc, 2, none⟩ = some (.slice tm.a1 tm.n1 tm.c1) ∧ W.cell? ⟨gc, 3, none⟩ = some (.slice tm.a2 tm.n2 tm.c2)) (by kernel_rfl) ?_
    have bd0 : Below w3.heap.size w3 w3.drew := (Below.refl _ _).drew
    have hC0 : (fun W : World => W.cell? ⟨gc, 0, none⟩ = some (.slice lm.a np lm.c) ∧ W.cell? ⟨gc, 1, none⟩ = some (.bool tm.s) ∧ W.cell? ⟨gc, 2, none⟩ = some (.slice tm.a1 tm.n1 tm.c1) ∧ W.cell? ⟨gc, 3, none⟩ = some (.slice tm.a2 tm.n2 tm.c2)) w3.drew := unhide HCC _ bd0
    refine wpHold_take (i := 0) (v := ?_) rfl (by kernel_rfl) (by kernel_rfl) (by kernel_rfl) (fun _ _ _ h => h) (Or.inl ⟨by rfl, ?_⟩) hC0 ?_
    rotate_left
    · intro w hSw; (try dsimp only at hSw); obtain ⟨z0, z1, z2, z3⟩ := hSw; go_simp; (try with_reducible rfl)
    (try simp only [List.getElem_toArray, List.getElem_cons_succ, List.getElem_cons_zero])
    (try simp only [Act.put, List.setIfInBounds_toArray, List.set_cons_zero, List.set_cons_succ])
    refine wpHold_take (i := 1) (v := ?_) rfl (by kernel_rfl) (by kernel_rfl) (by kernel_rfl) (fun _ _ _ h => h) (Or.inl ⟨by rfl, ?_⟩) hC0 ?_
    rotate_left
    · intro w hSw; clear hSw; go_simp; (try with_reducible rfl)
    (try simp only [List.getElem_toArray, List.getElem_cons_succ, List.getElem_cons_zero])
    (try simp only [Act.put, List.setIfInBounds_toArray, List.set_cons_zero, List.set_cons_succ])
    refine wpHold_one (k := 2) (by kernel_rfl) rfl (fun K hK => ?_)
    (try simp only [List.getElem_toArray, List.getElem_cons_succ, List.getElem_cons_zero])
    go_simp
    refine (unhide HFS2 _ bd0).mono ?_
    rintro e xw_1 ⟨xv_1, rfl, hv_1, hb_1, -⟩
    have cc_1 := below_step bd0 hb_1
    have hC_1 : (fun W : World => W.cell? ⟨gc, 0, none⟩ = some (.slice lm.a np lm.c) ∧ W.cell? ⟨gc, 1, none⟩ = some (.bool tm.s) ∧ W.cell? ⟨gc, 2, none⟩ = some (.slice tm.a1 tm.n1 tm.c1) ∧ W.cell? ⟨gc, 3, none⟩ = some (.slice tm.a2 tm.n2 tm.c2)) xw_1 := unhide HCC _ cc_1
    refine hK.out _ _ hC_1 ?_
    clear hK K
    (try simp only [Act.put, List.setIfInBounds_toArray, List.set_cons_zero, List.set_cons_succ])
    have HVF := hide hv_1
    obtain ⟨af, cf, rfl, _, _, _⟩ := hv_1
    refine wpHold_one (k := 3) (by kernel_rfl) rfl (fun K hK => ?_)
    (try simp only [List.getElem_toArray, List.getElem_cons_succ, List.getElem_cons_zero])
    go_simp
    have BP := Step_any _ _ (kOf ps) (pq (wx, wy)) (pqs rs) 1 xw_1 ((unhide HC3).keep cc_1).mod (unhide HSM) (unhide HVF) (by rw [pqs_length, unhide HNR]; omega) (unhide HRR) (by rw [KKe]; omega)
    refine BP.mono ?_
    clear BP
    rintro e xw_2 (⟨gm, -, v2, G2, rfl, hv2, -, -, hb_2⟩ | ⟨gn, k2, rfl, hb_2⟩)
    · skip
      exact absurd (good_code gm) (unhide HNC)
    · skip
      have cc_2 := below_step cc_1 hb_2
      have hC_2 : (fun W : World => W.cell? ⟨gc, 0, none⟩ = some (.slice lm.a np lm.c) ∧ W.cell? ⟨gc, 1, none⟩ = some (.bool tm.s) ∧ W.cell? ⟨gc, 2, none⟩ = some (.slice tm.a1 tm.n1 tm.c1) ∧ W.cell? ⟨gc, 3, none⟩ = some (.slice tm.a2 tm.n2 tm.c2)) xw_2 := unhide HCC _ cc_2
      refine hK.out _ _ hC_2 ?_
      clear hK K
      (try simp only [Act.put, List.setIfInBounds_toArray, List.set_cons_zero, List.set_cons_succ])
      refine wpHold_take (i := 4) (v := ?_) rfl (by kernel_rfl) (by kernel_rfl) (by kernel_rfl) (fun _ _ _ h => h) (Or.inl ⟨by rfl, ?_⟩) hC_2 ?_
      rotate_left
      · intro w hSw; clear hSw; go_simp; (try with_reducible rfl)
      (try simp only [List.getElem_toArray, List.getElem_cons_succ, List.getElem_cons_zero])
      (try simp only [Act.put, List.setIfInBounds_toArray, List.set_cons_zero, List.set_cons_succ])
      refine wpHold_take (i := 5) (v := ?_) rfl (by kernel_rfl) (by kernel_rfl) (by kernel_rfl) (fun _ _ _ h => h) (Or.inl ⟨by rfl, ?_⟩) hC_2 ?_
      rotate_left
      · intro w hSw; clear hSw; go_simp; (try with_reducible rfl)
      (try simp only [List.getElem_toArray, List.getElem_cons_succ, List.getElem_cons_zero])
      (try simp only [Act.put, List.setIfInBounds_toArray, List.set_cons_zero, List.set_cons_succ])
      refine wpHold_take (i := 6) (v := ?_) rfl (by kernel_rfl) (by kernel_rfl) (by kernel_rfl) (fun _ _ _ h => h) (Or.inl ⟨by rfl, ?_⟩) hC_2 ?_
      rotate_left
      · intro w hSw; clear hSw; go_simp; (try with_reducible rfl)
      (try simp only [List.getElem_toArray, List.getElem_cons_succ, List.getElem_cons_zero])
      (try simp only [Act.put, List.setIfInBounds_toArray, List.set_cons_zero, List.set_cons_succ])
      refine wpHold_take (i := 7) (v := ?_) rfl (by kernel_rfl) (by kernel_rfl) (by kernel_rfl) (fun _ _ _ h => h) (Or.inl ⟨by rfl, ?_⟩) hC_2 ?_
      rotate_left
      · intro w hSw; clear hSw; go_simp; (try with_reducible rfl)
      (try simp only [List.getElem_toArray, List.getElem_cons_succ, List.getElem_cons_zero])
      (try simp only [Act.put, List.setIfInBounds_toArray, List.set_cons_zero, List.set_cons_succ])
      refine wpHold_take (i := 8) (v := ?_) rfl (by kernel_rfl) (by kernel_rfl) (by kernel_rfl) (fun _ _ _ h => h) (Or.inl ⟨by rfl, ?_⟩) hC_2 ?_
      rotate_left
      · intro w hSw; clear hSw; go_simp; (try with_reducible rfl)
      (try simp only [List.getElem_toArray, List.getElem_cons_succ, List.getElem_cons_zero])
      (try simp only [Act.put, List.setIfInBounds_toArray, List.set_cons_zero, List.set_cons_succ])
      refine wpHold_take (i := 9) (v := ?_) rfl (by kernel_rfl) (by kernel_rfl) (by kernel_rfl) (fun _ _ _ h => h) (Or.inl ⟨by rfl, ?_⟩) hC_2 ?_
      rotate_left
      · intro w hSw; clear hSw; go_simp; (try with_reducible rfl)
      (try simp only [List.getElem_toArray, List.getElem_cons_succ, List.getElem_cons_zero])
      (try simp only [Act.put, List.setIfInBounds_toArray, List.set_cons_zero, List.set_cons_succ])
      refine wpHold_take (i := 10) (v := ?_) rfl (by kernel_rfl) (by kernel_rfl) (by kernel_rfl) (fun _ _ _ h => h) (Or.inl ⟨by rfl, ?_⟩) hC_2 ?_
      rotate_left
      · intro w hSw; clear hSw; go_simp; (try with_reducible rfl)
      (try simp only [List.getElem_toArray, List.getElem_cons_succ, List.getElem_cons_zero])
      (try simp only [Act.put, List.setIfInBounds_toArray, List.set_cons_zero, List.set_cons_succ])
      refine wpHold_done (by kernel_rfl) ?_ _
      have HB5 := hide (below_step (unhide HB3) cc_2)
      clear gn HVF
      clear hC0 hC_1 hC_2 cc_1 cc_2 bd0 hb_1 hb_2
      go_wp2_with fail
      refine (chosen_any xw_2 (tab_below (unhide HTB) (unhide HB5))).mono ?_
      rintro e w6 ⟨rfl, hb6⟩
      have HB6 := hide (below_step (unhide HB5) hb6)
      clear hb6 HB5
      go_wp2_with fail
      refine (chosen_any w6 (tab_below (unhide HTB) (unhide HB6))).mono ?_
      rintro e w7 ⟨rfl, hb7⟩
      have HB7 := hide (below_step (unhide HB6) hb7)
      clear hb7 HB6
      go_wp2
      go_ret
      exact ⟨rfl, unhide HB7⟩

end Go.Proofs.YtaacibgmdeoikaaGreatDoor
