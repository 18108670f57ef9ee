/- ChoiceBetween: the walk. -/
import Derived.Test.YtaacibgmdeoikaaGreatDoorIG
import Derived.Test.YtaacibgmdeoikaaGreatDoorI10
namespace Go.Proofs.YtaacibgmdeoikaaGreatDoor
open Go.RowKit Go.Sort Go.Shelf

theorem pqs_RS {w : World} {v : Value} {qs : List (Int × Int)} (h : PairsAre w v qs) (t : Nat) (ht : t < (pqs qs).length) : RS (pqs qs)[t]! 1 := by
  rw [pqs_length] at ht
  obtain ⟨_, _, _, _, _, h6, _⟩ := h
  rw [pqs_get ht]
  exact pq_RS (h6 t ht).1 (h6 t ht).2

set_option maxHeartbeats 16000000 in
set_option maxRecDepth 100000 in
set_option linter.unusedSimpArgs false in
theorem choiceBetween_any (v vq : Value) (ps : List (List ((Int × Int) × List (Int × Int)))) (wx wy : Int) (qs : List (Int × Int)) (w : World) (htab : Tab w) (h : PModelIs w v ps wx wy) (sm : SmB ps) (hq : PairsAre w vq qs) :
    Calls Tryz.prog 5 #[v, vq] w fun e w' => e = .returned (.bool true) ∧ Below w.heap.size w w' := by
  have HRQ := hide (pqs_RS hq)
  have HPQ := hide hq
  obtain ⟨aq, cq, rfl, hq1, hq2, hq3⟩ := hq
  obtain ⟨nq, hnq⟩ : ∃ n, qs.length = n := ⟨_, rfl⟩
  have HNQ := hide hnq
  rw [hnq] at HPQ hq1 ⊢
  clear hq3 hnq
  have KKe : KK = 1099511627776 := rfl
  have HTB := hide htab
  have HPM := hide h
  have HSMB := hide sm
  obtain ⟨lp, rfl, hP, hx, hy⟩ := h
  have hln := psts_len hP
  obtain ⟨np, hnp⟩ : ∃ n, ps.length = n := ⟨_, rfl⟩
  rw [hnp] at hln
  have HNP := hide hnp
  have hnb := sm.n
  rw [hnp] at hnb
  unfold pmv at HPM ⊢
  rw [hln] at HPM ⊢
  have b0 := alloc_below w (.cells #[.slice lp.a np lp.c, .int .i64 wx, .int .i64 wy] 26)
  have N0 := heap_alloc_new w (.cells #[.slice lp.a np lp.c, .int .i64 wx, .int .i64 wy] 26)
  obtain ⟨W0, hW0⟩ : ∃ W, w.alloc (.cells #[.slice lp.a np lp.c, .int .i64 wx, .int .i64 wy] 26) = W := ⟨_, rfl⟩
  obtain ⟨gi, hgi⟩ : ∃ g, w.heap.size = g := ⟨_, rfl⟩
  rw [hW0] at b0 N0
  rw [hgi] at N0
  have hgil : gi < W0.heap.size := (Array.getElem?_eq_some_iff.1 N0).1
  have HGI : Hid (∀ W, Below W0.heap.size W0 W → W.cell? ⟨gi, 0, none⟩ = some (.slice lp.a np lp.c) ∧ W.cell? ⟨gi, 1, none⟩ = some (.int .i64 wx) ∧ W.cell? ⟨gi, 2, none⟩ = some (.int .i64 wy)) := fun W hW => by
    have h' := heap_kept N0 hW
    simp [World.cell?, h']
  have HB0 := hide b0
  have ⟨i0, i1, i2⟩ := unhide HGI W0 (Below.refl _ _)
  have HSL := hide (small_any _ ps wx wy W0 ((unhide HPM).below b0) sm)
  have HKL : Hid ((kOf ps).length = np) := by show _ = np; rw [kOf_length]; exact hnp
  clear hP hx hy sm htab b0 N0 hgil hnp hln
  go_enter Tryz.func5, Tryz.ntmps5
  go_wp2_with fail
  refine (unhide HSL).mono ?_
  rintro e w1 ⟨(⟨hsm, rfl⟩ | ⟨hsm, rfl⟩), hb1⟩
  rotate_left
  · have HB1 := hide (below_step (unhide HB0) hb1)
    clear hsm hb1 hW0 hgi i0 i1 i2 HSL
    go_wp2
    go_ret
    exact ⟨rfl, unhide HB1⟩
  have HB1 := hide (below_step (unhide HB0) hb1)
  have HW01 := hide hb1
  have ⟨j0, j1, j2⟩ := unhide HGI w1 hb1
  have hn70 : np ≤ 70 := by have := hsm; unfold totM at this; have := unhide HNP; omega
  have HSM70 := hide hsm
  have hsp : SmPM ps := small_sm hsm
  have HSM := hide (smM_of (unhide HPM) hsp)
  have HCO := hide (choice_any _ ps wx wy w1 ((unhide HPM).below (unhide HB1)) hsp)
  clear hsm hsp hb1 hW0 hgi i0 i1 i2 HSL hnb
  by_cases hl : nq = np
  rotate_left
  · have e1 : ((nq : Int) == (np : Int)) = false := by rw [beq_eq_false_iff_ne]; omega
    clear hl
    go_wp2
    go_ret
    exact ⟨rfl, unhide HB1⟩
  obtain rfl := hl.symm
  have HLQ := HNQ
  have e1 : ((np : Int) == (np : Int)) = true := by rw [beq_iff_eq]
  go_wp2_with fail
  clear e1
  refine (unhide HCO).mono ?_
  rintro e w2 ⟨v2, rfl, hv2, hb2⟩
  obtain ⟨lm, tm, rfl, hCh⟩ := ChAt.new (np := np) hv2 (unhide HKL)
  have bA := alloc_below w2 (.cells #[.slice lm.a np lm.c, .bool tm.s, .slice tm.a1 tm.n1 tm.c1, .slice tm.a2 tm.n2 tm.c2] 35)
  have hB2 := below_step hb2 bA
  obtain ⟨W2, hW2⟩ : ∃ W, w2.alloc (.cells #[.slice lm.a np lm.c, .bool tm.s, .slice tm.a1 tm.n1 tm.c1, .slice tm.a2 tm.n2 tm.c2] 35) = W := ⟨_, rfl⟩
  obtain ⟨gc, hgc⟩ : ∃ g, w2.heap.size = g := ⟨_, rfl⟩
  rw [hW2] at hCh hB2
  rw [hgc] at hCh
  have HCH := hide hCh
  have HB2 := hide (below_step (unhide HB1) hB2)
  have HW0 := hide (below_step (unhide HW01) hB2)
  clear hv2 hb2 hCh bA hB2 HCO
  have HCC : Hid (∀ W, Below W2.heap.size W2 W → (fun W : World => W.cell? ⟨gc, 0, none⟩ = some (.slice lm.a np lm.c) ∧ W.cell? ⟨gc, 1, none⟩ = some (.bool tm.s) ∧ W.cell? ⟨gc, 2, none⟩ = some (.slice tm.a1 tm.n1 tm.c1) ∧ W.cell? ⟨gc, 3, none⟩ = some (.slice tm.a2 tm.n2 tm.c2)) W) := fun W hW => ((unhide HCH).keep hW).cells
  have HFS1 : Hid (∀ W, Below W2.heap.size W2 W → Calls Tryz.prog 16 #[.slice aq np cq] W (FsPost W (pqs qs))) := fun W hW => fs_own _ qs W ((unhide HPQ).below (below_step (unhide HB2) hW)) (by have := unhide HNQ; omega)
  go_wp2_with fail
  clear hW2 hgc j0 j1 j2
  refine wp_region_hold (fun W : World => W.cell? ⟨gc, 0, none⟩ = some (.slice lm.a np lm.c) ∧ W.cell? ⟨gc, 1, none⟩ = some (.bool tm.s) ∧ W.cell? ⟨gc, 2, none⟩ = some (.slice tm.a1 tm.n1 tm.c1) ∧ W.cell? ⟨gc, 3, none⟩ = some (.slice tm.a2 tm.n2 tm.c2)) (by kernel_rfl) ?_
  have bd0 : Below W2.heap.size W2 W2.drew := (Below.refl _ _).drew
  have hC0 : (fun W : World => W.cell? ⟨gc, 0, none⟩ = some (.slice lm.a np lm.c) ∧ W.cell? ⟨gc, 1, none⟩ = some (.bool tm.s) ∧ W.cell? ⟨gc, 2, none⟩ = some (.slice tm.a1 tm.n1 tm.c1) ∧ W.cell? ⟨gc, 3, none⟩ = some (.slice tm.a2 tm.n2 tm.c2)) W2.drew := unhide HCC _ bd0
  refine wpHold_take (i := 0) (v := ?_) rfl (by kernel_rfl) (by kernel_rfl) (by kernel_rfl) (fun _ _ _ h => h) (Or.inl ⟨by rfl, ?_⟩) hC0 ?_
  rotate_left
  · intro w hSw; (try dsimp only at hSw); obtain ⟨z0, z1, z2, z3⟩ := hSw; go_simp; (try with_reducible rfl)
  (try simp only [List.getElem_toArray, List.getElem_cons_succ, List.getElem_cons_zero])
  (try simp only [Act.put, List.setIfInBounds_toArray, List.set_cons_zero, List.set_cons_succ])
  refine wpHold_take (i := 1) (v := ?_) rfl (by kernel_rfl) (by kernel_rfl) (by kernel_rfl) (fun _ _ _ h => h) (Or.inl ⟨by rfl, ?_⟩) hC0 ?_
  rotate_left
  · intro w hSw; clear hSw; go_simp; (try with_reducible rfl)
  (try simp only [List.getElem_toArray, List.getElem_cons_succ, List.getElem_cons_zero])
  (try simp only [Act.put, List.setIfInBounds_toArray, List.set_cons_zero, List.set_cons_succ])
  refine wpHold_one (k := 2) (by kernel_rfl) rfl (fun K hK => ?_)
  (try simp only [List.getElem_toArray, List.getElem_cons_succ, List.getElem_cons_zero])
  go_simp
  refine (unhide HFS1 _ bd0).mono ?_
  rintro e xw_1 ⟨xv_1, rfl, hv_1, hb_1, -⟩
  have cc_1 := below_step bd0 hb_1
  have hC_1 : (fun W : World => W.cell? ⟨gc, 0, none⟩ = some (.slice lm.a np lm.c) ∧ W.cell? ⟨gc, 1, none⟩ = some (.bool tm.s) ∧ W.cell? ⟨gc, 2, none⟩ = some (.slice tm.a1 tm.n1 tm.c1) ∧ W.cell? ⟨gc, 3, none⟩ = some (.slice tm.a2 tm.n2 tm.c2)) xw_1 := unhide HCC _ cc_1
  refine hK.out _ _ hC_1 ?_
  clear hK K
  (try simp only [Act.put, List.setIfInBounds_toArray, List.set_cons_zero, List.set_cons_succ])
  have HVF := hide hv_1
  obtain ⟨af, cf, rfl, _, _, _⟩ := hv_1
  refine wpHold_one (k := 3) (by kernel_rfl) rfl (fun K hK => ?_)
  (try simp only [List.getElem_toArray, List.getElem_cons_succ, List.getElem_cons_zero])
  go_simp
  have BP := Bounds_any _ _ (kOf ps) (pq (wx, wy)) (pqs qs) xw_1 ((unhide HCH).keep cc_1).mod (unhide HSM) (unhide HVF) (by rw [pqs_length, unhide HNQ]; omega) (unhide HRQ)
  refine BP.mono ?_
  clear BP
  rintro e xw_2 (⟨gm, -, v1, v2, lo, hi, rfl, hv1, hv2, hlo, hhi, hrl, hrh, hb_2⟩ | ⟨gn, k, rfl, hb_2⟩)
  · skip
    rw [unhide HKL] at hv1 hv2 hlo hhi
    have HV1 := hide hv1
    have HV2 := hide hv2
    obtain ⟨a1_, c1_, rfl, _, _, _⟩ := hv1
    obtain ⟨a2_, c2_, rfl, _, _, _⟩ := hv2
    rw [row_length] at HV1 HV2
    rw [row_length, row_length]
    have cc_2 := below_step cc_1 hb_2
    have hC_2 : (fun W : World => W.cell? ⟨gc, 0, none⟩ = some (.slice lm.a np lm.c) ∧ W.cell? ⟨gc, 1, none⟩ = some (.bool tm.s) ∧ W.cell? ⟨gc, 2, none⟩ = some (.slice tm.a1 tm.n1 tm.c1) ∧ W.cell? ⟨gc, 3, none⟩ = some (.slice tm.a2 tm.n2 tm.c2)) xw_2 := unhide HCC _ cc_2
    refine hK.out _ _ hC_2 ?_
    clear hK K
    (try simp only [Act.put, List.setIfInBounds_toArray, List.set_cons_zero, List.set_cons_succ])
    refine wpHold_take (i := 4) (v := ?_) rfl (by kernel_rfl) (by kernel_rfl) (by kernel_rfl) (fun _ _ _ h => h) (Or.inl ⟨by rfl, ?_⟩) hC_2 ?_
    rotate_left
    · intro w hSw; clear hSw; go_simp; (try with_reducible rfl)
    (try simp only [List.getElem_toArray, List.getElem_cons_succ, List.getElem_cons_zero])
    (try simp only [Act.put, List.setIfInBounds_toArray, List.set_cons_zero, List.set_cons_succ])
    refine wpHold_take (i := 5) (v := ?_) rfl (by kernel_rfl) (by kernel_rfl) (by kernel_rfl) (fun _ _ _ h => h) (Or.inl ⟨by rfl, ?_⟩) hC_2 ?_
    rotate_left
    · intro w hSw; clear hSw; go_simp; (try with_reducible rfl)
    (try simp only [List.getElem_toArray, List.getElem_cons_succ, List.getElem_cons_zero])
    (try simp only [Act.put, List.setIfInBounds_toArray, List.set_cons_zero, List.set_cons_succ])
    refine wpHold_take (i := 6) (v := ?_) rfl (by kernel_rfl) (by kernel_rfl) (by kernel_rfl) (fun _ _ _ h => h) (Or.inl ⟨by rfl, ?_⟩) hC_2 ?_
    rotate_left
    · intro w hSw; clear hSw; go_simp; (try with_reducible rfl)
    (try simp only [List.getElem_toArray, List.getElem_cons_succ, List.getElem_cons_zero])
    (try simp only [Act.put, List.setIfInBounds_toArray, List.set_cons_zero, List.set_cons_succ])
    refine wpHold_take (i := 7) (v := ?_) rfl (by kernel_rfl) (by kernel_rfl) (by kernel_rfl) (fun _ _ _ h => h) (Or.inl ⟨by rfl, ?_⟩) hC_2 ?_
    rotate_left
    · intro w hSw; clear hSw; go_simp; (try with_reducible rfl)
    (try simp only [List.getElem_toArray, List.getElem_cons_succ, List.getElem_cons_zero])
    (try simp only [Act.put, List.setIfInBounds_toArray, List.set_cons_zero, List.set_cons_succ])
    refine wpHold_take (i := 8) (v := ?_) rfl (by kernel_rfl) (by kernel_rfl) (by kernel_rfl) (fun _ _ _ h => h) (Or.inl ⟨by rfl, ?_⟩) hC_2 ?_
    rotate_left
    · intro w hSw; clear hSw; go_simp; (try with_reducible rfl)
    (try simp only [List.getElem_toArray, List.getElem_cons_succ, List.getElem_cons_zero])
    (try simp only [Act.put, List.setIfInBounds_toArray, List.set_cons_zero, List.set_cons_succ])
    refine wpHold_take (i := 9) (v := ?_) rfl (by kernel_rfl) (by kernel_rfl) (by kernel_rfl) (fun _ _ _ h => h) (Or.inl ⟨by rfl, ?_⟩) hC_2 ?_
    rotate_left
    · intro w hSw; clear hSw; go_simp; (try with_reducible rfl)
    (try simp only [List.getElem_toArray, List.getElem_cons_succ, List.getElem_cons_zero])
    (try simp only [Act.put, List.setIfInBounds_toArray, List.set_cons_zero, List.set_cons_succ])
    refine wpHold_take (i := 10) (v := ?_) rfl (by kernel_rfl) (by kernel_rfl) (by kernel_rfl) (fun _ _ _ h => h) (Or.inl ⟨by rfl, ?_⟩) hC_2 ?_
    rotate_left
    · intro w hSw; clear hSw; go_simp; (try with_reducible rfl)
    (try simp only [List.getElem_toArray, List.getElem_cons_succ, List.getElem_cons_zero])
    (try simp only [Act.put, List.setIfInBounds_toArray, List.set_cons_zero, List.set_cons_succ])
    refine wpHold_done (by kernel_rfl) ?_ _
    have HB3 := hide (below_step (unhide HB2) cc_2)
    have HC3 := hide ((unhide HCH).keep cc_2)
    have HW3 := hide (below_step (unhide HW0) cc_2)
    have ⟨m0, m1, m2, m3⟩ := (unhide HC3).cells
    have HLO := hide hlo
    have HHI := hide hhi
    have HRL := hide hrl
    have HRH := hide hrh
    have HGM := hide gm
    clear gm hlo hhi hrl hrh
    clear hC0 hC_1 hC_2 cc_1 cc_2 bd0 hb_1 hb_2
    go_wp2_with fail
    refine (Best_any _ (kOf ps) (pq (wx, wy)) xw_2 (unhide HC3).mod (unhide HSM)).mono ?_
    rintro e w4 (⟨-, v4, G4, x, rfl, hv4, -, hfx, hr4, hb4⟩ | ⟨gn, -⟩)
    rotate_left
    · exact absurd (good_code (unhide HGM)) gn
    have hn8 := (unhide HGM).n8
    have hn1 := (unhide HGM).n1
    rw [unhide HKL] at hn8 hn1 hv4 hfx hr4
    have hn7 : np ≤ 7 := small_seven (unhide HNP) (unhide HSM70) (unhide HGM)
    have HX7 := hide (xbn_seven np hn7)
    have HV4 := hide hv4
    obtain ⟨av, cv, rfl, _, _, _⟩ := hv4
    rw [row_length] at HV4 ⊢
    have HFX := hide hfx
    have HR4 := hide hr4
    have HL4 := hide ((unhide HV1).below hb4)
    have HH4 := hide ((unhide HV2).below hb4)
    have HB4 := hide (below_step (unhide HB3) hb4)
    have HW4 := hide (below_step (unhide HW3) hb4)
    clear hfx hr4 hb4 m0 m1 m2 m3 HC3 HB3 HW3 HV1 HV2
    go_wp2_with fail
    refine (chosen_any w4 (tab_below (unhide HTB) (unhide HB4))).mono ?_
    rintro e w5 ⟨rfl, hb5⟩
    have HV5 := hide ((unhide HV4).below hb5)
    have HL5 := hide ((unhide HL4).below hb5)
    have HH5 := hide ((unhide HH4).below hb5)
    have HB5 := hide (below_step (unhide HB4) hb5)
    have HW5 := hide (below_step (unhide HW4) hb5)
    have ⟨j0, j1, j2⟩ := unhide HGI w5 (unhide HW5)
    have e9 : ((np : Int) == (np : Int)) = true := by rw [beq_iff_eq]
    have HEN : Hid ((mdl (kOf ps) (pq (wx, wy))).n = np) := unhide HKL
    have one : ((1 : Int) : Rat) = 1 := rfl
    have HLE : Hid (∀ s, s < np → rsd (row (Mdp.T (mdl (kOf ps) (pq (wx, wy))) (bf (pqs qs))) np) (pq (wx, wy) / (((1 : Int) : Rat) - pq (wx, wy)) * lo) s ≤ x s) := fun s hs => by
      unfold rsd
      rw [row_get hs, one]
      exact Mdp.low (unhide HGM).ok (v := bf (pqs qs)) (b := x) (M := lo) (fun t ht => unhide HFX t (by rw [← unhide HEN]; exact ht)) (fun t ht => unhide HLO t (by rw [← unhide HEN]; exact ht)) s (by rw [unhide HEN]; exact hs)
    have HGE : Hid (∀ s, s < np → x s ≤ rsd (row (Mdp.T (mdl (kOf ps) (pq (wx, wy))) (bf (pqs qs))) np) (pq (wx, wy) / (((1 : Int) : Rat) - pq (wx, wy)) * hi) s) := fun s hs => by
      unfold rsd
      rw [row_get hs, one]
      exact Mdp.high (unhide HGM).ok (v := bf (pqs qs)) (b := x) (M := hi) (fun t ht => unhide HFX t (by rw [← unhide HEN]; exact ht)) (fun t ht => unhide HHI t (by rw [← unhide HEN]; exact ht)) s (by rw [unhide HEN]; exact hs)
    have HRS : Hid (∀ r, RS r 401 → ∀ s, s < np → RS (rsd (row (Mdp.T (mdl (kOf ps) (pq (wx, wy))) (bf (pqs qs))) np) (pq (wx, wy) / (((1 : Int) : Rat) - pq (wx, wy)) * r) s) 2000000000) := fun r hr s hs => by
      unfold rsd
      rw [row_get hs]
      have hsK : s < (kOf ps).length := by rw [unhide HKL]; exact hs
      have h1 : RS (Mdp.T (mdl (kOf ps) (pq (wx, wy))) (bf (pqs qs)) s) (8 * (1 + 2) + 5) := qv_RS (unhide HSM) (unhide HGM) (x := bf (pqs qs)) (J := 1) (fun t ht => unhide HRQ t (by rw [pqs_length, unhide HLQ, ← unhide HKL]; exact ht)) hsK (Mdp.bst_plan (unhide HGM).ok _ s hsK)
      have hnz : (((1 : Int) : Rat) - pq (wx, wy)).num ≠ 0 := fun z => by
        have hz := Rat.num_eq_zero.1 z
        have hb1 : pq (wx, wy) < 1 := (unhide HGM).ok.b1
        rw [one] at hz
        grind
      have h2 := (unhide HSM).wb.div' (onei_RS.sub' (unhide HSM).wb) hnz
      exact RS.mono (h1.add (h2.mul hr)) (by omega)
    obtain ⟨fl, hfl⟩ : ∃ f : Nat → Rat, rsd (row (Mdp.T (mdl (kOf ps) (pq (wx, wy))) (bf (pqs qs))) np) (pq (wx, wy) / (((1 : Int) : Rat) - pq (wx, wy)) * lo) = f := ⟨_, rfl⟩
    obtain ⟨fh, hfh⟩ : ∃ f : Nat → Rat, rsd (row (Mdp.T (mdl (kOf ps) (pq (wx, wy))) (bf (pqs qs))) np) (pq (wx, wy) / (((1 : Int) : Rat) - pq (wx, wy)) * hi) = f := ⟨_, rfl⟩
    have HRFL : Hid (∀ s, s < np → RS (fl s) 2000000000) := fun s hs => by rw [← hfl]; exact unhide HRS lo (unhide HRL) s hs
    have HRFH : Hid (∀ s, s < np → RS (fh s) 2000000000) := fun s hs => by rw [← hfh]; exact unhide HRS hi (unhide HRH) s hs
    rw [hfl] at HL5 HLE
    rw [hfh] at HH5 HGE
    clear hb5 hfl hfh one HV4 HL4 HH4 HB4 HW4 HRS
    go_wp2_with fail
    clear j0 j1 j2
    go_loopw [12] (fun vi wv => ∃ i : Nat, vi = .int .i64 (i : Int) ∧ i ≤ np ∧ Below w5.heap.size w5 wv) (fun vi _ => np - (intOf vi).toNat)
    case atStart => exact ⟨0, rfl, Nat.zero_le _, Below.refl _ _⟩
    case round =>
      obtain ⟨i, rfl, hi2, hB⟩ := hrel
      have HBB := hide hB
      by_cases hlt : i < np
      · have f1 : (i : Int) < (np : Int) := by omega
        have f0 : (0 : Int) ≤ (i : Int) := by omega
        obtain ⟨a_y, c_y, e_y, _, _, h_y⟩ := (unhide HL5).below hB
        obtain ⟨b, o, rfl, hl_y, hc_y⟩ := h_y (by rw [row_length]; omega)
        have ea_y : a1_ = some ⟨b, o, none⟩ := by injection e_y
        obtain ⟨y_s, y_p1, y_p2, y_n1, y_d1, y_n2, y_d2, ky0, ky1, ky2, r_y⟩ := hc_y i (by rw [row_length]; exact hlt)
        obtain ⟨tx, rfl, rfl, rfl, rfl, rfl, rfl, rfl⟩ : ∃ t : Tri, y_s = t.s ∧ y_p1 = t.a1 ∧ y_p2 = t.a2 ∧ y_n1 = t.n1 ∧ y_d1 = t.c1 ∧ y_n2 = t.n2 ∧ y_d2 = t.c2 := ⟨⟨y_s, y_p1, y_p2, y_n1, y_d1, y_n2, y_d2⟩, rfl, rfl, rfl, rfl, rfl, rfl, rfl⟩
        rw [row_get hlt] at r_y
        obtain ⟨a_x, c_x, e_x, _, _, h_x⟩ := (unhide HV5).below hB
        obtain ⟨bv, ov, rfl, hl_x, hc_x⟩ := h_x (by rw [row_length]; omega)
        have ea_x : av = some ⟨bv, ov, none⟩ := by injection e_x
        obtain ⟨x_s, x_p1, x_p2, x_n1, x_d1, x_n2, x_d2, kx0, kx1, kx2, r_x⟩ := hc_x i (by rw [row_length]; exact hlt)
        obtain ⟨tv, rfl, rfl, rfl, rfl, rfl, rfl, rfl⟩ : ∃ t : Tri, x_s = t.s ∧ x_p1 = t.a1 ∧ x_p2 = t.a2 ∧ x_n1 = t.n1 ∧ x_d1 = t.c1 ∧ x_n2 = t.n2 ∧ x_d2 = t.c2 := ⟨⟨x_s, x_p1, x_p2, x_n1, x_d1, x_n2, x_d2⟩, rfl, rfl, rfl, rfl, rfl, rfl, rfl⟩
        rw [row_get hlt] at r_x
        obtain ⟨a_u, c_u, e_u, _, _, h_u⟩ := (unhide HH5).below hB
        obtain ⟨bu, ou, rfl, hl_u, hc_u⟩ := h_u (by rw [row_length]; omega)
        have ea_u : a2_ = some ⟨bu, ou, none⟩ := by injection e_u
        obtain ⟨u_s, u_p1, u_p2, u_n1, u_d1, u_n2, u_d2, ku0, ku1, ku2, r_u⟩ := hc_u i (by rw [row_length]; exact hlt)
        obtain ⟨tu, rfl, rfl, rfl, rfl, rfl, rfl, rfl⟩ : ∃ t : Tri, u_s = t.s ∧ u_p1 = t.a1 ∧ u_p2 = t.a2 ∧ u_n1 = t.n1 ∧ u_d1 = t.c1 ∧ u_n2 = t.n2 ∧ u_d2 = t.c2 := ⟨⟨u_s, u_p1, u_p2, u_n1, u_d1, u_n2, u_d2⟩, rfl, rfl, rfl, rfl, rfl, rfl, rfl⟩
        rw [row_get hlt] at r_u
        have HCC : Hid (∀ W, Below wr.heap.size wr W → (fun w' : World => (w'.cell? ⟨b, o + i * 3, none⟩ = some (.bool tx.s) ∧ w'.cell? ⟨b, o + i * 3 + 1, none⟩ = some (.slice tx.a1 tx.n1 tx.c1) ∧ w'.cell? ⟨b, o + i * 3 + 2, none⟩ = some (.slice tx.a2 tx.n2 tx.c2)) ∧ (w'.cell? ⟨bv, ov + i * 3, none⟩ = some (.bool tv.s) ∧ w'.cell? ⟨bv, ov + i * 3 + 1, none⟩ = some (.slice tv.a1 tv.n1 tv.c1) ∧ w'.cell? ⟨bv, ov + i * 3 + 2, none⟩ = some (.slice tv.a2 tv.n2 tv.c2)) ∧ w'.cell? ⟨bu, ou + i * 3, none⟩ = some (.bool tu.s) ∧ w'.cell? ⟨bu, ou + i * 3 + 1, none⟩ = some (.slice tu.a1 tu.n1 tu.c1) ∧ w'.cell? ⟨bu, ou + i * 3 + 2, none⟩ = some (.slice tu.a2 tu.n2 tu.c2)) W) := fun W hW => by
          refine ⟨?_, ?_, ?_⟩
          · rw [hW.cell (p := ⟨b, o + i * 3, none⟩) hl_y, hW.cell (p := ⟨b, o + i * 3 + 1, none⟩) hl_y, hW.cell (p := ⟨b, o + i * 3 + 2, none⟩) hl_y]; exact ⟨ky0, ky1, ky2⟩
          · rw [hW.cell (p := ⟨bv, ov + i * 3, none⟩) hl_x, hW.cell (p := ⟨bv, ov + i * 3 + 1, none⟩) hl_x, hW.cell (p := ⟨bv, ov + i * 3 + 2, none⟩) hl_x]; exact ⟨kx0, kx1, kx2⟩
          · rw [hW.cell (p := ⟨bu, ou + i * 3, none⟩) hl_u, hW.cell (p := ⟨bu, ou + i * 3 + 1, none⟩) hl_u, hW.cell (p := ⟨bu, ou + i * 3 + 2, none⟩) hl_u]; exact ⟨ku0, ku1, ku2⟩
        have hc1 := cmpv_le (unhide HLE i hlt)
        obtain ⟨cz, hcz⟩ : ∃ z, cmpv (fl i) (x i) = z := ⟨_, rfl⟩
        rw [hcz] at hc1
        have hc2 := cmpv_le (unhide HGE i hlt)
        obtain ⟨cy, hcy⟩ : ∃ z, cmpv (x i) (fh i) = z := ⟨_, rfl⟩
        rw [hcy] at hc2
        have hrx := (unhide HR4 i).mono (unhide HX7)
        have HCM : Hid (∀ W, Below wr.heap.size wr W → Calls Tryz.prog 15 #[.agg #[.bool tx.s, .slice tx.a1 tx.n1 tx.c1, .slice tx.a2 tx.n2 tx.c2], .agg #[.bool tv.s, .slice tv.a1 tv.n1 tv.c1, .slice tv.a2 tv.n2 tv.c2]] W fun e w' => e = .returned (.int .i64 cz) ∧ Below W.heap.size W w') := fun W hW => by
          have := cmpR_all tx.val tv.val _ _ W (r_y.below hW) (r_x.below hW) 2000000000 (unhide HRFL i hlt) hrx (by rw [KKe]; omega)
          rw [hcz] at this
          exact this
        have HCN : Hid (∀ W, Below wr.heap.size wr W → Calls Tryz.prog 15 #[.agg #[.bool tv.s, .slice tv.a1 tv.n1 tv.c1, .slice tv.a2 tv.n2 tv.c2], .agg #[.bool tu.s, .slice tu.a1 tu.n1 tu.c1, .slice tu.a2 tu.n2 tu.c2]] W fun e w' => e = .returned (.int .i64 cy) ∧ Below W.heap.size W w') := fun W hW => by
          have := cmpR_all tv.val tu.val _ _ W (r_x.below hW) (r_u.below hW) 2000000000 hrx (unhide HRFH i hlt) (by rw [KKe]; omega)
          rw [hcy] at this
          exact this
        have hd : decide (0 < cz) = false := decide_eq_false (by omega)
        have hd' : decide (0 < cy) = false := decide_eq_false (by omega)
        rw [ea_y, ea_x, ea_u]
        clear hB e_y h_y hc_y ea_y ky0 ky1 ky2 r_y e_x h_x hc_x ea_x kx0 kx1 kx2 r_x e_u h_u hc_u ea_u ku0 ku1 ku2 r_u hc1 hc2 hcz hcy hrx
        go_wp2_with fail
        refine wp_region_hold (fun w' : World => (w'.cell? ⟨b, o + i * 3, none⟩ = some (.bool tx.s) ∧ w'.cell? ⟨b, o + i * 3 + 1, none⟩ = some (.slice tx.a1 tx.n1 tx.c1) ∧ w'.cell? ⟨b, o + i * 3 + 2, none⟩ = some (.slice tx.a2 tx.n2 tx.c2)) ∧ (w'.cell? ⟨bv, ov + i * 3, none⟩ = some (.bool tv.s) ∧ w'.cell? ⟨bv, ov + i * 3 + 1, none⟩ = some (.slice tv.a1 tv.n1 tv.c1) ∧ w'.cell? ⟨bv, ov + i * 3 + 2, none⟩ = some (.slice tv.a2 tv.n2 tv.c2)) ∧ w'.cell? ⟨bu, ou + i * 3, none⟩ = some (.bool tu.s) ∧ w'.cell? ⟨bu, ou + i * 3 + 1, none⟩ = some (.slice tu.a1 tu.n1 tu.c1) ∧ w'.cell? ⟨bu, ou + i * 3 + 2, none⟩ = some (.slice tu.a2 tu.n2 tu.c2)) (by kernel_rfl) ?_
        have bd0 : Below wr.heap.size wr wr.drew := (Below.refl _ _).drew
        have hC0 : (fun w' : World => (w'.cell? ⟨b, o + i * 3, none⟩ = some (.bool tx.s) ∧ w'.cell? ⟨b, o + i * 3 + 1, none⟩ = some (.slice tx.a1 tx.n1 tx.c1) ∧ w'.cell? ⟨b, o + i * 3 + 2, none⟩ = some (.slice tx.a2 tx.n2 tx.c2)) ∧ (w'.cell? ⟨bv, ov + i * 3, none⟩ = some (.bool tv.s) ∧ w'.cell? ⟨bv, ov + i * 3 + 1, none⟩ = some (.slice tv.a1 tv.n1 tv.c1) ∧ w'.cell? ⟨bv, ov + i * 3 + 2, none⟩ = some (.slice tv.a2 tv.n2 tv.c2)) ∧ w'.cell? ⟨bu, ou + i * 3, none⟩ = some (.bool tu.s) ∧ w'.cell? ⟨bu, ou + i * 3 + 1, none⟩ = some (.slice tu.a1 tu.n1 tu.c1) ∧ w'.cell? ⟨bu, ou + i * 3 + 2, none⟩ = some (.slice tu.a2 tu.n2 tu.c2)) wr.drew := unhide HCC _ bd0
        refine wpHold_take (i := 0) (v := ?_) rfl (by kernel_rfl) (by kernel_rfl) (by kernel_rfl) (fun _ _ _ h => h) (Or.inl ⟨by rfl, ?_⟩) hC0 ?_
        rotate_left
        · intro w hSw; clear hSw; go_simp; (try with_reducible rfl)
        (try simp only [List.getElem_toArray, List.getElem_cons_succ, List.getElem_cons_zero])
        (try simp only [Act.put, List.setIfInBounds_toArray, List.set_cons_zero, List.set_cons_succ])
        refine wpHold_take (i := 1) (v := ?_) rfl (by kernel_rfl) (by kernel_rfl) (by kernel_rfl) (fun _ _ _ h => h) (Or.inl ⟨by rfl, ?_⟩) hC0 ?_
        rotate_left
        · intro w hSw; clear hSw; go_simp; (try with_reducible rfl)
        (try simp only [List.getElem_toArray, List.getElem_cons_succ, List.getElem_cons_zero])
        (try simp only [Act.put, List.setIfInBounds_toArray, List.set_cons_zero, List.set_cons_succ])
        refine wpHold_take (i := 2) (v := ?_) rfl (by kernel_rfl) (by kernel_rfl) (by kernel_rfl) (fun _ _ _ h => h) (Or.inl ⟨by rfl, ?_⟩) hC0 ?_
        rotate_left
        · intro w hSw; clear hSw; go_simp; (try with_reducible rfl)
        (try simp only [List.getElem_toArray, List.getElem_cons_succ, List.getElem_cons_zero])
        (try simp only [Act.put, List.setIfInBounds_toArray, List.set_cons_zero, List.set_cons_succ])
        refine wpHold_take (i := 3) (v := ?_) rfl (by kernel_rfl) (by kernel_rfl) (by kernel_rfl) (fun _ _ _ h => h) (Or.inl ⟨by rfl, ?_⟩) hC0 ?_
        rotate_left
        · intro w hSw; (try dsimp only at hSw); obtain ⟨⟨z0, z1, z2⟩, ⟨z3, z4, z5⟩, z6, z7, z8⟩ := hSw; go_simp; (try with_reducible rfl)
        (try simp only [List.getElem_toArray, List.getElem_cons_succ, List.getElem_cons_zero])
        (try simp only [Act.put, List.setIfInBounds_toArray, List.set_cons_zero, List.set_cons_succ])
        refine wpHold_take (i := 4) (v := ?_) rfl (by kernel_rfl) (by kernel_rfl) (by kernel_rfl) (fun _ _ _ h => h) (Or.inl ⟨by rfl, ?_⟩) hC0 ?_
        rotate_left
        · intro w hSw; clear hSw; go_simp; (try with_reducible rfl)
        (try simp only [List.getElem_toArray, List.getElem_cons_succ, List.getElem_cons_zero])
        (try simp only [Act.put, List.setIfInBounds_toArray, List.set_cons_zero, List.set_cons_succ])
        refine wpHold_take (i := 5) (v := ?_) rfl (by kernel_rfl) (by kernel_rfl) (by kernel_rfl) (fun _ _ _ h => h) (Or.inl ⟨by rfl, ?_⟩) hC0 ?_
        rotate_left
        · intro w hSw; clear hSw; go_simp; (try with_reducible rfl)
        (try simp only [List.getElem_toArray, List.getElem_cons_succ, List.getElem_cons_zero])
        (try simp only [Act.put, List.setIfInBounds_toArray, List.set_cons_zero, List.set_cons_succ])
        refine wpHold_take (i := 6) (v := ?_) rfl (by kernel_rfl) (by kernel_rfl) (by kernel_rfl) (fun _ _ _ h => h) (Or.inl ⟨by rfl, ?_⟩) hC0 ?_
        rotate_left
        · intro w hSw; clear hSw; go_simp; (try with_reducible rfl)
        (try simp only [List.getElem_toArray, List.getElem_cons_succ, List.getElem_cons_zero])
        (try simp only [Act.put, List.setIfInBounds_toArray, List.set_cons_zero, List.set_cons_succ])
        refine wpHold_take (i := 7) (v := ?_) rfl (by kernel_rfl) (by kernel_rfl) (by kernel_rfl) (fun _ _ _ h => h) (Or.inl ⟨by rfl, ?_⟩) hC0 ?_
        rotate_left
        · intro w hSw; (try dsimp only at hSw); obtain ⟨⟨z0, z1, z2⟩, ⟨z3, z4, z5⟩, z6, z7, z8⟩ := hSw; go_simp; (try with_reducible rfl)
        (try simp only [List.getElem_toArray, List.getElem_cons_succ, List.getElem_cons_zero])
        (try simp only [Act.put, List.setIfInBounds_toArray, List.set_cons_zero, List.set_cons_succ])
        refine wpHold_one (k := 8) (by kernel_rfl) rfl (fun K hK => ?_)
        (try simp only [List.getElem_toArray, List.getElem_cons_succ, List.getElem_cons_zero])
        go_simp
        refine (unhide HCM _ bd0).mono ?_
        rintro e xw_1 ⟨rfl, hb_1⟩
        have cc_1 := below_step bd0 hb_1
        have hC_1 : (fun w' : World => (w'.cell? ⟨b, o + i * 3, none⟩ = some (.bool tx.s) ∧ w'.cell? ⟨b, o + i * 3 + 1, none⟩ = some (.slice tx.a1 tx.n1 tx.c1) ∧ w'.cell? ⟨b, o + i * 3 + 2, none⟩ = some (.slice tx.a2 tx.n2 tx.c2)) ∧ (w'.cell? ⟨bv, ov + i * 3, none⟩ = some (.bool tv.s) ∧ w'.cell? ⟨bv, ov + i * 3 + 1, none⟩ = some (.slice tv.a1 tv.n1 tv.c1) ∧ w'.cell? ⟨bv, ov + i * 3 + 2, none⟩ = some (.slice tv.a2 tv.n2 tv.c2)) ∧ w'.cell? ⟨bu, ou + i * 3, none⟩ = some (.bool tu.s) ∧ w'.cell? ⟨bu, ou + i * 3 + 1, none⟩ = some (.slice tu.a1 tu.n1 tu.c1) ∧ w'.cell? ⟨bu, ou + i * 3 + 2, none⟩ = some (.slice tu.a2 tu.n2 tu.c2)) xw_1 := unhide HCC _ cc_1
        refine hK.out _ _ hC_1 ?_
        clear hK K
        (try simp only [Act.put, List.setIfInBounds_toArray, List.set_cons_zero, List.set_cons_succ])
        refine wpHold_take (i := 9) (v := ?_) rfl (by kernel_rfl) (by kernel_rfl) (by kernel_rfl) (fun _ _ _ h => h) (Or.inl ⟨by rfl, ?_⟩) hC_1 ?_
        rotate_left
        · intro w hSw; clear hSw; go_simp; (try with_reducible rfl)
        (try simp only [List.getElem_toArray, List.getElem_cons_succ, List.getElem_cons_zero])
        (try simp only [Act.put, List.setIfInBounds_toArray, List.set_cons_zero, List.set_cons_succ])
        refine wpHold_take (i := 10) (v := ?_) rfl (by kernel_rfl) (by kernel_rfl) (by kernel_rfl) (fun _ _ _ h => h) (Or.inl ⟨by rfl, ?_⟩) hC_1 ?_
        rotate_left
        · intro w hSw; clear hSw; go_simp; (try with_reducible rfl)
        (try simp only [List.getElem_toArray, List.getElem_cons_succ, List.getElem_cons_zero])
        (try simp only [Act.put, List.setIfInBounds_toArray, List.set_cons_zero, List.set_cons_succ])
        refine wpHold_take (i := 11) (v := ?_) rfl (by kernel_rfl) (by kernel_rfl) (by kernel_rfl) (fun _ _ _ h => h) (Or.inl ⟨by rfl, ?_⟩) hC_1 ?_
        rotate_left
        · intro w hSw; clear hSw; go_simp; (try with_reducible rfl)
        (try simp only [List.getElem_toArray, List.getElem_cons_succ, List.getElem_cons_zero])
        (try simp only [Act.put, List.setIfInBounds_toArray, List.set_cons_zero, List.set_cons_succ])
        refine wpHold_take (i := 12) (v := ?_) rfl (by kernel_rfl) (by kernel_rfl) (by kernel_rfl) (fun _ _ _ h => h) (Or.inl ⟨by rfl, ?_⟩) hC_1 ?_
        rotate_left
        · intro w hSw; clear hSw; go_simp; (try with_reducible rfl)
        (try simp only [List.getElem_toArray, List.getElem_cons_succ, List.getElem_cons_zero])
        (try simp only [Act.put, List.setIfInBounds_toArray, List.set_cons_zero, List.set_cons_succ])
        refine wpHold_take (i := 13) (v := ?_) rfl (by kernel_rfl) (by kernel_rfl) (by kernel_rfl) (fun _ _ _ h => h) (Or.inl ⟨by rfl, ?_⟩) hC_1 ?_
        rotate_left
        · intro w hSw; clear hSw; go_simp; (try with_reducible rfl)
        (try simp only [List.getElem_toArray, List.getElem_cons_succ, List.getElem_cons_zero])
        (try simp only [Act.put, List.setIfInBounds_toArray, List.set_cons_zero, List.set_cons_succ])
        refine wpHold_take (i := 14) (v := ?_) rfl (by kernel_rfl) (by kernel_rfl) (by kernel_rfl) (fun _ _ _ h => h) (Or.inl ⟨by rfl, ?_⟩) hC_1 ?_
        rotate_left
        · intro w hSw; (try dsimp only at hSw); obtain ⟨⟨z0, z1, z2⟩, ⟨z3, z4, z5⟩, z6, z7, z8⟩ := hSw; go_simp; (try with_reducible rfl)
        (try simp only [List.getElem_toArray, List.getElem_cons_succ, List.getElem_cons_zero])
        (try simp only [Act.put, List.setIfInBounds_toArray, List.set_cons_zero, List.set_cons_succ])
        refine wpHold_take (i := 15) (v := ?_) rfl (by kernel_rfl) (by kernel_rfl) (by kernel_rfl) (fun _ _ _ h => h) (Or.inl ⟨by rfl, ?_⟩) hC_1 ?_
        rotate_left
        · intro w hSw; clear hSw; go_simp; (try with_reducible rfl)
        (try simp only [List.getElem_toArray, List.getElem_cons_succ, List.getElem_cons_zero])
        (try simp only [Act.put, List.setIfInBounds_toArray, List.set_cons_zero, List.set_cons_succ])
        refine wpHold_take (i := 16) (v := ?_) rfl (by kernel_rfl) (by kernel_rfl) (by kernel_rfl) (fun _ _ _ h => h) (Or.inl ⟨by rfl, ?_⟩) hC_1 ?_
        rotate_left
        · intro w hSw; clear hSw; go_simp; (try with_reducible rfl)
        (try simp only [List.getElem_toArray, List.getElem_cons_succ, List.getElem_cons_zero])
        (try simp only [Act.put, List.setIfInBounds_toArray, List.set_cons_zero, List.set_cons_succ])
        refine wpHold_take (i := 17) (v := ?_) rfl (by kernel_rfl) (by kernel_rfl) (by kernel_rfl) (fun _ _ _ h => h) (Or.inl ⟨by rfl, ?_⟩) hC_1 ?_
        rotate_left
        · intro w hSw; clear hSw; go_simp; (try with_reducible rfl)
        (try simp only [List.getElem_toArray, List.getElem_cons_succ, List.getElem_cons_zero])
        (try simp only [Act.put, List.setIfInBounds_toArray, List.set_cons_zero, List.set_cons_succ])
        refine wpHold_take (i := 18) (v := ?_) rfl (by kernel_rfl) (by kernel_rfl) (by kernel_rfl) (fun _ _ _ h => h) (Or.inl ⟨by rfl, ?_⟩) hC_1 ?_
        rotate_left
        · intro w hSw; (try dsimp only at hSw); obtain ⟨⟨z0, z1, z2⟩, ⟨z3, z4, z5⟩, z6, z7, z8⟩ := hSw; go_simp; (try with_reducible rfl)
        (try simp only [List.getElem_toArray, List.getElem_cons_succ, List.getElem_cons_zero])
        (try simp only [Act.put, List.setIfInBounds_toArray, List.set_cons_zero, List.set_cons_succ])
        refine wpHold_one (k := 19) (by kernel_rfl) rfl (fun K hK => ?_)
        (try simp only [List.getElem_toArray, List.getElem_cons_succ, List.getElem_cons_zero])
        go_simp
        refine (unhide HCN _ cc_1).mono ?_
        rintro e xw_2 ⟨rfl, hb_2⟩
        have cc_2 := below_step cc_1 hb_2
        have hC_2 : (fun w' : World => (w'.cell? ⟨b, o + i * 3, none⟩ = some (.bool tx.s) ∧ w'.cell? ⟨b, o + i * 3 + 1, none⟩ = some (.slice tx.a1 tx.n1 tx.c1) ∧ w'.cell? ⟨b, o + i * 3 + 2, none⟩ = some (.slice tx.a2 tx.n2 tx.c2)) ∧ (w'.cell? ⟨bv, ov + i * 3, none⟩ = some (.bool tv.s) ∧ w'.cell? ⟨bv, ov + i * 3 + 1, none⟩ = some (.slice tv.a1 tv.n1 tv.c1) ∧ w'.cell? ⟨bv, ov + i * 3 + 2, none⟩ = some (.slice tv.a2 tv.n2 tv.c2)) ∧ w'.cell? ⟨bu, ou + i * 3, none⟩ = some (.bool tu.s) ∧ w'.cell? ⟨bu, ou + i * 3 + 1, none⟩ = some (.slice tu.a1 tu.n1 tu.c1) ∧ w'.cell? ⟨bu, ou + i * 3 + 2, none⟩ = some (.slice tu.a2 tu.n2 tu.c2)) xw_2 := unhide HCC _ cc_2
        refine hK.out _ _ hC_2 ?_
        clear hK K
        (try simp only [Act.put, List.setIfInBounds_toArray, List.set_cons_zero, List.set_cons_succ])
        refine wpHold_take (i := 20) (v := ?_) rfl (by kernel_rfl) (by kernel_rfl) (by kernel_rfl) (fun _ _ _ h => h) (Or.inl ⟨by rfl, ?_⟩) hC_2 ?_
        rotate_left
        · intro w hSw; clear hSw; go_simp; (try with_reducible rfl)
        (try simp only [List.getElem_toArray, List.getElem_cons_succ, List.getElem_cons_zero])
        (try simp only [Act.put, List.setIfInBounds_toArray, List.set_cons_zero, List.set_cons_succ])
        refine wpHold_take (i := 21) (v := ?_) rfl (by kernel_rfl) (by kernel_rfl) (by kernel_rfl) (fun _ _ _ h => h) (Or.inl ⟨by rfl, ?_⟩) hC_2 ?_
        rotate_left
        · intro w hSw; clear hSw; go_simp; (try with_reducible rfl)
        (try simp only [List.getElem_toArray, List.getElem_cons_succ, List.getElem_cons_zero])
        (try simp only [Act.put, List.setIfInBounds_toArray, List.set_cons_zero, List.set_cons_succ])
        refine wpHold_done (by kernel_rfl) ?_ _
        have HB3 := hide (below_step (unhide HBB) cc_2)
        clear hC0 hC_1 hC_2 cc_1 cc_2 bd0 hb_1 hb_2 HCC HCM HCN
        go_wp2_with fail
        exact ⟨⟨i + 1, by go_num, hlt, unhide HB3⟩, by simp [intOf]; omega⟩
      · obtain rfl : i = np := by omega
        have f1 : ¬ (i : Int) < (i : Int) := by omega
        clear hB
        go_wp2
        go_ret
        exact ⟨rfl, below_step (unhide HB5) (unhide HBB)⟩
  · skip
    have cc_2 := below_step cc_1 hb_2
    have hC_2 : (fun W : World => W.cell? ⟨gc, 0, none⟩ = some (.slice lm.a np lm.c) ∧ W.cell? ⟨gc, 1, none⟩ = some (.bool tm.s) ∧ W.cell? ⟨gc, 2, none⟩ = some (.slice tm.a1 tm.n1 tm.c1) ∧ W.cell? ⟨gc, 3, none⟩ = some (.slice tm.a2 tm.n2 tm.c2)) xw_2 := unhide HCC _ cc_2
    refine hK.out _ _ hC_2 ?_
    clear hK K
    (try simp only [Act.put, List.setIfInBounds_toArray, List.set_cons_zero, List.set_cons_succ])
    refine wpHold_take (i := 4) (v := ?_) rfl (by kernel_rfl) (by kernel_rfl) (by kernel_rfl) (fun _ _ _ h => h) (Or.inl ⟨by rfl, ?_⟩) hC_2 ?_
    rotate_left
    · intro w hSw; clear hSw; go_simp; (try with_reducible rfl)
    (try simp only [List.getElem_toArray, List.getElem_cons_succ, List.getElem_cons_zero])
    (try simp only [Act.put, List.setIfInBounds_toArray, List.set_cons_zero, List.set_cons_succ])
    refine wpHold_take (i := 5) (v := ?_) rfl (by kernel_rfl) (by kernel_rfl) (by kernel_rfl) (fun _ _ _ h => h) (Or.inl ⟨by rfl, ?_⟩) hC_2 ?_
    rotate_left
    · intro w hSw; clear hSw; go_simp; (try with_reducible rfl)
    (try simp only [List.getElem_toArray, List.getElem_cons_succ, List.getElem_cons_zero])
    (try simp only [Act.put, List.setIfInBounds_toArray, List.set_cons_zero, List.set_cons_succ])
    refine wpHold_take (i := 6) (v := ?_) rfl (by kernel_rfl) (by kernel_rfl) (by kernel_rfl) (fun _ _ _ h => h) (Or.inl ⟨by rfl, ?_⟩) hC_2 ?_
    rotate_left
    · intro w hSw; clear hSw; go_simp; (try with_reducible rfl)
    (try simp only [List.getElem_toArray, List.getElem_cons_succ, List.getElem_cons_zero])
    (try simp only [Act.put, List.setIfInBounds_toArray, List.set_cons_zero, List.set_cons_succ])
    refine wpHold_take (i := 7) (v := ?_) rfl (by kernel_rfl) (by kernel_rfl) (by kernel_rfl) (fun _ _ _ h => h) (Or.inl ⟨by rfl, ?_⟩) hC_2 ?_
    rotate_left
    · intro w hSw; clear hSw; go_simp; (try with_reducible rfl)
    (try simp only [List.getElem_toArray, List.getElem_cons_succ, List.getElem_cons_zero])
    (try simp only [Act.put, List.setIfInBounds_toArray, List.set_cons_zero, List.set_cons_succ])
    refine wpHold_take (i := 8) (v := ?_) rfl (by kernel_rfl) (by kernel_rfl) (by kernel_rfl) (fun _ _ _ h => h) (Or.inl ⟨by rfl, ?_⟩) hC_2 ?_
    rotate_left
    · intro w hSw; clear hSw; go_simp; (try with_reducible rfl)
    (try simp only [List.getElem_toArray, List.getElem_cons_succ, List.getElem_cons_zero])
    (try simp only [Act.put, List.setIfInBounds_toArray, List.set_cons_zero, List.set_cons_succ])
    refine wpHold_take (i := 9) (v := ?_) rfl (by kernel_rfl) (by kernel_rfl) (by kernel_rfl) (fun _ _ _ h => h) (Or.inl ⟨by rfl, ?_⟩) hC_2 ?_
    rotate_left
    · intro w hSw; clear hSw; go_simp; (try with_reducible rfl)
    (try simp only [List.getElem_toArray, List.getElem_cons_succ, List.getElem_cons_zero])
    (try simp only [Act.put, List.setIfInBounds_toArray, List.set_cons_zero, List.set_cons_succ])
    refine wpHold_take (i := 10) (v := ?_) rfl (by kernel_rfl) (by kernel_rfl) (by kernel_rfl) (fun _ _ _ h => h) (Or.inl ⟨by rfl, ?_⟩) hC_2 ?_
    rotate_left
    · intro w hSw; clear hSw; go_simp; (try with_reducible rfl)
    (try simp only [List.getElem_toArray, List.getElem_cons_succ, List.getElem_cons_zero])
    (try simp only [Act.put, List.setIfInBounds_toArray, List.set_cons_zero, List.set_cons_succ])
    refine wpHold_done (by kernel_rfl) ?_ _
    have HB3 := hide (below_step (unhide HB2) cc_2)
    have HC3 := hide ((unhide HCH).keep cc_2)
    have ⟨m0, m1, m2, m3⟩ := (unhide HC3).cells
    have HNC : Hid (mcode (kOf ps) (pq (wx, wy)) ≠ 0) := fun x => gn ⟨x, by rw [pqs_length, unhide HLQ]; exact (unhide HKL).symm⟩
    clear gn HVF
    clear hC0 hC_1 hC_2 cc_1 cc_2 bd0 hb_1 hb_2
    go_wp2_with fail
    refine (Best_any _ (kOf ps) (pq (wx, wy)) xw_2 (unhide HC3).mod (unhide HSM)).mono ?_
    rintro e w4 (⟨gm, -⟩ | ⟨-, k4, rfl, hb4⟩)
    · exact absurd (good_code gm) (unhide HNC)
    have HB4 := hide (below_step (unhide HB3) hb4)
    clear hb4 m0 m1 m2 m3 HC3 HB3
    go_wp2_with fail
    refine (chosen_any w4 (tab_below (unhide HTB) (unhide HB4))).mono ?_
    rintro e w5 ⟨rfl, hb5⟩
    have HB5 := hide (below_step (unhide HB4) hb5)
    clear hb5 HB4
    go_wp2_with fail
    refine (chosen_any w5 (tab_below (unhide HTB) (unhide HB5))).mono ?_
    rintro e w6 ⟨rfl, hb6⟩
    have HB6 := hide (below_step (unhide HB5) hb6)
    clear hb6 HB5
    go_wp2
    go_ret
    exact ⟨rfl, unhide HB6⟩

end Go.Proofs.YtaacibgmdeoikaaGreatDoor
