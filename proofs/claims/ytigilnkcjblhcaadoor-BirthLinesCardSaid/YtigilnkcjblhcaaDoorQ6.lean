/- Erlang's B and C: Lost, Wait. -/
import Derived.Test.YtigilnkcjblhcaaDoorQ5
namespace Go.Proofs.YtigilnkcjblhcaaDoor
open Go.RowKit Go.Sort Go.Shelf

theorem ws_RS {a : Rat} (ha : RS a 1) {c : Nat} (hc : c ≤ 21) : RS (Bth.ws a c) 1500 := by
  have rsr : ∀ j, j < (row (Bth.wt a) c).length → RS (row (Bth.wt a) c)[j]! 51 := fun j hj => by
    rw [row_length] at hj
    rw [row_get hj]
    exact (wt_RS ha j (by omega)).mono (by omega)
  have := qsum_RS rsr c (by rw [row_length]; exact Nat.le_refl _)
  rw [qsum_row _ _ _ (Nat.le_refl _)] at this
  exact this.mono (by omega)
theorem pos_num {q : Rat} (h : 0 < q) : q.num ≠ 0 := fun e => by
  rw [Rat.num_eq_zero.1 e] at h
  exact absurd h (by decide)
theorem eb_RS {a : Rat} (ha : RS a 1) (h0 : 0 ≤ a) {c : Nat} (hc : c ≤ 20) : RS (Bth.eb a c) 1600 :=
  (RS.div' (wt_RS ha c (by omega)) (ws_RS ha (show c + 1 ≤ 21 by omega)) (pos_num (Bth.ws_pos h0 c))).mono (by omega)

/-- The boxes that Lost begins with. -/
def lostW (w : World) (t : Tri) : World := (w.alloc (.cells #[.bool t.s, .slice t.a1 t.n1 t.c1, .slice t.a2 t.n2 t.c2] 34)).alloc (.cells #[.bool false, .slice none 0 0, .slice none 0 0] 34)

set_option maxHeartbeats 8000000 in
set_option maxRecDepth 100000 in
set_option linter.unusedSimpArgs false in
theorem lost_any (v : Value) (a : Rat) (c : Nat) (w : World) (h : RatIs w v a) (ha : RS a 1) (h0 : 0 ≤ a) (hc : c ≤ 20) :
    Calls Tryd.prog 15 #[v, .int .i64 (c : Int)] w fun e w' => ∃ v, e = .returned (.tuple #[v, .nilIface]) ∧ RatIs w' v (Bth.eb a c) ∧ Below w.heap.size w w' := by
  obtain ⟨t, rfl, h'⟩ := tri_of h
  have KKe : KK = 1099511627776 := rfl
  have X0 := (BoxIs.new h').keep (alloc_below _ (.cells #[.bool false, .slice none 0 0, .slice none 0 0] 34))
  have X1 := BoxIs.new (w := w.alloc (.cells #[.bool t.s, .slice t.a1 t.n1 t.c1, .slice t.a2 t.n2 t.c2] 34)) (t := zTri) (q := 0) (rat_zero _)
  have b0 := below_step (alloc_below w (.cells #[.bool t.s, .slice t.a1 t.n1 t.c1, .slice t.a2 t.n2 t.c2] 34)) (alloc_below _ (.cells #[.bool false, .slice none 0 0, .slice none 0 0] 34))
  obtain ⟨W0, hW0⟩ : ∃ W, (w.alloc (.cells #[.bool t.s, .slice t.a1 t.n1 t.c1, .slice t.a2 t.n2 t.c2] 34)).alloc (.cells #[.bool false, .slice none 0 0, .slice none 0 0] 34) = W := ⟨_, rfl⟩
  have X1' : BoxIs W0 (w.heap.size + 1) zTri 0 := by rw [← hW0]; rw [alloc_size] at X1; exact X1
  rw [hW0] at X0 b0
  have HX0 := hide X0
  have HX1 := hide X1'
  have HB0 := hide b0
  have HG1 : Hid (w.heap.size ≤ w.heap.size + 1) := Nat.le_succ _
  have ⟨c0, c1, c2⟩ := X0.cells _ (Below.refl _ _)
  simp only [Tri.val]
  clear h h' X0 X1 X1' b0
  have HRA := hide ha
  have HH0 := hide h0
  have HAL := hide (allowed_ok t.val a c W0 (unhide HX0).2 (Rat.num_nonneg.2 h0) (by omega))
  simp only [Tri.val] at HAL
  clear h0 ha
  go_enter Tryd.func15, Tryd.ntmps15
  go_wp2_with fail
  refine (unhide HAL).mono ?_
  rintro e w1 ⟨rfl, hb1⟩
  clear HAL c0 c1 c2 hW0
  have HX0a := hide ((unhide HX0).keep hb1)
  have HX1a := hide ((unhide HX1).keep hb1)
  have HB1 := hide (below_step (unhide HB0) hb1)
  have ⟨c0, c1, c2⟩ := (unhide HX0a).cells _ (Below.refl _ _)
  have HWT := hide (weights_any t.val a c w1 (unhide HX0a).2 (unhide HRA) hc)
  simp only [Tri.val] at HWT
  clear hb1 HX0 HX1 HB0
  go_wp2_with fail
  refine (unhide HWT).mono ?_
  rintro e w2 ⟨v2, rfl, hL, hb2⟩
  have HL := hide hL
  obtain ⟨aL, cL, rfl, k1, k2, k3⟩ := hL
  rw [row_length] at k1 k3
  obtain ⟨bL, oL, rfl, hbL, hcL⟩ := k3 (by omega)
  obtain ⟨xs, xp1, xp2, xn1, xd1, xn2, xd2, xk0, xk1, xk2, xr⟩ := hcL c (by omega)
  obtain ⟨tx, rfl, rfl, rfl, rfl, rfl, rfl, rfl⟩ : ∃ t : Tri, xs = t.s ∧ xp1 = t.a1 ∧ xp2 = t.a2 ∧ xn1 = t.n1 ∧ xd1 = t.c1 ∧ xn2 = t.n2 ∧ xd2 = t.c2 := ⟨⟨xs, xp1, xp2, xn1, xd1, xn2, xd2⟩, rfl, rfl, rfl, rfl, rfl, rfl, rfl⟩
  rw [row_get (by omega)] at xr
  have HX1b := hide ((unhide HX1a).keep hb2)
  have HB2 := hide (below_step (unhide HB1) hb2)
  have HXR := hide xr
  have e1 : (c : Int) < (c : Int) + 1 := by omega
  have e2 : (0 : Int) ≤ (c : Int) := by omega
  rw [row_length]
  clear HWT c0 c1 c2 hb2 HX0a HX1a HB1 xr hcL
  have HCC : Hid (∀ W, Below w2.heap.size w2 W → (fun w' : World => (w'.cell? ⟨bL, oL + c * 3, none⟩ = some (.bool tx.s) ∧ w'.cell? ⟨bL, oL + c * 3 + 1, none⟩ = some (.slice tx.a1 tx.n1 tx.c1) ∧ w'.cell? ⟨bL, oL + c * 3 + 2, none⟩ = some (.slice tx.a2 tx.n2 tx.c2))) W) := fun W hW => by
    show _ ∧ _ ∧ _
    rw [hW.cell (p := ⟨bL, oL + c * 3, none⟩) hbL, hW.cell (p := ⟨bL, oL + c * 3 + 1, none⟩) hbL, hW.cell (p := ⟨bL, oL + c * 3 + 2, none⟩) hbL]
    exact ⟨xk0, xk1, xk2⟩
  have rsr : ∀ j, j < (row (Bth.wt a) (c + 1)).length → RS (row (Bth.wt a) (c + 1))[j]! 51 := fun j hj => by
    rw [row_length] at hj
    rw [row_get hj]
    exact (wt_RS (unhide HRA) j (by omega)).mono (by omega)
  have HSU : Hid (∀ W, Below w2.heap.size w2 W → Calls Tryd.prog 25 #[.slice (some ⟨bL, oL, none⟩) (c + 1) cL] W fun e w' => ∃ v, e = .returned v ∧ RatIs w' v (Bth.ws a (c + 1)) ∧ Below W.heap.size W w') := fun W hW => by
    have h := sumR_any _ _ 51 W ((unhide HL).below hW) rsr (by rw [row_length, KKe]; omega)
    rw [row_length, qsum_row _ _ _ (Nat.le_refl _)] at h
    exact h
  have HDV : Hid (∀ W v (hW : Below w2.heap.size w2 W) (hv : RatIs W v (Bth.ws a (c + 1))), Calls Tryd.prog 23 #[.agg #[.bool tx.s, .slice tx.a1 tx.n1 tx.c1, .slice tx.a2 tx.n2 tx.c2], v] W fun e w' => ∃ v, e = .returned v ∧ RatIs w' v (Bth.eb a c) ∧ Below W.heap.size W w') := fun W v hW hv => bdivided_any _ v _ _ W ((unhide HXR).below hW) hv 1500 ((wt_RS (unhide HRA) c (by omega)).mono (by omega)) (ws_RS (unhide HRA) (by omega)) (by rw [KKe]; omega) (pos_num (Bth.ws_pos (unhide HH0) c))
  clear k3 xk0 xk1 xk2 rsr
  go_wp2_with fail
  refine wp_region_till (fun w' : World => (w'.cell? ⟨bL, oL + c * 3, none⟩ = some (.bool tx.s) ∧ w'.cell? ⟨bL, oL + c * 3 + 1, none⟩ = some (.slice tx.a1 tx.n1 tx.c1) ∧ w'.cell? ⟨bL, oL + c * 3 + 2, none⟩ = some (.slice tx.a2 tx.n2 tx.c2))) 7 (by kernel_rfl) ?_
  have bd0 : Below w2.heap.size w2 w2.drew := (Below.refl _ _).drew
  have hC0 : (fun w' : World => (w'.cell? ⟨bL, oL + c * 3, none⟩ = some (.bool tx.s) ∧ w'.cell? ⟨bL, oL + c * 3 + 1, none⟩ = some (.slice tx.a1 tx.n1 tx.c1) ∧ w'.cell? ⟨bL, oL + c * 3 + 2, none⟩ = some (.slice tx.a2 tx.n2 tx.c2))) w2.drew := unhide HCC _ bd0
  refine wpTill_pure (i := 0) (v := ?_) rfl (by kernel_rfl) (by kernel_rfl) (by kernel_rfl) (by kernel_rfl) (fun _ _ _ h => h) (Or.inl ⟨by rfl, ?_⟩) (fun _ => hC0) ?_
  rotate_left
  · intro w hSw; clear hSw; go_simp; (try with_reducible rfl)
  (try simp only [List.getElem_toArray, List.getElem_cons_succ, List.getElem_cons_zero])
  (try simp only [Act.put, List.setIfInBounds_toArray, List.set_cons_zero, List.set_cons_succ])
  refine wpTill_pure (i := 1) (v := ?_) rfl (by kernel_rfl) (by kernel_rfl) (by kernel_rfl) (by kernel_rfl) (fun _ _ _ h => h) (Or.inl ⟨by rfl, ?_⟩) (fun _ => hC0) ?_
  rotate_left
  · intro w hSw; clear hSw; go_simp; (try with_reducible rfl)
  (try simp only [List.getElem_toArray, List.getElem_cons_succ, List.getElem_cons_zero])
  (try simp only [Act.put, List.setIfInBounds_toArray, List.set_cons_zero, List.set_cons_succ])
  refine wpTill_pure (i := 2) (v := ?_) rfl (by kernel_rfl) (by kernel_rfl) (by kernel_rfl) (by kernel_rfl) (fun _ _ _ h => h) (Or.inl ⟨by rfl, ?_⟩) (fun _ => hC0) ?_
  rotate_left
  · intro w hSw; clear hSw; go_simp; (try with_reducible rfl)
  (try simp only [List.getElem_toArray, List.getElem_cons_succ, List.getElem_cons_zero])
  (try simp only [Act.put, List.setIfInBounds_toArray, List.set_cons_zero, List.set_cons_succ])
  refine wpTill_take (i := 3) (v := ?_) rfl (by kernel_rfl) (by kernel_rfl) (by kernel_rfl) (by kernel_rfl) (by kernel_rfl) (by kernel_rfl) (fun _ _ _ h => h) (Or.inl ⟨by rfl, ?_⟩) hC0 ?_
  rotate_left
  · intro w hSw; (try dsimp only at hSw); obtain ⟨z0, z1, z2⟩ := hSw; go_simp; (try with_reducible rfl)
  (try simp only [List.getElem_toArray, List.getElem_cons_succ, List.getElem_cons_zero])
  (try simp only [Act.put, List.setIfInBounds_toArray, List.set_cons_zero, List.set_cons_succ])
  refine wpTill_pure (i := 4) (v := ?_) rfl (by kernel_rfl) (by kernel_rfl) (by kernel_rfl) (by kernel_rfl) (fun _ _ _ h => h) (Or.inl ⟨by rfl, ?_⟩) (fun _ => hC0) ?_
  rotate_left
  · intro w hSw; clear hSw; go_simp; (try with_reducible rfl)
  (try simp only [List.getElem_toArray, List.getElem_cons_succ, List.getElem_cons_zero])
  (try simp only [Act.put, List.setIfInBounds_toArray, List.set_cons_zero, List.set_cons_succ])
  refine wpTill_one (k := 5) (by kernel_rfl) rfl (fun K hK => ?_)
  (try simp only [List.getElem_toArray, List.getElem_cons_succ, List.getElem_cons_zero])
  go_simp
  refine (unhide HSU _ bd0).mono ?_
  rintro e xw_1 ⟨xv_1, rfl, hv_1, hb_1⟩
  have cc_1 := below_step bd0 hb_1
  have hC_1 : (fun w' : World => (w'.cell? ⟨bL, oL + c * 3, none⟩ = some (.bool tx.s) ∧ w'.cell? ⟨bL, oL + c * 3 + 1, none⟩ = some (.slice tx.a1 tx.n1 tx.c1) ∧ w'.cell? ⟨bL, oL + c * 3 + 2, none⟩ = some (.slice tx.a2 tx.n2 tx.c2))) xw_1 := unhide HCC _ cc_1
  refine hK.out _ _ (fun _ => hC_1) ?_
  clear hK K
  (try simp only [Act.put, List.setIfInBounds_toArray, List.set_cons_zero, List.set_cons_succ])
  refine wpTill_one (k := 6) (by kernel_rfl) rfl (fun K hK => ?_)
  (try simp only [List.getElem_toArray, List.getElem_cons_succ, List.getElem_cons_zero])
  go_simp
  refine (unhide HDV _ _ cc_1 hv_1).mono ?_
  rintro e xw_2 ⟨xv_2, rfl, hv_2, hb_2⟩
  have cc_2 := below_step cc_1 hb_2
  have hC_2 : (fun w' : World => (w'.cell? ⟨bL, oL + c * 3, none⟩ = some (.bool tx.s) ∧ w'.cell? ⟨bL, oL + c * 3 + 1, none⟩ = some (.slice tx.a1 tx.n1 tx.c1) ∧ w'.cell? ⟨bL, oL + c * 3 + 2, none⟩ = some (.slice tx.a2 tx.n2 tx.c2))) xw_2 := unhide HCC _ cc_2
  refine hK.out _ _ (fun _ => hC_2) ?_
  clear hK K
  (try simp only [Act.put, List.setIfInBounds_toArray, List.set_cons_zero, List.set_cons_succ])
  obtain ⟨t5, rfl, r5⟩ := tri_of hv_2
  simp only [Tri.val]
  have Y := (unhide HX1b).keep cc_2
  have ⟨l0, l1, l2⟩ := Y.free
  have ⟨y0, y1, y2⟩ := Y.cells _ (Below.refl _ _)
  have FIN := Y.set r5
  have FB := (((below_step (unhide HB2) cc_2).setCell (p := ⟨w.heap.size + 1, 0, none⟩) (unhide HG1) (.bool t5.s)).setCell (p := ⟨w.heap.size + 1, 1, none⟩) (unhide HG1) (.slice t5.a1 t5.n1 t5.c1)).setCell (p := ⟨w.heap.size + 1, 2, none⟩) (unhide HG1) (.slice t5.a2 t5.n2 t5.c2)
  obtain ⟨Wf, hWf⟩ : ∃ W, ((xw_2.setCell ⟨w.heap.size + 1, 0, none⟩ (.bool t5.s)).setCell ⟨w.heap.size + 1, 1, none⟩ (.slice t5.a1 t5.n1 t5.c1)).setCell ⟨w.heap.size + 1, 2, none⟩ (.slice t5.a2 t5.n2 t5.c2) = W := ⟨_, rfl⟩
  rw [hWf] at FIN FB
  have HFIN := hide FIN
  have HFB := hide FB
  clear Y FIN FB r5 hv_1 hv_2 hb_1 hb_2
  refine wpTill_one (k := 7) (by kernel_rfl) rfl (fun K hK => ?_)
  (try simp only [List.getElem_toArray, List.getElem_cons_succ, List.getElem_cons_zero])
  go_simp
  refine hK.out _ _ (fun h => absurd (h.symm.trans (by kernel_rfl)) Bool.false_ne_true) ?_
  clear hK K
  (try simp only [Act.put, List.setIfInBounds_toArray, List.set_cons_zero, List.set_cons_succ])
  refine wpTill_one (k := 8) (by kernel_rfl) rfl (fun K hK => ?_)
  (try simp only [List.getElem_toArray, List.getElem_cons_succ, List.getElem_cons_zero])
  go_simp
  refine hK.out _ _ (fun h => absurd (h.symm.trans (by kernel_rfl)) Bool.false_ne_true) ?_
  clear hK K
  (try simp only [Act.put, List.setIfInBounds_toArray, List.set_cons_zero, List.set_cons_succ])
  refine wpTill_done (by kernel_rfl) ?_ _
  have ⟨x0, x1, x2⟩ := (unhide HFIN).cells _ (Below.refl _ _)
  clear l0 l1 l2 y0 y1 y2 hWf hC0 hC_1 hC_2 cc_1 cc_2 bd0
  go_wp2
  exact bodyPost_ret (v := .tuple #[.agg #[.bool t5.s, .slice t5.a1 t5.n1 t5.c1, .slice t5.a2 t5.n2 t5.c2], .nilIface]) (by simp [results, Tryd.results15, go_sem, x0, x1, x2]) rfl ⟨_, rfl, (unhide HFIN).2, unhide HFB⟩

set_option maxHeartbeats 8000000 in
set_option maxRecDepth 100000 in
set_option linter.unusedSimpArgs false in
theorem lost_bad (v : Value) (a : Rat) (c : Nat) (w : World) (h : RatIs w v a) (h0 : a.num < 0) :
    Calls Tryd.prog 15 #[v, .int .i64 (c : Int)] w fun e w' => ∃ v, e = .returned (.tuple #[v, .iface 62 (.int .i64 1)]) ∧ RatIs w' v 0 ∧ Below w.heap.size w w' := by
  obtain ⟨t, rfl, h'⟩ := tri_of h
  have KKe : KK = 1099511627776 := rfl
  have X0 := (BoxIs.new h').keep (alloc_below _ (.cells #[.bool false, .slice none 0 0, .slice none 0 0] 34))
  have X1 := BoxIs.new (w := w.alloc (.cells #[.bool t.s, .slice t.a1 t.n1 t.c1, .slice t.a2 t.n2 t.c2] 34)) (t := zTri) (q := 0) (rat_zero _)
  have b0 := below_step (alloc_below w (.cells #[.bool t.s, .slice t.a1 t.n1 t.c1, .slice t.a2 t.n2 t.c2] 34)) (alloc_below _ (.cells #[.bool false, .slice none 0 0, .slice none 0 0] 34))
  obtain ⟨W0, hW0⟩ : ∃ W, (w.alloc (.cells #[.bool t.s, .slice t.a1 t.n1 t.c1, .slice t.a2 t.n2 t.c2] 34)).alloc (.cells #[.bool false, .slice none 0 0, .slice none 0 0] 34) = W := ⟨_, rfl⟩
  have X1' : BoxIs W0 (w.heap.size + 1) zTri 0 := by rw [← hW0]; rw [alloc_size] at X1; exact X1
  rw [hW0] at X0 b0
  have HX0 := hide X0
  have HX1 := hide X1'
  have HB0 := hide b0
  have HG1 : Hid (w.heap.size ≤ w.heap.size + 1) := Nat.le_succ _
  have ⟨c0, c1, c2⟩ := X0.cells _ (Below.refl _ _)
  simp only [Tri.val]
  clear h h' X0 X1 X1' b0
  have HAL := hide (allowed_bad t.val a c W0 (unhide HX0).2 h0)
  simp only [Tri.val] at HAL
  clear h0 KKe
  go_enter Tryd.func15, Tryd.ntmps15
  go_wp2_with fail
  refine (unhide HAL).mono ?_
  rintro e w1 ⟨rfl, hb1⟩
  clear HAL c0 c1 c2 hW0
  have Y := (unhide HX1).keep hb1
  have ⟨l0, l1, l2⟩ := Y.free
  have ⟨y0, y1, y2⟩ := Y.cells _ (Below.refl _ _)
  have FIN := Y.set (t' := zTri) (q' := 0) (rat_zero _)
  have FB := (((below_step (unhide HB0) hb1).setCell (p := ⟨w.heap.size + 1, 0, none⟩) (unhide HG1) (.bool false)).setCell (p := ⟨w.heap.size + 1, 1, none⟩) (unhide HG1) (.slice none 0 0)).setCell (p := ⟨w.heap.size + 1, 2, none⟩) (unhide HG1) (.slice none 0 0)
  obtain ⟨Wf, hWf⟩ : ∃ W, ((w1.setCell ⟨w.heap.size + 1, 0, none⟩ (.bool false)).setCell ⟨w.heap.size + 1, 1, none⟩ (.slice none 0 0)).setCell ⟨w.heap.size + 1, 2, none⟩ (.slice none 0 0) = W := ⟨_, rfl⟩
  have FIN' : BoxIs Wf (w.heap.size + 1) zTri 0 := by rw [← hWf]; exact FIN
  rw [hWf] at FB
  have HFIN := hide FIN'
  have HFB := hide FB
  have ⟨x0, x1, x2⟩ := FIN'.cells _ (Below.refl _ _)
  clear Y FIN FIN' FB HX0 HX1 HB0 hb1
  go_wp2
  exact bodyPost_ret (v := .tuple #[.agg #[.bool false, .slice none 0 0, .slice none 0 0], .iface 62 (.int .i64 1)]) (by simp [results, Tryd.results15, go_sem, x0, x1, x2, zTri]) rfl ⟨_, rfl, (unhide HFIN).2, unhide HFB⟩

end Go.Proofs.YtigilnkcjblhcaaDoor
