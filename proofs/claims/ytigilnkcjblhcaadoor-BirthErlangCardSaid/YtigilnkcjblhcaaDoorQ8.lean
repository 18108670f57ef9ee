/- Wait, where more comes than can be done. -/
import Derived.Test.YtigilnkcjblhcaaDoorQ7
namespace Go.Proofs.YtigilnkcjblhcaaDoor
open Go.RowKit Go.Sort Go.Shelf

set_option maxHeartbeats 16000000 in
set_option maxRecDepth 100000 in
set_option linter.unusedSimpArgs false in
theorem wait_over (v : Value) (a : Rat) (c : Nat) (w : World) (h : RatIs w v a) (ha : RS a 1) (h0 : 0 ≤ a) (hac : (((c : Nat) : Int) : Rat) ≤ a) (hc : c ≤ 20) :
    Calls Tryd.prog 18 #[v, .int .i64 (c : Int)] w fun e w' => e = .returned (.tuple #[.agg #[.bool false, .slice none 0 0, .slice none 0 0, .bool false, .slice none 0 0, .slice none 0 0, .bool false, .slice none 0 0, .slice none 0 0], .iface 62 (.int .i64 13)]) ∧ Below w.heap.size w w' := by
  obtain ⟨t, rfl, h'⟩ := tri_of h
  have KKe : KK = 1099511627776 := rfl
  have X0 := (BoxIs.new h').keep (alloc_below _ (.cells #[.bool false, .slice none 0 0, .slice none 0 0, .bool false, .slice none 0 0, .slice none 0 0, .bool false, .slice none 0 0, .slice none 0 0] 48))
  have X1 := QB.zero (w.alloc (.cells #[.bool t.s, .slice t.a1 t.n1 t.c1, .slice t.a2 t.n2 t.c2] 34))
  have b0 := below_step (alloc_below w (.cells #[.bool t.s, .slice t.a1 t.n1 t.c1, .slice t.a2 t.n2 t.c2] 34)) (alloc_below _ (.cells #[.bool false, .slice none 0 0, .slice none 0 0, .bool false, .slice none 0 0, .slice none 0 0, .bool false, .slice none 0 0, .slice none 0 0] 48))
  obtain ⟨W0, hW0⟩ : ∃ W, (w.alloc (.cells #[.bool t.s, .slice t.a1 t.n1 t.c1, .slice t.a2 t.n2 t.c2] 34)).alloc (.cells #[.bool false, .slice none 0 0, .slice none 0 0, .bool false, .slice none 0 0, .slice none 0 0, .bool false, .slice none 0 0, .slice none 0 0] 48) = W := ⟨_, rfl⟩
  obtain ⟨bl, hbl⟩ : ∃ b, w.heap.size = b := ⟨_, rfl⟩
  obtain ⟨bq, hbq⟩ : ∃ b, bl + 1 = b := ⟨_, rfl⟩
  have X1' : QB W0 bq zTri zTri zTri := by rw [← hW0, ← hbq, ← hbl]; rw [alloc_size] at X1; exact X1
  rw [hW0] at X0 b0
  rw [hbl] at X0
  have HX_bl := hide X0
  have HQ := hide X1'
  have HB_0 := hide b0
  have HG_q : Hid (w.heap.size ≤ bq) := by show _ ≤ _; omega
  have HNE_lq : Hid (bl ≠ bq) := by show _ ≠ _; omega
  have ⟨c0, c1, c2⟩ := X0.cells _ (Below.refl _ _)
  simp only [Tri.val]
  have HBL := hide hbl
  have HBQ := hide hbq
  clear h h' X0 X1 X1' b0
  have HRA := hide ha
  have HAC := hide hac
  have HAL := hide (allowed_ok t.val a c W0 (unhide HX_bl).2 (Rat.num_nonneg.2 h0) (by omega))
  simp only [Tri.val] at HAL
  have HRC : Hid (RS (((c : Nat) : Int) : Rat) 1) := by
    have e : Wd.pw 1 = 18446744073709551616 := Wd.pw_one
    refine (⟨?_, ?_⟩ : RS _ _)
    · rw [e]; show ((((c : Nat) : Int).natAbs : Nat) : Int) < _; omega
    · rw [e]; show ((1 : Nat) : Int) < _; decide
  clear h0 ha hac
  go_enter Tryd.func18, Tryd.ntmps18
  go_wp2_with fail
  refine (unhide HAL).mono ?_
  rintro e w_1 ⟨rfl, hbx⟩
  have HB_2 := hide (below_step (unhide HB_0) hbx)
  have HX_bl_2 := hide ((unhide HX_bl).keep hbx)
  have HQ_2 := hide ((unhide HQ).keep hbx)
  clear HB_0 HX_bl HQ
  clear hbx
  clear HAL c0 c1 c2 hW0 hbl hbq
  go_wp2_with fail
  refine (whole_any (c : Int) (by omega) (by omega) _).mono ?_
  rintro e w_3 ⟨v1, rfl, hv1, hbx⟩
  obtain ⟨ta, rfl, hr_3⟩ := tri_of hv1
  simp only [Tri.val]
  have HL_bl_ba := hide (Nat.lt_of_lt_of_le (unhide HX_bl_2).lt hbx.size)
  have HG_ba := hide (below_step (unhide HB_2) hbx).size
  have hb_3 := below_step hbx (alloc_below w_3 (.cells #[.bool ta.s, .slice ta.a1 ta.n1 ta.c1, .slice ta.a2 ta.n2 ta.c2] 34))
  have HB_4 := hide (below_step (unhide HB_2) hb_3)
  have HX_bl_4 := hide ((unhide HX_bl_2).keep hb_3)
  have HQ_4 := hide ((unhide HQ_2).keep hb_3)
  clear HB_2 HX_bl_2 HQ_2
  have HX_ba_3 := hide (BoxIs.new hr_3)
  obtain ⟨Wba, hW_3⟩ : ∃ W, w_3.alloc (.cells #[.bool ta.s, .slice ta.a1 ta.n1 ta.c1, .slice ta.a2 ta.n2 ta.c2] 34) = W := ⟨_, rfl⟩
  obtain ⟨ba, hc_3⟩ : ∃ b, w_3.heap.size = b := ⟨_, rfl⟩
  rw [hW_3] at HB_4 HX_bl_4 HQ_4 HX_ba_3
  rw [hc_3] at HX_ba_3 HL_bl_ba HG_ba
  clear hv1 hr_3 hbx hb_3
  obtain ⟨cbl_0, cbl_1, cbl_2⟩ := (unhide HX_bl_4).cells _ (Below.refl _ _)
  obtain ⟨cba_0, cba_1, cba_2⟩ := (unhide HX_ba_3).cells _ (Below.refl _ _)
  have HCM := hide (cmpR_all _ _ a (((c : Nat) : Int) : Rat) Wba (unhide HX_bl_4).2 (unhide HX_ba_3).2 1 (unhide HRA) (unhide HRC) (by rw [KKe]; omega))
  obtain ⟨cv, hcv⟩ : ∃ x, cmpv a (((c : Nat) : Int) : Rat) = x := ⟨_, rfl⟩
  have ⟨cv0, cv1⟩ := cmpv_ge (unhide HAC)
  rw [hcv] at HCM cv0 cv1
  simp only [Tri.val] at HCM
  clear hcv
  go_wp2_with fail
  clear hW_3 hc_3
  refine (unhide HCM).mono ?_
  rintro e w_5 ⟨rfl, hbx⟩
  have HB_6 := hide (below_step (unhide HB_4) hbx)
  have HX_bl_6 := hide ((unhide HX_bl_4).keep hbx)
  have HX_ba_6 := hide ((unhide HX_ba_3).keep hbx)
  have HQ_6 := hide ((unhide HQ_4).keep hbx)
  clear HB_4 HX_bl_4 HX_ba_3 HQ_4
  clear hbx
  clear cbl_0 cbl_1 cbl_2 cba_0 cba_1 cba_2
  have Y := unhide HQ_6
  have FQ := Y.set zTri zTri zTri
  have FB := QB.bl zTri zTri zTri (unhide HB_6) (unhide HG_q)
  have ⟨⟨y0, y1, y2⟩, ⟨y3, y4, y5⟩, y6, y7, y8⟩ := Y.cells
  have l0 := Y.free 0
  have l1 := Y.free 1
  have l2 := Y.free 2
  have l3 := Y.free 3
  have l4 := Y.free 4
  have l5 := Y.free 5
  have l6 := Y.free 6
  have l7 := Y.free 7
  have l8 := Y.free 8
  obtain ⟨Wf, hWf⟩ : ∃ W, putQ w_5 bq zTri zTri zTri = W := ⟨_, rfl⟩
  rw [hWf] at FQ FB
  unfold putQ zTri at hWf
  have HFQ := hide FQ
  have HFB := hide FB
  clear Y FQ FB
  have ⟨⟨x0, x1, x2⟩, ⟨x3, x4, x5⟩, x6, x7, x8⟩ := (unhide HFQ).cells
  go_wp2
  exact bodyPost_ret (v := .tuple #[.agg #[.bool false, .slice none 0 0, .slice none 0 0, .bool false, .slice none 0 0, .slice none 0 0, .bool false, .slice none 0 0, .slice none 0 0], .iface 62 (.int .i64 13)]) (by simp [results, Tryd.results18, go_sem, x0, x1, x2, x3, x4, x5, x6, x7, x8, zTri]) rfl ⟨rfl, unhide HFB⟩
end Go.Proofs.YtigilnkcjblhcaaDoor
