/- StopSecretaries: the walk. -/
import Derived.Test.YtgpolilpgkhlkaaDoorT20
namespace Go.Proofs.YtgpolilpgkhlkaaDoor
open Go.RowKit Go.Sort Go.Shelf

theorem sec_seven : Rat.divInt 7 20 = (7 / 20 : Rat) := by decide +kernel
set_option maxHeartbeats 16000000 in
set_option maxRecDepth 100000 in
set_option linter.unusedSimpArgs false in
theorem stopSecretaries_any (n0 other : Int) (w : World) (htab : Tab w) : Calls Tryd.prog 5 #[.int .i64 n0, .int .i64 other] w fun e w' => e = .returned (.bool true) ∧ Below w.heap.size w w' := by
  have KKe : KK = 1099511627776 := rfl
  have HTB := hide htab
  clear htab
  go_enter Tryd.func5, Tryd.ntmps5
  go_wp2_with fail
  refine (pick_any n0 60 (by decide) (by decide) w).mono ?_
  rintro e w1 ⟨k, rfl, hk, rfl⟩
  obtain ⟨n, hn⟩ : ∃ n, k + 1 = n := ⟨_, rfl⟩
  have e1 : IntKind.i64.wrap (1 + (k : Int)) = (n : Int) := by rw [IntKind.wrap_i64]; omega
  have hn1 : 1 ≤ n := by omega
  have hn2 : n ≤ 100 := by omega
  have HN60 : Hid (n ≤ 60) := by show n ≤ 60; omega
  have HB := hide (Below.refl w1.heap.size w1)
  go_wp2_with fail
  clear e1 hn hk
  refine (Secretary_any n hn1 hn2 w1).mono ?_
  rintro e w_1 ⟨b, v, rfl, hbn, hv, hbest, hbx⟩
  obtain ⟨tp, rfl, hr_1⟩ := tri_of hv
  simp only [Tri.val]
  have HG_bp := hide (below_step (unhide HB) hbx).size
  have hb_1 := below_step hbx (alloc_below w_1 (.cells #[.bool tp.s, .slice tp.a1 tp.n1 tp.c1, .slice tp.a2 tp.n2 tp.c2] 35))
  have HB_2 := hide (below_step (unhide HB) hb_1)
  clear HB
  have HX_bp_1 := hide (BoxIs.new hr_1)
  obtain ⟨Wbp, hW_1⟩ : ∃ W, w_1.alloc (.cells #[.bool tp.s, .slice tp.a1 tp.n1 tp.c1, .slice tp.a2 tp.n2 tp.c2] 35) = W := ⟨_, rfl⟩
  obtain ⟨bp, hc_1⟩ : ∃ b, w_1.heap.size = b := ⟨_, rfl⟩
  rw [hW_1] at HB_2 HX_bp_1
  rw [hc_1] at HX_bp_1 HG_bp
  clear hv hr_1 hbx hb_1
  have HBS := hide hbest
  clear hbest
  go_wp2_with fail
  clear hW_1 hc_1
  refine (pick_any other n (by omega) (by omega) _).mono ?_
  rintro e wq ⟨r, rfl, hr, rfl⟩
  go_wp2_with fail
  refine (Chosen_any n r hn1 hn2 hr _).mono ?_
  rintro e w_3 ⟨v, rfl, hv, hbx⟩
  obtain ⟨tq, rfl, hr_3⟩ := tri_of hv
  simp only [Tri.val]
  have HL_bp_bq := hide (Nat.lt_of_lt_of_le (unhide HX_bp_1).lt hbx.size)
  have HG_bq := hide (below_step (unhide HB_2) hbx).size
  have hb_3 := below_step hbx (alloc_below w_3 (.cells #[.bool tq.s, .slice tq.a1 tq.n1 tq.c1, .slice tq.a2 tq.n2 tq.c2] 35))
  have HB_4 := hide (below_step (unhide HB_2) hb_3)
  have HX_bp_4 := hide ((unhide HX_bp_1).keep hb_3)
  clear HB_2 HX_bp_1
  have HX_bq_3 := hide (BoxIs.new hr_3)
  obtain ⟨Wbq, hW_3⟩ : ∃ W, w_3.alloc (.cells #[.bool tq.s, .slice tq.a1 tq.n1 tq.c1, .slice tq.a2 tq.n2 tq.c2] 35) = W := ⟨_, rfl⟩
  obtain ⟨bq, hc_3⟩ : ∃ b, w_3.heap.size = b := ⟨_, rfl⟩
  rw [hW_3] at HB_4 HX_bp_4 HX_bq_3
  rw [hc_3] at HX_bq_3 HL_bp_bq HG_bq
  clear hv hr_3 hbx hb_3
  go_wp2_with fail
  clear hW_3 hc_3
  refine (Chosen_any n b hn1 hn2 hbn _).mono ?_
  rintro e w_5 ⟨v, rfl, hv, hbx⟩
  obtain ⟨tw, rfl, hr_5⟩ := tri_of hv
  simp only [Tri.val]
  have HL_bp_bo := hide (Nat.lt_of_lt_of_le (unhide HX_bp_4).lt hbx.size)
  have HL_bq_bo := hide (Nat.lt_of_lt_of_le (unhide HX_bq_3).lt hbx.size)
  have HG_bo := hide (below_step (unhide HB_4) hbx).size
  have hb_5 := below_step hbx (alloc_below w_5 (.cells #[.bool tw.s, .slice tw.a1 tw.n1 tw.c1, .slice tw.a2 tw.n2 tw.c2] 35))
  have HB_6 := hide (below_step (unhide HB_4) hb_5)
  have HX_bp_6 := hide ((unhide HX_bp_4).keep hb_5)
  have HX_bq_6 := hide ((unhide HX_bq_3).keep hb_5)
  clear HB_4 HX_bp_4 HX_bq_3
  have HX_bo_5 := hide (BoxIs.new hr_5)
  obtain ⟨Wbo, hW_5⟩ : ∃ W, w_5.alloc (.cells #[.bool tw.s, .slice tw.a1 tw.n1 tw.c1, .slice tw.a2 tw.n2 tw.c2] 35) = W := ⟨_, rfl⟩
  obtain ⟨bo, hc_5⟩ : ∃ b, w_5.heap.size = b := ⟨_, rfl⟩
  rw [hW_5] at HB_6 HX_bp_6 HX_bq_6 HX_bo_5
  rw [hc_5] at HX_bo_5 HL_bp_bo HL_bq_bo HG_bo
  clear hv hr_5 hbx hb_5
  go_wp2_with fail
  clear hW_5 hc_5
  refine (stopped_any _ (tab_below (unhide HTB) (unhide HB_6))).mono ?_
  rintro e w_7 ⟨rfl, hbx⟩
  have HB_8 := hide (below_step (unhide HB_6) hbx)
  have HX_bp_8 := hide ((unhide HX_bp_6).keep hbx)
  have HX_bq_8 := hide ((unhide HX_bq_6).keep hbx)
  have HX_bo_8 := hide ((unhide HX_bo_5).keep hbx)
  clear HB_6 HX_bp_6 HX_bq_6 HX_bo_5
  clear hbx
  go_wp2_with fail
  refine (of_any 7 20 (by decide) (by decide) (by decide) (by decide) (by decide) _).mono ?_
  rintro e w_9 ⟨v, rfl, hv, hbx⟩
  obtain ⟨ta, rfl, hr_9⟩ := tri_of hv
  simp only [Tri.val]
  have HL_bp_ba := hide (Nat.lt_of_lt_of_le (unhide HX_bp_8).lt hbx.size)
  have HL_bq_ba := hide (Nat.lt_of_lt_of_le (unhide HX_bq_8).lt hbx.size)
  have HL_bo_ba := hide (Nat.lt_of_lt_of_le (unhide HX_bo_8).lt hbx.size)
  have HG_ba := hide (below_step (unhide HB_8) hbx).size
  have hb_9 := below_step hbx (alloc_below w_9 (.cells #[.bool ta.s, .slice ta.a1 ta.n1 ta.c1, .slice ta.a2 ta.n2 ta.c2] 35))
  have HB_10 := hide (below_step (unhide HB_8) hb_9)
  have HX_bp_10 := hide ((unhide HX_bp_8).keep hb_9)
  have HX_bq_10 := hide ((unhide HX_bq_8).keep hb_9)
  have HX_bo_10 := hide ((unhide HX_bo_8).keep hb_9)
  clear HB_8 HX_bp_8 HX_bq_8 HX_bo_8
  have HX_ba_9 := hide (BoxIs.new hr_9)
  obtain ⟨Wba, hW_9⟩ : ∃ W, w_9.alloc (.cells #[.bool ta.s, .slice ta.a1 ta.n1 ta.c1, .slice ta.a2 ta.n2 ta.c2] 35) = W := ⟨_, rfl⟩
  obtain ⟨ba, hc_9⟩ : ∃ b, w_9.heap.size = b := ⟨_, rfl⟩
  rw [hW_9] at HB_10 HX_bp_10 HX_bq_10 HX_bo_10 HX_ba_9
  rw [hc_9] at HX_ba_9 HL_bp_ba HL_bq_ba HL_bo_ba HG_ba
  clear hv hr_9 hbx hb_9
  obtain ⟨cbp_0, cbp_1, cbp_2⟩ := (unhide HX_bp_10).cells _ (Below.refl _ _)
  obtain ⟨cbq_0, cbq_1, cbq_2⟩ := (unhide HX_bq_10).cells _ (Below.refl _ _)
  obtain ⟨cbo_0, cbo_1, cbo_2⟩ := (unhide HX_bo_10).cells _ (Below.refl _ _)
  obtain ⟨cba_0, cba_1, cba_2⟩ := (unhide HX_ba_9).cells _ (Below.refl _ _)
  have hle := cmpv_le (unhide HBS r hr)
  obtain ⟨y, hy⟩ : ∃ y, cmpv (Stp.sec n r) (Stp.sec n b) = y := ⟨_, rfl⟩
  rw [hy] at hle
  have hy0 : y ≤ 0 := hle.2
  have HY := hide hy
  clear hy hle
  go_wp2_with fail
  clear hW_9 hc_9
  refine ((cmpR_all tq.val tp.val _ _ _ (unhide HX_bq_10).2 (unhide HX_bp_10).2 300 (sec_RS hn1 hn2 hr) (sec_RS hn1 hn2 hbn) (by rw [KKe]; omega))).mono ?_
  rintro e w_11 ⟨rfl, hbx⟩
  have HB_12 := hide (below_step (unhide HB_10) hbx)
  have HX_bp_12 := hide ((unhide HX_bp_10).keep hbx)
  have HX_bq_12 := hide ((unhide HX_bq_10).keep hbx)
  have HX_bo_12 := hide ((unhide HX_bo_10).keep hbx)
  have HX_ba_12 := hide ((unhide HX_ba_9).keep hbx)
  clear HB_10 HX_bp_10 HX_bq_10 HX_bo_10 HX_ba_9
  clear hbx
  clear cbp_0 cbp_1 cbp_2 cbq_0 cbq_1 cbq_2 cbo_0 cbo_1 cbo_2 cba_0 cba_1 cba_2
  obtain ⟨cbp_0, cbp_1, cbp_2⟩ := (unhide HX_bp_12).cells _ (Below.refl _ _)
  obtain ⟨cbo_0, cbo_1, cbo_2⟩ := (unhide HX_bo_12).cells _ (Below.refl _ _)
  obtain ⟨cba_0, cba_1, cba_2⟩ := (unhide HX_ba_12).cells _ (Below.refl _ _)
  rw [unhide HY]
  go_wp2_with fail
  refine ((like_any tw.val tp.val _ _ (unhide HX_bo_12).2 (unhide HX_bp_12).2 300 (sec_RS hn1 hn2 hbn) (by rw [KKe]; omega) (tab_below (unhide HTB) (unhide HB_12)))).mono ?_
  rintro e w_13 ⟨rfl, hbx⟩
  have HB_14 := hide (below_step (unhide HB_12) hbx)
  have HX_bp_14 := hide ((unhide HX_bp_12).keep hbx)
  have HX_bq_14 := hide ((unhide HX_bq_12).keep hbx)
  have HX_bo_14 := hide ((unhide HX_bo_12).keep hbx)
  have HX_ba_14 := hide ((unhide HX_ba_12).keep hbx)
  clear HB_12 HX_bp_12 HX_bq_12 HX_bo_12 HX_ba_12
  clear hbx
  clear cbp_0 cbp_1 cbp_2 cbo_0 cbo_1 cbo_2 cba_0 cba_1 cba_2
  obtain ⟨cbp_0, cbp_1, cbp_2⟩ := (unhide HX_bp_14).cells _ (Below.refl _ _)
  obtain ⟨cba_0, cba_1, cba_2⟩ := (unhide HX_ba_14).cells _ (Below.refl _ _)
  go_wp2_with fail
  have h7 : Rat.divInt 7 20 < Stp.sec n b := by
    obtain ⟨r0, hr0, h0⟩ := Stp.secretary hn1 (unhide HN60)
    rw [sec_seven]
    exact Std.lt_of_lt_of_le h0 (unhide HBS r0 hr0)
  have HCM := hide (cmpR_all tp.val ta.val _ _ _ (unhide HX_bp_14).2 (unhide HX_ba_14).2 300 (sec_RS hn1 hn2 hbn) ((div_RS (x := 7) (y := 20) (by decide) (by decide) (by decide) (by decide)).mono (by decide)) (by rw [KKe]; omega))
  rw [cmpv_gt h7] at HCM
  refine (unhide HCM).mono ?_
  rintro e w_15 ⟨rfl, hbx⟩
  have HB_16 := hide (below_step (unhide HB_14) hbx)
  have HX_bp_16 := hide ((unhide HX_bp_14).keep hbx)
  have HX_bq_16 := hide ((unhide HX_bq_14).keep hbx)
  have HX_bo_16 := hide ((unhide HX_bo_14).keep hbx)
  have HX_ba_16 := hide ((unhide HX_ba_14).keep hbx)
  clear HB_14 HX_bp_14 HX_bq_14 HX_bo_14 HX_ba_14
  clear hbx
  clear cbp_0 cbp_1 cbp_2 cba_0 cba_1 cba_2
  go_wp2
  go_ret
  exact ⟨rfl, unhide HB_16⟩

end Go.Proofs.YtgpolilpgkhlkaaDoor
