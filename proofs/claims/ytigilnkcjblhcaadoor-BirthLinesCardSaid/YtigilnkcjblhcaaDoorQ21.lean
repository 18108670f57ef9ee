/- BirthLines: the law's walk. -/
import Derived.Test.YtigilnkcjblhcaaDoorQ20
import Derived.Test.YtigilnkcjblhcaaDoorA18
import Derived.Test.YtigilnkcjblhcaaDoorQ3
namespace Go.Proofs.YtigilnkcjblhcaaDoor
open Go.RowKit Go.Sort Go.Shelf

set_option maxHeartbeats 16000000 in
set_option maxRecDepth 100000 in
set_option linter.unusedSimpArgs false in
theorem birthLines_any (x y s : Int) (hx : I64 x) (hy : I64 y) (v : Value) (ps : List ((Int × Int) × Int)) (w : World) (htab : Tab w) (hps : TripAre w v ps) :
    Calls Tryd.prog 5 #[.agg #[.int .i64 x, .int .i64 y], .int .i64 s, v] w fun e w' => e = .returned (.bool true) ∧ Below w.heap.size w w' := by
  have KKe : KK = 1099511627776 := rfl
  have hra : RS (pq (x, y)) 1 := pq_RS hx hy
  have HFA : Hid (∀ W, Calls Tryd.prog 14 #[.agg #[.int .i64 x, .int .i64 y]] W fun e w' => ∃ v, e = .returned v ∧ RatIs w' v (pq (x, y)) ∧ Below W.heap.size W w') := fun W => f_any x y hx.1 hx.2 hy.1 hy.2 W
  obtain ⟨a, hA⟩ : ∃ a, pq (x, y) = a := ⟨_, rfl⟩
  rw [hA] at hra HFA
  have HRA := hide hra
  have HTAB := hide htab
  have HPS := hide hps
  have HHF : Hid (∀ W, Below w.heap.size w W → Calls Tryd.prog 8 #[] W fun e w' => e = .returned (.bool true) ∧ Below W.heap.size W w') := fun W hW => half_any W (tab_below (unhide HTAB) hW)
  obtain ⟨ap, cp, rfl, hp1, hp2, hp4, hp3⟩ := hps
  have H4 := hide hp4
  have H3 := hide hp3
  clear hra htab hA hp4 hp3
  by_cases hlen : 5 < ps.length
  · have hl5 : (5 : Int) < (ps.length : Int) := by omega
    have b0 := alloc_below w (.cells #[.int .i64 x, .int .i64 y] 40)
    go_enter Tryd.func5, Tryd.ntmps5
    go_wp2
    go_ret
    exact ⟨rfl, b0⟩
  have hl5 : ¬ (5 : Int) < (ps.length : Int) := by omega
  go_enter Tryd.func5, Tryd.ntmps5
  go_wp2_with fail
  refine (pick_any s 12 (by decide) (by decide) _).mono ?_
  rintro e w1 ⟨c, rfl, hc, rfl⟩
  have b0 := alloc_below w (.cells #[.int .i64 x, .int .i64 y] 40)
  have HB_0 := hide b0
  clear b0
  go_wp2_with fail
  refine (unhide HFA _).mono ?_
  rintro e w_1 ⟨v1, rfl, hv1, hbx⟩
  obtain ⟨ta, rfl, hr_1⟩ := tri_of hv1
  simp only [Tri.val]
  have HG_ba := hide (below_step (unhide HB_0) hbx).size
  have hb_1 := below_step hbx (alloc_below w_1 (.cells #[.bool ta.s, .slice ta.a1 ta.n1 ta.c1, .slice ta.a2 ta.n2 ta.c2] 34))
  have HB_2 := hide (below_step (unhide HB_0) hb_1)
  clear HB_0
  have HX_ba_1 := hide (BoxIs.new hr_1)
  obtain ⟨Wba, hW_1⟩ : ∃ W, w_1.alloc (.cells #[.bool ta.s, .slice ta.a1 ta.n1 ta.c1, .slice ta.a2 ta.n2 ta.c2] 34) = W := ⟨_, rfl⟩
  obtain ⟨ba, hc_1⟩ : ∃ b, w_1.heap.size = b := ⟨_, rfl⟩
  rw [hW_1] at HB_2 HX_ba_1
  rw [hc_1] at HX_ba_1 HG_ba
  clear hv1 hr_1 hbx hb_1
  clear HFA
  obtain ⟨cba_0, cba_1, cba_2⟩ := (unhide HX_ba_1).cells _ (Below.refl _ _)
  go_wp2_with fail
  by_cases hneg : a.num < 0
  · have HSH := hide (share_bad _ [(a, 1)] c _ (kinds_one (unhide HX_ba_1).2) (not_okK_one hneg) (show 1 ≤ 6 by decide) (by omega))
    refine (unhide HSH).mono ?_
    rintro e w_5 ⟨k5, rfl, hbx⟩
    have hb5 := below_step (alloc_below Wba (.cells #[.bool ta.s, .slice ta.a1 ta.n1 ta.c1, .slice ta.a2 ta.n2 ta.c2, .int .i64 1] 56)) hbx
    clear cba_0 cba_1 cba_2
    have HB_6 := hide (below_step (unhide HB_2) hb5)
    have HX_ba_6 := hide ((unhide HX_ba_1).keep hb5)
    clear HB_2 HX_ba_1
    clear hbx hb5 HSH
    obtain ⟨cba_0, cba_1, cba_2⟩ := (unhide HX_ba_6).cells _ (Below.refl _ _)
    have HLO := hide (lost_bad ta.val a c w_5 (unhide HX_ba_6).2 hneg)
    simp only [Tri.val] at HLO
    go_wp2_with fail
    refine (unhide HLO).mono ?_
    rintro e w_7 ⟨v2, rfl, hv2, hbx⟩
    obtain ⟨tb, rfl, hr_7⟩ := tri_of hv2
    simp only [Tri.val]
    have HL_ba_bb := hide (Nat.lt_of_lt_of_le (unhide HX_ba_6).lt hbx.size)
    have HG_bb := hide (below_step (unhide HB_6) hbx).size
    have hb_7 := below_step hbx (alloc_below w_7 (.cells #[.bool tb.s, .slice tb.a1 tb.n1 tb.c1, .slice tb.a2 tb.n2 tb.c2] 34))
    have HB_8 := hide (below_step (unhide HB_6) hb_7)
    have HX_ba_8 := hide ((unhide HX_ba_6).keep hb_7)
    clear HB_6 HX_ba_6
    have HX_bb_7 := hide (BoxIs.new hr_7)
    obtain ⟨Wbb, hW_7⟩ : ∃ W, w_7.alloc (.cells #[.bool tb.s, .slice tb.a1 tb.n1 tb.c1, .slice tb.a2 tb.n2 tb.c2] 34) = W := ⟨_, rfl⟩
    obtain ⟨bb, hc_7⟩ : ∃ b, w_7.heap.size = b := ⟨_, rfl⟩
    rw [hW_7] at HB_8 HX_ba_8 HX_bb_7
    rw [hc_7] at HX_bb_7 HL_ba_bb HG_bb
    clear hv2 hr_7 hbx hb_7
    clear cba_0 cba_1 cba_2
    go_wp2_with fail
    clear HLO hW_7 hc_7
    have HT0 : Hid (∀ W, Below Wbb.heap.size Wbb W → (fun _ : World => True) W) := fun _ _ => trivial
    refine wp_region_hold (fun _ : World => True) (by kernel_rfl) ?_
    have bd0 : Below Wbb.heap.size Wbb Wbb.drew := (Below.refl _ _).drew
    have hC0 : (fun _ : World => True) Wbb.drew := unhide HT0 _ bd0
    refine wpHold_one (k := 0) (by kernel_rfl) rfl (fun K hK => ?_)
    (try simp only [List.getElem_toArray, List.getElem_cons_succ, List.getElem_cons_zero])
    go_simp
    refine (unhide HHF _ (below_step (unhide HB_8) bd0)).mono ?_
    rintro e xw_1 ⟨rfl, hb_1⟩
    have cc_1 := below_step bd0 hb_1
    have hC_1 : (fun _ : World => True) xw_1 := unhide HT0 _ cc_1
    refine hK.out _ _ hC_1 ?_
    clear hK K
    (try simp only [Act.put, List.setIfInBounds_toArray, List.set_cons_zero, List.set_cons_succ])
    refine wpHold_take (i := 1) (v := ?_) rfl (by kernel_rfl) (by kernel_rfl) (by kernel_rfl) (fun _ _ _ h => h) (Or.inl ⟨by rfl, ?_⟩) hC_1 ?_
    rotate_left
    · intro w hSw; clear hSw; go_simp; (try with_reducible rfl)
    (try simp only [List.getElem_toArray, List.getElem_cons_succ, List.getElem_cons_zero])
    (try simp only [Act.put, List.setIfInBounds_toArray, List.set_cons_zero, List.set_cons_succ])
    refine wpHold_take (i := 2) (v := ?_) rfl (by kernel_rfl) (by kernel_rfl) (by kernel_rfl) (fun _ _ _ h => h) (Or.inl ⟨by rfl, ?_⟩) hC_1 ?_
    rotate_left
    · intro w hSw; clear hSw; go_simp; (try with_reducible rfl)
    (try simp only [List.getElem_toArray, List.getElem_cons_succ, List.getElem_cons_zero])
    (try simp only [Act.put, List.setIfInBounds_toArray, List.set_cons_zero, List.set_cons_succ])
    refine wpHold_take (i := 3) (v := ?_) rfl (by kernel_rfl) (by kernel_rfl) (by kernel_rfl) (fun _ _ _ h => h) (Or.inl ⟨by rfl, ?_⟩) hC_1 ?_
    rotate_left
    · intro w hSw; clear hSw; go_simp; (try with_reducible rfl)
    (try simp only [List.getElem_toArray, List.getElem_cons_succ, List.getElem_cons_zero])
    (try simp only [Act.put, List.setIfInBounds_toArray, List.set_cons_zero, List.set_cons_succ])
    refine wpHold_take (i := 4) (v := ?_) rfl (by kernel_rfl) (by kernel_rfl) (by kernel_rfl) (fun _ _ _ h => h) (Or.inl ⟨by rfl, ?_⟩) hC_1 ?_
    rotate_left
    · intro w hSw; clear hSw; go_simp; (try with_reducible rfl)
    (try simp only [List.getElem_toArray, List.getElem_cons_succ, List.getElem_cons_zero])
    (try simp only [Act.put, List.setIfInBounds_toArray, List.set_cons_zero, List.set_cons_succ])
    refine wpHold_take (i := 5) (v := ?_) rfl (by kernel_rfl) (by kernel_rfl) (by kernel_rfl) (fun _ _ _ h => h) (Or.inl ⟨by rfl, ?_⟩) hC_1 ?_
    rotate_left
    · intro w hSw; clear hSw; go_simp; (try with_reducible rfl)
    (try simp only [List.getElem_toArray, List.getElem_cons_succ, List.getElem_cons_zero])
    (try simp only [Act.put, List.setIfInBounds_toArray, List.set_cons_zero, List.set_cons_succ])
    refine wpHold_take (i := 6) (v := ?_) rfl (by kernel_rfl) (by kernel_rfl) (by kernel_rfl) (fun _ _ _ h => h) (Or.inl ⟨by rfl, ?_⟩) hC_1 ?_
    rotate_left
    · intro w hSw; clear hSw; go_simp; (try with_reducible rfl)
    (try simp only [List.getElem_toArray, List.getElem_cons_succ, List.getElem_cons_zero])
    (try simp only [Act.put, List.setIfInBounds_toArray, List.set_cons_zero, List.set_cons_succ])
    refine wpHold_take (i := 7) (v := ?_) rfl (by kernel_rfl) (by kernel_rfl) (by kernel_rfl) (fun _ _ _ h => h) (Or.inl ⟨by rfl, ?_⟩) hC_1 ?_
    rotate_left
    · intro w hSw; clear hSw; go_simp; (try with_reducible rfl)
    (try simp only [List.getElem_toArray, List.getElem_cons_succ, List.getElem_cons_zero])
    (try simp only [Act.put, List.setIfInBounds_toArray, List.set_cons_zero, List.set_cons_succ])
    refine wpHold_take (i := 8) (v := ?_) rfl (by kernel_rfl) (by kernel_rfl) (by kernel_rfl) (fun _ _ _ h => h) (Or.inl ⟨by rfl, ?_⟩) hC_1 ?_
    rotate_left
    · intro w hSw; clear hSw; go_simp; (try with_reducible rfl)
    (try simp only [List.getElem_toArray, List.getElem_cons_succ, List.getElem_cons_zero])
    (try simp only [Act.put, List.setIfInBounds_toArray, List.set_cons_zero, List.set_cons_succ])
    refine wpHold_done (by kernel_rfl) ?_ _
    have HB_21 := hide (below_step (unhide HB_8) cc_1)
    have HX_ba_21 := hide ((unhide HX_ba_8).keep cc_1)
    have HX_bb_21 := hide ((unhide HX_bb_7).keep cc_1)
    clear HB_8 HX_ba_8 HX_bb_7
    clear HT0 hC0 hC_1 hb_1 cc_1 bd0
    go_wp2_with fail
    have HT0 : Hid (∀ W, Below xw_1.heap.size xw_1 W → (fun _ : World => True) W) := fun _ _ => trivial
    refine wp_region_hold (fun _ : World => True) (by kernel_rfl) ?_
    have bd0 : Below xw_1.heap.size xw_1 xw_1.drew := (Below.refl _ _).drew
    have hC0 : (fun _ : World => True) xw_1.drew := unhide HT0 _ bd0
    refine wpHold_take (i := 0) (v := ?_) rfl (by kernel_rfl) (by kernel_rfl) (by kernel_rfl) (fun _ _ _ h => h) (Or.inl ⟨by rfl, ?_⟩) hC0 ?_
    rotate_left
    · intro w hSw; clear hSw; go_simp; (try with_reducible rfl)
    (try simp only [List.getElem_toArray, List.getElem_cons_succ, List.getElem_cons_zero])
    (try simp only [Act.put, List.setIfInBounds_toArray, List.set_cons_zero, List.set_cons_succ])
    refine wpHold_take (i := 1) (v := ?_) rfl (by kernel_rfl) (by kernel_rfl) (by kernel_rfl) (fun _ _ _ h => h) (Or.inl ⟨by rfl, ?_⟩) hC0 ?_
    rotate_left
    · intro w hSw; clear hSw; go_simp; (try with_reducible rfl)
    (try simp only [List.getElem_toArray, List.getElem_cons_succ, List.getElem_cons_zero])
    (try simp only [Act.put, List.setIfInBounds_toArray, List.set_cons_zero, List.set_cons_succ])
    refine wpHold_take (i := 2) (v := ?_) rfl (by kernel_rfl) (by kernel_rfl) (by kernel_rfl) (fun _ _ _ h => h) (Or.inl ⟨by rfl, ?_⟩) hC0 ?_
    rotate_left
    · intro w hSw; clear hSw; go_simp; (try with_reducible rfl)
    (try simp only [List.getElem_toArray, List.getElem_cons_succ, List.getElem_cons_zero])
    (try simp only [Act.put, List.setIfInBounds_toArray, List.set_cons_zero, List.set_cons_succ])
    refine wpHold_take (i := 3) (v := undef) rfl (by kernel_rfl) (by kernel_rfl) (by kernel_rfl) (fun _ _ _ h => h) (Or.inr ⟨by rfl, rfl⟩) hC0 ?_
    (try simp only [List.getElem_toArray, List.getElem_cons_succ, List.getElem_cons_zero])
    (try simp only [Act.put, List.setIfInBounds_toArray, List.set_cons_zero, List.set_cons_succ])
    refine wpHold_take (i := 4) (v := undef) rfl (by kernel_rfl) (by kernel_rfl) (by kernel_rfl) (fun _ _ _ h => h) (Or.inr ⟨by rfl, rfl⟩) hC0 ?_
    (try simp only [List.getElem_toArray, List.getElem_cons_succ, List.getElem_cons_zero])
    (try simp only [Act.put, List.setIfInBounds_toArray, List.set_cons_zero, List.set_cons_succ])
    refine wpHold_take (i := 5) (v := undef) rfl (by kernel_rfl) (by kernel_rfl) (by kernel_rfl) (fun _ _ _ h => h) (Or.inr ⟨by rfl, rfl⟩) hC0 ?_
    (try simp only [List.getElem_toArray, List.getElem_cons_succ, List.getElem_cons_zero])
    (try simp only [Act.put, List.setIfInBounds_toArray, List.set_cons_zero, List.set_cons_succ])
    refine wpHold_take (i := 6) (v := undef) rfl (by kernel_rfl) (by kernel_rfl) (by kernel_rfl) (fun _ _ _ h => h) (Or.inr ⟨by rfl, rfl⟩) hC0 ?_
    (try simp only [List.getElem_toArray, List.getElem_cons_succ, List.getElem_cons_zero])
    (try simp only [Act.put, List.setIfInBounds_toArray, List.set_cons_zero, List.set_cons_succ])
    refine wpHold_take (i := 7) (v := undef) rfl (by kernel_rfl) (by kernel_rfl) (by kernel_rfl) (fun _ _ _ h => h) (Or.inr ⟨by rfl, rfl⟩) hC0 ?_
    (try simp only [List.getElem_toArray, List.getElem_cons_succ, List.getElem_cons_zero])
    (try simp only [Act.put, List.setIfInBounds_toArray, List.set_cons_zero, List.set_cons_succ])
    refine wpHold_take (i := 8) (v := undef) rfl (by kernel_rfl) (by kernel_rfl) (by kernel_rfl) (fun _ _ _ h => h) (Or.inr ⟨by rfl, rfl⟩) hC0 ?_
    (try simp only [List.getElem_toArray, List.getElem_cons_succ, List.getElem_cons_zero])
    (try simp only [Act.put, List.setIfInBounds_toArray, List.set_cons_zero, List.set_cons_succ])
    refine wpHold_take (i := 9) (v := undef) rfl (by kernel_rfl) (by kernel_rfl) (by kernel_rfl) (fun _ _ _ h => h) (Or.inr ⟨by rfl, rfl⟩) hC0 ?_
    (try simp only [List.getElem_toArray, List.getElem_cons_succ, List.getElem_cons_zero])
    (try simp only [Act.put, List.setIfInBounds_toArray, List.set_cons_zero, List.set_cons_succ])
    refine wpHold_take (i := 10) (v := undef) rfl (by kernel_rfl) (by kernel_rfl) (by kernel_rfl) (fun _ _ _ h => h) (Or.inr ⟨by rfl, rfl⟩) hC0 ?_
    (try simp only [List.getElem_toArray, List.getElem_cons_succ, List.getElem_cons_zero])
    (try simp only [Act.put, List.setIfInBounds_toArray, List.set_cons_zero, List.set_cons_succ])
    refine wpHold_take (i := 11) (v := undef) rfl (by kernel_rfl) (by kernel_rfl) (by kernel_rfl) (fun _ _ _ h => h) (Or.inr ⟨by rfl, rfl⟩) hC0 ?_
    (try simp only [List.getElem_toArray, List.getElem_cons_succ, List.getElem_cons_zero])
    (try simp only [Act.put, List.setIfInBounds_toArray, List.set_cons_zero, List.set_cons_succ])
    refine wpHold_take (i := 12) (v := undef) rfl (by kernel_rfl) (by kernel_rfl) (by kernel_rfl) (fun _ _ _ h => h) (Or.inr ⟨by rfl, rfl⟩) hC0 ?_
    (try simp only [List.getElem_toArray, List.getElem_cons_succ, List.getElem_cons_zero])
    (try simp only [Act.put, List.setIfInBounds_toArray, List.set_cons_zero, List.set_cons_succ])
    refine wpHold_take (i := 13) (v := undef) rfl (by kernel_rfl) (by kernel_rfl) (by kernel_rfl) (fun _ _ _ h => h) (Or.inr ⟨by rfl, rfl⟩) hC0 ?_
    (try simp only [List.getElem_toArray, List.getElem_cons_succ, List.getElem_cons_zero])
    (try simp only [Act.put, List.setIfInBounds_toArray, List.set_cons_zero, List.set_cons_succ])
    refine wpHold_take (i := 14) (v := undef) rfl (by kernel_rfl) (by kernel_rfl) (by kernel_rfl) (fun _ _ _ h => h) (Or.inr ⟨by rfl, rfl⟩) hC0 ?_
    (try simp only [List.getElem_toArray, List.getElem_cons_succ, List.getElem_cons_zero])
    (try simp only [Act.put, List.setIfInBounds_toArray, List.set_cons_zero, List.set_cons_succ])
    refine wpHold_take (i := 15) (v := undef) rfl (by kernel_rfl) (by kernel_rfl) (by kernel_rfl) (fun _ _ _ h => h) (Or.inr ⟨by rfl, rfl⟩) hC0 ?_
    (try simp only [List.getElem_toArray, List.getElem_cons_succ, List.getElem_cons_zero])
    (try simp only [Act.put, List.setIfInBounds_toArray, List.set_cons_zero, List.set_cons_succ])
    refine wpHold_take (i := 16) (v := undef) rfl (by kernel_rfl) (by kernel_rfl) (by kernel_rfl) (fun _ _ _ h => h) (Or.inr ⟨by rfl, rfl⟩) hC0 ?_
    (try simp only [List.getElem_toArray, List.getElem_cons_succ, List.getElem_cons_zero])
    (try simp only [Act.put, List.setIfInBounds_toArray, List.set_cons_zero, List.set_cons_succ])
    refine wpHold_take (i := 17) (v := undef) rfl (by kernel_rfl) (by kernel_rfl) (by kernel_rfl) (fun _ _ _ h => h) (Or.inr ⟨by rfl, rfl⟩) hC0 ?_
    (try simp only [List.getElem_toArray, List.getElem_cons_succ, List.getElem_cons_zero])
    (try simp only [Act.put, List.setIfInBounds_toArray, List.set_cons_zero, List.set_cons_succ])
    refine wpHold_take (i := 18) (v := undef) rfl (by kernel_rfl) (by kernel_rfl) (by kernel_rfl) (fun _ _ _ h => h) (Or.inr ⟨by rfl, rfl⟩) hC0 ?_
    (try simp only [List.getElem_toArray, List.getElem_cons_succ, List.getElem_cons_zero])
    (try simp only [Act.put, List.setIfInBounds_toArray, List.set_cons_zero, List.set_cons_succ])
    refine wpHold_take (i := 19) (v := undef) rfl (by kernel_rfl) (by kernel_rfl) (by kernel_rfl) (fun _ _ _ h => h) (Or.inr ⟨by rfl, rfl⟩) hC0 ?_
    (try simp only [List.getElem_toArray, List.getElem_cons_succ, List.getElem_cons_zero])
    (try simp only [Act.put, List.setIfInBounds_toArray, List.set_cons_zero, List.set_cons_succ])
    refine wpHold_take (i := 20) (v := undef) rfl (by kernel_rfl) (by kernel_rfl) (by kernel_rfl) (fun _ _ _ h => h) (Or.inr ⟨by rfl, rfl⟩) hC0 ?_
    (try simp only [List.getElem_toArray, List.getElem_cons_succ, List.getElem_cons_zero])
    (try simp only [Act.put, List.setIfInBounds_toArray, List.set_cons_zero, List.set_cons_succ])
    refine wpHold_take (i := 21) (v := ?_) rfl (by kernel_rfl) (by kernel_rfl) (by kernel_rfl) (fun _ _ _ h => h) (Or.inl ⟨by rfl, ?_⟩) hC0 ?_
    rotate_left
    · intro w hSw; clear hSw; go_simp; (try with_reducible rfl)
    (try simp only [List.getElem_toArray, List.getElem_cons_succ, List.getElem_cons_zero])
    (try simp only [Act.put, List.setIfInBounds_toArray, List.set_cons_zero, List.set_cons_succ])
    refine wpHold_done (by kernel_rfl) ?_ _
    clear HT0 hC0
    have HB_31 := hide (below_step (unhide HB_21) bd0)
    have HX_ba_31 := hide ((unhide HX_ba_21).keep bd0)
    have HX_bb_31 := hide ((unhide HX_bb_21).keep bd0)
    clear HB_21 HX_ba_21 HX_bb_21
    clear bd0
    obtain ⟨Wd, hWd⟩ : ∃ W, xw_1.drew = W := ⟨_, rfl⟩
    rw [hWd] at HB_31 HX_ba_31 HX_bb_31 ⊢
    clear hWd
    have HKI := hide (kinds_any _ ps Wd ((unhide HPS).below (unhide HB_31)) (by omega))
    have HRK : Hid (∀ j, j < (ksOf ps).length → RS ((ksOf ps)[j]!).1 1) := fun j hj => by rw [ksOf_length] at hj; rw [ksOf_get hj]; exact pq_RS (unhide H4 j hj).1 (unhide H4 j hj).2
    have HLE : Hid ((ksOf ps).length ≤ 6) := by show _ ≤ _; rw [ksOf_length]; omega
    go_wp2_with fail
    refine (unhide HKI).mono ?_
    rintro e w_k ⟨vk, rfl, hvk, hbx⟩
    have HVK := hide hvk
    have HB_61 := hide (below_step (unhide HB_31) hbx)
    have HX_ba_61 := hide ((unhide HX_ba_31).keep hbx)
    have HX_bb_61 := hide ((unhide HX_bb_31).keep hbx)
    clear HB_31 HX_ba_31 HX_bb_31
    clear hvk hbx HKI
    by_cases hok : OkK (ksOf ps)
    · have HSH := hide (share_any vk (ksOf ps) c w_k (unhide HVK) hok (unhide HRK) (unhide HLE) (by omega))
      go_wp2_with fail
      refine (unhide HSH).mono ?_
      rintro e w_l ⟨vt2, vl2, rfl, hvt2, hvl2, hbx⟩
      rw [ksOf_length] at hvl2
      have HVT2 := hide hvt2
      have HVL2 := hide hvl2
      have HB_71 := hide (below_step (unhide HB_61) hbx)
      have HX_ba_71 := hide ((unhide HX_ba_61).keep hbx)
      have HX_bb_71 := hide ((unhide HX_bb_61).keep hbx)
      clear HB_61 HX_ba_61 HX_bb_61
      clear hbx HSH hvt2 hvl2
      obtain ⟨at2, ct2, rfl, kt1, kt2, kt3⟩ := unhide HVT2
      obtain ⟨al2, cl2, rfl, kl1, kl2, kl3⟩ := unhide HVL2
      rw [row_length] at kt1 kl1 HVT2 HVL2
      clear kt3 kl3
      simp only [row_length]
      have HOK := hide hok
      clear hok
      go_wp2_with fail
      go_loopw [13] (fun vi wr => ∃ i : Nat, vi = .int .i64 (i : Int) ∧ i ≤ ps.length ∧ Below w_l.heap.size w_l wr) (fun vi _ => ps.length - (intOf vi).toNat)
      case atStart => exact ⟨0, rfl, Nat.zero_le _, Below.refl _ _⟩
      case round =>
        obtain ⟨i, rfl, hi, hbi⟩ := hrel
        have HBI := hide hbi
        clear hbi
        by_cases hlt : i < ps.length
        · have e1 : (i : Int) < (ps.length : Int) := by omega
          have e0 : (0 : Int) ≤ (i : Int) := by omega
          have e3 : IntKind.i64.wrap ((i : Int) + 1) = (i : Int) + 1 := by rw [IntKind.wrap_i64]; omega
          go_wp2_with fail
          go_loopw [14] (fun vk wr => ∃ k : Nat, vk = .int .i64 (k : Int) ∧ k ≤ ps.length ∧ Below w_l.heap.size w_l wr) (fun vk _ => ps.length - (intOf vk).toNat)
          case atStart => exact ⟨0, rfl, Nat.zero_le _, unhide HBI⟩
          case round =>
            obtain ⟨k, rfl, hk, hbk⟩ := hrel
            have HBK := hide hbk
            clear hbk HBI
            by_cases hlk : k < ps.length
            · have f1 : (k : Int) < (ps.length : Int) := by omega
              have f0 : (0 : Int) ≤ (k : Int) := by omega
              have f3 : IntKind.i64.wrap ((k : Int) + 1) = (k : Int) + 1 := by rw [IntKind.wrap_i64]; omega
              obtain ⟨bz, oz, rfl, hbz, hcz⟩ := unhide H3 (by omega)
              have zi2 := (hcz i hlt).2.2
              have zk2 := (hcz k hlk).2.2
              have LV := unhide HVL2
              obtain ⟨al3, cl3, eal, kq1, kq2, kq3⟩ := LV
              injection eal with ea1 ea2 ea3
              subst ea1 ea3
              clear ea2 kq1
              obtain ⟨bl, ol, rfl, hbl, hcl⟩ := kq3 (by rw [row_length]; omega)
              obtain ⟨ps, pp1, pp2, pn1, pd1, pn2, pd2, pk0, pk1, pk2, pr⟩ := hcl i (by rw [row_length]; omega)
              obtain ⟨ti, rfl, rfl, rfl, rfl, rfl, rfl, rfl⟩ : ∃ t : Tri, ps = t.s ∧ pp1 = t.a1 ∧ pp2 = t.a2 ∧ pn1 = t.n1 ∧ pd1 = t.c1 ∧ pn2 = t.n2 ∧ pd2 = t.c2 := ⟨⟨ps, pp1, pp2, pn1, pd1, pn2, pd2⟩, rfl, rfl, rfl, rfl, rfl, rfl, rfl⟩
              obtain ⟨qs, qp1, qp2, qn1, qd1, qn2, qd2, qk0, qk1, qk2, qr⟩ := hcl k (by rw [row_length]; omega)
              obtain ⟨tk, rfl, rfl, rfl, rfl, rfl, rfl, rfl⟩ : ∃ t : Tri, qs = t.s ∧ qp1 = t.a1 ∧ qp2 = t.a2 ∧ qn1 = t.n1 ∧ qd1 = t.c1 ∧ qn2 = t.n2 ∧ qd2 = t.c2 := ⟨⟨qs, qp1, qp2, qn1, qd1, qn2, qd2⟩, rfl, rfl, rfl, rfl, rfl, rfl, rfl⟩
              rw [row_get hlt] at pr
              rw [row_get hlk] at qr
              have HRI := hide (pr.below (unhide HBK))
              have HRJ := hide (qr.below (unhide HBK))
              have hmono : (ps[k]!).2 ≤ (ps[i]!).2 → lostV (ksOf ps) c k ≤ lostV (ksOf ps) c i := fun h => lostV_mono (unhide HOK) c (by rw [ksOf_get hlt, ksOf_get hlk]; exact h)
              obtain ⟨zi, hzi⟩ : ∃ z, (ps[i]!).2 = z := ⟨_, rfl⟩
              obtain ⟨zk, hzk⟩ : ∃ z, (ps[k]!).2 = z := ⟨_, rfl⟩
              rw [hzi] at zi2 hmono
              rw [hzk] at zk2 hmono
              have HCC : Hid (∀ W, Below wr.heap.size wr W → (fun w' : World => (w'.cell? ⟨bz, oz + i * 3 + 2, none⟩ = some (.int .i64 zi) ∧ w'.cell? ⟨bz, oz + k * 3 + 2, none⟩ = some (.int .i64 zk)) ∧ (w'.cell? ⟨bl, ol + i * 3, none⟩ = some (.bool ti.s) ∧ w'.cell? ⟨bl, ol + i * 3 + 1, none⟩ = some (.slice ti.a1 ti.n1 ti.c1) ∧ w'.cell? ⟨bl, ol + i * 3 + 2, none⟩ = some (.slice ti.a2 ti.n2 ti.c2)) ∧ (w'.cell? ⟨bl, ol + k * 3, none⟩ = some (.bool tk.s) ∧ w'.cell? ⟨bl, ol + k * 3 + 1, none⟩ = some (.slice tk.a1 tk.n1 tk.c1) ∧ w'.cell? ⟨bl, ol + k * 3 + 2, none⟩ = some (.slice tk.a2 tk.n2 tk.c2))) W) := fun W hW => by
                have h1 := below_step (unhide HB_71) (below_step (unhide HBK) hW)
                have h2 := below_step (unhide HBK) hW
                dsimp only
                rw [h1.cell (p := ⟨bz, oz + i * 3 + 2, none⟩) hbz, h1.cell (p := ⟨bz, oz + k * 3 + 2, none⟩) hbz, h2.cell (p := ⟨bl, ol + i * 3, none⟩) hbl, h2.cell (p := ⟨bl, ol + i * 3 + 1, none⟩) hbl, h2.cell (p := ⟨bl, ol + i * 3 + 2, none⟩) hbl, h2.cell (p := ⟨bl, ol + k * 3, none⟩) hbl, h2.cell (p := ⟨bl, ol + k * 3 + 1, none⟩) hbl, h2.cell (p := ⟨bl, ol + k * 3 + 2, none⟩) hbl]
                exact ⟨⟨zi2, zk2⟩, ⟨pk0, pk1, pk2⟩, qk0, qk1, qk2⟩
              have HMO := hide hmono
              clear hcz zi2 zk2 kq3 hcl pr qr pk0 pk1 pk2 qk0 qk1 qk2 hzi hzk hmono
              by_cases hge : zk ≤ zi
              · have dge : decide (zk ≤ zi) = true := decide_eq_true hge
                have HCM : Hid (∃ x : Int, 0 ≤ x ∧ x ≤ 1 ∧ ∀ W, Below wr.heap.size wr W → Calls Tryd.prog 17 #[.agg #[.bool ti.s, .slice ti.a1 ti.n1 ti.c1, .slice ti.a2 ti.n2 ti.c2], .agg #[.bool tk.s, .slice tk.a1 tk.n1 tk.c1, .slice tk.a2 tk.n2 tk.c2]] W fun e w' => e = .returned (.int .i64 x) ∧ Below W.heap.size W w') := ⟨cmpv (lostV (ksOf ps) c i) (lostV (ksOf ps) c k), (cmpv_ge (unhide HMO hge)).1, (cmpv_ge (unhide HMO hge)).2, fun W hW => cmpR_all _ _ _ _ W ((unhide HRI).below hW) ((unhide HRJ).below hW) 3100000 (lostV_RS (unhide HOK) (unhide HRK) (unhide HLE) (by omega) i) (lostV_RS (unhide HOK) (unhide HRK) (unhide HLE) (by omega) k) (by rw [KKe]; omega)⟩
                obtain ⟨fx, fx0, fx1, hfx⟩ := unhide HCM
                have HFX := hide hfx
                have dfx : decide (fx < 0) = false := decide_eq_false (by omega)
                clear hfx HCM hge
                go_wp2_with fail
                refine wp_region_hold (fun w' : World => (w'.cell? ⟨bz, oz + i * 3 + 2, none⟩ = some (.int .i64 zi) ∧ w'.cell? ⟨bz, oz + k * 3 + 2, none⟩ = some (.int .i64 zk)) ∧ (w'.cell? ⟨bl, ol + i * 3, none⟩ = some (.bool ti.s) ∧ w'.cell? ⟨bl, ol + i * 3 + 1, none⟩ = some (.slice ti.a1 ti.n1 ti.c1) ∧ w'.cell? ⟨bl, ol + i * 3 + 2, none⟩ = some (.slice ti.a2 ti.n2 ti.c2)) ∧ (w'.cell? ⟨bl, ol + k * 3, none⟩ = some (.bool tk.s) ∧ w'.cell? ⟨bl, ol + k * 3 + 1, none⟩ = some (.slice tk.a1 tk.n1 tk.c1) ∧ w'.cell? ⟨bl, ol + k * 3 + 2, none⟩ = some (.slice tk.a2 tk.n2 tk.c2))) (by kernel_rfl) ?_
                have bd0 : Below wr.heap.size wr wr.drew := (Below.refl _ _).drew
                have hC0 : (fun w' : World => (w'.cell? ⟨bz, oz + i * 3 + 2, none⟩ = some (.int .i64 zi) ∧ w'.cell? ⟨bz, oz + k * 3 + 2, none⟩ = some (.int .i64 zk)) ∧ (w'.cell? ⟨bl, ol + i * 3, none⟩ = some (.bool ti.s) ∧ w'.cell? ⟨bl, ol + i * 3 + 1, none⟩ = some (.slice ti.a1 ti.n1 ti.c1) ∧ w'.cell? ⟨bl, ol + i * 3 + 2, none⟩ = some (.slice ti.a2 ti.n2 ti.c2)) ∧ (w'.cell? ⟨bl, ol + k * 3, none⟩ = some (.bool tk.s) ∧ w'.cell? ⟨bl, ol + k * 3 + 1, none⟩ = some (.slice tk.a1 tk.n1 tk.c1) ∧ w'.cell? ⟨bl, ol + k * 3 + 2, none⟩ = some (.slice tk.a2 tk.n2 tk.c2))) wr.drew := unhide HCC _ bd0
                refine wpHold_take (i := 0) (v := ?_) rfl (by kernel_rfl) (by kernel_rfl) (by kernel_rfl) (fun _ _ _ h => h) (Or.inl ⟨by rfl, ?_⟩) hC0 ?_
                rotate_left
                · intro w hSw; clear hSw; go_simp; (try with_reducible rfl)
                (try simp only [List.getElem_toArray, List.getElem_cons_succ, List.getElem_cons_zero])
                (try simp only [Act.put, List.setIfInBounds_toArray, List.set_cons_zero, List.set_cons_succ])
                refine wpHold_take (i := 1) (v := ?_) rfl (by kernel_rfl) (by kernel_rfl) (by kernel_rfl) (fun _ _ _ h => h) (Or.inl ⟨by rfl, ?_⟩) hC0 ?_
                rotate_left
                · intro w hSw; clear hSw; go_simp; (try with_reducible rfl)
                (try simp only [List.getElem_toArray, List.getElem_cons_succ, List.getElem_cons_zero])
                (try simp only [Act.put, List.setIfInBounds_toArray, List.set_cons_zero, List.set_cons_succ])
                refine wpHold_take (i := 2) (v := ?_) rfl (by kernel_rfl) (by kernel_rfl) (by kernel_rfl) (fun _ _ _ h => h) (Or.inl ⟨by rfl, ?_⟩) hC0 ?_
                rotate_left
                · intro w hSw; clear hSw; go_simp; (try with_reducible rfl)
                (try simp only [List.getElem_toArray, List.getElem_cons_succ, List.getElem_cons_zero])
                (try simp only [Act.put, List.setIfInBounds_toArray, List.set_cons_zero, List.set_cons_succ])
                refine wpHold_take (i := 3) (v := ?_) rfl (by kernel_rfl) (by kernel_rfl) (by kernel_rfl) (fun _ _ _ h => h) (Or.inl ⟨by rfl, ?_⟩) hC0 ?_
                rotate_left
                · intro w hSw; clear hSw; go_simp; (try with_reducible rfl)
                (try simp only [List.getElem_toArray, List.getElem_cons_succ, List.getElem_cons_zero])
                (try simp only [Act.put, List.setIfInBounds_toArray, List.set_cons_zero, List.set_cons_succ])
                refine wpHold_take (i := 4) (v := ?_) rfl (by kernel_rfl) (by kernel_rfl) (by kernel_rfl) (fun _ _ _ h => h) (Or.inl ⟨by rfl, ?_⟩) hC0 ?_
                rotate_left
                · intro w hSw; (try dsimp only at hSw); obtain ⟨⟨z0, z1⟩, ⟨z2, z3, z4⟩, z5, z6, z7⟩ := hSw; go_simp; (try with_reducible rfl)
                (try simp only [List.getElem_toArray, List.getElem_cons_succ, List.getElem_cons_zero])
                (try simp only [Act.put, List.setIfInBounds_toArray, List.set_cons_zero, List.set_cons_succ])
                refine wpHold_take (i := 5) (v := ?_) rfl (by kernel_rfl) (by kernel_rfl) (by kernel_rfl) (fun _ _ _ h => h) (Or.inl ⟨by rfl, ?_⟩) hC0 ?_
                rotate_left
                · intro w hSw; clear hSw; go_simp; (try with_reducible rfl)
                (try simp only [List.getElem_toArray, List.getElem_cons_succ, List.getElem_cons_zero])
                (try simp only [Act.put, List.setIfInBounds_toArray, List.set_cons_zero, List.set_cons_succ])
                refine wpHold_take (i := 6) (v := ?_) rfl (by kernel_rfl) (by kernel_rfl) (by kernel_rfl) (fun _ _ _ h => h) (Or.inl ⟨by rfl, ?_⟩) hC0 ?_
                rotate_left
                · intro w hSw; clear hSw; go_simp; (try with_reducible rfl)
                (try simp only [List.getElem_toArray, List.getElem_cons_succ, List.getElem_cons_zero])
                (try simp only [Act.put, List.setIfInBounds_toArray, List.set_cons_zero, List.set_cons_succ])
                refine wpHold_take (i := 7) (v := ?_) rfl (by kernel_rfl) (by kernel_rfl) (by kernel_rfl) (fun _ _ _ h => h) (Or.inl ⟨by rfl, ?_⟩) hC0 ?_
                rotate_left
                · intro w hSw; clear hSw; go_simp; (try with_reducible rfl)
                (try simp only [List.getElem_toArray, List.getElem_cons_succ, List.getElem_cons_zero])
                (try simp only [Act.put, List.setIfInBounds_toArray, List.set_cons_zero, List.set_cons_succ])
                refine wpHold_take (i := 8) (v := ?_) rfl (by kernel_rfl) (by kernel_rfl) (by kernel_rfl) (fun _ _ _ h => h) (Or.inl ⟨by rfl, ?_⟩) hC0 ?_
                rotate_left
                · intro w hSw; clear hSw; go_simp; (try with_reducible rfl)
                (try simp only [List.getElem_toArray, List.getElem_cons_succ, List.getElem_cons_zero])
                (try simp only [Act.put, List.setIfInBounds_toArray, List.set_cons_zero, List.set_cons_succ])
                refine wpHold_take (i := 9) (v := ?_) rfl (by kernel_rfl) (by kernel_rfl) (by kernel_rfl) (fun _ _ _ h => h) (Or.inl ⟨by rfl, ?_⟩) hC0 ?_
                rotate_left
                · intro w hSw; (try dsimp only at hSw); obtain ⟨⟨z0, z1⟩, ⟨z2, z3, z4⟩, z5, z6, z7⟩ := hSw; go_simp; (try with_reducible rfl)
                (try simp only [List.getElem_toArray, List.getElem_cons_succ, List.getElem_cons_zero])
                (try simp only [Act.put, List.setIfInBounds_toArray, List.set_cons_zero, List.set_cons_succ])
                refine wpHold_take (i := 10) (v := ?_) rfl (by kernel_rfl) (by kernel_rfl) (by kernel_rfl) (fun _ _ _ h => h) (Or.inl ⟨by rfl, ?_⟩) hC0 ?_
                rotate_left
                · intro w hSw; clear hSw; go_simp; (try with_reducible rfl)
                (try simp only [List.getElem_toArray, List.getElem_cons_succ, List.getElem_cons_zero])
                (try simp only [Act.put, List.setIfInBounds_toArray, List.set_cons_zero, List.set_cons_succ])
                refine wpHold_take (i := 11) (v := ?_) rfl (by kernel_rfl) (by kernel_rfl) (by kernel_rfl) (fun _ _ _ h => h) (Or.inl ⟨by rfl, ?_⟩) hC0 ?_
                rotate_left
                · intro w hSw; clear hSw; go_simp; (try with_reducible rfl)
                (try simp only [List.getElem_toArray, List.getElem_cons_succ, List.getElem_cons_zero])
                (try simp only [Act.put, List.setIfInBounds_toArray, List.set_cons_zero, List.set_cons_succ])
                refine wpHold_take (i := 12) (v := ?_) rfl (by kernel_rfl) (by kernel_rfl) (by kernel_rfl) (fun _ _ _ h => h) (Or.inl ⟨by rfl, ?_⟩) hC0 ?_
                rotate_left
                · intro w hSw; clear hSw; go_simp; (try with_reducible rfl)
                (try simp only [List.getElem_toArray, List.getElem_cons_succ, List.getElem_cons_zero])
                (try simp only [Act.put, List.setIfInBounds_toArray, List.set_cons_zero, List.set_cons_succ])
                refine wpHold_take (i := 13) (v := ?_) rfl (by kernel_rfl) (by kernel_rfl) (by kernel_rfl) (fun _ _ _ h => h) (Or.inl ⟨by rfl, ?_⟩) hC0 ?_
                rotate_left
                · intro w hSw; clear hSw; go_simp; (try with_reducible rfl)
                (try simp only [List.getElem_toArray, List.getElem_cons_succ, List.getElem_cons_zero])
                (try simp only [Act.put, List.setIfInBounds_toArray, List.set_cons_zero, List.set_cons_succ])
                refine wpHold_take (i := 14) (v := ?_) rfl (by kernel_rfl) (by kernel_rfl) (by kernel_rfl) (fun _ _ _ h => h) (Or.inl ⟨by rfl, ?_⟩) hC0 ?_
                rotate_left
                · intro w hSw; clear hSw; go_simp; (try with_reducible rfl)
                (try simp only [List.getElem_toArray, List.getElem_cons_succ, List.getElem_cons_zero])
                (try simp only [Act.put, List.setIfInBounds_toArray, List.set_cons_zero, List.set_cons_succ])
                refine wpHold_take (i := 15) (v := ?_) rfl (by kernel_rfl) (by kernel_rfl) (by kernel_rfl) (fun _ _ _ h => h) (Or.inl ⟨by rfl, ?_⟩) hC0 ?_
                rotate_left
                · intro w hSw; (try dsimp only at hSw); obtain ⟨⟨z0, z1⟩, ⟨z2, z3, z4⟩, z5, z6, z7⟩ := hSw; go_simp; (try with_reducible rfl)
                (try simp only [List.getElem_toArray, List.getElem_cons_succ, List.getElem_cons_zero])
                (try simp only [Act.put, List.setIfInBounds_toArray, List.set_cons_zero, List.set_cons_succ])
                refine wpHold_take (i := 16) (v := ?_) rfl (by kernel_rfl) (by kernel_rfl) (by kernel_rfl) (fun _ _ _ h => h) (Or.inl ⟨by rfl, ?_⟩) hC0 ?_
                rotate_left
                · intro w hSw; clear hSw; go_simp; (try with_reducible rfl)
                (try simp only [List.getElem_toArray, List.getElem_cons_succ, List.getElem_cons_zero])
                (try simp only [Act.put, List.setIfInBounds_toArray, List.set_cons_zero, List.set_cons_succ])
                refine wpHold_take (i := 17) (v := ?_) rfl (by kernel_rfl) (by kernel_rfl) (by kernel_rfl) (fun _ _ _ h => h) (Or.inl ⟨by rfl, ?_⟩) hC0 ?_
                rotate_left
                · intro w hSw; clear hSw; go_simp; (try with_reducible rfl)
                (try simp only [List.getElem_toArray, List.getElem_cons_succ, List.getElem_cons_zero])
                (try simp only [Act.put, List.setIfInBounds_toArray, List.set_cons_zero, List.set_cons_succ])
                refine wpHold_take (i := 18) (v := ?_) rfl (by kernel_rfl) (by kernel_rfl) (by kernel_rfl) (fun _ _ _ h => h) (Or.inl ⟨by rfl, ?_⟩) hC0 ?_
                rotate_left
                · intro w hSw; clear hSw; go_simp; (try with_reducible rfl)
                (try simp only [List.getElem_toArray, List.getElem_cons_succ, List.getElem_cons_zero])
                (try simp only [Act.put, List.setIfInBounds_toArray, List.set_cons_zero, List.set_cons_succ])
                refine wpHold_take (i := 19) (v := ?_) rfl (by kernel_rfl) (by kernel_rfl) (by kernel_rfl) (fun _ _ _ h => h) (Or.inl ⟨by rfl, ?_⟩) hC0 ?_
                rotate_left
                · intro w hSw; (try dsimp only at hSw); obtain ⟨⟨z0, z1⟩, ⟨z2, z3, z4⟩, z5, z6, z7⟩ := hSw; go_simp; (try with_reducible rfl)
                (try simp only [List.getElem_toArray, List.getElem_cons_succ, List.getElem_cons_zero])
                (try simp only [Act.put, List.setIfInBounds_toArray, List.set_cons_zero, List.set_cons_succ])
                refine wpHold_one (k := 20) (by kernel_rfl) rfl (fun K hK => ?_)
                (try simp only [List.getElem_toArray, List.getElem_cons_succ, List.getElem_cons_zero])
                go_simp
                refine (unhide HFX _ bd0).mono ?_
                rintro e xw_81 ⟨rfl, hb_81⟩
                have cc_81 := below_step bd0 hb_81
                have hC_81 : (fun w' : World => (w'.cell? ⟨bz, oz + i * 3 + 2, none⟩ = some (.int .i64 zi) ∧ w'.cell? ⟨bz, oz + k * 3 + 2, none⟩ = some (.int .i64 zk)) ∧ (w'.cell? ⟨bl, ol + i * 3, none⟩ = some (.bool ti.s) ∧ w'.cell? ⟨bl, ol + i * 3 + 1, none⟩ = some (.slice ti.a1 ti.n1 ti.c1) ∧ w'.cell? ⟨bl, ol + i * 3 + 2, none⟩ = some (.slice ti.a2 ti.n2 ti.c2)) ∧ (w'.cell? ⟨bl, ol + k * 3, none⟩ = some (.bool tk.s) ∧ w'.cell? ⟨bl, ol + k * 3 + 1, none⟩ = some (.slice tk.a1 tk.n1 tk.c1) ∧ w'.cell? ⟨bl, ol + k * 3 + 2, none⟩ = some (.slice tk.a2 tk.n2 tk.c2))) xw_81 := unhide HCC _ cc_81
                refine hK.out _ _ hC_81 ?_
                clear hK K
                (try simp only [Act.put, List.setIfInBounds_toArray, List.set_cons_zero, List.set_cons_succ])
                refine wpHold_take (i := 21) (v := ?_) rfl (by kernel_rfl) (by kernel_rfl) (by kernel_rfl) (fun _ _ _ h => h) (Or.inl ⟨by rfl, ?_⟩) hC_81 ?_
                rotate_left
                · intro w hSw; clear hSw; go_simp; (try with_reducible rfl)
                (try simp only [List.getElem_toArray, List.getElem_cons_succ, List.getElem_cons_zero])
                (try simp only [Act.put, List.setIfInBounds_toArray, List.set_cons_zero, List.set_cons_succ])
                refine wpHold_take (i := 22) (v := ?_) rfl (by kernel_rfl) (by kernel_rfl) (by kernel_rfl) (fun _ _ _ h => h) (Or.inl ⟨by rfl, ?_⟩) hC_81 ?_
                rotate_left
                · intro w hSw; clear hSw; go_simp; (try with_reducible rfl)
                (try simp only [List.getElem_toArray, List.getElem_cons_succ, List.getElem_cons_zero])
                (try simp only [Act.put, List.setIfInBounds_toArray, List.set_cons_zero, List.set_cons_succ])
                refine wpHold_done (by kernel_rfl) ?_ _
                have HBN := hide (below_step (unhide HBK) cc_81)
                clear hC0 bd0 HCC hC_81 hb_81 cc_81
                clear dfx dge HFX
                go_wp2_with fail
                exact ⟨⟨k + 1, by go_num, by omega, unhide HBN⟩, by simp [intOf]; omega⟩
              · have dge : decide (zk ≤ zi) = false := decide_eq_false hge
                clear hge
                go_wp2_with fail
                refine wp_region_hold (fun w' : World => (w'.cell? ⟨bz, oz + i * 3 + 2, none⟩ = some (.int .i64 zi) ∧ w'.cell? ⟨bz, oz + k * 3 + 2, none⟩ = some (.int .i64 zk)) ∧ (w'.cell? ⟨bl, ol + i * 3, none⟩ = some (.bool ti.s) ∧ w'.cell? ⟨bl, ol + i * 3 + 1, none⟩ = some (.slice ti.a1 ti.n1 ti.c1) ∧ w'.cell? ⟨bl, ol + i * 3 + 2, none⟩ = some (.slice ti.a2 ti.n2 ti.c2)) ∧ (w'.cell? ⟨bl, ol + k * 3, none⟩ = some (.bool tk.s) ∧ w'.cell? ⟨bl, ol + k * 3 + 1, none⟩ = some (.slice tk.a1 tk.n1 tk.c1) ∧ w'.cell? ⟨bl, ol + k * 3 + 2, none⟩ = some (.slice tk.a2 tk.n2 tk.c2))) (by kernel_rfl) ?_
                have bd0 : Below wr.heap.size wr wr.drew := (Below.refl _ _).drew
                have hC0 : (fun w' : World => (w'.cell? ⟨bz, oz + i * 3 + 2, none⟩ = some (.int .i64 zi) ∧ w'.cell? ⟨bz, oz + k * 3 + 2, none⟩ = some (.int .i64 zk)) ∧ (w'.cell? ⟨bl, ol + i * 3, none⟩ = some (.bool ti.s) ∧ w'.cell? ⟨bl, ol + i * 3 + 1, none⟩ = some (.slice ti.a1 ti.n1 ti.c1) ∧ w'.cell? ⟨bl, ol + i * 3 + 2, none⟩ = some (.slice ti.a2 ti.n2 ti.c2)) ∧ (w'.cell? ⟨bl, ol + k * 3, none⟩ = some (.bool tk.s) ∧ w'.cell? ⟨bl, ol + k * 3 + 1, none⟩ = some (.slice tk.a1 tk.n1 tk.c1) ∧ w'.cell? ⟨bl, ol + k * 3 + 2, none⟩ = some (.slice tk.a2 tk.n2 tk.c2))) wr.drew := unhide HCC _ bd0
                refine wpHold_take (i := 0) (v := ?_) rfl (by kernel_rfl) (by kernel_rfl) (by kernel_rfl) (fun _ _ _ h => h) (Or.inl ⟨by rfl, ?_⟩) hC0 ?_
                rotate_left
                · intro w hSw; clear hSw; go_simp; (try with_reducible rfl)
                (try simp only [List.getElem_toArray, List.getElem_cons_succ, List.getElem_cons_zero])
                (try simp only [Act.put, List.setIfInBounds_toArray, List.set_cons_zero, List.set_cons_succ])
                refine wpHold_take (i := 1) (v := ?_) rfl (by kernel_rfl) (by kernel_rfl) (by kernel_rfl) (fun _ _ _ h => h) (Or.inl ⟨by rfl, ?_⟩) hC0 ?_
                rotate_left
                · intro w hSw; clear hSw; go_simp; (try with_reducible rfl)
                (try simp only [List.getElem_toArray, List.getElem_cons_succ, List.getElem_cons_zero])
                (try simp only [Act.put, List.setIfInBounds_toArray, List.set_cons_zero, List.set_cons_succ])
                refine wpHold_take (i := 2) (v := ?_) rfl (by kernel_rfl) (by kernel_rfl) (by kernel_rfl) (fun _ _ _ h => h) (Or.inl ⟨by rfl, ?_⟩) hC0 ?_
                rotate_left
                · intro w hSw; clear hSw; go_simp; (try with_reducible rfl)
                (try simp only [List.getElem_toArray, List.getElem_cons_succ, List.getElem_cons_zero])
                (try simp only [Act.put, List.setIfInBounds_toArray, List.set_cons_zero, List.set_cons_succ])
                refine wpHold_take (i := 3) (v := ?_) rfl (by kernel_rfl) (by kernel_rfl) (by kernel_rfl) (fun _ _ _ h => h) (Or.inl ⟨by rfl, ?_⟩) hC0 ?_
                rotate_left
                · intro w hSw; clear hSw; go_simp; (try with_reducible rfl)
                (try simp only [List.getElem_toArray, List.getElem_cons_succ, List.getElem_cons_zero])
                (try simp only [Act.put, List.setIfInBounds_toArray, List.set_cons_zero, List.set_cons_succ])
                refine wpHold_take (i := 4) (v := ?_) rfl (by kernel_rfl) (by kernel_rfl) (by kernel_rfl) (fun _ _ _ h => h) (Or.inl ⟨by rfl, ?_⟩) hC0 ?_
                rotate_left
                · intro w hSw; (try dsimp only at hSw); obtain ⟨⟨z0, z1⟩, ⟨z2, z3, z4⟩, z5, z6, z7⟩ := hSw; go_simp; (try with_reducible rfl)
                (try simp only [List.getElem_toArray, List.getElem_cons_succ, List.getElem_cons_zero])
                (try simp only [Act.put, List.setIfInBounds_toArray, List.set_cons_zero, List.set_cons_succ])
                refine wpHold_take (i := 5) (v := ?_) rfl (by kernel_rfl) (by kernel_rfl) (by kernel_rfl) (fun _ _ _ h => h) (Or.inl ⟨by rfl, ?_⟩) hC0 ?_
                rotate_left
                · intro w hSw; clear hSw; go_simp; (try with_reducible rfl)
                (try simp only [List.getElem_toArray, List.getElem_cons_succ, List.getElem_cons_zero])
                (try simp only [Act.put, List.setIfInBounds_toArray, List.set_cons_zero, List.set_cons_succ])
                refine wpHold_take (i := 6) (v := ?_) rfl (by kernel_rfl) (by kernel_rfl) (by kernel_rfl) (fun _ _ _ h => h) (Or.inl ⟨by rfl, ?_⟩) hC0 ?_
                rotate_left
                · intro w hSw; clear hSw; go_simp; (try with_reducible rfl)
                (try simp only [List.getElem_toArray, List.getElem_cons_succ, List.getElem_cons_zero])
                (try simp only [Act.put, List.setIfInBounds_toArray, List.set_cons_zero, List.set_cons_succ])
                refine wpHold_take (i := 7) (v := ?_) rfl (by kernel_rfl) (by kernel_rfl) (by kernel_rfl) (fun _ _ _ h => h) (Or.inl ⟨by rfl, ?_⟩) hC0 ?_
                rotate_left
                · intro w hSw; clear hSw; go_simp; (try with_reducible rfl)
                (try simp only [List.getElem_toArray, List.getElem_cons_succ, List.getElem_cons_zero])
                (try simp only [Act.put, List.setIfInBounds_toArray, List.set_cons_zero, List.set_cons_succ])
                refine wpHold_take (i := 8) (v := ?_) rfl (by kernel_rfl) (by kernel_rfl) (by kernel_rfl) (fun _ _ _ h => h) (Or.inl ⟨by rfl, ?_⟩) hC0 ?_
                rotate_left
                · intro w hSw; clear hSw; go_simp; (try with_reducible rfl)
                (try simp only [List.getElem_toArray, List.getElem_cons_succ, List.getElem_cons_zero])
                (try simp only [Act.put, List.setIfInBounds_toArray, List.set_cons_zero, List.set_cons_succ])
                refine wpHold_take (i := 9) (v := ?_) rfl (by kernel_rfl) (by kernel_rfl) (by kernel_rfl) (fun _ _ _ h => h) (Or.inl ⟨by rfl, ?_⟩) hC0 ?_
                rotate_left
                · intro w hSw; (try dsimp only at hSw); obtain ⟨⟨z0, z1⟩, ⟨z2, z3, z4⟩, z5, z6, z7⟩ := hSw; go_simp; (try with_reducible rfl)
                (try simp only [List.getElem_toArray, List.getElem_cons_succ, List.getElem_cons_zero])
                (try simp only [Act.put, List.setIfInBounds_toArray, List.set_cons_zero, List.set_cons_succ])
                refine wpHold_take (i := 10) (v := ?_) rfl (by kernel_rfl) (by kernel_rfl) (by kernel_rfl) (fun _ _ _ h => h) (Or.inl ⟨by rfl, ?_⟩) hC0 ?_
                rotate_left
                · intro w hSw; clear hSw; go_simp; (try with_reducible rfl)
                (try simp only [List.getElem_toArray, List.getElem_cons_succ, List.getElem_cons_zero])
                (try simp only [Act.put, List.setIfInBounds_toArray, List.set_cons_zero, List.set_cons_succ])
                refine wpHold_take (i := 11) (v := ?_) rfl (by kernel_rfl) (by kernel_rfl) (by kernel_rfl) (fun _ _ _ h => h) (Or.inl ⟨by rfl, ?_⟩) hC0 ?_
                rotate_left
                · intro w hSw; clear hSw; go_simp; (try with_reducible rfl)
                (try simp only [List.getElem_toArray, List.getElem_cons_succ, List.getElem_cons_zero])
                (try simp only [Act.put, List.setIfInBounds_toArray, List.set_cons_zero, List.set_cons_succ])
                refine wpHold_take (i := 12) (v := undef) rfl (by kernel_rfl) (by kernel_rfl) (by kernel_rfl) (fun _ _ _ h => h) (Or.inr ⟨by rfl, rfl⟩) hC0 ?_
                (try simp only [List.getElem_toArray, List.getElem_cons_succ, List.getElem_cons_zero])
                (try simp only [Act.put, List.setIfInBounds_toArray, List.set_cons_zero, List.set_cons_succ])
                refine wpHold_take (i := 13) (v := undef) rfl (by kernel_rfl) (by kernel_rfl) (by kernel_rfl) (fun _ _ _ h => h) (Or.inr ⟨by rfl, rfl⟩) hC0 ?_
                (try simp only [List.getElem_toArray, List.getElem_cons_succ, List.getElem_cons_zero])
                (try simp only [Act.put, List.setIfInBounds_toArray, List.set_cons_zero, List.set_cons_succ])
                refine wpHold_take (i := 14) (v := undef) rfl (by kernel_rfl) (by kernel_rfl) (by kernel_rfl) (fun _ _ _ h => h) (Or.inr ⟨by rfl, rfl⟩) hC0 ?_
                (try simp only [List.getElem_toArray, List.getElem_cons_succ, List.getElem_cons_zero])
                (try simp only [Act.put, List.setIfInBounds_toArray, List.set_cons_zero, List.set_cons_succ])
                refine wpHold_take (i := 15) (v := undef) rfl (by kernel_rfl) (by kernel_rfl) (by kernel_rfl) (fun _ _ _ h => h) (Or.inr ⟨by rfl, rfl⟩) hC0 ?_
                (try simp only [List.getElem_toArray, List.getElem_cons_succ, List.getElem_cons_zero])
                (try simp only [Act.put, List.setIfInBounds_toArray, List.set_cons_zero, List.set_cons_succ])
                refine wpHold_take (i := 16) (v := undef) rfl (by kernel_rfl) (by kernel_rfl) (by kernel_rfl) (fun _ _ _ h => h) (Or.inr ⟨by rfl, rfl⟩) hC0 ?_
                (try simp only [List.getElem_toArray, List.getElem_cons_succ, List.getElem_cons_zero])
                (try simp only [Act.put, List.setIfInBounds_toArray, List.set_cons_zero, List.set_cons_succ])
                refine wpHold_take (i := 17) (v := undef) rfl (by kernel_rfl) (by kernel_rfl) (by kernel_rfl) (fun _ _ _ h => h) (Or.inr ⟨by rfl, rfl⟩) hC0 ?_
                (try simp only [List.getElem_toArray, List.getElem_cons_succ, List.getElem_cons_zero])
                (try simp only [Act.put, List.setIfInBounds_toArray, List.set_cons_zero, List.set_cons_succ])
                refine wpHold_take (i := 18) (v := undef) rfl (by kernel_rfl) (by kernel_rfl) (by kernel_rfl) (fun _ _ _ h => h) (Or.inr ⟨by rfl, rfl⟩) hC0 ?_
                (try simp only [List.getElem_toArray, List.getElem_cons_succ, List.getElem_cons_zero])
                (try simp only [Act.put, List.setIfInBounds_toArray, List.set_cons_zero, List.set_cons_succ])
                refine wpHold_take (i := 19) (v := undef) rfl (by kernel_rfl) (by kernel_rfl) (by kernel_rfl) (fun _ _ _ h => h) (Or.inr ⟨by rfl, rfl⟩) hC0 ?_
                (try simp only [List.getElem_toArray, List.getElem_cons_succ, List.getElem_cons_zero])
                (try simp only [Act.put, List.setIfInBounds_toArray, List.set_cons_zero, List.set_cons_succ])
                refine wpHold_take (i := 20) (v := undef) rfl (by kernel_rfl) (by kernel_rfl) (by kernel_rfl) (fun _ _ _ h => h) (Or.inr ⟨by rfl, rfl⟩) hC0 ?_
                (try simp only [List.getElem_toArray, List.getElem_cons_succ, List.getElem_cons_zero])
                (try simp only [Act.put, List.setIfInBounds_toArray, List.set_cons_zero, List.set_cons_succ])
                refine wpHold_take (i := 21) (v := undef) rfl (by kernel_rfl) (by kernel_rfl) (by kernel_rfl) (fun _ _ _ h => h) (Or.inr ⟨by rfl, rfl⟩) hC0 ?_
                (try simp only [List.getElem_toArray, List.getElem_cons_succ, List.getElem_cons_zero])
                (try simp only [Act.put, List.setIfInBounds_toArray, List.set_cons_zero, List.set_cons_succ])
                refine wpHold_take (i := 22) (v := ?_) rfl (by kernel_rfl) (by kernel_rfl) (by kernel_rfl) (fun _ _ _ h => h) (Or.inl ⟨by rfl, ?_⟩) hC0 ?_
                rotate_left
                · intro w hSw; clear hSw; go_simp; (try with_reducible rfl)
                (try simp only [List.getElem_toArray, List.getElem_cons_succ, List.getElem_cons_zero])
                (try simp only [Act.put, List.setIfInBounds_toArray, List.set_cons_zero, List.set_cons_succ])
                refine wpHold_done (by kernel_rfl) ?_ _
                have HBN := hide (below_step (unhide HBK) bd0)
                clear hC0 bd0 HCC 
                clear dge
                go_wp2_with fail
                exact ⟨⟨k + 1, by go_num, by omega, unhide HBN⟩, by simp [intOf]; omega⟩
            · have f1 : ¬ (k : Int) < (ps.length : Int) := by omega
              go_wp2_with fail
              (try simp only [Exit.inBlock, Exit.then])
              go_wp2_with fail
              exact ⟨⟨i + 1, by go_num, by omega, unhide HBK⟩, by simp [intOf]; omega⟩
        · have e1 : ¬ (i : Int) < (ps.length : Int) := by omega
          have HSU : Hid (Calls Tryd.prog 11 #[.slice at2 (c + 1) ct2] wr fun e w' => ∃ v, e = .returned v ∧ RatIs w' v ((1 : Int) : Rat) ∧ Below wr.heap.size wr w') := by
            have h := fsum_any _ _ 1700000 wr ((unhide HVT2).below (unhide HBI)) (fun j hj => by rw [row_length] at hj; rw [row_get hj]; exact takenV_RS (unhide HOK) (unhide HRK) (unhide HLE) (by omega) j hj) (by rw [row_length, KKe]; omega)
            rw [taken_sum (unhide HOK)] at h
            exact h
          go_wp2_with fail
          (try simp only [Exit.inBlock, Exit.then])
          go_wp2_with fail
          refine (unhide HSU).mono ?_
          rintro e w_s ⟨v_s, rfl, hv_s, hb_s⟩
          go_wp2_with fail
          refine (whole_any 1 (by decide) (by decide) w_s).mono ?_
          rintro e w_t ⟨v_t, rfl, hv_t, hb_t⟩
          have hb2 := below_step (unhide HB_71) (below_step (below_step (unhide HBI) hb_s) hb_t)
          have HLI := hide (like_any v_s v_t _ w_t (hv_s.below hb_t) hv_t 1 onei_RS (by rw [KKe]; omega) (tab_below (unhide HTAB) hb2))
          have HB2 := hide hb2
          clear hb2 hv_s hv_t hb_s hb_t HSU
          go_wp2_with fail
          refine (unhide HLI).mono ?_
          rintro e w_u ⟨rfl, hb_u⟩
          have HB3 := hide (below_step (unhide HB2) hb_u)
          clear hb_u HLI
          go_wp2
          go_ret
          exact ⟨rfl, unhide HB3⟩
    · have HSH := hide (share_bad vk (ksOf ps) c w_k (unhide HVK) hok (unhide HLE) (by omega))
      go_wp2_with fail
      refine (unhide HSH).mono ?_
      rintro e w_l ⟨k6, rfl, hbx⟩
      have HB_71 := hide (below_step (unhide HB_61) hbx)
      have HX_ba_71 := hide ((unhide HX_ba_61).keep hbx)
      have HX_bb_71 := hide ((unhide HX_bb_61).keep hbx)
      clear HB_61 HX_ba_61 HX_bb_61
      clear hbx HSH
      go_wp2
      go_ret
      exact ⟨rfl, unhide HB_71⟩
  · have h0 : 0 ≤ a := Rat.num_nonneg.1 (Int.not_lt.1 hneg)
    have HH0 := hide h0
    have HOK1 := hide (okK_one (Int.not_lt.1 hneg))
    have HSH := hide (share_any _ [(a, 1)] c _ (kinds_one (unhide HX_ba_1).2) (unhide HOK1) (rsK_one (unhide HRA)) (show 1 ≤ 6 by decide) (by omega))
    refine (unhide HSH).mono ?_
    rintro e w_5 ⟨vt, vl, rfl, hvt, hvl, hbx⟩
    rw [show [(a, (1 : Int))].length = 1 from rfl] at hvl
    have HVT := hide hvt
    have HVL := hide hvl
    have hb5 := below_step (alloc_below Wba (.cells #[.bool ta.s, .slice ta.a1 ta.n1 ta.c1, .slice ta.a2 ta.n2 ta.c2, .int .i64 1] 56)) hbx
    clear cba_0 cba_1 cba_2
    have HB_6 := hide (below_step (unhide HB_2) hb5)
    have HX_ba_6 := hide ((unhide HX_ba_1).keep hb5)
    clear HB_2 HX_ba_1
    clear hbx hb5 HSH hvt hvl
    obtain ⟨cba_0, cba_1, cba_2⟩ := (unhide HX_ba_6).cells _ (Below.refl _ _)
    have HLO := hide (lost_any ta.val a c w_5 (unhide HX_ba_6).2 (unhide HRA) h0 (by omega))
    simp only [Tri.val] at HLO
    clear hneg h0
    obtain ⟨at1, ct1, rfl, kt1, kt2, kt3⟩ := unhide HVT
    obtain ⟨al1, cl1, rfl, kl1, kl2, kl3⟩ := unhide HVL
    rw [row_length] at kt1 kl1 HVT HVL
    clear kt3 kl3
    simp only [row_length]
    go_wp2_with fail
    refine (unhide HLO).mono ?_
    rintro e w_7 ⟨v2, rfl, hv2, hbx⟩
    obtain ⟨tb, rfl, hr_7⟩ := tri_of hv2
    simp only [Tri.val]
    have HL_ba_bb := hide (Nat.lt_of_lt_of_le (unhide HX_ba_6).lt hbx.size)
    have HG_bb := hide (below_step (unhide HB_6) hbx).size
    have hb_7 := below_step hbx (alloc_below w_7 (.cells #[.bool tb.s, .slice tb.a1 tb.n1 tb.c1, .slice tb.a2 tb.n2 tb.c2] 34))
    have HB_8 := hide (below_step (unhide HB_6) hb_7)
    have HX_ba_8 := hide ((unhide HX_ba_6).keep hb_7)
    have HVT_8 := hide ((unhide HVT).below hb_7)
    have HVL_8 := hide ((unhide HVL).below hb_7)
    clear HB_6 HX_ba_6 HVT HVL
    have HX_bb_7 := hide (BoxIs.new hr_7)
    obtain ⟨Wbb, hW_7⟩ : ∃ W, w_7.alloc (.cells #[.bool tb.s, .slice tb.a1 tb.n1 tb.c1, .slice tb.a2 tb.n2 tb.c2] 34) = W := ⟨_, rfl⟩
    obtain ⟨bb, hc_7⟩ : ∃ b, w_7.heap.size = b := ⟨_, rfl⟩
    rw [hW_7] at HB_8 HX_ba_8 HVT_8 HVL_8 HX_bb_7
    rw [hc_7] at HX_bb_7 HL_ba_bb HG_bb
    clear hv2 hr_7 hbx hb_7
    clear cba_0 cba_1 cba_2
    go_wp2_with fail
    clear HLO hW_7 hc_7
    have HT0 : Hid (∀ W, Below Wbb.heap.size Wbb W → (fun _ : World => True) W) := fun _ _ => trivial
    refine wp_region_hold (fun _ : World => True) (by kernel_rfl) ?_
    have bd0 : Below Wbb.heap.size Wbb Wbb.drew := (Below.refl _ _).drew
    have hC0 : (fun _ : World => True) Wbb.drew := unhide HT0 _ bd0
    refine wpHold_one (k := 0) (by kernel_rfl) rfl (fun K hK => ?_)
    (try simp only [List.getElem_toArray, List.getElem_cons_succ, List.getElem_cons_zero])
    go_simp
    refine (unhide HHF _ (below_step (unhide HB_8) bd0)).mono ?_
    rintro e xw_1 ⟨rfl, hb_1⟩
    have cc_1 := below_step bd0 hb_1
    have hC_1 : (fun _ : World => True) xw_1 := unhide HT0 _ cc_1
    refine hK.out _ _ hC_1 ?_
    clear hK K
    (try simp only [Act.put, List.setIfInBounds_toArray, List.set_cons_zero, List.set_cons_succ])
    refine wpHold_take (i := 1) (v := ?_) rfl (by kernel_rfl) (by kernel_rfl) (by kernel_rfl) (fun _ _ _ h => h) (Or.inl ⟨by rfl, ?_⟩) hC_1 ?_
    rotate_left
    · intro w hSw; clear hSw; go_simp; (try with_reducible rfl)
    (try simp only [List.getElem_toArray, List.getElem_cons_succ, List.getElem_cons_zero])
    (try simp only [Act.put, List.setIfInBounds_toArray, List.set_cons_zero, List.set_cons_succ])
    refine wpHold_take (i := 2) (v := ?_) rfl (by kernel_rfl) (by kernel_rfl) (by kernel_rfl) (fun _ _ _ h => h) (Or.inl ⟨by rfl, ?_⟩) hC_1 ?_
    rotate_left
    · intro w hSw; clear hSw; go_simp; (try with_reducible rfl)
    (try simp only [List.getElem_toArray, List.getElem_cons_succ, List.getElem_cons_zero])
    (try simp only [Act.put, List.setIfInBounds_toArray, List.set_cons_zero, List.set_cons_succ])
    refine wpHold_take (i := 3) (v := ?_) rfl (by kernel_rfl) (by kernel_rfl) (by kernel_rfl) (fun _ _ _ h => h) (Or.inl ⟨by rfl, ?_⟩) hC_1 ?_
    rotate_left
    · intro w hSw; clear hSw; go_simp; (try with_reducible rfl)
    (try simp only [List.getElem_toArray, List.getElem_cons_succ, List.getElem_cons_zero])
    (try simp only [Act.put, List.setIfInBounds_toArray, List.set_cons_zero, List.set_cons_succ])
    refine wpHold_take (i := 4) (v := ?_) rfl (by kernel_rfl) (by kernel_rfl) (by kernel_rfl) (fun _ _ _ h => h) (Or.inl ⟨by rfl, ?_⟩) hC_1 ?_
    rotate_left
    · intro w hSw; clear hSw; go_simp; (try with_reducible rfl)
    (try simp only [List.getElem_toArray, List.getElem_cons_succ, List.getElem_cons_zero])
    (try simp only [Act.put, List.setIfInBounds_toArray, List.set_cons_zero, List.set_cons_succ])
    refine wpHold_take (i := 5) (v := ?_) rfl (by kernel_rfl) (by kernel_rfl) (by kernel_rfl) (fun _ _ _ h => h) (Or.inl ⟨by rfl, ?_⟩) hC_1 ?_
    rotate_left
    · intro w hSw; clear hSw; go_simp; (try with_reducible rfl)
    (try simp only [List.getElem_toArray, List.getElem_cons_succ, List.getElem_cons_zero])
    (try simp only [Act.put, List.setIfInBounds_toArray, List.set_cons_zero, List.set_cons_succ])
    refine wpHold_take (i := 6) (v := ?_) rfl (by kernel_rfl) (by kernel_rfl) (by kernel_rfl) (fun _ _ _ h => h) (Or.inl ⟨by rfl, ?_⟩) hC_1 ?_
    rotate_left
    · intro w hSw; clear hSw; go_simp; (try with_reducible rfl)
    (try simp only [List.getElem_toArray, List.getElem_cons_succ, List.getElem_cons_zero])
    (try simp only [Act.put, List.setIfInBounds_toArray, List.set_cons_zero, List.set_cons_succ])
    refine wpHold_take (i := 7) (v := ?_) rfl (by kernel_rfl) (by kernel_rfl) (by kernel_rfl) (fun _ _ _ h => h) (Or.inl ⟨by rfl, ?_⟩) hC_1 ?_
    rotate_left
    · intro w hSw; clear hSw; go_simp; (try with_reducible rfl)
    (try simp only [List.getElem_toArray, List.getElem_cons_succ, List.getElem_cons_zero])
    (try simp only [Act.put, List.setIfInBounds_toArray, List.set_cons_zero, List.set_cons_succ])
    refine wpHold_take (i := 8) (v := ?_) rfl (by kernel_rfl) (by kernel_rfl) (by kernel_rfl) (fun _ _ _ h => h) (Or.inl ⟨by rfl, ?_⟩) hC_1 ?_
    rotate_left
    · intro w hSw; clear hSw; go_simp; (try with_reducible rfl)
    (try simp only [List.getElem_toArray, List.getElem_cons_succ, List.getElem_cons_zero])
    (try simp only [Act.put, List.setIfInBounds_toArray, List.set_cons_zero, List.set_cons_succ])
    refine wpHold_done (by kernel_rfl) ?_ _
    have HB_21 := hide (below_step (unhide HB_8) cc_1)
    have HX_ba_21 := hide ((unhide HX_ba_8).keep cc_1)
    have HX_bb_21 := hide ((unhide HX_bb_7).keep cc_1)
    have HVT_21 := hide ((unhide HVT_8).below cc_1)
    have HVL_21 := hide ((unhide HVL_8).below cc_1)
    clear HB_8 HX_ba_8 HX_bb_7 HVT_8 HVL_8
    clear HT0 hC0 hC_1 hb_1 cc_1 bd0
    go_wp2_with fail
    have LV := unhide HVL_21
    obtain ⟨al2, cl2, eal, kq1, kq2, kq3⟩ := LV
    injection eal with ea1 ea2 ea3
    subst ea1 ea3
    obtain ⟨bl, ol, rfl, hbl, hcl⟩ := kq3 (by rw [row_length]; omega)
    obtain ⟨ps, pp1, pp2, pn1, pd1, pn2, pd2, pk0, pk1, pk2, pr⟩ := hcl 0 (by rw [row_length]; omega)
    obtain ⟨tl, rfl, rfl, rfl, rfl, rfl, rfl, rfl⟩ : ∃ t : Tri, ps = t.s ∧ pp1 = t.a1 ∧ pp2 = t.a2 ∧ pn1 = t.n1 ∧ pd1 = t.c1 ∧ pn2 = t.n2 ∧ pd2 = t.c2 := ⟨⟨ps, pp1, pp2, pn1, pd1, pn2, pd2⟩, rfl, rfl, rfl, rfl, rfl, rfl, rfl⟩
    rw [row_get (by omega), lostV_one (unhide HH0)] at pr
    have HRL := hide pr
    simp only [Nat.zero_mul, Nat.add_zero] at pk0 pk1 pk2
    have HCC : Hid (∀ W, Below xw_1.heap.size xw_1 W → (fun w' : World => (w'.cell? ⟨bl, ol, none⟩ = some (.bool tl.s) ∧ w'.cell? ⟨bl, ol + 1, none⟩ = some (.slice tl.a1 tl.n1 tl.c1) ∧ w'.cell? ⟨bl, ol + 2, none⟩ = some (.slice tl.a2 tl.n2 tl.c2)) ∧ (w'.cell? ⟨bb, 0, none⟩ = some (.bool tb.s) ∧ w'.cell? ⟨bb, 1, none⟩ = some (.slice tb.a1 tb.n1 tb.c1) ∧ w'.cell? ⟨bb, 2, none⟩ = some (.slice tb.a2 tb.n2 tb.c2))) W) := fun W hW => ⟨by
      rw [hW.cell (p := ⟨bl, ol, none⟩) hbl, hW.cell (p := ⟨bl, ol + 1, none⟩) hbl, hW.cell (p := ⟨bl, ol + 2, none⟩) hbl]
      exact ⟨pk0, pk1, pk2⟩, (unhide HX_bb_21).cells W hW⟩
    have HEB := hide (eb_RS (unhide HRA) (unhide HH0) (show c ≤ 20 by omega))
    have HLK : Hid (∀ W, Below xw_1.heap.size xw_1 W → Calls Tryd.prog 9 #[.agg #[.bool tl.s, .slice tl.a1 tl.n1 tl.c1, .slice tl.a2 tl.n2 tl.c2], .agg #[.bool tb.s, .slice tb.a1 tb.n1 tb.c1, .slice tb.a2 tb.n2 tb.c2]] W fun e w' => e = .returned (.bool true) ∧ Below W.heap.size W w') := fun W hW => like_any _ _ _ W ((unhide HRL).below hW) ((unhide HX_bb_21).2.below hW) 1600 (unhide HEB) (by rw [KKe]; omega) (tab_below (unhide HTAB) (below_step (unhide HB_21) hW))
    have HSU : Hid (∀ W, Below xw_1.heap.size xw_1 W → Calls Tryd.prog 11 #[.slice at1 (c + 1) ct1] W fun e w' => ∃ v, e = .returned v ∧ RatIs w' v ((1 : Int) : Rat) ∧ Below W.heap.size W w') := fun W hW => by
      have h := fsum_any _ _ 1700000 W ((unhide HVT_21).below hW) (fun j hj => by rw [row_length] at hj; rw [row_get hj]; exact takenV_RS (unhide HOK1) (rsK_one (unhide HRA)) (show 1 ≤ 6 by decide) (by omega) j hj) (by rw [row_length, KKe]; omega)
      rw [taken_sum (unhide HOK1)] at h
      exact h
    have HWH : Hid (∀ W, Calls Tryd.prog 12 #[.int .i64 1] W fun e w' => ∃ v, e = .returned v ∧ RatIs w' v ((1 : Int) : Rat) ∧ Below W.heap.size W w') := fun W => whole_any 1 (by decide) (by decide) W
    have HL1 : Hid (∀ W v v' (hW : Below xw_1.heap.size xw_1 W) (hv : RatIs W v ((1 : Int) : Rat)) (hv' : RatIs W v' ((1 : Int) : Rat)), Calls Tryd.prog 9 #[v, v'] W fun e w' => e = .returned (.bool true) ∧ Below W.heap.size W w') := fun W v v' hW hv hv' => like_any v v' _ W hv hv' 1 onei_RS (by rw [KKe]; omega) (tab_below (unhide HTAB) (below_step (unhide HB_21) hW))
    clear kq3 hcl pr pk0 pk1 pk2 ea2 kq1
    refine wp_region_hold (fun w' : World => (w'.cell? ⟨bl, ol, none⟩ = some (.bool tl.s) ∧ w'.cell? ⟨bl, ol + 1, none⟩ = some (.slice tl.a1 tl.n1 tl.c1) ∧ w'.cell? ⟨bl, ol + 2, none⟩ = some (.slice tl.a2 tl.n2 tl.c2)) ∧ (w'.cell? ⟨bb, 0, none⟩ = some (.bool tb.s) ∧ w'.cell? ⟨bb, 1, none⟩ = some (.slice tb.a1 tb.n1 tb.c1) ∧ w'.cell? ⟨bb, 2, none⟩ = some (.slice tb.a2 tb.n2 tb.c2))) (by kernel_rfl) ?_
    have bd0 : Below xw_1.heap.size xw_1 xw_1.drew := (Below.refl _ _).drew
    have hC0 : (fun w' : World => (w'.cell? ⟨bl, ol, none⟩ = some (.bool tl.s) ∧ w'.cell? ⟨bl, ol + 1, none⟩ = some (.slice tl.a1 tl.n1 tl.c1) ∧ w'.cell? ⟨bl, ol + 2, none⟩ = some (.slice tl.a2 tl.n2 tl.c2)) ∧ (w'.cell? ⟨bb, 0, none⟩ = some (.bool tb.s) ∧ w'.cell? ⟨bb, 1, none⟩ = some (.slice tb.a1 tb.n1 tb.c1) ∧ w'.cell? ⟨bb, 2, none⟩ = some (.slice tb.a2 tb.n2 tb.c2))) xw_1.drew := unhide HCC _ bd0
    refine wpHold_take (i := 0) (v := ?_) rfl (by kernel_rfl) (by kernel_rfl) (by kernel_rfl) (fun _ _ _ h => h) (Or.inl ⟨by rfl, ?_⟩) hC0 ?_
    rotate_left
    · intro w hSw; clear hSw; go_simp; (try with_reducible rfl)
    (try simp only [List.getElem_toArray, List.getElem_cons_succ, List.getElem_cons_zero])
    (try simp only [Act.put, List.setIfInBounds_toArray, List.set_cons_zero, List.set_cons_succ])
    refine wpHold_take (i := 1) (v := ?_) rfl (by kernel_rfl) (by kernel_rfl) (by kernel_rfl) (fun _ _ _ h => h) (Or.inl ⟨by rfl, ?_⟩) hC0 ?_
    rotate_left
    · intro w hSw; clear hSw; go_simp; (try with_reducible rfl)
    (try simp only [List.getElem_toArray, List.getElem_cons_succ, List.getElem_cons_zero])
    (try simp only [Act.put, List.setIfInBounds_toArray, List.set_cons_zero, List.set_cons_succ])
    refine wpHold_take (i := 2) (v := ?_) rfl (by kernel_rfl) (by kernel_rfl) (by kernel_rfl) (fun _ _ _ h => h) (Or.inl ⟨by rfl, ?_⟩) hC0 ?_
    rotate_left
    · intro w hSw; clear hSw; go_simp; (try with_reducible rfl)
    (try simp only [List.getElem_toArray, List.getElem_cons_succ, List.getElem_cons_zero])
    (try simp only [Act.put, List.setIfInBounds_toArray, List.set_cons_zero, List.set_cons_succ])
    refine wpHold_take (i := 3) (v := ?_) rfl (by kernel_rfl) (by kernel_rfl) (by kernel_rfl) (fun _ _ _ h => h) (Or.inl ⟨by rfl, ?_⟩) hC0 ?_
    rotate_left
    · intro w hSw; clear hSw; go_simp; (try with_reducible rfl)
    (try simp only [List.getElem_toArray, List.getElem_cons_succ, List.getElem_cons_zero])
    (try simp only [Act.put, List.setIfInBounds_toArray, List.set_cons_zero, List.set_cons_succ])
    refine wpHold_take (i := 4) (v := ?_) rfl (by kernel_rfl) (by kernel_rfl) (by kernel_rfl) (fun _ _ _ h => h) (Or.inl ⟨by rfl, ?_⟩) hC0 ?_
    rotate_left
    · intro w hSw; clear hSw; go_simp; (try with_reducible rfl)
    (try simp only [List.getElem_toArray, List.getElem_cons_succ, List.getElem_cons_zero])
    (try simp only [Act.put, List.setIfInBounds_toArray, List.set_cons_zero, List.set_cons_succ])
    refine wpHold_take (i := 5) (v := ?_) rfl (by kernel_rfl) (by kernel_rfl) (by kernel_rfl) (fun _ _ _ h => h) (Or.inl ⟨by rfl, ?_⟩) hC0 ?_
    rotate_left
    · intro w hSw; clear hSw; go_simp; (try with_reducible rfl)
    (try simp only [List.getElem_toArray, List.getElem_cons_succ, List.getElem_cons_zero])
    (try simp only [Act.put, List.setIfInBounds_toArray, List.set_cons_zero, List.set_cons_succ])
    refine wpHold_take (i := 6) (v := ?_) rfl (by kernel_rfl) (by kernel_rfl) (by kernel_rfl) (fun _ _ _ h => h) (Or.inl ⟨by rfl, ?_⟩) hC0 ?_
    rotate_left
    · intro w hSw; clear hSw; go_simp; (try with_reducible rfl)
    (try simp only [List.getElem_toArray, List.getElem_cons_succ, List.getElem_cons_zero])
    (try simp only [Act.put, List.setIfInBounds_toArray, List.set_cons_zero, List.set_cons_succ])
    refine wpHold_take (i := 7) (v := ?_) rfl (by kernel_rfl) (by kernel_rfl) (by kernel_rfl) (fun _ _ _ h => h) (Or.inl ⟨by rfl, ?_⟩) hC0 ?_
    rotate_left
    · intro w hSw; clear hSw; go_simp; (try with_reducible rfl)
    (try simp only [List.getElem_toArray, List.getElem_cons_succ, List.getElem_cons_zero])
    (try simp only [Act.put, List.setIfInBounds_toArray, List.set_cons_zero, List.set_cons_succ])
    refine wpHold_take (i := 8) (v := ?_) rfl (by kernel_rfl) (by kernel_rfl) (by kernel_rfl) (fun _ _ _ h => h) (Or.inl ⟨by rfl, ?_⟩) hC0 ?_
    rotate_left
    · intro w hSw; clear hSw; go_simp; (try with_reducible rfl)
    (try simp only [List.getElem_toArray, List.getElem_cons_succ, List.getElem_cons_zero])
    (try simp only [Act.put, List.setIfInBounds_toArray, List.set_cons_zero, List.set_cons_succ])
    refine wpHold_take (i := 9) (v := ?_) rfl (by kernel_rfl) (by kernel_rfl) (by kernel_rfl) (fun _ _ _ h => h) (Or.inl ⟨by rfl, ?_⟩) hC0 ?_
    rotate_left
    · intro w hSw; (try dsimp only at hSw); obtain ⟨⟨z0, z1, z2⟩, z3, z4, z5⟩ := hSw; go_simp; (try with_reducible rfl)
    (try simp only [List.getElem_toArray, List.getElem_cons_succ, List.getElem_cons_zero])
    (try simp only [Act.put, List.setIfInBounds_toArray, List.set_cons_zero, List.set_cons_succ])
    refine wpHold_take (i := 10) (v := ?_) rfl (by kernel_rfl) (by kernel_rfl) (by kernel_rfl) (fun _ _ _ h => h) (Or.inl ⟨by rfl, ?_⟩) hC0 ?_
    rotate_left
    · intro w hSw; (try dsimp only at hSw); obtain ⟨⟨z0, z1, z2⟩, z3, z4, z5⟩ := hSw; go_simp; (try with_reducible rfl)
    (try simp only [List.getElem_toArray, List.getElem_cons_succ, List.getElem_cons_zero])
    (try simp only [Act.put, List.setIfInBounds_toArray, List.set_cons_zero, List.set_cons_succ])
    refine wpHold_one (k := 11) (by kernel_rfl) rfl (fun K hK => ?_)
    (try simp only [List.getElem_toArray, List.getElem_cons_succ, List.getElem_cons_zero])
    go_simp
    refine (unhide HLK _ bd0).mono ?_
    rintro e xw_31 ⟨rfl, hb_31⟩
    have cc_31 := below_step bd0 hb_31
    have hC_31 : (fun w' : World => (w'.cell? ⟨bl, ol, none⟩ = some (.bool tl.s) ∧ w'.cell? ⟨bl, ol + 1, none⟩ = some (.slice tl.a1 tl.n1 tl.c1) ∧ w'.cell? ⟨bl, ol + 2, none⟩ = some (.slice tl.a2 tl.n2 tl.c2)) ∧ (w'.cell? ⟨bb, 0, none⟩ = some (.bool tb.s) ∧ w'.cell? ⟨bb, 1, none⟩ = some (.slice tb.a1 tb.n1 tb.c1) ∧ w'.cell? ⟨bb, 2, none⟩ = some (.slice tb.a2 tb.n2 tb.c2))) xw_31 := unhide HCC _ cc_31
    refine hK.out _ _ hC_31 ?_
    clear hK K
    (try simp only [Act.put, List.setIfInBounds_toArray, List.set_cons_zero, List.set_cons_succ])
    refine wpHold_take (i := 12) (v := ?_) rfl (by kernel_rfl) (by kernel_rfl) (by kernel_rfl) (fun _ _ _ h => h) (Or.inl ⟨by rfl, ?_⟩) hC_31 ?_
    rotate_left
    · intro w hSw; clear hSw; go_simp; (try with_reducible rfl)
    (try simp only [List.getElem_toArray, List.getElem_cons_succ, List.getElem_cons_zero])
    (try simp only [Act.put, List.setIfInBounds_toArray, List.set_cons_zero, List.set_cons_succ])
    refine wpHold_take (i := 13) (v := ?_) rfl (by kernel_rfl) (by kernel_rfl) (by kernel_rfl) (fun _ _ _ h => h) (Or.inl ⟨by rfl, ?_⟩) hC_31 ?_
    rotate_left
    · intro w hSw; clear hSw; go_simp; (try with_reducible rfl)
    (try simp only [List.getElem_toArray, List.getElem_cons_succ, List.getElem_cons_zero])
    (try simp only [Act.put, List.setIfInBounds_toArray, List.set_cons_zero, List.set_cons_succ])
    refine wpHold_take (i := 14) (v := ?_) rfl (by kernel_rfl) (by kernel_rfl) (by kernel_rfl) (fun _ _ _ h => h) (Or.inl ⟨by rfl, ?_⟩) hC_31 ?_
    rotate_left
    · intro w hSw; clear hSw; go_simp; (try with_reducible rfl)
    (try simp only [List.getElem_toArray, List.getElem_cons_succ, List.getElem_cons_zero])
    (try simp only [Act.put, List.setIfInBounds_toArray, List.set_cons_zero, List.set_cons_succ])
    refine wpHold_take (i := 15) (v := ?_) rfl (by kernel_rfl) (by kernel_rfl) (by kernel_rfl) (fun _ _ _ h => h) (Or.inl ⟨by rfl, ?_⟩) hC_31 ?_
    rotate_left
    · intro w hSw; clear hSw; go_simp; (try with_reducible rfl)
    (try simp only [List.getElem_toArray, List.getElem_cons_succ, List.getElem_cons_zero])
    (try simp only [Act.put, List.setIfInBounds_toArray, List.set_cons_zero, List.set_cons_succ])
    refine wpHold_one (k := 16) (by kernel_rfl) rfl (fun K hK => ?_)
    (try simp only [List.getElem_toArray, List.getElem_cons_succ, List.getElem_cons_zero])
    go_simp
    refine (unhide HSU _ cc_31).mono ?_
    rintro e xw_32 ⟨xv_32, rfl, hv_32, hb_32⟩
    have cc_32 := below_step cc_31 hb_32
    have hC_32 : (fun w' : World => (w'.cell? ⟨bl, ol, none⟩ = some (.bool tl.s) ∧ w'.cell? ⟨bl, ol + 1, none⟩ = some (.slice tl.a1 tl.n1 tl.c1) ∧ w'.cell? ⟨bl, ol + 2, none⟩ = some (.slice tl.a2 tl.n2 tl.c2)) ∧ (w'.cell? ⟨bb, 0, none⟩ = some (.bool tb.s) ∧ w'.cell? ⟨bb, 1, none⟩ = some (.slice tb.a1 tb.n1 tb.c1) ∧ w'.cell? ⟨bb, 2, none⟩ = some (.slice tb.a2 tb.n2 tb.c2))) xw_32 := unhide HCC _ cc_32
    refine hK.out _ _ hC_32 ?_
    clear hK K
    (try simp only [Act.put, List.setIfInBounds_toArray, List.set_cons_zero, List.set_cons_succ])
    refine wpHold_one (k := 17) (by kernel_rfl) rfl (fun K hK => ?_)
    (try simp only [List.getElem_toArray, List.getElem_cons_succ, List.getElem_cons_zero])
    go_simp
    refine (unhide HWH _).mono ?_
    rintro e xw_33 ⟨xv_33, rfl, hv_33, hb_33⟩
    have cc_33 := below_step cc_32 hb_33
    have hC_33 : (fun w' : World => (w'.cell? ⟨bl, ol, none⟩ = some (.bool tl.s) ∧ w'.cell? ⟨bl, ol + 1, none⟩ = some (.slice tl.a1 tl.n1 tl.c1) ∧ w'.cell? ⟨bl, ol + 2, none⟩ = some (.slice tl.a2 tl.n2 tl.c2)) ∧ (w'.cell? ⟨bb, 0, none⟩ = some (.bool tb.s) ∧ w'.cell? ⟨bb, 1, none⟩ = some (.slice tb.a1 tb.n1 tb.c1) ∧ w'.cell? ⟨bb, 2, none⟩ = some (.slice tb.a2 tb.n2 tb.c2))) xw_33 := unhide HCC _ cc_33
    refine hK.out _ _ hC_33 ?_
    clear hK K
    (try simp only [Act.put, List.setIfInBounds_toArray, List.set_cons_zero, List.set_cons_succ])
    refine wpHold_one (k := 18) (by kernel_rfl) rfl (fun K hK => ?_)
    (try simp only [List.getElem_toArray, List.getElem_cons_succ, List.getElem_cons_zero])
    go_simp
    refine (unhide HL1 _ _ _ cc_33 (hv_32.below hb_33) hv_33).mono ?_
    rintro e xw_34 ⟨rfl, hb_34⟩
    have cc_34 := below_step cc_33 hb_34
    have hC_34 : (fun w' : World => (w'.cell? ⟨bl, ol, none⟩ = some (.bool tl.s) ∧ w'.cell? ⟨bl, ol + 1, none⟩ = some (.slice tl.a1 tl.n1 tl.c1) ∧ w'.cell? ⟨bl, ol + 2, none⟩ = some (.slice tl.a2 tl.n2 tl.c2)) ∧ (w'.cell? ⟨bb, 0, none⟩ = some (.bool tb.s) ∧ w'.cell? ⟨bb, 1, none⟩ = some (.slice tb.a1 tb.n1 tb.c1) ∧ w'.cell? ⟨bb, 2, none⟩ = some (.slice tb.a2 tb.n2 tb.c2))) xw_34 := unhide HCC _ cc_34
    refine hK.out _ _ hC_34 ?_
    clear hK K
    (try simp only [Act.put, List.setIfInBounds_toArray, List.set_cons_zero, List.set_cons_succ])
    refine wpHold_take (i := 19) (v := ?_) rfl (by kernel_rfl) (by kernel_rfl) (by kernel_rfl) (fun _ _ _ h => h) (Or.inl ⟨by rfl, ?_⟩) hC_34 ?_
    rotate_left
    · intro w hSw; clear hSw; go_simp; (try with_reducible rfl)
    (try simp only [List.getElem_toArray, List.getElem_cons_succ, List.getElem_cons_zero])
    (try simp only [Act.put, List.setIfInBounds_toArray, List.set_cons_zero, List.set_cons_succ])
    refine wpHold_take (i := 20) (v := ?_) rfl (by kernel_rfl) (by kernel_rfl) (by kernel_rfl) (fun _ _ _ h => h) (Or.inl ⟨by rfl, ?_⟩) hC_34 ?_
    rotate_left
    · intro w hSw; clear hSw; go_simp; (try with_reducible rfl)
    (try simp only [List.getElem_toArray, List.getElem_cons_succ, List.getElem_cons_zero])
    (try simp only [Act.put, List.setIfInBounds_toArray, List.set_cons_zero, List.set_cons_succ])
    refine wpHold_take (i := 21) (v := ?_) rfl (by kernel_rfl) (by kernel_rfl) (by kernel_rfl) (fun _ _ _ h => h) (Or.inl ⟨by rfl, ?_⟩) hC_34 ?_
    rotate_left
    · intro w hSw; clear hSw; go_simp; (try with_reducible rfl)
    (try simp only [List.getElem_toArray, List.getElem_cons_succ, List.getElem_cons_zero])
    (try simp only [Act.put, List.setIfInBounds_toArray, List.set_cons_zero, List.set_cons_succ])
    refine wpHold_done (by kernel_rfl) ?_ _
    have HB_41 := hide (below_step (unhide HB_21) cc_34)
    have HX_ba_41 := hide ((unhide HX_ba_21).keep cc_34)
    have HX_bb_41 := hide ((unhide HX_bb_21).keep cc_34)
    clear HB_21 HX_ba_21 HX_bb_21
    clear hC0 bd0 hv_32 hv_33 HCC HLK HSU HL1 HRL hb_31 hC_31 cc_31 hb_32 hC_32 cc_32 hb_33 hC_33 cc_33 hb_34 hC_34 cc_34
    obtain ⟨Wd, hWd⟩ : ∃ W, xw_34 = W := ⟨_, rfl⟩
    rw [hWd] at HB_41 HX_ba_41 HX_bb_41 ⊢
    clear hWd
    have HKI := hide (kinds_any _ ps Wd ((unhide HPS).below (unhide HB_41)) (by omega))
    have HRK : Hid (∀ j, j < (ksOf ps).length → RS ((ksOf ps)[j]!).1 1) := fun j hj => by rw [ksOf_length] at hj; rw [ksOf_get hj]; exact pq_RS (unhide H4 j hj).1 (unhide H4 j hj).2
    have HLE : Hid ((ksOf ps).length ≤ 6) := by show _ ≤ _; rw [ksOf_length]; omega
    go_wp2_with fail
    refine (unhide HKI).mono ?_
    rintro e w_k ⟨vk, rfl, hvk, hbx⟩
    have HVK := hide hvk
    have HB_61 := hide (below_step (unhide HB_41) hbx)
    have HX_ba_61 := hide ((unhide HX_ba_41).keep hbx)
    have HX_bb_61 := hide ((unhide HX_bb_41).keep hbx)
    clear HB_41 HX_ba_41 HX_bb_41
    clear hvk hbx HKI
    by_cases hok : OkK (ksOf ps)
    · have HSH := hide (share_any vk (ksOf ps) c w_k (unhide HVK) hok (unhide HRK) (unhide HLE) (by omega))
      go_wp2_with fail
      refine (unhide HSH).mono ?_
      rintro e w_l ⟨vt2, vl2, rfl, hvt2, hvl2, hbx⟩
      rw [ksOf_length] at hvl2
      have HVT2 := hide hvt2
      have HVL2 := hide hvl2
      have HB_71 := hide (below_step (unhide HB_61) hbx)
      have HX_ba_71 := hide ((unhide HX_ba_61).keep hbx)
      have HX_bb_71 := hide ((unhide HX_bb_61).keep hbx)
      clear HB_61 HX_ba_61 HX_bb_61
      clear hbx HSH hvt2 hvl2
      obtain ⟨at2, ct2, rfl, kt1, kt2, kt3⟩ := unhide HVT2
      obtain ⟨al2, cl2, rfl, kl1, kl2, kl3⟩ := unhide HVL2
      rw [row_length] at kt1 kl1 HVT2 HVL2
      clear kt3 kl3
      simp only [row_length]
      have HOK := hide hok
      clear hok
      go_wp2_with fail
      go_loopw [13] (fun vi wr => ∃ i : Nat, vi = .int .i64 (i : Int) ∧ i ≤ ps.length ∧ Below w_l.heap.size w_l wr) (fun vi _ => ps.length - (intOf vi).toNat)
      case atStart => exact ⟨0, rfl, Nat.zero_le _, Below.refl _ _⟩
      case round =>
        obtain ⟨i, rfl, hi, hbi⟩ := hrel
        have HBI := hide hbi
        clear hbi
        by_cases hlt : i < ps.length
        · have e1 : (i : Int) < (ps.length : Int) := by omega
          have e0 : (0 : Int) ≤ (i : Int) := by omega
          have e3 : IntKind.i64.wrap ((i : Int) + 1) = (i : Int) + 1 := by rw [IntKind.wrap_i64]; omega
          go_wp2_with fail
          go_loopw [14] (fun vk wr => ∃ k : Nat, vk = .int .i64 (k : Int) ∧ k ≤ ps.length ∧ Below w_l.heap.size w_l wr) (fun vk _ => ps.length - (intOf vk).toNat)
          case atStart => exact ⟨0, rfl, Nat.zero_le _, unhide HBI⟩
          case round =>
            obtain ⟨k, rfl, hk, hbk⟩ := hrel
            have HBK := hide hbk
            clear hbk HBI
            by_cases hlk : k < ps.length
            · have f1 : (k : Int) < (ps.length : Int) := by omega
              have f0 : (0 : Int) ≤ (k : Int) := by omega
              have f3 : IntKind.i64.wrap ((k : Int) + 1) = (k : Int) + 1 := by rw [IntKind.wrap_i64]; omega
              obtain ⟨bz, oz, rfl, hbz, hcz⟩ := unhide H3 (by omega)
              have zi2 := (hcz i hlt).2.2
              have zk2 := (hcz k hlk).2.2
              have LV := unhide HVL2
              obtain ⟨al3, cl3, eal, kq1, kq2, kq3⟩ := LV
              injection eal with ea1 ea2 ea3
              subst ea1 ea3
              clear ea2 kq1
              obtain ⟨bl, ol, rfl, hbl, hcl⟩ := kq3 (by rw [row_length]; omega)
              obtain ⟨ps, pp1, pp2, pn1, pd1, pn2, pd2, pk0, pk1, pk2, pr⟩ := hcl i (by rw [row_length]; omega)
              obtain ⟨ti, rfl, rfl, rfl, rfl, rfl, rfl, rfl⟩ : ∃ t : Tri, ps = t.s ∧ pp1 = t.a1 ∧ pp2 = t.a2 ∧ pn1 = t.n1 ∧ pd1 = t.c1 ∧ pn2 = t.n2 ∧ pd2 = t.c2 := ⟨⟨ps, pp1, pp2, pn1, pd1, pn2, pd2⟩, rfl, rfl, rfl, rfl, rfl, rfl, rfl⟩
              obtain ⟨qs, qp1, qp2, qn1, qd1, qn2, qd2, qk0, qk1, qk2, qr⟩ := hcl k (by rw [row_length]; omega)
              obtain ⟨tk, rfl, rfl, rfl, rfl, rfl, rfl, rfl⟩ : ∃ t : Tri, qs = t.s ∧ qp1 = t.a1 ∧ qp2 = t.a2 ∧ qn1 = t.n1 ∧ qd1 = t.c1 ∧ qn2 = t.n2 ∧ qd2 = t.c2 := ⟨⟨qs, qp1, qp2, qn1, qd1, qn2, qd2⟩, rfl, rfl, rfl, rfl, rfl, rfl, rfl⟩
              rw [row_get hlt] at pr
              rw [row_get hlk] at qr
              have HRI := hide (pr.below (unhide HBK))
              have HRJ := hide (qr.below (unhide HBK))
              have hmono : (ps[k]!).2 ≤ (ps[i]!).2 → lostV (ksOf ps) c k ≤ lostV (ksOf ps) c i := fun h => lostV_mono (unhide HOK) c (by rw [ksOf_get hlt, ksOf_get hlk]; exact h)
              obtain ⟨zi, hzi⟩ : ∃ z, (ps[i]!).2 = z := ⟨_, rfl⟩
              obtain ⟨zk, hzk⟩ : ∃ z, (ps[k]!).2 = z := ⟨_, rfl⟩
              rw [hzi] at zi2 hmono
              rw [hzk] at zk2 hmono
              have HCC : Hid (∀ W, Below wr.heap.size wr W → (fun w' : World => (w'.cell? ⟨bz, oz + i * 3 + 2, none⟩ = some (.int .i64 zi) ∧ w'.cell? ⟨bz, oz + k * 3 + 2, none⟩ = some (.int .i64 zk)) ∧ (w'.cell? ⟨bl, ol + i * 3, none⟩ = some (.bool ti.s) ∧ w'.cell? ⟨bl, ol + i * 3 + 1, none⟩ = some (.slice ti.a1 ti.n1 ti.c1) ∧ w'.cell? ⟨bl, ol + i * 3 + 2, none⟩ = some (.slice ti.a2 ti.n2 ti.c2)) ∧ (w'.cell? ⟨bl, ol + k * 3, none⟩ = some (.bool tk.s) ∧ w'.cell? ⟨bl, ol + k * 3 + 1, none⟩ = some (.slice tk.a1 tk.n1 tk.c1) ∧ w'.cell? ⟨bl, ol + k * 3 + 2, none⟩ = some (.slice tk.a2 tk.n2 tk.c2))) W) := fun W hW => by
                have h1 := below_step (unhide HB_71) (below_step (unhide HBK) hW)
                have h2 := below_step (unhide HBK) hW
                dsimp only
                rw [h1.cell (p := ⟨bz, oz + i * 3 + 2, none⟩) hbz, h1.cell (p := ⟨bz, oz + k * 3 + 2, none⟩) hbz, h2.cell (p := ⟨bl, ol + i * 3, none⟩) hbl, h2.cell (p := ⟨bl, ol + i * 3 + 1, none⟩) hbl, h2.cell (p := ⟨bl, ol + i * 3 + 2, none⟩) hbl, h2.cell (p := ⟨bl, ol + k * 3, none⟩) hbl, h2.cell (p := ⟨bl, ol + k * 3 + 1, none⟩) hbl, h2.cell (p := ⟨bl, ol + k * 3 + 2, none⟩) hbl]
                exact ⟨⟨zi2, zk2⟩, ⟨pk0, pk1, pk2⟩, qk0, qk1, qk2⟩
              have HMO := hide hmono
              clear hcz zi2 zk2 kq3 hcl pr qr pk0 pk1 pk2 qk0 qk1 qk2 hzi hzk hmono
              by_cases hge : zk ≤ zi
              · have dge : decide (zk ≤ zi) = true := decide_eq_true hge
                have HCM : Hid (∃ x : Int, 0 ≤ x ∧ x ≤ 1 ∧ ∀ W, Below wr.heap.size wr W → Calls Tryd.prog 17 #[.agg #[.bool ti.s, .slice ti.a1 ti.n1 ti.c1, .slice ti.a2 ti.n2 ti.c2], .agg #[.bool tk.s, .slice tk.a1 tk.n1 tk.c1, .slice tk.a2 tk.n2 tk.c2]] W fun e w' => e = .returned (.int .i64 x) ∧ Below W.heap.size W w') := ⟨cmpv (lostV (ksOf ps) c i) (lostV (ksOf ps) c k), (cmpv_ge (unhide HMO hge)).1, (cmpv_ge (unhide HMO hge)).2, fun W hW => cmpR_all _ _ _ _ W ((unhide HRI).below hW) ((unhide HRJ).below hW) 3100000 (lostV_RS (unhide HOK) (unhide HRK) (unhide HLE) (by omega) i) (lostV_RS (unhide HOK) (unhide HRK) (unhide HLE) (by omega) k) (by rw [KKe]; omega)⟩
                obtain ⟨fx, fx0, fx1, hfx⟩ := unhide HCM
                have HFX := hide hfx
                have dfx : decide (fx < 0) = false := decide_eq_false (by omega)
                clear hfx HCM hge
                go_wp2_with fail
                refine wp_region_hold (fun w' : World => (w'.cell? ⟨bz, oz + i * 3 + 2, none⟩ = some (.int .i64 zi) ∧ w'.cell? ⟨bz, oz + k * 3 + 2, none⟩ = some (.int .i64 zk)) ∧ (w'.cell? ⟨bl, ol + i * 3, none⟩ = some (.bool ti.s) ∧ w'.cell? ⟨bl, ol + i * 3 + 1, none⟩ = some (.slice ti.a1 ti.n1 ti.c1) ∧ w'.cell? ⟨bl, ol + i * 3 + 2, none⟩ = some (.slice ti.a2 ti.n2 ti.c2)) ∧ (w'.cell? ⟨bl, ol + k * 3, none⟩ = some (.bool tk.s) ∧ w'.cell? ⟨bl, ol + k * 3 + 1, none⟩ = some (.slice tk.a1 tk.n1 tk.c1) ∧ w'.cell? ⟨bl, ol + k * 3 + 2, none⟩ = some (.slice tk.a2 tk.n2 tk.c2))) (by kernel_rfl) ?_
                have bd0 : Below wr.heap.size wr wr.drew := (Below.refl _ _).drew
                have hC0 : (fun w' : World => (w'.cell? ⟨bz, oz + i * 3 + 2, none⟩ = some (.int .i64 zi) ∧ w'.cell? ⟨bz, oz + k * 3 + 2, none⟩ = some (.int .i64 zk)) ∧ (w'.cell? ⟨bl, ol + i * 3, none⟩ = some (.bool ti.s) ∧ w'.cell? ⟨bl, ol + i * 3 + 1, none⟩ = some (.slice ti.a1 ti.n1 ti.c1) ∧ w'.cell? ⟨bl, ol + i * 3 + 2, none⟩ = some (.slice ti.a2 ti.n2 ti.c2)) ∧ (w'.cell? ⟨bl, ol + k * 3, none⟩ = some (.bool tk.s) ∧ w'.cell? ⟨bl, ol + k * 3 + 1, none⟩ = some (.slice tk.a1 tk.n1 tk.c1) ∧ w'.cell? ⟨bl, ol + k * 3 + 2, none⟩ = some (.slice tk.a2 tk.n2 tk.c2))) wr.drew := unhide HCC _ bd0
                refine wpHold_take (i := 0) (v := ?_) rfl (by kernel_rfl) (by kernel_rfl) (by kernel_rfl) (fun _ _ _ h => h) (Or.inl ⟨by rfl, ?_⟩) hC0 ?_
                rotate_left
                · intro w hSw; clear hSw; go_simp; (try with_reducible rfl)
                (try simp only [List.getElem_toArray, List.getElem_cons_succ, List.getElem_cons_zero])
                (try simp only [Act.put, List.setIfInBounds_toArray, List.set_cons_zero, List.set_cons_succ])
                refine wpHold_take (i := 1) (v := ?_) rfl (by kernel_rfl) (by kernel_rfl) (by kernel_rfl) (fun _ _ _ h => h) (Or.inl ⟨by rfl, ?_⟩) hC0 ?_
                rotate_left
                · intro w hSw; clear hSw; go_simp; (try with_reducible rfl)
                (try simp only [List.getElem_toArray, List.getElem_cons_succ, List.getElem_cons_zero])
                (try simp only [Act.put, List.setIfInBounds_toArray, List.set_cons_zero, List.set_cons_succ])
                refine wpHold_take (i := 2) (v := ?_) rfl (by kernel_rfl) (by kernel_rfl) (by kernel_rfl) (fun _ _ _ h => h) (Or.inl ⟨by rfl, ?_⟩) hC0 ?_
                rotate_left
                · intro w hSw; clear hSw; go_simp; (try with_reducible rfl)
                (try simp only [List.getElem_toArray, List.getElem_cons_succ, List.getElem_cons_zero])
                (try simp only [Act.put, List.setIfInBounds_toArray, List.set_cons_zero, List.set_cons_succ])
                refine wpHold_take (i := 3) (v := ?_) rfl (by kernel_rfl) (by kernel_rfl) (by kernel_rfl) (fun _ _ _ h => h) (Or.inl ⟨by rfl, ?_⟩) hC0 ?_
                rotate_left
                · intro w hSw; clear hSw; go_simp; (try with_reducible rfl)
                (try simp only [List.getElem_toArray, List.getElem_cons_succ, List.getElem_cons_zero])
                (try simp only [Act.put, List.setIfInBounds_toArray, List.set_cons_zero, List.set_cons_succ])
                refine wpHold_take (i := 4) (v := ?_) rfl (by kernel_rfl) (by kernel_rfl) (by kernel_rfl) (fun _ _ _ h => h) (Or.inl ⟨by rfl, ?_⟩) hC0 ?_
                rotate_left
                · intro w hSw; (try dsimp only at hSw); obtain ⟨⟨z0, z1⟩, ⟨z2, z3, z4⟩, z5, z6, z7⟩ := hSw; go_simp; (try with_reducible rfl)
                (try simp only [List.getElem_toArray, List.getElem_cons_succ, List.getElem_cons_zero])
                (try simp only [Act.put, List.setIfInBounds_toArray, List.set_cons_zero, List.set_cons_succ])
                refine wpHold_take (i := 5) (v := ?_) rfl (by kernel_rfl) (by kernel_rfl) (by kernel_rfl) (fun _ _ _ h => h) (Or.inl ⟨by rfl, ?_⟩) hC0 ?_
                rotate_left
                · intro w hSw; clear hSw; go_simp; (try with_reducible rfl)
                (try simp only [List.getElem_toArray, List.getElem_cons_succ, List.getElem_cons_zero])
                (try simp only [Act.put, List.setIfInBounds_toArray, List.set_cons_zero, List.set_cons_succ])
                refine wpHold_take (i := 6) (v := ?_) rfl (by kernel_rfl) (by kernel_rfl) (by kernel_rfl) (fun _ _ _ h => h) (Or.inl ⟨by rfl, ?_⟩) hC0 ?_
                rotate_left
                · intro w hSw; clear hSw; go_simp; (try with_reducible rfl)
                (try simp only [List.getElem_toArray, List.getElem_cons_succ, List.getElem_cons_zero])
                (try simp only [Act.put, List.setIfInBounds_toArray, List.set_cons_zero, List.set_cons_succ])
                refine wpHold_take (i := 7) (v := ?_) rfl (by kernel_rfl) (by kernel_rfl) (by kernel_rfl) (fun _ _ _ h => h) (Or.inl ⟨by rfl, ?_⟩) hC0 ?_
                rotate_left
                · intro w hSw; clear hSw; go_simp; (try with_reducible rfl)
                (try simp only [List.getElem_toArray, List.getElem_cons_succ, List.getElem_cons_zero])
                (try simp only [Act.put, List.setIfInBounds_toArray, List.set_cons_zero, List.set_cons_succ])
                refine wpHold_take (i := 8) (v := ?_) rfl (by kernel_rfl) (by kernel_rfl) (by kernel_rfl) (fun _ _ _ h => h) (Or.inl ⟨by rfl, ?_⟩) hC0 ?_
                rotate_left
                · intro w hSw; clear hSw; go_simp; (try with_reducible rfl)
                (try simp only [List.getElem_toArray, List.getElem_cons_succ, List.getElem_cons_zero])
                (try simp only [Act.put, List.setIfInBounds_toArray, List.set_cons_zero, List.set_cons_succ])
                refine wpHold_take (i := 9) (v := ?_) rfl (by kernel_rfl) (by kernel_rfl) (by kernel_rfl) (fun _ _ _ h => h) (Or.inl ⟨by rfl, ?_⟩) hC0 ?_
                rotate_left
                · intro w hSw; (try dsimp only at hSw); obtain ⟨⟨z0, z1⟩, ⟨z2, z3, z4⟩, z5, z6, z7⟩ := hSw; go_simp; (try with_reducible rfl)
                (try simp only [List.getElem_toArray, List.getElem_cons_succ, List.getElem_cons_zero])
                (try simp only [Act.put, List.setIfInBounds_toArray, List.set_cons_zero, List.set_cons_succ])
                refine wpHold_take (i := 10) (v := ?_) rfl (by kernel_rfl) (by kernel_rfl) (by kernel_rfl) (fun _ _ _ h => h) (Or.inl ⟨by rfl, ?_⟩) hC0 ?_
                rotate_left
                · intro w hSw; clear hSw; go_simp; (try with_reducible rfl)
                (try simp only [List.getElem_toArray, List.getElem_cons_succ, List.getElem_cons_zero])
                (try simp only [Act.put, List.setIfInBounds_toArray, List.set_cons_zero, List.set_cons_succ])
                refine wpHold_take (i := 11) (v := ?_) rfl (by kernel_rfl) (by kernel_rfl) (by kernel_rfl) (fun _ _ _ h => h) (Or.inl ⟨by rfl, ?_⟩) hC0 ?_
                rotate_left
                · intro w hSw; clear hSw; go_simp; (try with_reducible rfl)
                (try simp only [List.getElem_toArray, List.getElem_cons_succ, List.getElem_cons_zero])
                (try simp only [Act.put, List.setIfInBounds_toArray, List.set_cons_zero, List.set_cons_succ])
                refine wpHold_take (i := 12) (v := ?_) rfl (by kernel_rfl) (by kernel_rfl) (by kernel_rfl) (fun _ _ _ h => h) (Or.inl ⟨by rfl, ?_⟩) hC0 ?_
                rotate_left
                · intro w hSw; clear hSw; go_simp; (try with_reducible rfl)
                (try simp only [List.getElem_toArray, List.getElem_cons_succ, List.getElem_cons_zero])
                (try simp only [Act.put, List.setIfInBounds_toArray, List.set_cons_zero, List.set_cons_succ])
                refine wpHold_take (i := 13) (v := ?_) rfl (by kernel_rfl) (by kernel_rfl) (by kernel_rfl) (fun _ _ _ h => h) (Or.inl ⟨by rfl, ?_⟩) hC0 ?_
                rotate_left
                · intro w hSw; clear hSw; go_simp; (try with_reducible rfl)
                (try simp only [List.getElem_toArray, List.getElem_cons_succ, List.getElem_cons_zero])
                (try simp only [Act.put, List.setIfInBounds_toArray, List.set_cons_zero, List.set_cons_succ])
                refine wpHold_take (i := 14) (v := ?_) rfl (by kernel_rfl) (by kernel_rfl) (by kernel_rfl) (fun _ _ _ h => h) (Or.inl ⟨by rfl, ?_⟩) hC0 ?_
                rotate_left
                · intro w hSw; clear hSw; go_simp; (try with_reducible rfl)
                (try simp only [List.getElem_toArray, List.getElem_cons_succ, List.getElem_cons_zero])
                (try simp only [Act.put, List.setIfInBounds_toArray, List.set_cons_zero, List.set_cons_succ])
                refine wpHold_take (i := 15) (v := ?_) rfl (by kernel_rfl) (by kernel_rfl) (by kernel_rfl) (fun _ _ _ h => h) (Or.inl ⟨by rfl, ?_⟩) hC0 ?_
                rotate_left
                · intro w hSw; (try dsimp only at hSw); obtain ⟨⟨z0, z1⟩, ⟨z2, z3, z4⟩, z5, z6, z7⟩ := hSw; go_simp; (try with_reducible rfl)
                (try simp only [List.getElem_toArray, List.getElem_cons_succ, List.getElem_cons_zero])
                (try simp only [Act.put, List.setIfInBounds_toArray, List.set_cons_zero, List.set_cons_succ])
                refine wpHold_take (i := 16) (v := ?_) rfl (by kernel_rfl) (by kernel_rfl) (by kernel_rfl) (fun _ _ _ h => h) (Or.inl ⟨by rfl, ?_⟩) hC0 ?_
                rotate_left
                · intro w hSw; clear hSw; go_simp; (try with_reducible rfl)
                (try simp only [List.getElem_toArray, List.getElem_cons_succ, List.getElem_cons_zero])
                (try simp only [Act.put, List.setIfInBounds_toArray, List.set_cons_zero, List.set_cons_succ])
                refine wpHold_take (i := 17) (v := ?_) rfl (by kernel_rfl) (by kernel_rfl) (by kernel_rfl) (fun _ _ _ h => h) (Or.inl ⟨by rfl, ?_⟩) hC0 ?_
                rotate_left
                · intro w hSw; clear hSw; go_simp; (try with_reducible rfl)
                (try simp only [List.getElem_toArray, List.getElem_cons_succ, List.getElem_cons_zero])
                (try simp only [Act.put, List.setIfInBounds_toArray, List.set_cons_zero, List.set_cons_succ])
                refine wpHold_take (i := 18) (v := ?_) rfl (by kernel_rfl) (by kernel_rfl) (by kernel_rfl) (fun _ _ _ h => h) (Or.inl ⟨by rfl, ?_⟩) hC0 ?_
                rotate_left
                · intro w hSw; clear hSw; go_simp; (try with_reducible rfl)
                (try simp only [List.getElem_toArray, List.getElem_cons_succ, List.getElem_cons_zero])
                (try simp only [Act.put, List.setIfInBounds_toArray, List.set_cons_zero, List.set_cons_succ])
                refine wpHold_take (i := 19) (v := ?_) rfl (by kernel_rfl) (by kernel_rfl) (by kernel_rfl) (fun _ _ _ h => h) (Or.inl ⟨by rfl, ?_⟩) hC0 ?_
                rotate_left
                · intro w hSw; (try dsimp only at hSw); obtain ⟨⟨z0, z1⟩, ⟨z2, z3, z4⟩, z5, z6, z7⟩ := hSw; go_simp; (try with_reducible rfl)
                (try simp only [List.getElem_toArray, List.getElem_cons_succ, List.getElem_cons_zero])
                (try simp only [Act.put, List.setIfInBounds_toArray, List.set_cons_zero, List.set_cons_succ])
                refine wpHold_one (k := 20) (by kernel_rfl) rfl (fun K hK => ?_)
                (try simp only [List.getElem_toArray, List.getElem_cons_succ, List.getElem_cons_zero])
                go_simp
                refine (unhide HFX _ bd0).mono ?_
                rintro e xw_81 ⟨rfl, hb_81⟩
                have cc_81 := below_step bd0 hb_81
                have hC_81 : (fun w' : World => (w'.cell? ⟨bz, oz + i * 3 + 2, none⟩ = some (.int .i64 zi) ∧ w'.cell? ⟨bz, oz + k * 3 + 2, none⟩ = some (.int .i64 zk)) ∧ (w'.cell? ⟨bl, ol + i * 3, none⟩ = some (.bool ti.s) ∧ w'.cell? ⟨bl, ol + i * 3 + 1, none⟩ = some (.slice ti.a1 ti.n1 ti.c1) ∧ w'.cell? ⟨bl, ol + i * 3 + 2, none⟩ = some (.slice ti.a2 ti.n2 ti.c2)) ∧ (w'.cell? ⟨bl, ol + k * 3, none⟩ = some (.bool tk.s) ∧ w'.cell? ⟨bl, ol + k * 3 + 1, none⟩ = some (.slice tk.a1 tk.n1 tk.c1) ∧ w'.cell? ⟨bl, ol + k * 3 + 2, none⟩ = some (.slice tk.a2 tk.n2 tk.c2))) xw_81 := unhide HCC _ cc_81
                refine hK.out _ _ hC_81 ?_
                clear hK K
                (try simp only [Act.put, List.setIfInBounds_toArray, List.set_cons_zero, List.set_cons_succ])
                refine wpHold_take (i := 21) (v := ?_) rfl (by kernel_rfl) (by kernel_rfl) (by kernel_rfl) (fun _ _ _ h => h) (Or.inl ⟨by rfl, ?_⟩) hC_81 ?_
                rotate_left
                · intro w hSw; clear hSw; go_simp; (try with_reducible rfl)
                (try simp only [List.getElem_toArray, List.getElem_cons_succ, List.getElem_cons_zero])
                (try simp only [Act.put, List.setIfInBounds_toArray, List.set_cons_zero, List.set_cons_succ])
                refine wpHold_take (i := 22) (v := ?_) rfl (by kernel_rfl) (by kernel_rfl) (by kernel_rfl) (fun _ _ _ h => h) (Or.inl ⟨by rfl, ?_⟩) hC_81 ?_
                rotate_left
                · intro w hSw; clear hSw; go_simp; (try with_reducible rfl)
                (try simp only [List.getElem_toArray, List.getElem_cons_succ, List.getElem_cons_zero])
                (try simp only [Act.put, List.setIfInBounds_toArray, List.set_cons_zero, List.set_cons_succ])
                refine wpHold_done (by kernel_rfl) ?_ _
                have HBN := hide (below_step (unhide HBK) cc_81)
                clear hC0 bd0 HCC hC_81 hb_81 cc_81
                clear dfx dge HFX
                go_wp2_with fail
                exact ⟨⟨k + 1, by go_num, by omega, unhide HBN⟩, by simp [intOf]; omega⟩
              · have dge : decide (zk ≤ zi) = false := decide_eq_false hge
                clear hge
                go_wp2_with fail
                refine wp_region_hold (fun w' : World => (w'.cell? ⟨bz, oz + i * 3 + 2, none⟩ = some (.int .i64 zi) ∧ w'.cell? ⟨bz, oz + k * 3 + 2, none⟩ = some (.int .i64 zk)) ∧ (w'.cell? ⟨bl, ol + i * 3, none⟩ = some (.bool ti.s) ∧ w'.cell? ⟨bl, ol + i * 3 + 1, none⟩ = some (.slice ti.a1 ti.n1 ti.c1) ∧ w'.cell? ⟨bl, ol + i * 3 + 2, none⟩ = some (.slice ti.a2 ti.n2 ti.c2)) ∧ (w'.cell? ⟨bl, ol + k * 3, none⟩ = some (.bool tk.s) ∧ w'.cell? ⟨bl, ol + k * 3 + 1, none⟩ = some (.slice tk.a1 tk.n1 tk.c1) ∧ w'.cell? ⟨bl, ol + k * 3 + 2, none⟩ = some (.slice tk.a2 tk.n2 tk.c2))) (by kernel_rfl) ?_
                have bd0 : Below wr.heap.size wr wr.drew := (Below.refl _ _).drew
                have hC0 : (fun w' : World => (w'.cell? ⟨bz, oz + i * 3 + 2, none⟩ = some (.int .i64 zi) ∧ w'.cell? ⟨bz, oz + k * 3 + 2, none⟩ = some (.int .i64 zk)) ∧ (w'.cell? ⟨bl, ol + i * 3, none⟩ = some (.bool ti.s) ∧ w'.cell? ⟨bl, ol + i * 3 + 1, none⟩ = some (.slice ti.a1 ti.n1 ti.c1) ∧ w'.cell? ⟨bl, ol + i * 3 + 2, none⟩ = some (.slice ti.a2 ti.n2 ti.c2)) ∧ (w'.cell? ⟨bl, ol + k * 3, none⟩ = some (.bool tk.s) ∧ w'.cell? ⟨bl, ol + k * 3 + 1, none⟩ = some (.slice tk.a1 tk.n1 tk.c1) ∧ w'.cell? ⟨bl, ol + k * 3 + 2, none⟩ = some (.slice tk.a2 tk.n2 tk.c2))) wr.drew := unhide HCC _ bd0
                refine wpHold_take (i := 0) (v := ?_) rfl (by kernel_rfl) (by kernel_rfl) (by kernel_rfl) (fun _ _ _ h => h) (Or.inl ⟨by rfl, ?_⟩) hC0 ?_
                rotate_left
                · intro w hSw; clear hSw; go_simp; (try with_reducible rfl)
                (try simp only [List.getElem_toArray, List.getElem_cons_succ, List.getElem_cons_zero])
                (try simp only [Act.put, List.setIfInBounds_toArray, List.set_cons_zero, List.set_cons_succ])
                refine wpHold_take (i := 1) (v := ?_) rfl (by kernel_rfl) (by kernel_rfl) (by kernel_rfl) (fun _ _ _ h => h) (Or.inl ⟨by rfl, ?_⟩) hC0 ?_
                rotate_left
                · intro w hSw; clear hSw; go_simp; (try with_reducible rfl)
                (try simp only [List.getElem_toArray, List.getElem_cons_succ, List.getElem_cons_zero])
                (try simp only [Act.put, List.setIfInBounds_toArray, List.set_cons_zero, List.set_cons_succ])
                refine wpHold_take (i := 2) (v := ?_) rfl (by kernel_rfl) (by kernel_rfl) (by kernel_rfl) (fun _ _ _ h => h) (Or.inl ⟨by rfl, ?_⟩) hC0 ?_
                rotate_left
                · intro w hSw; clear hSw; go_simp; (try with_reducible rfl)
                (try simp only [List.getElem_toArray, List.getElem_cons_succ, List.getElem_cons_zero])
                (try simp only [Act.put, List.setIfInBounds_toArray, List.set_cons_zero, List.set_cons_succ])
                refine wpHold_take (i := 3) (v := ?_) rfl (by kernel_rfl) (by kernel_rfl) (by kernel_rfl) (fun _ _ _ h => h) (Or.inl ⟨by rfl, ?_⟩) hC0 ?_
                rotate_left
                · intro w hSw; clear hSw; go_simp; (try with_reducible rfl)
                (try simp only [List.getElem_toArray, List.getElem_cons_succ, List.getElem_cons_zero])
                (try simp only [Act.put, List.setIfInBounds_toArray, List.set_cons_zero, List.set_cons_succ])
                refine wpHold_take (i := 4) (v := ?_) rfl (by kernel_rfl) (by kernel_rfl) (by kernel_rfl) (fun _ _ _ h => h) (Or.inl ⟨by rfl, ?_⟩) hC0 ?_
                rotate_left
                · intro w hSw; (try dsimp only at hSw); obtain ⟨⟨z0, z1⟩, ⟨z2, z3, z4⟩, z5, z6, z7⟩ := hSw; go_simp; (try with_reducible rfl)
                (try simp only [List.getElem_toArray, List.getElem_cons_succ, List.getElem_cons_zero])
                (try simp only [Act.put, List.setIfInBounds_toArray, List.set_cons_zero, List.set_cons_succ])
                refine wpHold_take (i := 5) (v := ?_) rfl (by kernel_rfl) (by kernel_rfl) (by kernel_rfl) (fun _ _ _ h => h) (Or.inl ⟨by rfl, ?_⟩) hC0 ?_
                rotate_left
                · intro w hSw; clear hSw; go_simp; (try with_reducible rfl)
                (try simp only [List.getElem_toArray, List.getElem_cons_succ, List.getElem_cons_zero])
                (try simp only [Act.put, List.setIfInBounds_toArray, List.set_cons_zero, List.set_cons_succ])
                refine wpHold_take (i := 6) (v := ?_) rfl (by kernel_rfl) (by kernel_rfl) (by kernel_rfl) (fun _ _ _ h => h) (Or.inl ⟨by rfl, ?_⟩) hC0 ?_
                rotate_left
                · intro w hSw; clear hSw; go_simp; (try with_reducible rfl)
                (try simp only [List.getElem_toArray, List.getElem_cons_succ, List.getElem_cons_zero])
                (try simp only [Act.put, List.setIfInBounds_toArray, List.set_cons_zero, List.set_cons_succ])
                refine wpHold_take (i := 7) (v := ?_) rfl (by kernel_rfl) (by kernel_rfl) (by kernel_rfl) (fun _ _ _ h => h) (Or.inl ⟨by rfl, ?_⟩) hC0 ?_
                rotate_left
                · intro w hSw; clear hSw; go_simp; (try with_reducible rfl)
                (try simp only [List.getElem_toArray, List.getElem_cons_succ, List.getElem_cons_zero])
                (try simp only [Act.put, List.setIfInBounds_toArray, List.set_cons_zero, List.set_cons_succ])
                refine wpHold_take (i := 8) (v := ?_) rfl (by kernel_rfl) (by kernel_rfl) (by kernel_rfl) (fun _ _ _ h => h) (Or.inl ⟨by rfl, ?_⟩) hC0 ?_
                rotate_left
                · intro w hSw; clear hSw; go_simp; (try with_reducible rfl)
                (try simp only [List.getElem_toArray, List.getElem_cons_succ, List.getElem_cons_zero])
                (try simp only [Act.put, List.setIfInBounds_toArray, List.set_cons_zero, List.set_cons_succ])
                refine wpHold_take (i := 9) (v := ?_) rfl (by kernel_rfl) (by kernel_rfl) (by kernel_rfl) (fun _ _ _ h => h) (Or.inl ⟨by rfl, ?_⟩) hC0 ?_
                rotate_left
                · intro w hSw; (try dsimp only at hSw); obtain ⟨⟨z0, z1⟩, ⟨z2, z3, z4⟩, z5, z6, z7⟩ := hSw; go_simp; (try with_reducible rfl)
                (try simp only [List.getElem_toArray, List.getElem_cons_succ, List.getElem_cons_zero])
                (try simp only [Act.put, List.setIfInBounds_toArray, List.set_cons_zero, List.set_cons_succ])
                refine wpHold_take (i := 10) (v := ?_) rfl (by kernel_rfl) (by kernel_rfl) (by kernel_rfl) (fun _ _ _ h => h) (Or.inl ⟨by rfl, ?_⟩) hC0 ?_
                rotate_left
                · intro w hSw; clear hSw; go_simp; (try with_reducible rfl)
                (try simp only [List.getElem_toArray, List.getElem_cons_succ, List.getElem_cons_zero])
                (try simp only [Act.put, List.setIfInBounds_toArray, List.set_cons_zero, List.set_cons_succ])
                refine wpHold_take (i := 11) (v := ?_) rfl (by kernel_rfl) (by kernel_rfl) (by kernel_rfl) (fun _ _ _ h => h) (Or.inl ⟨by rfl, ?_⟩) hC0 ?_
                rotate_left
                · intro w hSw; clear hSw; go_simp; (try with_reducible rfl)
                (try simp only [List.getElem_toArray, List.getElem_cons_succ, List.getElem_cons_zero])
                (try simp only [Act.put, List.setIfInBounds_toArray, List.set_cons_zero, List.set_cons_succ])
                refine wpHold_take (i := 12) (v := undef) rfl (by kernel_rfl) (by kernel_rfl) (by kernel_rfl) (fun _ _ _ h => h) (Or.inr ⟨by rfl, rfl⟩) hC0 ?_
                (try simp only [List.getElem_toArray, List.getElem_cons_succ, List.getElem_cons_zero])
                (try simp only [Act.put, List.setIfInBounds_toArray, List.set_cons_zero, List.set_cons_succ])
                refine wpHold_take (i := 13) (v := undef) rfl (by kernel_rfl) (by kernel_rfl) (by kernel_rfl) (fun _ _ _ h => h) (Or.inr ⟨by rfl, rfl⟩) hC0 ?_
                (try simp only [List.getElem_toArray, List.getElem_cons_succ, List.getElem_cons_zero])
                (try simp only [Act.put, List.setIfInBounds_toArray, List.set_cons_zero, List.set_cons_succ])
                refine wpHold_take (i := 14) (v := undef) rfl (by kernel_rfl) (by kernel_rfl) (by kernel_rfl) (fun _ _ _ h => h) (Or.inr ⟨by rfl, rfl⟩) hC0 ?_
                (try simp only [List.getElem_toArray, List.getElem_cons_succ, List.getElem_cons_zero])
                (try simp only [Act.put, List.setIfInBounds_toArray, List.set_cons_zero, List.set_cons_succ])
                refine wpHold_take (i := 15) (v := undef) rfl (by kernel_rfl) (by kernel_rfl) (by kernel_rfl) (fun _ _ _ h => h) (Or.inr ⟨by rfl, rfl⟩) hC0 ?_
                (try simp only [List.getElem_toArray, List.getElem_cons_succ, List.getElem_cons_zero])
                (try simp only [Act.put, List.setIfInBounds_toArray, List.set_cons_zero, List.set_cons_succ])
                refine wpHold_take (i := 16) (v := undef) rfl (by kernel_rfl) (by kernel_rfl) (by kernel_rfl) (fun _ _ _ h => h) (Or.inr ⟨by rfl, rfl⟩) hC0 ?_
                (try simp only [List.getElem_toArray, List.getElem_cons_succ, List.getElem_cons_zero])
                (try simp only [Act.put, List.setIfInBounds_toArray, List.set_cons_zero, List.set_cons_succ])
                refine wpHold_take (i := 17) (v := undef) rfl (by kernel_rfl) (by kernel_rfl) (by kernel_rfl) (fun _ _ _ h => h) (Or.inr ⟨by rfl, rfl⟩) hC0 ?_
                (try simp only [List.getElem_toArray, List.getElem_cons_succ, List.getElem_cons_zero])
                (try simp only [Act.put, List.setIfInBounds_toArray, List.set_cons_zero, List.set_cons_succ])
                refine wpHold_take (i := 18) (v := undef) rfl (by kernel_rfl) (by kernel_rfl) (by kernel_rfl) (fun _ _ _ h => h) (Or.inr ⟨by rfl, rfl⟩) hC0 ?_
                (try simp only [List.getElem_toArray, List.getElem_cons_succ, List.getElem_cons_zero])
                (try simp only [Act.put, List.setIfInBounds_toArray, List.set_cons_zero, List.set_cons_succ])
                refine wpHold_take (i := 19) (v := undef) rfl (by kernel_rfl) (by kernel_rfl) (by kernel_rfl) (fun _ _ _ h => h) (Or.inr ⟨by rfl, rfl⟩) hC0 ?_
                (try simp only [List.getElem_toArray, List.getElem_cons_succ, List.getElem_cons_zero])
                (try simp only [Act.put, List.setIfInBounds_toArray, List.set_cons_zero, List.set_cons_succ])
                refine wpHold_take (i := 20) (v := undef) rfl (by kernel_rfl) (by kernel_rfl) (by kernel_rfl) (fun _ _ _ h => h) (Or.inr ⟨by rfl, rfl⟩) hC0 ?_
                (try simp only [List.getElem_toArray, List.getElem_cons_succ, List.getElem_cons_zero])
                (try simp only [Act.put, List.setIfInBounds_toArray, List.set_cons_zero, List.set_cons_succ])
                refine wpHold_take (i := 21) (v := undef) rfl (by kernel_rfl) (by kernel_rfl) (by kernel_rfl) (fun _ _ _ h => h) (Or.inr ⟨by rfl, rfl⟩) hC0 ?_
                (try simp only [List.getElem_toArray, List.getElem_cons_succ, List.getElem_cons_zero])
                (try simp only [Act.put, List.setIfInBounds_toArray, List.set_cons_zero, List.set_cons_succ])
                refine wpHold_take (i := 22) (v := ?_) rfl (by kernel_rfl) (by kernel_rfl) (by kernel_rfl) (fun _ _ _ h => h) (Or.inl ⟨by rfl, ?_⟩) hC0 ?_
                rotate_left
                · intro w hSw; clear hSw; go_simp; (try with_reducible rfl)
                (try simp only [List.getElem_toArray, List.getElem_cons_succ, List.getElem_cons_zero])
                (try simp only [Act.put, List.setIfInBounds_toArray, List.set_cons_zero, List.set_cons_succ])
                refine wpHold_done (by kernel_rfl) ?_ _
                have HBN := hide (below_step (unhide HBK) bd0)
                clear hC0 bd0 HCC 
                clear dge
                go_wp2_with fail
                exact ⟨⟨k + 1, by go_num, by omega, unhide HBN⟩, by simp [intOf]; omega⟩
            · have f1 : ¬ (k : Int) < (ps.length : Int) := by omega
              go_wp2_with fail
              (try simp only [Exit.inBlock, Exit.then])
              go_wp2_with fail
              exact ⟨⟨i + 1, by go_num, by omega, unhide HBK⟩, by simp [intOf]; omega⟩
        · have e1 : ¬ (i : Int) < (ps.length : Int) := by omega
          have HSU : Hid (Calls Tryd.prog 11 #[.slice at2 (c + 1) ct2] wr fun e w' => ∃ v, e = .returned v ∧ RatIs w' v ((1 : Int) : Rat) ∧ Below wr.heap.size wr w') := by
            have h := fsum_any _ _ 1700000 wr ((unhide HVT2).below (unhide HBI)) (fun j hj => by rw [row_length] at hj; rw [row_get hj]; exact takenV_RS (unhide HOK) (unhide HRK) (unhide HLE) (by omega) j hj) (by rw [row_length, KKe]; omega)
            rw [taken_sum (unhide HOK)] at h
            exact h
          go_wp2_with fail
          (try simp only [Exit.inBlock, Exit.then])
          go_wp2_with fail
          refine (unhide HSU).mono ?_
          rintro e w_s ⟨v_s, rfl, hv_s, hb_s⟩
          go_wp2_with fail
          refine (whole_any 1 (by decide) (by decide) w_s).mono ?_
          rintro e w_t ⟨v_t, rfl, hv_t, hb_t⟩
          have hb2 := below_step (unhide HB_71) (below_step (below_step (unhide HBI) hb_s) hb_t)
          have HLI := hide (like_any v_s v_t _ w_t (hv_s.below hb_t) hv_t 1 onei_RS (by rw [KKe]; omega) (tab_below (unhide HTAB) hb2))
          have HB2 := hide hb2
          clear hb2 hv_s hv_t hb_s hb_t HSU
          go_wp2_with fail
          refine (unhide HLI).mono ?_
          rintro e w_u ⟨rfl, hb_u⟩
          have HB3 := hide (below_step (unhide HB2) hb_u)
          clear hb_u HLI
          go_wp2
          go_ret
          exact ⟨rfl, unhide HB3⟩
    · have HSH := hide (share_bad vk (ksOf ps) c w_k (unhide HVK) hok (unhide HLE) (by omega))
      go_wp2_with fail
      refine (unhide HSH).mono ?_
      rintro e w_l ⟨k6, rfl, hbx⟩
      have HB_71 := hide (below_step (unhide HB_61) hbx)
      have HX_ba_71 := hide ((unhide HX_ba_61).keep hbx)
      have HX_bb_71 := hide ((unhide HX_bb_61).keep hbx)
      clear HB_61 HX_ba_61 HX_bb_61
      clear hbx HSH
      go_wp2
      go_ret
      exact ⟨rfl, unhide HB_71⟩
end Go.Proofs.YtigilnkcjblhcaaDoor
