/- What any orders cost: the law's walk. -/
import Derived.Test.YtbbmhidnakghfaaDoorG8
import Derived.Test.YtbbmhidnakghfaaDoorF10
namespace Go.Proofs.YtbbmhidnakghfaaDoor
open Go.RowKit Go.Sort

set_option maxHeartbeats 16000000 in
set_option maxRecDepth 100000 in
set_option linter.unusedSimpArgs false in
theorem lotsCost_any (wa : Option Addr) (wn wd : Nat) (oa : Option Addr) (om od : Nat) (ka : Option Addr) (km kd : Nat) (fW fO fK : Nat → Int) (a : Option Addr) (len c : Nat) (q : Nat → Int) (w : World) (het : ErrTy w) (hw : IRow w wa wn wd fW) (ho : IRow w oa om od fO) (hk : IRow w ka km kd fK) (ha : IRow w a len c q) :
    Calls Tryd.prog 3 #[.slice wa wn wd, .slice oa om od, .slice ka km kd, .slice a len c] w fun e w' => e = .returned (.bool true) ∧ Below w.heap.size w w' := by
  have q1 := hw.1
  have q2 := hw.2.1
  have q3 := ho.1
  have q4 := ho.2.1
  have q5 := hk.1
  have q6 := hk.2.1
  have q7 := ha.1
  have q8 := ha.2.1
  by_cases g0 : 80 < wn
  · have d0 : (80 : Int) < (wn : Int) := by omega
    clear hw ho hk ha
    go_enter Tryd.func3, Tryd.ntmps3
    go_wp2
    go_ret
    exact ⟨rfl, Below.refl _ _⟩
  have d0 : ¬ (80 : Int) < (wn : Int) := by omega
  by_cases g1 : 80 < om
  · have d1 : (80 : Int) < (om : Int) := by omega
    clear hw ho hk ha
    go_enter Tryd.func3, Tryd.ntmps3
    go_wp2
    go_ret
    exact ⟨rfl, Below.refl _ _⟩
  have d1 : ¬ (80 : Int) < (om : Int) := by omega
  by_cases g2 : 80 < km
  · have d2 : (80 : Int) < (km : Int) := by omega
    clear hw ho hk ha
    go_enter Tryd.func3, Tryd.ntmps3
    go_wp2
    go_ret
    exact ⟨rfl, Below.refl _ _⟩
  have d2 : ¬ (80 : Int) < (km : Int) := by omega
  by_cases g3 : 80 < len
  · have d3 : (80 : Int) < (len : Int) := by omega
    clear hw ho hk ha
    go_enter Tryd.func3, Tryd.ntmps3
    go_wp2
    go_ret
    exact ⟨rfl, Below.refl _ _⟩
  have d3 : ¬ (80 : Int) < (len : Int) := by omega
  have hbx := heap_alloc_new w (.cells #[.slice wa wn wd, .slice oa om od, .slice ka km kd] 24)
  have HB1 := hide (alloc_below w (.cells #[.slice wa wn wd, .slice oa om od, .slice ka km kd] 24))
  obtain ⟨W1, hW1⟩ : ∃ W, w.alloc (.cells #[.slice wa wn wd, .slice oa om od, .slice ka km kd] 24) = W := ⟨_, rfl⟩
  obtain ⟨g, hg⟩ : ∃ g, w.heap.size = g := ⟨_, rfl⟩
  rw [hW1] at HB1 hbx
  rw [hg] at hbx
  have hbx2 := heap_alloc_new W1 (.cells #[.slice wa wn wd, .slice oa om od, .slice ka km kd] 25)
  have HB2 := hide (alloc_below W1 (.cells #[.slice wa wn wd, .slice oa om od, .slice ka km kd] 25))
  obtain ⟨W2, hW2⟩ : ∃ W, W1.alloc (.cells #[.slice wa wn wd, .slice oa om od, .slice ka km kd] 25) = W := ⟨_, rfl⟩
  obtain ⟨g2, hg2⟩ : ∃ g, W1.heap.size = g := ⟨_, rfl⟩
  rw [hW2] at HB2 hbx2
  rw [hg2] at hbx2
  have HX1 := hide (blk_keep hbx (unhide HB2))
  have HX2 := hide hbx2
  obtain ⟨c3, c4, c5⟩ := cells3 (unhide HX2)
  have HBB := hide (below_step (unhide HB1) (unhide HB2))
  have HWR := hide (hw.below (unhide HBB))
  have HOR := hide (ho.below (unhide HBB))
  have HKR := hide (hk.below (unhide HBB))
  have HAR := hide (ha.below (unhide HBB))
  have HER := hide (het.below (unhide HBB))
  have C1 := hide (rcost_any wa wn wd oa om od ka km kd fW fO fK a len c q W2 (unhide HWR) (unhide HOR) (unhide HKR) (unhide HAR) (by omega))
  obtain ⟨KC, hKC⟩ : ∃ k, kcode wn om km fW fO fK len q = k := ⟨_, rfl⟩
  obtain ⟨KX, hKX⟩ : ∃ k, kcost wn om km fW fO fK len q = k := ⟨_, rfl⟩
  obtain ⟨k0, hk0⟩ : ∃ k, ncode wn om km fW fO fK = k := ⟨_, rfl⟩
  have HK0 := hide hk0
  have HKC : Hid (kcode wn om km fW fO fK len q = KC ∧ kcost wn om km fW fO fK len q = KX ∧ (KC ≠ 0 → KX = 0)) := ⟨hKC, hKX, fun h => by rw [← hKX]; exact kcost_bad (by rw [hKC]; exact h)⟩
  rw [hKC, hKX] at C1
  have q9 : (k0 == k0) = true := by simp
  clear hw ho hk ha het hbx hbx2 hKC hKX hk0
  go_enter Tryd.func3, Tryd.ntmps3
  go_wp2_with fail
  clear hW1 hW2 hg hg2
  refine (unhide C1).mono ?_
  rintro e_ w3 ⟨rfl, hb3⟩
  have HX13 := hide (blk_keep (unhide HX1) hb3)
  have HX23 := hide (blk_keep (unhide HX2) hb3)
  have HB3 := hide hb3
  obtain ⟨d0, d1, d2⟩ := cells3 (unhide HX13)
  have C2 := hide (ncost_any wa wn wd oa om od ka km kd fW fO fK a len c q w3 ((unhide HWR).below hb3) ((unhide HOR).below hb3) ((unhide HKR).below hb3) ((unhide HAR).below hb3) (by omega))
  rw [(unhide HKC).1, (unhide HKC).2.1] at C2
  clear hb3 C1 c3 c4 c5
  go_wp2_with fail
  refine (unhide C2).mono ?_
  rintro e_ w4 ⟨rfl, hb4⟩
  have HB4 := hide (below_step (unhide HB3) hb4)
  have HX14 := hide (blk_keep (unhide HX13) hb4)
  have HX24 := hide (blk_keep (unhide HX23) hb4)
  have HW4 := hide ((unhide HWR).below (unhide HB4))
  have HO4 := hide ((unhide HOR).below (unhide HB4))
  have HK4 := hide ((unhide HKR).below (unhide HB4))
  have HE4 := hide ((unhide HER).below (unhide HB4))
  have HCC : Hid (∀ W, Below w4.heap.size w4 W → (fun w' : World => (w'.cell? ⟨g, 0, none⟩ = some (.slice wa wn wd) ∧ w'.cell? ⟨g, 1, none⟩ = some (.slice oa om od) ∧ w'.cell? ⟨g, 2, none⟩ = some (.slice ka km kd)) ∧ w'.cell? ⟨g2, 0, none⟩ = some (.slice wa wn wd) ∧ w'.cell? ⟨g2, 1, none⟩ = some (.slice oa om od) ∧ w'.cell? ⟨g2, 2, none⟩ = some (.slice ka km kd)) W) := by
    show ∀ W, _
    intro W hW
    exact ⟨cells3 (blk_keep (unhide HX14) hW), cells3 (blk_keep (unhide HX24) hW)⟩
  have HFB : Hid (∀ W, Below w4.heap.size w4 W → Below w.heap.size w W) := fun W hW => below_step (unhide HBB) (below_step (unhide HB4) hW)
  clear hb4 C2 d0 d1 d2
  by_cases hz : KC = 0
  · subst hz
    rw [errV_zero]
    have hz2 := HKC
    clear hz2
    go_wp2_with fail
    refine wp_region_hold (fun w' : World => (w'.cell? ⟨g, 0, none⟩ = some (.slice wa wn wd) ∧ w'.cell? ⟨g, 1, none⟩ = some (.slice oa om od) ∧ w'.cell? ⟨g, 2, none⟩ = some (.slice ka km kd)) ∧ w'.cell? ⟨g2, 0, none⟩ = some (.slice wa wn wd) ∧ w'.cell? ⟨g2, 1, none⟩ = some (.slice oa om od) ∧ w'.cell? ⟨g2, 2, none⟩ = some (.slice ka km kd)) (by kernel_rfl) ?_
    have bd0 : Below w4.heap.size w4 w4.drew := (Below.refl _ _).drew
    have hC0 : (fun w' : World => (w'.cell? ⟨g, 0, none⟩ = some (.slice wa wn wd) ∧ w'.cell? ⟨g, 1, none⟩ = some (.slice oa om od) ∧ w'.cell? ⟨g, 2, none⟩ = some (.slice ka km kd)) ∧ w'.cell? ⟨g2, 0, none⟩ = some (.slice wa wn wd) ∧ w'.cell? ⟨g2, 1, none⟩ = some (.slice oa om od) ∧ w'.cell? ⟨g2, 2, none⟩ = some (.slice ka km kd)) w4.drew := unhide HCC _ bd0
    refine wpHold_take (i := 0) (v := ?_) rfl (by kernel_rfl) (by kernel_rfl) (by kernel_rfl) (fun _ _ _ h => h) (Or.inl ⟨by rfl, ?_⟩) hC0 ?_
    rotate_left
    · intro w hSw; (try dsimp only at hSw); obtain ⟨⟨z0, z1, z2⟩, z3, z4, z5⟩ := hSw; go_simp; (try with_reducible rfl)
    (try simp only [List.getElem_toArray, List.getElem_cons_succ, List.getElem_cons_zero])
    (try simp only [Act.put, List.setIfInBounds_toArray, List.set_cons_zero, List.set_cons_succ])
    refine wpHold_take (i := 3) (v := ?_) rfl (by kernel_rfl) (by kernel_rfl) (by kernel_rfl) (fun _ _ _ h => h) (Or.inl ⟨by rfl, ?_⟩) hC0 ?_
    rotate_left
    · intro w hSw; (try dsimp only at hSw); obtain ⟨⟨z0, z1, z2⟩, z3, z4, z5⟩ := hSw; go_simp; (try with_reducible rfl)
    (try simp only [List.getElem_toArray, List.getElem_cons_succ, List.getElem_cons_zero])
    (try simp only [Act.put, List.setIfInBounds_toArray, List.set_cons_zero, List.set_cons_succ])
    refine wpHold_one (k := 1) (by kernel_rfl) rfl (fun K hK => ?_)
    (try simp only [List.getElem_toArray, List.getElem_cons_succ, List.getElem_cons_zero])
    go_simp
    refine (ncheck_any wa wn wd oa om od ka km kd fW fO fK _ ((unhide HW4).below bd0) ((unhide HO4).below bd0) ((unhide HK4).below bd0)).mono ?_
    rintro e xw_1 ⟨rfl, hb_1⟩
    have cc_1 := below_step bd0 hb_1
    have hC_1 : (fun w' : World => (w'.cell? ⟨g, 0, none⟩ = some (.slice wa wn wd) ∧ w'.cell? ⟨g, 1, none⟩ = some (.slice oa om od) ∧ w'.cell? ⟨g, 2, none⟩ = some (.slice ka km kd)) ∧ w'.cell? ⟨g2, 0, none⟩ = some (.slice wa wn wd) ∧ w'.cell? ⟨g2, 1, none⟩ = some (.slice oa om od) ∧ w'.cell? ⟨g2, 2, none⟩ = some (.slice ka km kd)) xw_1 := unhide HCC _ cc_1
    refine hK.out _ _ hC_1 ?_
    clear hK K
    (try simp only [Act.put, List.setIfInBounds_toArray, List.set_cons_zero, List.set_cons_succ])
    rw [unhide HK0]
    refine wpHold_one (k := 2) (by kernel_rfl) rfl (fun K hK => ?_)
    (try simp only [List.getElem_toArray, List.getElem_cons_succ, List.getElem_cons_zero])
    go_simp
    refine (tellV k0 _ ((unhide HE4).below cc_1)).mono ?_
    rintro e xw_2 ⟨rfl, hb_2⟩
    have cc_2 := below_step cc_1 hb_2
    have hC_2 : (fun w' : World => (w'.cell? ⟨g, 0, none⟩ = some (.slice wa wn wd) ∧ w'.cell? ⟨g, 1, none⟩ = some (.slice oa om od) ∧ w'.cell? ⟨g, 2, none⟩ = some (.slice ka km kd)) ∧ w'.cell? ⟨g2, 0, none⟩ = some (.slice wa wn wd) ∧ w'.cell? ⟨g2, 1, none⟩ = some (.slice oa om od) ∧ w'.cell? ⟨g2, 2, none⟩ = some (.slice ka km kd)) xw_2 := unhide HCC _ cc_2
    refine hK.out _ _ hC_2 ?_
    clear hK K
    (try simp only [Act.put, List.setIfInBounds_toArray, List.set_cons_zero, List.set_cons_succ])
    refine wpHold_one (k := 4) (by kernel_rfl) rfl (fun K hK => ?_)
    (try simp only [List.getElem_toArray, List.getElem_cons_succ, List.getElem_cons_zero])
    go_simp
    refine (rneed_any wa wn wd oa om od ka km kd fW fO fK _ ((unhide HW4).below cc_2) ((unhide HO4).below cc_2) ((unhide HK4).below cc_2)).mono ?_
    rintro e xw_3 ⟨rfl, hb_3⟩
    have cc_3 := below_step cc_2 hb_3
    have hC_3 : (fun w' : World => (w'.cell? ⟨g, 0, none⟩ = some (.slice wa wn wd) ∧ w'.cell? ⟨g, 1, none⟩ = some (.slice oa om od) ∧ w'.cell? ⟨g, 2, none⟩ = some (.slice ka km kd)) ∧ w'.cell? ⟨g2, 0, none⟩ = some (.slice wa wn wd) ∧ w'.cell? ⟨g2, 1, none⟩ = some (.slice oa om od) ∧ w'.cell? ⟨g2, 2, none⟩ = some (.slice ka km kd)) xw_3 := unhide HCC _ cc_3
    refine hK.out _ _ hC_3 ?_
    clear hK K
    (try simp only [Act.put, List.setIfInBounds_toArray, List.set_cons_zero, List.set_cons_succ])
    rw [unhide HK0]
    refine wpHold_take (i := 5) (v := ?_) rfl (by kernel_rfl) (by kernel_rfl) (by kernel_rfl) (fun _ _ _ h => h) (Or.inl ⟨by rfl, ?_⟩) hC_3 ?_
    rotate_left
    · intro w hSw; clear hSw; go_simp; (try with_reducible rfl)
    (try simp only [List.getElem_toArray, List.getElem_cons_succ, List.getElem_cons_zero])
    (try simp only [Act.put, List.setIfInBounds_toArray, List.set_cons_zero, List.set_cons_succ])
    refine wpHold_take (i := 6) (v := ?_) rfl (by kernel_rfl) (by kernel_rfl) (by kernel_rfl) (fun _ _ _ h => h) (Or.inl ⟨by rfl, ?_⟩) hC_3 ?_
    rotate_left
    · intro w hSw; clear hSw; go_simp; (try with_reducible rfl)
    (try simp only [List.getElem_toArray, List.getElem_cons_succ, List.getElem_cons_zero])
    (try simp only [Act.put, List.setIfInBounds_toArray, List.set_cons_zero, List.set_cons_succ])
    refine wpHold_take (i := 7) (v := ?_) rfl (by kernel_rfl) (by kernel_rfl) (by kernel_rfl) (fun _ _ _ h => h) (Or.inl ⟨by rfl, ?_⟩) hC_3 ?_
    rotate_left
    · intro w hSw; clear hSw; go_simp; (try with_reducible rfl)
    (try simp only [List.getElem_toArray, List.getElem_cons_succ, List.getElem_cons_zero])
    (try simp only [Act.put, List.setIfInBounds_toArray, List.set_cons_zero, List.set_cons_succ])
    refine wpHold_take (i := 8) (v := ?_) rfl (by kernel_rfl) (by kernel_rfl) (by kernel_rfl) (fun _ _ _ h => h) (Or.inl ⟨by rfl, ?_⟩) hC_3 ?_
    rotate_left
    · intro w hSw; clear hSw; go_simp; (try with_reducible rfl)
    (try simp only [List.getElem_toArray, List.getElem_cons_succ, List.getElem_cons_zero])
    (try simp only [Act.put, List.setIfInBounds_toArray, List.set_cons_zero, List.set_cons_succ])
    refine wpHold_take (i := 9) (v := ?_) rfl (by kernel_rfl) (by kernel_rfl) (by kernel_rfl) (fun _ _ _ h => h) (Or.inl ⟨by rfl, ?_⟩) hC_3 ?_
    rotate_left
    · intro w hSw; clear hSw; go_simp; (try with_reducible rfl)
    (try simp only [List.getElem_toArray, List.getElem_cons_succ, List.getElem_cons_zero])
    (try simp only [Act.put, List.setIfInBounds_toArray, List.set_cons_zero, List.set_cons_succ])
    refine wpHold_take (i := 10) (v := ?_) rfl (by kernel_rfl) (by kernel_rfl) (by kernel_rfl) (fun _ _ _ h => h) (Or.inl ⟨by rfl, ?_⟩) hC_3 ?_
    rotate_left
    · intro w hSw; clear hSw; go_simp; (try with_reducible rfl)
    (try simp only [List.getElem_toArray, List.getElem_cons_succ, List.getElem_cons_zero])
    (try simp only [Act.put, List.setIfInBounds_toArray, List.set_cons_zero, List.set_cons_succ])
    refine wpHold_one (k := 11) (by kernel_rfl) rfl (fun K hK => ?_)
    (try simp only [List.getElem_toArray, List.getElem_cons_succ, List.getElem_cons_zero])
    go_simp
    refine (whole_good KX _).mono ?_
    rintro e xw_4 ⟨rfl, hb_4⟩
    have cc_4 := below_step cc_3 hb_4
    have hC_4 : (fun w' : World => (w'.cell? ⟨g, 0, none⟩ = some (.slice wa wn wd) ∧ w'.cell? ⟨g, 1, none⟩ = some (.slice oa om od) ∧ w'.cell? ⟨g, 2, none⟩ = some (.slice ka km kd)) ∧ w'.cell? ⟨g2, 0, none⟩ = some (.slice wa wn wd) ∧ w'.cell? ⟨g2, 1, none⟩ = some (.slice oa om od) ∧ w'.cell? ⟨g2, 2, none⟩ = some (.slice ka km kd)) xw_4 := unhide HCC _ cc_4
    refine hK.out _ _ hC_4 ?_
    clear hK K
    (try simp only [Act.put, List.setIfInBounds_toArray, List.set_cons_zero, List.set_cons_succ])
    refine wpHold_take (i := 12) (v := ?_) rfl (by kernel_rfl) (by kernel_rfl) (by kernel_rfl) (fun _ _ _ h => h) (Or.inl ⟨by rfl, ?_⟩) hC_4 ?_
    rotate_left
    · intro w hSw; clear hSw; go_simp; (try with_reducible rfl)
    (try simp only [List.getElem_toArray, List.getElem_cons_succ, List.getElem_cons_zero])
    (try simp only [Act.put, List.setIfInBounds_toArray, List.set_cons_zero, List.set_cons_succ])
    refine wpHold_one (k := 13) (by kernel_rfl) rfl (fun K hK => ?_)
    (try simp only [List.getElem_toArray, List.getElem_cons_succ, List.getElem_cons_zero])
    go_simp
    refine hK.out _ _ hC_4 ?_
    clear hK K
    (try simp only [Act.put, List.setIfInBounds_toArray, List.set_cons_zero, List.set_cons_succ])
    refine wpHold_done (by kernel_rfl) ?_ _
    have HFF := hide (unhide HFB _ cc_4)
    go_wp2
    go_ret
    exact ⟨rfl, unhide HFF⟩
  · obtain rfl : KX = 0 := (unhide HKC).2.2 hz
    rw [errV_not hz]
    go_wp2_with fail
    refine wp_region_hold (fun w' : World => (w'.cell? ⟨g, 0, none⟩ = some (.slice wa wn wd) ∧ w'.cell? ⟨g, 1, none⟩ = some (.slice oa om od) ∧ w'.cell? ⟨g, 2, none⟩ = some (.slice ka km kd)) ∧ w'.cell? ⟨g2, 0, none⟩ = some (.slice wa wn wd) ∧ w'.cell? ⟨g2, 1, none⟩ = some (.slice oa om od) ∧ w'.cell? ⟨g2, 2, none⟩ = some (.slice ka km kd)) (by kernel_rfl) ?_
    have bd0 : Below w4.heap.size w4 w4.drew := (Below.refl _ _).drew
    have hC0 : (fun w' : World => (w'.cell? ⟨g, 0, none⟩ = some (.slice wa wn wd) ∧ w'.cell? ⟨g, 1, none⟩ = some (.slice oa om od) ∧ w'.cell? ⟨g, 2, none⟩ = some (.slice ka km kd)) ∧ w'.cell? ⟨g2, 0, none⟩ = some (.slice wa wn wd) ∧ w'.cell? ⟨g2, 1, none⟩ = some (.slice oa om od) ∧ w'.cell? ⟨g2, 2, none⟩ = some (.slice ka km kd)) w4.drew := unhide HCC _ bd0
    refine wpHold_take (i := 0) (v := ?_) rfl (by kernel_rfl) (by kernel_rfl) (by kernel_rfl) (fun _ _ _ h => h) (Or.inl ⟨by rfl, ?_⟩) hC0 ?_
    rotate_left
    · intro w hSw; (try dsimp only at hSw); obtain ⟨⟨z0, z1, z2⟩, z3, z4, z5⟩ := hSw; go_simp; (try with_reducible rfl)
    (try simp only [List.getElem_toArray, List.getElem_cons_succ, List.getElem_cons_zero])
    (try simp only [Act.put, List.setIfInBounds_toArray, List.set_cons_zero, List.set_cons_succ])
    refine wpHold_take (i := 3) (v := ?_) rfl (by kernel_rfl) (by kernel_rfl) (by kernel_rfl) (fun _ _ _ h => h) (Or.inl ⟨by rfl, ?_⟩) hC0 ?_
    rotate_left
    · intro w hSw; (try dsimp only at hSw); obtain ⟨⟨z0, z1, z2⟩, z3, z4, z5⟩ := hSw; go_simp; (try with_reducible rfl)
    (try simp only [List.getElem_toArray, List.getElem_cons_succ, List.getElem_cons_zero])
    (try simp only [Act.put, List.setIfInBounds_toArray, List.set_cons_zero, List.set_cons_succ])
    refine wpHold_one (k := 1) (by kernel_rfl) rfl (fun K hK => ?_)
    (try simp only [List.getElem_toArray, List.getElem_cons_succ, List.getElem_cons_zero])
    go_simp
    refine (ncheck_any wa wn wd oa om od ka km kd fW fO fK _ ((unhide HW4).below bd0) ((unhide HO4).below bd0) ((unhide HK4).below bd0)).mono ?_
    rintro e xw_1 ⟨rfl, hb_1⟩
    have cc_1 := below_step bd0 hb_1
    have hC_1 : (fun w' : World => (w'.cell? ⟨g, 0, none⟩ = some (.slice wa wn wd) ∧ w'.cell? ⟨g, 1, none⟩ = some (.slice oa om od) ∧ w'.cell? ⟨g, 2, none⟩ = some (.slice ka km kd)) ∧ w'.cell? ⟨g2, 0, none⟩ = some (.slice wa wn wd) ∧ w'.cell? ⟨g2, 1, none⟩ = some (.slice oa om od) ∧ w'.cell? ⟨g2, 2, none⟩ = some (.slice ka km kd)) xw_1 := unhide HCC _ cc_1
    refine hK.out _ _ hC_1 ?_
    clear hK K
    (try simp only [Act.put, List.setIfInBounds_toArray, List.set_cons_zero, List.set_cons_succ])
    rw [unhide HK0]
    refine wpHold_one (k := 2) (by kernel_rfl) rfl (fun K hK => ?_)
    (try simp only [List.getElem_toArray, List.getElem_cons_succ, List.getElem_cons_zero])
    go_simp
    refine (tellV k0 _ ((unhide HE4).below cc_1)).mono ?_
    rintro e xw_2 ⟨rfl, hb_2⟩
    have cc_2 := below_step cc_1 hb_2
    have hC_2 : (fun w' : World => (w'.cell? ⟨g, 0, none⟩ = some (.slice wa wn wd) ∧ w'.cell? ⟨g, 1, none⟩ = some (.slice oa om od) ∧ w'.cell? ⟨g, 2, none⟩ = some (.slice ka km kd)) ∧ w'.cell? ⟨g2, 0, none⟩ = some (.slice wa wn wd) ∧ w'.cell? ⟨g2, 1, none⟩ = some (.slice oa om od) ∧ w'.cell? ⟨g2, 2, none⟩ = some (.slice ka km kd)) xw_2 := unhide HCC _ cc_2
    refine hK.out _ _ hC_2 ?_
    clear hK K
    (try simp only [Act.put, List.setIfInBounds_toArray, List.set_cons_zero, List.set_cons_succ])
    refine wpHold_one (k := 4) (by kernel_rfl) rfl (fun K hK => ?_)
    (try simp only [List.getElem_toArray, List.getElem_cons_succ, List.getElem_cons_zero])
    go_simp
    refine (rneed_any wa wn wd oa om od ka km kd fW fO fK _ ((unhide HW4).below cc_2) ((unhide HO4).below cc_2) ((unhide HK4).below cc_2)).mono ?_
    rintro e xw_3 ⟨rfl, hb_3⟩
    have cc_3 := below_step cc_2 hb_3
    have hC_3 : (fun w' : World => (w'.cell? ⟨g, 0, none⟩ = some (.slice wa wn wd) ∧ w'.cell? ⟨g, 1, none⟩ = some (.slice oa om od) ∧ w'.cell? ⟨g, 2, none⟩ = some (.slice ka km kd)) ∧ w'.cell? ⟨g2, 0, none⟩ = some (.slice wa wn wd) ∧ w'.cell? ⟨g2, 1, none⟩ = some (.slice oa om od) ∧ w'.cell? ⟨g2, 2, none⟩ = some (.slice ka km kd)) xw_3 := unhide HCC _ cc_3
    refine hK.out _ _ hC_3 ?_
    clear hK K
    (try simp only [Act.put, List.setIfInBounds_toArray, List.set_cons_zero, List.set_cons_succ])
    rw [unhide HK0]
    refine wpHold_take (i := 5) (v := ?_) rfl (by kernel_rfl) (by kernel_rfl) (by kernel_rfl) (fun _ _ _ h => h) (Or.inl ⟨by rfl, ?_⟩) hC_3 ?_
    rotate_left
    · intro w hSw; clear hSw; go_simp; (try with_reducible rfl)
    (try simp only [List.getElem_toArray, List.getElem_cons_succ, List.getElem_cons_zero])
    (try simp only [Act.put, List.setIfInBounds_toArray, List.set_cons_zero, List.set_cons_succ])
    refine wpHold_take (i := 6) (v := ?_) rfl (by kernel_rfl) (by kernel_rfl) (by kernel_rfl) (fun _ _ _ h => h) (Or.inl ⟨by rfl, ?_⟩) hC_3 ?_
    rotate_left
    · intro w hSw; clear hSw; go_simp; (try with_reducible rfl)
    (try simp only [List.getElem_toArray, List.getElem_cons_succ, List.getElem_cons_zero])
    (try simp only [Act.put, List.setIfInBounds_toArray, List.set_cons_zero, List.set_cons_succ])
    refine wpHold_take (i := 7) (v := ?_) rfl (by kernel_rfl) (by kernel_rfl) (by kernel_rfl) (fun _ _ _ h => h) (Or.inl ⟨by rfl, ?_⟩) hC_3 ?_
    rotate_left
    · intro w hSw; clear hSw; go_simp; (try with_reducible rfl)
    (try simp only [List.getElem_toArray, List.getElem_cons_succ, List.getElem_cons_zero])
    (try simp only [Act.put, List.setIfInBounds_toArray, List.set_cons_zero, List.set_cons_succ])
    refine wpHold_take (i := 8) (v := ?_) rfl (by kernel_rfl) (by kernel_rfl) (by kernel_rfl) (fun _ _ _ h => h) (Or.inl ⟨by rfl, ?_⟩) hC_3 ?_
    rotate_left
    · intro w hSw; clear hSw; go_simp; (try with_reducible rfl)
    (try simp only [List.getElem_toArray, List.getElem_cons_succ, List.getElem_cons_zero])
    (try simp only [Act.put, List.setIfInBounds_toArray, List.set_cons_zero, List.set_cons_succ])
    refine wpHold_take (i := 9) (v := ?_) rfl (by kernel_rfl) (by kernel_rfl) (by kernel_rfl) (fun _ _ _ h => h) (Or.inl ⟨by rfl, ?_⟩) hC_3 ?_
    rotate_left
    · intro w hSw; clear hSw; go_simp; (try with_reducible rfl)
    (try simp only [List.getElem_toArray, List.getElem_cons_succ, List.getElem_cons_zero])
    (try simp only [Act.put, List.setIfInBounds_toArray, List.set_cons_zero, List.set_cons_succ])
    refine wpHold_take (i := 10) (v := ?_) rfl (by kernel_rfl) (by kernel_rfl) (by kernel_rfl) (fun _ _ _ h => h) (Or.inl ⟨by rfl, ?_⟩) hC_3 ?_
    rotate_left
    · intro w hSw; clear hSw; go_simp; (try with_reducible rfl)
    (try simp only [List.getElem_toArray, List.getElem_cons_succ, List.getElem_cons_zero])
    (try simp only [Act.put, List.setIfInBounds_toArray, List.set_cons_zero, List.set_cons_succ])
    refine wpHold_one (k := 11) (by kernel_rfl) rfl (fun K hK => ?_)
    (try simp only [List.getElem_toArray, List.getElem_cons_succ, List.getElem_cons_zero])
    go_simp
    refine (whole_bad 0 KC hz _ ((unhide HE4).below cc_3)).mono ?_
    rintro e xw_4 ⟨rfl, hb_4⟩
    have cc_4 := below_step cc_3 hb_4
    have hC_4 : (fun w' : World => (w'.cell? ⟨g, 0, none⟩ = some (.slice wa wn wd) ∧ w'.cell? ⟨g, 1, none⟩ = some (.slice oa om od) ∧ w'.cell? ⟨g, 2, none⟩ = some (.slice ka km kd)) ∧ w'.cell? ⟨g2, 0, none⟩ = some (.slice wa wn wd) ∧ w'.cell? ⟨g2, 1, none⟩ = some (.slice oa om od) ∧ w'.cell? ⟨g2, 2, none⟩ = some (.slice ka km kd)) xw_4 := unhide HCC _ cc_4
    refine hK.out _ _ hC_4 ?_
    clear hK K
    (try simp only [Act.put, List.setIfInBounds_toArray, List.set_cons_zero, List.set_cons_succ])
    refine wpHold_take (i := 12) (v := ?_) rfl (by kernel_rfl) (by kernel_rfl) (by kernel_rfl) (fun _ _ _ h => h) (Or.inl ⟨by rfl, ?_⟩) hC_4 ?_
    rotate_left
    · intro w hSw; clear hSw; go_simp; (try with_reducible rfl)
    (try simp only [List.getElem_toArray, List.getElem_cons_succ, List.getElem_cons_zero])
    (try simp only [Act.put, List.setIfInBounds_toArray, List.set_cons_zero, List.set_cons_succ])
    refine wpHold_one (k := 13) (by kernel_rfl) rfl (fun K hK => ?_)
    (try simp only [List.getElem_toArray, List.getElem_cons_succ, List.getElem_cons_zero])
    go_simp
    refine hK.out _ _ hC_4 ?_
    clear hK K
    (try simp only [Act.put, List.setIfInBounds_toArray, List.set_cons_zero, List.set_cons_succ])
    refine wpHold_done (by kernel_rfl) ?_ _
    have HFF := hide (unhide HFB _ cc_4)
    go_wp2
    go_ret
    exact ⟨rfl, unhide HFF⟩
end Go.Proofs.YtbbmhidnakghfaaDoor
