/- RatioMakes: the walk. -/
import Derived.Test.YtfpmgnlddlcpoaaGreatDoorB17
import Derived.Test.YtfpmgnlddlcpoaaGreatDoorA12
namespace Go.Proofs.YtfpmgnlddlcpoaaGreatDoor
open Go.RowKit Go.Sort Go.Shelf

theorem q_small {x y : Int} (hy : y ≠ 0) : (Rat.divInt x y).num.natAbs ≤ x.natAbs ∧ (Rat.divInt x y).den ≤ y.natAbs := by
  by_cases h : y < 0
  · rw [← div_neg h]
    have hl := low_parts (-x) (-y).natAbs _ (by omega) rfl
    rw [hl.2.1, hl.2.2]
    exact ⟨Nat.le_trans (Nat.div_le_self _ _) (by omega), Nat.le_trans (Nat.div_le_self _ _) (by omega)⟩
  · rw [← div_abs h]
    have hl := low_parts x y.natAbs _ (by omega) rfl
    rw [hl.2.1, hl.2.2]
    exact ⟨Nat.div_le_self _ _, Nat.div_le_self _ _⟩
theorem txt_small {N : Int} (h : N.natAbs < 18446744073709551616) : Txt N := ⟨smh_small (by omega), Nat.le_trans (Dd.dec_len_le 19 _ (by omega)) (by decide)⟩
theorem div_ints (x y : Int) : (x : Rat) / (y : Rat) = Rat.divInt x y := by
  have h := quo_math (x : Rat) (y : Rat)
  rw [show (x : Rat).num = x from rfl, show (y : Rat).num = y from rfl, show (x : Rat).den = 1 from rfl, show (y : Rat).den = 1 from rfl] at h
  rw [← h]
  simp

set_option maxHeartbeats 16000000 in
set_option maxRecDepth 100000 in
set_option linter.unusedSimpArgs false in
theorem of_zero (x : Int) (w : World) :
    Calls Tryz.prog 4 #[.int .i64 x, .int .i64 0] w fun e w' => e = .returned (.tuple #[.agg #[.bool false, .slice none 0 0, .slice none 0 0], .iface 30 (.int .i64 11)]) ∧ Below w.heap.size w w' := by
  have HB := hide (abelow w (.cells #[.bool false, .slice none 0 0, .slice none 0 0] 25))
  go_enter Tryz.func4, Tryz.ntmps4
  go_wp2
  exact bodyPost_ret (v := .tuple #[.agg #[.bool false, .slice none 0 0, .slice none 0 0], .iface 30 (.int .i64 11)]) (by simp [results, Tryz.results4, go_sem]) rfl ⟨rfl, unhide HB⟩

set_option maxHeartbeats 16000000 in
set_option maxRecDepth 100000 in
set_option linter.unusedSimpArgs false in
theorem ratioMakes_any (x y : Int) (hx0 : -9223372036854775808 ≤ x) (hx1 : x ≤ 9223372036854775807) (hy0 : -9223372036854775808 ≤ y) (hy1 : y ≤ 9223372036854775807) (w : World) (htab : Tab w) (herr : ErrTy w) :
    Calls Tryz.prog 3 #[.int .i64 x, .int .i64 y] w fun e w' => e = .returned (.bool true) ∧ Below w.heap.size w w' := by
  have HTB := hide htab
  have HER := hide herr
  clear htab herr
  by_cases hy : y = 0
  · subst hy
    go_enter Tryz.func3, Tryz.ntmps3
    go_wp2_with fail
    refine (of_zero x w).mono ?_
    rintro e w1 ⟨rfl, hb1⟩
    have hv := rat_zero w1
    have hbA := abelow w1 (.cells #[.bool false, .slice none 0 0, .slice none 0 0] 25)
    have HV := hide (hv.below hbA)
    have HBW := hide (bstep hb1 hbA)
    have HC9 : Hid (∀ W, Below (w1.alloc (.cells #[.bool false, .slice none 0 0, .slice none 0 0] 25)).heap.size (w1.alloc (.cells #[.bool false, .slice none 0 0, .slice none 0 0] 25)) W → (fun g => (fun w' : World => w'.cell? ⟨g, 0, none⟩ = some (.bool false) ∧ w'.cell? ⟨g, 1, none⟩ = some (.slice none 0 0) ∧ w'.cell? ⟨g, 2, none⟩ = some (.slice none 0 0)) W) w1.heap.size) := fun W hW => by
      have hlt : w1.heap.size < (w1.alloc (.cells #[.bool false, .slice none 0 0, .slice none 0 0] 25)).heap.size := by simp
      refine ⟨?_, ?_, ?_⟩
      · rw [hW.cell (p := ⟨w1.heap.size, 0, none⟩) hlt]; simp
      · rw [hW.cell (p := ⟨w1.heap.size, 1, none⟩) hlt]; simp
      · rw [hW.cell (p := ⟨w1.heap.size, 2, none⟩) hlt]; simp
    obtain ⟨W2, hW2⟩ : ∃ W, w1.alloc (.cells #[.bool false, .slice none 0 0, .slice none 0 0] 25) = W := ⟨_, rfl⟩
    obtain ⟨g, hgg⟩ : ∃ g, w1.heap.size = g := ⟨_, rfl⟩
    rw [hW2] at HV HBW HC9
    rw [hgg] at HC9
    have HCC : Hid (∀ W, Below W2.heap.size W2 W → (fun w' : World => w'.cell? ⟨g, 0, none⟩ = some (.bool false) ∧ w'.cell? ⟨g, 1, none⟩ = some (.slice none 0 0) ∧ w'.cell? ⟨g, 2, none⟩ = some (.slice none 0 0)) W) := fun W hW => unhide HC9 W hW
    have HW2 := hide hW2
    have HGG := hide hgg
    clear hW2 hgg hbA hv hb1 HC9
    go_wp2_with fail
    rw [unhide HW2, unhide HGG]
    clear HW2 HGG
    refine wp_region_hold (fun w' : World => w'.cell? ⟨g, 0, none⟩ = some (.bool false) ∧ w'.cell? ⟨g, 1, none⟩ = some (.slice none 0 0) ∧ w'.cell? ⟨g, 2, none⟩ = some (.slice none 0 0)) (by kernel_rfl) ?_
    have bd0 : Below W2.heap.size W2 W2.drew := (Below.refl _ _).drew
    have hC0 : (fun w' : World => w'.cell? ⟨g, 0, none⟩ = some (.bool false) ∧ w'.cell? ⟨g, 1, none⟩ = some (.slice none 0 0) ∧ w'.cell? ⟨g, 2, none⟩ = some (.slice none 0 0)) W2.drew := unhide HCC _ bd0
    refine wpHold_take (i := 0) (v := ?_) rfl (by kernel_rfl) (by kernel_rfl) (by kernel_rfl) (fun _ _ _ h => h) (Or.inl ⟨by rfl, ?_⟩) hC0 ?_
    rotate_left
    · intro w hSw; (try dsimp only at hSw); obtain ⟨z0, z1, z2⟩ := hSw; go_simp; (try with_reducible rfl)
    (try simp only [List.getElem_toArray, List.getElem_cons_succ, List.getElem_cons_zero])
    (try simp only [Act.put, List.setIfInBounds_toArray, List.set_cons_zero, List.set_cons_succ])
    refine wpHold_take (i := 1) (v := ?_) rfl (by kernel_rfl) (by kernel_rfl) (by kernel_rfl) (fun _ _ _ h => h) (Or.inl ⟨by rfl, ?_⟩) hC0 ?_
    rotate_left
    · intro w hSw; clear hSw; go_simp; (try with_reducible rfl)
    (try simp only [List.getElem_toArray, List.getElem_cons_succ, List.getElem_cons_zero])
    (try simp only [Act.put, List.setIfInBounds_toArray, List.set_cons_zero, List.set_cons_succ])
    refine wpHold_take (i := 2) (v := ?_) rfl (by kernel_rfl) (by kernel_rfl) (by kernel_rfl) (fun _ _ _ h => h) (Or.inl ⟨by rfl, ?_⟩) hC0 ?_
    rotate_left
    · intro w hSw; clear hSw; go_simp; (try with_reducible rfl)
    (try simp only [List.getElem_toArray, List.getElem_cons_succ, List.getElem_cons_zero])
    (try simp only [Act.put, List.setIfInBounds_toArray, List.set_cons_zero, List.set_cons_succ])
    refine wpHold_take (i := 4) (v := ?_) rfl (by kernel_rfl) (by kernel_rfl) (by kernel_rfl) (fun _ _ _ h => h) (Or.inl ⟨by rfl, ?_⟩) hC0 ?_
    rotate_left
    · intro w hSw; clear hSw; go_simp; (try with_reducible rfl)
    (try simp only [List.getElem_toArray, List.getElem_cons_succ, List.getElem_cons_zero])
    (try simp only [Act.put, List.setIfInBounds_toArray, List.set_cons_zero, List.set_cons_succ])
    refine wpHold_take (i := 7) (v := ?_) rfl (by kernel_rfl) (by kernel_rfl) (by kernel_rfl) (fun _ _ _ h => h) (Or.inl ⟨by rfl, ?_⟩) hC0 ?_
    rotate_left
    · intro w hSw; clear hSw; go_simp; (try with_reducible rfl)
    (try simp only [List.getElem_toArray, List.getElem_cons_succ, List.getElem_cons_zero])
    (try simp only [Act.put, List.setIfInBounds_toArray, List.set_cons_zero, List.set_cons_succ])
    refine wpHold_one (k := 3) (by kernel_rfl) rfl (fun K hK => ?_)
    (try simp only [List.getElem_toArray, List.getElem_cons_succ, List.getElem_cons_zero])
    go_simp
    refine (refInt_any x hx0 hx1 _).mono ?_
    rintro e x1 ⟨b1, rfl, _, r1, l1⟩
    have c1 := bstep bd0 l1
    have hD1 : (fun w' : World => w'.cell? ⟨g, 0, none⟩ = some (.bool false) ∧ w'.cell? ⟨g, 1, none⟩ = some (.slice none 0 0) ∧ w'.cell? ⟨g, 2, none⟩ = some (.slice none 0 0)) x1 := unhide HCC _ c1
    refine hK.out _ _ hD1 ?_
    clear hK K
    (try simp only [Act.put, List.setIfInBounds_toArray, List.set_cons_zero, List.set_cons_succ])
    refine wpHold_one (k := 5) (by kernel_rfl) rfl (fun K hK => ?_)
    (try simp only [List.getElem_toArray, List.getElem_cons_succ, List.getElem_cons_zero])
    go_simp
    refine (refInt_any 0 hy0 hy1 _).mono ?_
    rintro e x2 ⟨b2, rfl, _, r2, l2⟩
    have c2 := bstep c1 l2
    have hD2 : (fun w' : World => w'.cell? ⟨g, 0, none⟩ = some (.bool false) ∧ w'.cell? ⟨g, 1, none⟩ = some (.slice none 0 0) ∧ w'.cell? ⟨g, 2, none⟩ = some (.slice none 0 0)) x2 := unhide HCC _ c2
    refine hK.out _ _ hD2 ?_
    clear hK K
    (try simp only [Act.put, List.setIfInBounds_toArray, List.set_cons_zero, List.set_cons_succ])
    refine wpHold_one (k := 6) (by kernel_rfl) rfl (fun K hK => ?_)
    (try simp only [List.getElem_toArray, List.getElem_cons_succ, List.getElem_cons_zero])
    go_simp
    refine (refDiv_zero _ b2 0 _ x2 r2 rfl).mono ?_
    rintro e x3 ⟨b3, rfl, l3⟩
    have c3 := bstep c2 l3
    have hD3 : (fun w' : World => w'.cell? ⟨g, 0, none⟩ = some (.bool false) ∧ w'.cell? ⟨g, 1, none⟩ = some (.slice none 0 0) ∧ w'.cell? ⟨g, 2, none⟩ = some (.slice none 0 0)) x3 := unhide HCC _ c3
    refine hK.out _ _ hD3 ?_
    clear hK K
    (try simp only [Act.put, List.setIfInBounds_toArray, List.set_cons_zero, List.set_cons_succ])
    refine wpHold_one (k := 8) (by kernel_rfl) rfl (fun K hK => ?_)
    (try simp only [List.getElem_toArray, List.getElem_cons_succ, List.getElem_cons_zero])
    go_simp
    refine (one_err _ b3 11 (by decide) x3 ((unhide HV).below c3) (tab_below (unhide HTB) (bstep (unhide HBW) c3)) ((unhide HER).below (bstep (unhide HBW) c3))).mono ?_
    rintro e x4 ⟨rfl, l4⟩
    have c4 := bstep c3 l4
    have hD4 : (fun w' : World => w'.cell? ⟨g, 0, none⟩ = some (.bool false) ∧ w'.cell? ⟨g, 1, none⟩ = some (.slice none 0 0) ∧ w'.cell? ⟨g, 2, none⟩ = some (.slice none 0 0)) x4 := unhide HCC _ c4
    refine hK.out _ _ hD4 ?_
    clear hK K
    (try simp only [Act.put, List.setIfInBounds_toArray, List.set_cons_zero, List.set_cons_succ])
    refine wpHold_take (i := 9) (v := ?_) rfl (by kernel_rfl) (by kernel_rfl) (by kernel_rfl) (fun _ _ _ h => h) (Or.inl ⟨by rfl, ?_⟩) hD4 ?_
    rotate_left
    · intro w hSw; clear hSw; go_simp; (try with_reducible rfl)
    (try simp only [List.getElem_toArray, List.getElem_cons_succ, List.getElem_cons_zero])
    (try simp only [Act.put, List.setIfInBounds_toArray, List.set_cons_zero, List.set_cons_succ])
    refine wpHold_take (i := 10) (v := ?_) rfl (by kernel_rfl) (by kernel_rfl) (by kernel_rfl) (fun _ _ _ h => h) (Or.inl ⟨by rfl, ?_⟩) hD4 ?_
    rotate_left
    · intro w hSw; clear hSw; go_simp; (try with_reducible rfl)
    (try simp only [List.getElem_toArray, List.getElem_cons_succ, List.getElem_cons_zero])
    (try simp only [Act.put, List.setIfInBounds_toArray, List.set_cons_zero, List.set_cons_succ])
    refine wpHold_take (i := 13) (v := ?_) rfl (by kernel_rfl) (by kernel_rfl) (by kernel_rfl) (fun _ _ _ h => h) (Or.inl ⟨by rfl, ?_⟩) hD4 ?_
    rotate_left
    · intro w hSw; clear hSw; go_simp; (try with_reducible rfl)
    (try simp only [List.getElem_toArray, List.getElem_cons_succ, List.getElem_cons_zero])
    (try simp only [Act.put, List.setIfInBounds_toArray, List.set_cons_zero, List.set_cons_succ])
    refine wpHold_one (k := 11) (by kernel_rfl) rfl (fun K hK => ?_)
    (try simp only [List.getElem_toArray, List.getElem_cons_succ, List.getElem_cons_zero])
    go_simp
    refine (whole_any x hx0 hx1 _).mono ?_
    rintro e x5 ⟨v5, rfl, hv5, l5⟩
    have c5 := bstep c4 l5
    have hD5 : (fun w' : World => w'.cell? ⟨g, 0, none⟩ = some (.bool false) ∧ w'.cell? ⟨g, 1, none⟩ = some (.slice none 0 0) ∧ w'.cell? ⟨g, 2, none⟩ = some (.slice none 0 0)) x5 := unhide HCC _ c5
    refine hK.out _ _ hD5 ?_
    clear hK K
    (try simp only [Act.put, List.setIfInBounds_toArray, List.set_cons_zero, List.set_cons_succ])
    refine wpHold_one (k := 12) (by kernel_rfl) rfl (fun K hK => ?_)
    (try simp only [List.getElem_toArray, List.getElem_cons_succ, List.getElem_cons_zero])
    go_simp
    refine (textR_small v5 _ x5 hv5 (show (x.natAbs : Int) < _ by omega) (show ((1 : Nat) : Int) < _ by decide) (tab_below (unhide HTB) (bstep (unhide HBW) c5))).mono ?_
    rintro e x6 ⟨rfl, l6⟩
    have c6 := bstep c5 l6
    have hD6 : (fun w' : World => w'.cell? ⟨g, 0, none⟩ = some (.bool false) ∧ w'.cell? ⟨g, 1, none⟩ = some (.slice none 0 0) ∧ w'.cell? ⟨g, 2, none⟩ = some (.slice none 0 0)) x6 := unhide HCC _ c6
    refine hK.out _ _ hD6 ?_
    clear hK K
    (try simp only [Act.put, List.setIfInBounds_toArray, List.set_cons_zero, List.set_cons_succ])
    refine wpHold_one (k := 14) (by kernel_rfl) rfl (fun K hK => ?_)
    (try simp only [List.getElem_toArray, List.getElem_cons_succ, List.getElem_cons_zero])
    go_simp
    refine (refInt_any x hx0 hx1 _).mono ?_
    rintro e x7 ⟨b7, rfl, _, r7, l7⟩
    have c7 := bstep c6 l7
    have hD7 : (fun w' : World => w'.cell? ⟨g, 0, none⟩ = some (.bool false) ∧ w'.cell? ⟨g, 1, none⟩ = some (.slice none 0 0) ∧ w'.cell? ⟨g, 2, none⟩ = some (.slice none 0 0)) x7 := unhide HCC _ c7
    refine hK.out _ _ hD7 ?_
    clear hK K
    (try simp only [Act.put, List.setIfInBounds_toArray, List.set_cons_zero, List.set_cons_succ])
    refine wpHold_one (k := 15) (by kernel_rfl) rfl (fun K hK => ?_)
    (try simp only [List.getElem_toArray, List.getElem_cons_succ, List.getElem_cons_zero])
    go_simp
    refine (refText_any b7 0 _ x7 r7 (txt_small (show x.natAbs < _ by omega)) (txt_small (show ((1 : Nat) : Int).natAbs < _ by decide))).mono ?_
    rintro e x8 ⟨rfl, l8⟩
    have c8 := bstep c7 l8
    have hD8 : (fun w' : World => w'.cell? ⟨g, 0, none⟩ = some (.bool false) ∧ w'.cell? ⟨g, 1, none⟩ = some (.slice none 0 0) ∧ w'.cell? ⟨g, 2, none⟩ = some (.slice none 0 0)) x8 := unhide HCC _ c8
    refine hK.out _ _ hD8 ?_
    clear hK K
    (try simp only [Act.put, List.setIfInBounds_toArray, List.set_cons_zero, List.set_cons_succ])
    refine wpHold_one (k := 16) (by kernel_rfl) rfl (fun K hK => ?_)
    (try simp only [List.getElem_toArray, List.getElem_cons_succ, List.getElem_cons_zero])
    go_simp
    refine hK.out _ _ hD8 ?_
    clear hK K
    (try simp only [Act.put, List.setIfInBounds_toArray, List.set_cons_zero, List.set_cons_succ])
    refine wpHold_one (k := 17) (by kernel_rfl) rfl (fun K hK => ?_)
    (try simp only [List.getElem_toArray, List.getElem_cons_succ, List.getElem_cons_zero])
    go_simp
    refine hK.out _ _ hD8 ?_
    clear hK K
    (try simp only [Act.put, List.setIfInBounds_toArray, List.set_cons_zero, List.set_cons_succ])
    refine wpHold_one (k := 18) (by kernel_rfl) rfl (fun K hK => ?_)
    (try simp only [List.getElem_toArray, List.getElem_cons_succ, List.getElem_cons_zero])
    go_simp
    refine hK.out _ _ hD8 ?_
    clear hK K
    (try simp only [Act.put, List.setIfInBounds_toArray, List.set_cons_zero, List.set_cons_succ])
    refine wpHold_done (by kernel_rfl) ?_ _
    have HEND := hide (bstep (unhide HBW) c8)
    clear c1 c2 c3 c4 c5 c6 c7 c8 hD1 hD2 hD3 hD4 hD5 hD6 hD7 hD8 bd0 hC0
    go_wp2
    go_ret
    exact ⟨rfl, unhide HEND⟩
  · go_enter Tryz.func3, Tryz.ntmps3
    go_wp2_with fail
    refine (of_any x y hx0 hx1 hy0 hy1 hy w).mono ?_
    rintro e w1 ⟨v, rfl, hv, hb1⟩
    have h' := hv
    obtain ⟨ov, un, rfl, ho, hu⟩ := h'
    obtain ⟨y1, y2, y3, rfl, _, _⟩ := ho
    obtain ⟨u1, u2, u3, rfl, _, _⟩ := hu
    obtain ⟨q, hq⟩ : ∃ q, Rat.divInt x y = q := ⟨_, rfl⟩
    rw [hq] at hv
    have HQ := hide hq
    rw [hq]
    clear hq
    obtain ⟨s, hs⟩ : ∃ s, decide (q.num < 0) = s := ⟨_, rfl⟩
    rw [hs] at hv
    rw [hs]
    clear hs
    have hyz : (y == 0) = false := by rw [beq_eq_false_iff_ne]; exact hy
    have hbA := abelow w1 (.cells #[.bool s, .slice y1 y2 y3, .slice u1 u2 u3] 25)
    have HV := hide (hv.below hbA)
    have HBW := hide (bstep hb1 hbA)
    have HC9 : Hid (∀ W, Below (w1.alloc (.cells #[.bool s, .slice y1 y2 y3, .slice u1 u2 u3] 25)).heap.size (w1.alloc (.cells #[.bool s, .slice y1 y2 y3, .slice u1 u2 u3] 25)) W → (fun g => (fun w' : World => w'.cell? ⟨g, 0, none⟩ = some (.bool s) ∧ w'.cell? ⟨g, 1, none⟩ = some (.slice y1 y2 y3) ∧ w'.cell? ⟨g, 2, none⟩ = some (.slice u1 u2 u3)) W) w1.heap.size) := fun W hW => by
      have hlt : w1.heap.size < (w1.alloc (.cells #[.bool s, .slice y1 y2 y3, .slice u1 u2 u3] 25)).heap.size := by simp
      refine ⟨?_, ?_, ?_⟩
      · rw [hW.cell (p := ⟨w1.heap.size, 0, none⟩) hlt]; simp
      · rw [hW.cell (p := ⟨w1.heap.size, 1, none⟩) hlt]; simp
      · rw [hW.cell (p := ⟨w1.heap.size, 2, none⟩) hlt]; simp
    obtain ⟨W2, hW2⟩ : ∃ W, w1.alloc (.cells #[.bool s, .slice y1 y2 y3, .slice u1 u2 u3] 25) = W := ⟨_, rfl⟩
    obtain ⟨g, hgg⟩ : ∃ g, w1.heap.size = g := ⟨_, rfl⟩
    rw [hW2] at HV HBW HC9
    rw [hgg] at HC9
    have HCC : Hid (∀ W, Below W2.heap.size W2 W → (fun w' : World => w'.cell? ⟨g, 0, none⟩ = some (.bool s) ∧ w'.cell? ⟨g, 1, none⟩ = some (.slice y1 y2 y3) ∧ w'.cell? ⟨g, 2, none⟩ = some (.slice u1 u2 u3)) W) := fun W hW => unhide HC9 W hW
    have HW2 := hide hW2
    have HGG := hide hgg
    clear hW2 hgg hbA hv hb1 HC9
    go_wp2_with fail
    rw [unhide HW2, unhide HGG]
    clear HW2 HGG
    refine wp_region_hold (fun w' : World => w'.cell? ⟨g, 0, none⟩ = some (.bool s) ∧ w'.cell? ⟨g, 1, none⟩ = some (.slice y1 y2 y3) ∧ w'.cell? ⟨g, 2, none⟩ = some (.slice u1 u2 u3)) (by kernel_rfl) ?_
    have bd0 : Below W2.heap.size W2 W2.drew := (Below.refl _ _).drew
    have hC0 : (fun w' : World => w'.cell? ⟨g, 0, none⟩ = some (.bool s) ∧ w'.cell? ⟨g, 1, none⟩ = some (.slice y1 y2 y3) ∧ w'.cell? ⟨g, 2, none⟩ = some (.slice u1 u2 u3)) W2.drew := unhide HCC _ bd0
    refine wpHold_take (i := 0) (v := ?_) rfl (by kernel_rfl) (by kernel_rfl) (by kernel_rfl) (fun _ _ _ h => h) (Or.inl ⟨by rfl, ?_⟩) hC0 ?_
    rotate_left
    · intro w hSw; (try dsimp only at hSw); obtain ⟨z0, z1, z2⟩ := hSw; go_simp; (try with_reducible rfl)
    (try simp only [List.getElem_toArray, List.getElem_cons_succ, List.getElem_cons_zero])
    (try simp only [Act.put, List.setIfInBounds_toArray, List.set_cons_zero, List.set_cons_succ])
    refine wpHold_take (i := 1) (v := ?_) rfl (by kernel_rfl) (by kernel_rfl) (by kernel_rfl) (fun _ _ _ h => h) (Or.inl ⟨by rfl, ?_⟩) hC0 ?_
    rotate_left
    · intro w hSw; clear hSw; go_simp; (try with_reducible rfl)
    (try simp only [List.getElem_toArray, List.getElem_cons_succ, List.getElem_cons_zero])
    (try simp only [Act.put, List.setIfInBounds_toArray, List.set_cons_zero, List.set_cons_succ])
    refine wpHold_take (i := 2) (v := ?_) rfl (by kernel_rfl) (by kernel_rfl) (by kernel_rfl) (fun _ _ _ h => h) (Or.inl ⟨by rfl, ?_⟩) hC0 ?_
    rotate_left
    · intro w hSw; clear hSw; go_simp; (try with_reducible rfl)
    (try simp only [List.getElem_toArray, List.getElem_cons_succ, List.getElem_cons_zero])
    (try simp only [Act.put, List.setIfInBounds_toArray, List.set_cons_zero, List.set_cons_succ])
    refine wpHold_take (i := 4) (v := ?_) rfl (by kernel_rfl) (by kernel_rfl) (by kernel_rfl) (fun _ _ _ h => h) (Or.inl ⟨by rfl, ?_⟩) hC0 ?_
    rotate_left
    · intro w hSw; clear hSw; go_simp; (try with_reducible rfl)
    (try simp only [List.getElem_toArray, List.getElem_cons_succ, List.getElem_cons_zero])
    (try simp only [Act.put, List.setIfInBounds_toArray, List.set_cons_zero, List.set_cons_succ])
    refine wpHold_take (i := 7) (v := ?_) rfl (by kernel_rfl) (by kernel_rfl) (by kernel_rfl) (fun _ _ _ h => h) (Or.inl ⟨by rfl, ?_⟩) hC0 ?_
    rotate_left
    · intro w hSw; clear hSw; go_simp; (try with_reducible rfl)
    (try simp only [List.getElem_toArray, List.getElem_cons_succ, List.getElem_cons_zero])
    (try simp only [Act.put, List.setIfInBounds_toArray, List.set_cons_zero, List.set_cons_succ])
    refine wpHold_one (k := 3) (by kernel_rfl) rfl (fun K hK => ?_)
    (try simp only [List.getElem_toArray, List.getElem_cons_succ, List.getElem_cons_zero])
    go_simp
    refine (refInt_any x hx0 hx1 _).mono ?_
    rintro e x1 ⟨b1, rfl, _, r1, l1⟩
    have c1 := bstep bd0 l1
    have hD1 : (fun w' : World => w'.cell? ⟨g, 0, none⟩ = some (.bool s) ∧ w'.cell? ⟨g, 1, none⟩ = some (.slice y1 y2 y3) ∧ w'.cell? ⟨g, 2, none⟩ = some (.slice u1 u2 u3)) x1 := unhide HCC _ c1
    refine hK.out _ _ hD1 ?_
    clear hK K
    (try simp only [Act.put, List.setIfInBounds_toArray, List.set_cons_zero, List.set_cons_succ])
    refine wpHold_one (k := 5) (by kernel_rfl) rfl (fun K hK => ?_)
    (try simp only [List.getElem_toArray, List.getElem_cons_succ, List.getElem_cons_zero])
    go_simp
    refine (refInt_any y hy0 hy1 _).mono ?_
    rintro e x2 ⟨b2, rfl, _, r2, l2⟩
    have c2 := bstep c1 l2
    have hD2 : (fun w' : World => w'.cell? ⟨g, 0, none⟩ = some (.bool s) ∧ w'.cell? ⟨g, 1, none⟩ = some (.slice y1 y2 y3) ∧ w'.cell? ⟨g, 2, none⟩ = some (.slice u1 u2 u3)) x2 := unhide HCC _ c2
    refine hK.out _ _ hD2 ?_
    clear hK K
    (try simp only [Act.put, List.setIfInBounds_toArray, List.set_cons_zero, List.set_cons_succ])
    refine wpHold_one (k := 6) (by kernel_rfl) rfl (fun K hK => ?_)
    (try simp only [List.getElem_toArray, List.getElem_cons_succ, List.getElem_cons_zero])
    go_simp
    refine (refDiv_any _ divs_small b1 0 b2 0 _ _ x2 (r1.below l2) r2 hy (show x.natAbs < _ by omega) (show 1 < _ by decide) (show 1 < _ by decide) (show y.natAbs < _ by omega) (show (x * ((1 : Nat) : Int)).natAbs < _ by omega) (show (((1 : Nat) : Int) * y).natAbs < _ by omega)).mono ?_
    rintro e x3 ⟨b3, rfl, _, r3, l3⟩
    have c3 := bstep c2 l3
    have hD3 : (fun w' : World => w'.cell? ⟨g, 0, none⟩ = some (.bool s) ∧ w'.cell? ⟨g, 1, none⟩ = some (.slice y1 y2 y3) ∧ w'.cell? ⟨g, 2, none⟩ = some (.slice u1 u2 u3)) x3 := unhide HCC _ c3
    refine hK.out _ _ hD3 ?_
    clear hK K
    (try simp only [Act.put, List.setIfInBounds_toArray, List.set_cons_zero, List.set_cons_succ])
    have r3' : BRat x3 b3 0 q := by rw [div_ints, unhide HQ] at r3; exact r3
    have qs := q_small (x := x) hy
    rw [unhide HQ] at qs
    refine wpHold_one (k := 8) (by kernel_rfl) rfl (fun K hK => ?_)
    (try simp only [List.getElem_toArray, List.getElem_cons_succ, List.getElem_cons_zero])
    go_simp
    refine (one_nil _ q b3 x3 ((unhide HV).below c3) (by omega) (by omega) (tab_below (unhide HTB) (bstep (unhide HBW) c3)) r3' (txt_small (by omega)) (txt_small (by omega))).mono ?_
    rintro e x4 ⟨rfl, l4⟩
    have c4 := bstep c3 l4
    have hD4 : (fun w' : World => w'.cell? ⟨g, 0, none⟩ = some (.bool s) ∧ w'.cell? ⟨g, 1, none⟩ = some (.slice y1 y2 y3) ∧ w'.cell? ⟨g, 2, none⟩ = some (.slice u1 u2 u3)) x4 := unhide HCC _ c4
    refine hK.out _ _ hD4 ?_
    clear hK K
    (try simp only [Act.put, List.setIfInBounds_toArray, List.set_cons_zero, List.set_cons_succ])
    refine wpHold_take (i := 9) (v := ?_) rfl (by kernel_rfl) (by kernel_rfl) (by kernel_rfl) (fun _ _ _ h => h) (Or.inl ⟨by rfl, ?_⟩) hD4 ?_
    rotate_left
    · intro w hSw; clear hSw; go_simp; (try with_reducible rfl)
    (try simp only [List.getElem_toArray, List.getElem_cons_succ, List.getElem_cons_zero])
    (try simp only [Act.put, List.setIfInBounds_toArray, List.set_cons_zero, List.set_cons_succ])
    refine wpHold_take (i := 10) (v := ?_) rfl (by kernel_rfl) (by kernel_rfl) (by kernel_rfl) (fun _ _ _ h => h) (Or.inl ⟨by rfl, ?_⟩) hD4 ?_
    rotate_left
    · intro w hSw; clear hSw; go_simp; (try with_reducible rfl)
    (try simp only [List.getElem_toArray, List.getElem_cons_succ, List.getElem_cons_zero])
    (try simp only [Act.put, List.setIfInBounds_toArray, List.set_cons_zero, List.set_cons_succ])
    refine wpHold_take (i := 13) (v := ?_) rfl (by kernel_rfl) (by kernel_rfl) (by kernel_rfl) (fun _ _ _ h => h) (Or.inl ⟨by rfl, ?_⟩) hD4 ?_
    rotate_left
    · intro w hSw; clear hSw; go_simp; (try with_reducible rfl)
    (try simp only [List.getElem_toArray, List.getElem_cons_succ, List.getElem_cons_zero])
    (try simp only [Act.put, List.setIfInBounds_toArray, List.set_cons_zero, List.set_cons_succ])
    refine wpHold_one (k := 11) (by kernel_rfl) rfl (fun K hK => ?_)
    (try simp only [List.getElem_toArray, List.getElem_cons_succ, List.getElem_cons_zero])
    go_simp
    refine (whole_any x hx0 hx1 _).mono ?_
    rintro e x5 ⟨v5, rfl, hv5, l5⟩
    have c5 := bstep c4 l5
    have hD5 : (fun w' : World => w'.cell? ⟨g, 0, none⟩ = some (.bool s) ∧ w'.cell? ⟨g, 1, none⟩ = some (.slice y1 y2 y3) ∧ w'.cell? ⟨g, 2, none⟩ = some (.slice u1 u2 u3)) x5 := unhide HCC _ c5
    refine hK.out _ _ hD5 ?_
    clear hK K
    (try simp only [Act.put, List.setIfInBounds_toArray, List.set_cons_zero, List.set_cons_succ])
    refine wpHold_one (k := 12) (by kernel_rfl) rfl (fun K hK => ?_)
    (try simp only [List.getElem_toArray, List.getElem_cons_succ, List.getElem_cons_zero])
    go_simp
    refine (textR_small v5 _ x5 hv5 (show (x.natAbs : Int) < _ by omega) (show ((1 : Nat) : Int) < _ by decide) (tab_below (unhide HTB) (bstep (unhide HBW) c5))).mono ?_
    rintro e x6 ⟨rfl, l6⟩
    have c6 := bstep c5 l6
    have hD6 : (fun w' : World => w'.cell? ⟨g, 0, none⟩ = some (.bool s) ∧ w'.cell? ⟨g, 1, none⟩ = some (.slice y1 y2 y3) ∧ w'.cell? ⟨g, 2, none⟩ = some (.slice u1 u2 u3)) x6 := unhide HCC _ c6
    refine hK.out _ _ hD6 ?_
    clear hK K
    (try simp only [Act.put, List.setIfInBounds_toArray, List.set_cons_zero, List.set_cons_succ])
    refine wpHold_one (k := 14) (by kernel_rfl) rfl (fun K hK => ?_)
    (try simp only [List.getElem_toArray, List.getElem_cons_succ, List.getElem_cons_zero])
    go_simp
    refine (refInt_any x hx0 hx1 _).mono ?_
    rintro e x7 ⟨b7, rfl, _, r7, l7⟩
    have c7 := bstep c6 l7
    have hD7 : (fun w' : World => w'.cell? ⟨g, 0, none⟩ = some (.bool s) ∧ w'.cell? ⟨g, 1, none⟩ = some (.slice y1 y2 y3) ∧ w'.cell? ⟨g, 2, none⟩ = some (.slice u1 u2 u3)) x7 := unhide HCC _ c7
    refine hK.out _ _ hD7 ?_
    clear hK K
    (try simp only [Act.put, List.setIfInBounds_toArray, List.set_cons_zero, List.set_cons_succ])
    refine wpHold_one (k := 15) (by kernel_rfl) rfl (fun K hK => ?_)
    (try simp only [List.getElem_toArray, List.getElem_cons_succ, List.getElem_cons_zero])
    go_simp
    refine (refText_any b7 0 _ x7 r7 (txt_small (show x.natAbs < _ by omega)) (txt_small (show ((1 : Nat) : Int).natAbs < _ by decide))).mono ?_
    rintro e x8 ⟨rfl, l8⟩
    have c8 := bstep c7 l8
    have hD8 : (fun w' : World => w'.cell? ⟨g, 0, none⟩ = some (.bool s) ∧ w'.cell? ⟨g, 1, none⟩ = some (.slice y1 y2 y3) ∧ w'.cell? ⟨g, 2, none⟩ = some (.slice u1 u2 u3)) x8 := unhide HCC _ c8
    refine hK.out _ _ hD8 ?_
    clear hK K
    (try simp only [Act.put, List.setIfInBounds_toArray, List.set_cons_zero, List.set_cons_succ])
    refine wpHold_one (k := 16) (by kernel_rfl) rfl (fun K hK => ?_)
    (try simp only [List.getElem_toArray, List.getElem_cons_succ, List.getElem_cons_zero])
    go_simp
    refine hK.out _ _ hD8 ?_
    clear hK K
    (try simp only [Act.put, List.setIfInBounds_toArray, List.set_cons_zero, List.set_cons_succ])
    refine wpHold_one (k := 17) (by kernel_rfl) rfl (fun K hK => ?_)
    (try simp only [List.getElem_toArray, List.getElem_cons_succ, List.getElem_cons_zero])
    go_simp
    refine hK.out _ _ hD8 ?_
    clear hK K
    (try simp only [Act.put, List.setIfInBounds_toArray, List.set_cons_zero, List.set_cons_succ])
    refine wpHold_one (k := 18) (by kernel_rfl) rfl (fun K hK => ?_)
    (try simp only [List.getElem_toArray, List.getElem_cons_succ, List.getElem_cons_zero])
    go_simp
    refine hK.out _ _ hD8 ?_
    clear hK K
    (try simp only [Act.put, List.setIfInBounds_toArray, List.set_cons_zero, List.set_cons_succ])
    refine wpHold_done (by kernel_rfl) ?_ _
    have HEND := hide (bstep (unhide HBW) c8)
    clear c1 c2 c3 c4 c5 c6 c7 c8 hD1 hD2 hD3 hD4 hD5 hD6 hD7 hD8 bd0 hC0
    go_wp2
    go_ret
    exact ⟨rfl, unhide HEND⟩
end Go.Proofs.YtfpmgnlddlcpoaaGreatDoor
