/- The document's Johnson; ShopJohnson. -/
import Derived.Test.YtepgdlgifempeaaDoorZ3
namespace Go.Proofs.YtepgdlgifempeaaDoor
open Go.RowKit Go.Sort Stb

set_option maxHeartbeats 8000000 in
set_option maxRecDepth 100000 in
set_option linter.unusedSimpArgs false in
theorem rjohnson1_any (pa : Nat) (a : Option Addr) (n c : Nat) (f : Nat → T2) (wb W : World) (i k : Nat) (hi : i < n) (hk : k < n) (hn : n ≤ 60) (ha : DRow wb a n c f) (h1 : wb.cell? ⟨pa, 0, none⟩ = some (.slice a n c)) (hpa : pa < wb.heap.size) (hW : Below wb.heap.size wb W) :
    Calls Tryd.prog 32 #[.int .i64 (i : Int), .int .i64 (k : Int), .pointer (some ⟨pa, 0, none⟩)] W fun e w' => e = .returned (.bool (ltc (fun i k => ncmp (f i) (f k)) k i)) ∧ Below W.heap.size W w' := by
  rw [ncmp_key]
  obtain ⟨b, o, rfl, hbl, hc⟩ := ha.2.2 (by omega)
  have hi' := hc i hi
  have hk' := hc k hk
  obtain ⟨⟨x, y⟩, hfi⟩ : ∃ t, f i = t := ⟨_, rfl⟩
  obtain ⟨⟨x', y'⟩, hfk⟩ : ∃ t, f k = t := ⟨_, rfl⟩
  rw [hfi] at hi' ⊢
  rw [hfk] at hk' ⊢
  simp only at hi' hk'
  have HCC : Hid (∀ W', Below W.heap.size W W' → (fun w' : World => w'.cell? ⟨pa, 0, none⟩ = some (.slice (some ⟨b, o, none⟩) n c) ∧ (w'.cell? ⟨b, o + i * 2, none⟩ = some (.int .i64 x) ∧ w'.cell? ⟨b, o + i * 2 + 1, none⟩ = some (.int .i64 y)) ∧ w'.cell? ⟨b, o + k * 2, none⟩ = some (.int .i64 x') ∧ w'.cell? ⟨b, o + k * 2 + 1, none⟩ = some (.int .i64 y')) W') := fun W' hW' => by
    have B := below_step hW hW'
    refine ⟨by rw [B.cell (p := ⟨pa, 0, none⟩) hpa]; exact h1, ?_, ?_⟩
    · rw [B.cell (p := ⟨b, o + i * 2, none⟩) hbl, B.cell (p := ⟨b, o + i * 2 + 1, none⟩) hbl]; exact hi'
    · rw [B.cell (p := ⟨b, o + k * 2, none⟩) hbl, B.cell (p := ⟨b, o + k * 2 + 1, none⟩) hbl]; exact hk'
  have e1 : (i : Int) < (n : Int) := by omega
  have e2 : (k : Int) < (n : Int) := by omega
  have e3 : (0 : Int) ≤ (i : Int) := by omega
  have e4 : (0 : Int) ≤ (k : Int) := by omega
  obtain ⟨R, hR⟩ : ∃ R, decide (((x', y').1 ≤ (x', y').2 ∧ (x, y).1 ≤ (x, y).2 ∧ (x', y').1 < (x, y).1) ∨ ((x', y').1 ≤ (x', y').2 ∧ (x, y).2 < (x, y).1) ∨ ((x', y').2 < (x', y').1 ∧ (x, y).2 < (x, y).1 ∧ (x, y).2 < (x', y').2)) = R := ⟨_, rfl⟩
  rw [hR]
  simp only at hR
  have HR := hide hR
  clear hR hi' hk' hfi hfk hc ha h1 hpa hW hbl hi hk
  go_enter Tryd.func32, Tryd.ntmps32
  go_wp2_with fail
  refine wp_region_hold (fun w' : World => w'.cell? ⟨pa, 0, none⟩ = some (.slice (some ⟨b, o, none⟩) n c) ∧ (w'.cell? ⟨b, o + i * 2, none⟩ = some (.int .i64 x) ∧ w'.cell? ⟨b, o + i * 2 + 1, none⟩ = some (.int .i64 y)) ∧ w'.cell? ⟨b, o + k * 2, none⟩ = some (.int .i64 x') ∧ w'.cell? ⟨b, o + k * 2 + 1, none⟩ = some (.int .i64 y')) (by kernel_rfl) ?_
  have bd0 : Below W.heap.size W W.drew := (Below.refl _ _).drew
  have hC0 : (fun w' : World => w'.cell? ⟨pa, 0, none⟩ = some (.slice (some ⟨b, o, none⟩) n c) ∧ (w'.cell? ⟨b, o + i * 2, none⟩ = some (.int .i64 x) ∧ w'.cell? ⟨b, o + i * 2 + 1, none⟩ = some (.int .i64 y)) ∧ w'.cell? ⟨b, o + k * 2, none⟩ = some (.int .i64 x') ∧ w'.cell? ⟨b, o + k * 2 + 1, none⟩ = some (.int .i64 y')) W.drew := unhide HCC _ bd0
  obtain ⟨WD, hWD⟩ : ∃ V, W.drew = V := ⟨_, rfl⟩
  rw [hWD] at bd0 hC0 ⊢
  clear hWD
  refine wpHold_take (i := 0) (v := ?_) rfl (by kernel_rfl) (by kernel_rfl) (by kernel_rfl) (fun _ _ _ h => h) (Or.inl ⟨by rfl, ?_⟩) hC0 ?_
  rotate_left
  · intro w hSw; (try dsimp only at hSw); obtain ⟨z0, ⟨z1, z2⟩, z3, z4⟩ := hSw; go_simp; (try with_reducible rfl)
  (try simp only [List.getElem_toArray, List.getElem_cons_succ, List.getElem_cons_zero])
  (try simp only [Act.put, List.setIfInBounds_toArray, List.set_cons_zero, List.set_cons_succ])
  refine wpHold_take (i := 1) (v := ?_) rfl (by kernel_rfl) (by kernel_rfl) (by kernel_rfl) (fun _ _ _ h => h) (Or.inl ⟨by rfl, ?_⟩) hC0 ?_
  rotate_left
  · intro w hSw; clear hSw; go_simp; (try with_reducible rfl)
  (try simp only [List.getElem_toArray, List.getElem_cons_succ, List.getElem_cons_zero])
  (try simp only [Act.put, List.setIfInBounds_toArray, List.set_cons_zero, List.set_cons_succ])
  refine wpHold_take (i := 2) (v := ?_) rfl (by kernel_rfl) (by kernel_rfl) (by kernel_rfl) (fun _ _ _ h => h) (Or.inl ⟨by rfl, ?_⟩) hC0 ?_
  rotate_left
  · intro w hSw; (try dsimp only at hSw); obtain ⟨z0, ⟨z1, z2⟩, z3, z4⟩ := hSw; go_simp; (try with_reducible rfl)
  (try simp only [List.getElem_toArray, List.getElem_cons_succ, List.getElem_cons_zero])
  (try simp only [Act.put, List.setIfInBounds_toArray, List.set_cons_zero, List.set_cons_succ])
  refine wpHold_take (i := 3) (v := ?_) rfl (by kernel_rfl) (by kernel_rfl) (by kernel_rfl) (fun _ _ _ h => h) (Or.inl ⟨by rfl, ?_⟩) hC0 ?_
  rotate_left
  · intro w hSw; (try dsimp only at hSw); obtain ⟨z0, ⟨z1, z2⟩, z3, z4⟩ := hSw; go_simp; (try with_reducible rfl)
  (try simp only [List.getElem_toArray, List.getElem_cons_succ, List.getElem_cons_zero])
  (try simp only [Act.put, List.setIfInBounds_toArray, List.set_cons_zero, List.set_cons_succ])
  refine wpHold_take (i := 4) (v := ?_) rfl (by kernel_rfl) (by kernel_rfl) (by kernel_rfl) (fun _ _ _ h => h) (Or.inl ⟨by rfl, ?_⟩) hC0 ?_
  rotate_left
  · intro w hSw; (try dsimp only at hSw); obtain ⟨z0, ⟨z1, z2⟩, z3, z4⟩ := hSw; go_simp; (try with_reducible rfl)
  (try simp only [List.getElem_toArray, List.getElem_cons_succ, List.getElem_cons_zero])
  (try simp only [Act.put, List.setIfInBounds_toArray, List.set_cons_zero, List.set_cons_succ])
  refine wpHold_take (i := 5) (v := ?_) rfl (by kernel_rfl) (by kernel_rfl) (by kernel_rfl) (fun _ _ _ h => h) (Or.inl ⟨by rfl, ?_⟩) hC0 ?_
  rotate_left
  · intro w hSw; clear hSw; go_simp; (try with_reducible rfl)
  (try simp only [List.getElem_toArray, List.getElem_cons_succ, List.getElem_cons_zero])
  (try simp only [Act.put, List.setIfInBounds_toArray, List.set_cons_zero, List.set_cons_succ])
  refine wpHold_take (i := 6) (v := ?_) rfl (by kernel_rfl) (by kernel_rfl) (by kernel_rfl) (fun _ _ _ h => h) (Or.inl ⟨by rfl, ?_⟩) hC0 ?_
  rotate_left
  · intro w hSw; (try dsimp only at hSw); obtain ⟨z0, ⟨z1, z2⟩, z3, z4⟩ := hSw; go_simp; (try with_reducible rfl)
  (try simp only [List.getElem_toArray, List.getElem_cons_succ, List.getElem_cons_zero])
  (try simp only [Act.put, List.setIfInBounds_toArray, List.set_cons_zero, List.set_cons_succ])
  refine wpHold_take (i := 7) (v := ?_) rfl (by kernel_rfl) (by kernel_rfl) (by kernel_rfl) (fun _ _ _ h => h) (Or.inl ⟨by rfl, ?_⟩) hC0 ?_
  rotate_left
  · intro w hSw; (try dsimp only at hSw); obtain ⟨z0, ⟨z1, z2⟩, z3, z4⟩ := hSw; go_simp; (try with_reducible rfl)
  (try simp only [List.getElem_toArray, List.getElem_cons_succ, List.getElem_cons_zero])
  (try simp only [Act.put, List.setIfInBounds_toArray, List.set_cons_zero, List.set_cons_succ])
  obtain ⟨g1, hg1⟩ : ∃ g, WD.heap.size = g := ⟨_, rfl⟩
  obtain ⟨g2, hg2⟩ : ∃ g, g1 + 1 = g := ⟨_, rfl⟩
  have b1 := below_step bd0 (alloc_below WD (.cells #[.int .i64 0, .int .i64 0] 60))
  have s1 := alloc_size WD (.cells #[.int .i64 0, .int .i64 0] 60)
  obtain ⟨V1, hV1⟩ : ∃ V, WD.alloc (.cells #[.int .i64 0, .int .i64 0] 60) = V := ⟨_, rfl⟩
  rw [hV1] at b1 s1
  have hC1 : (fun w' : World => w'.cell? ⟨pa, 0, none⟩ = some (.slice (some ⟨b, o, none⟩) n c) ∧ (w'.cell? ⟨b, o + i * 2, none⟩ = some (.int .i64 x) ∧ w'.cell? ⟨b, o + i * 2 + 1, none⟩ = some (.int .i64 y)) ∧ w'.cell? ⟨b, o + k * 2, none⟩ = some (.int .i64 x') ∧ w'.cell? ⟨b, o + k * 2 + 1, none⟩ = some (.int .i64 y')) V1 := unhide HCC _ b1
  have b2 := below_step b1 (alloc_below V1 (.cells #[.int .i64 0, .int .i64 0] 60))
  obtain ⟨V2, hV2⟩ : ∃ V, V1.alloc (.cells #[.int .i64 0, .int .i64 0] 60) = V := ⟨_, rfl⟩
  rw [hV2] at b2
  have hC2 : (fun w' : World => w'.cell? ⟨pa, 0, none⟩ = some (.slice (some ⟨b, o, none⟩) n c) ∧ (w'.cell? ⟨b, o + i * 2, none⟩ = some (.int .i64 x) ∧ w'.cell? ⟨b, o + i * 2 + 1, none⟩ = some (.int .i64 y)) ∧ w'.cell? ⟨b, o + k * 2, none⟩ = some (.int .i64 x') ∧ w'.cell? ⟨b, o + k * 2 + 1, none⟩ = some (.int .i64 y')) V2 := unhide HCC _ b2
  have hg2' : V1.heap.size = g2 := by omega
  refine wpHold_two (by kernel_rfl : _ = [8, 9]) rfl rfl (fun K hK => ?_) (fun K hK => ?_)
  · (try simp only [List.getElem_toArray, List.getElem_cons_succ, List.getElem_cons_zero])
    go_simp
    (try rw [hV1])
    (try rw [hg1])
    refine hK.out _ _ hC1 ?_
    clear hK K
    (try simp only [Act.put, List.setIfInBounds_toArray, List.set_cons_zero, List.set_cons_succ])
    refine wpHold_one (k := 9) (by kernel_rfl) rfl (fun K hK => ?_)
    (try simp only [List.getElem_toArray, List.getElem_cons_succ, List.getElem_cons_zero])
    go_simp
    (try rw [hV2])
    (try rw [hg2'])
    refine hK.out _ _ hC2 ?_
    clear hK K
    (try simp only [Act.put, List.setIfInBounds_toArray, List.set_cons_zero, List.set_cons_succ])
    have X0 : Box2 60 V2 g1 (.int .i64 0) (.int .i64 0) := box2_new hV1 hV2 hg1
    have Y0 : Box2 60 V2 g2 (.int .i64 0) (.int .i64 0) := box2_last hV2 hg2'
    have HNE : g1 ≠ g2 := by omega
    have X1 := X0.set0 (.int .i64 x)
    have d1 := b2.setCell (p := ⟨g1, 0, none⟩) (by show _ ≤ g1; have := bd0.size; omega) (.int .i64 x)
    have Y1 := Y0.apart (j := 0) (x := .int .i64 x) HNE.symm
    have y0 := X0.c0
    have l0 := X0.free 0
    obtain ⟨V3, hV3⟩ : ∃ V, V2.setCell ⟨g1, 0, none⟩ (.int .i64 x) = V := ⟨_, rfl⟩
    rw [hV3] at X1 Y1 d1
    have y1 := X1.c1
    have l1 := X1.free 1
    have X2 := X1.set1 (.int .i64 y)
    have d2 := d1.setCell (p := ⟨g1, 1, none⟩) (by show _ ≤ g1; have := bd0.size; omega) (.int .i64 y)
    have Y2 := Y1.apart (j := 1) (x := .int .i64 y) HNE.symm
    obtain ⟨V4, hV4⟩ : ∃ V, V3.setCell ⟨g1, 1, none⟩ (.int .i64 y) = V := ⟨_, rfl⟩
    rw [hV4] at X2 Y2 d2
    have y2 := Y2.c0
    have l2 := Y2.free 0
    have hC4 : (fun w' : World => w'.cell? ⟨pa, 0, none⟩ = some (.slice (some ⟨b, o, none⟩) n c) ∧ (w'.cell? ⟨b, o + i * 2, none⟩ = some (.int .i64 x) ∧ w'.cell? ⟨b, o + i * 2 + 1, none⟩ = some (.int .i64 y)) ∧ w'.cell? ⟨b, o + k * 2, none⟩ = some (.int .i64 x') ∧ w'.cell? ⟨b, o + k * 2 + 1, none⟩ = some (.int .i64 y')) V4 := unhide HCC _ d2
    have Y3 := Y2.set0 (.int .i64 x')
    have d3 := d2.setCell (p := ⟨g2, 0, none⟩) (by show _ ≤ g2; have := bd0.size; omega) (.int .i64 x')
    have X3 := X2.apart (j := 0) (x := .int .i64 x') HNE
    obtain ⟨V5, hV5⟩ : ∃ V, V4.setCell ⟨g2, 0, none⟩ (.int .i64 x') = V := ⟨_, rfl⟩
    rw [hV5] at X3 Y3 d3
    have y3 := Y3.c1
    have l3 := Y3.free 1
    have Y4 := Y3.set1 (.int .i64 y')
    have d4 := d3.setCell (p := ⟨g2, 1, none⟩) (by show _ ≤ g2; have := bd0.size; omega) (.int .i64 y')
    have X4 := X3.apart (j := 1) (x := .int .i64 y') HNE
    obtain ⟨V6, hV6⟩ : ∃ V, V5.setCell ⟨g2, 1, none⟩ (.int .i64 y') = V := ⟨_, rfl⟩
    rw [hV6] at X4 Y4 d4
    have hC6 : (fun w' : World => w'.cell? ⟨pa, 0, none⟩ = some (.slice (some ⟨b, o, none⟩) n c) ∧ (w'.cell? ⟨b, o + i * 2, none⟩ = some (.int .i64 x) ∧ w'.cell? ⟨b, o + i * 2 + 1, none⟩ = some (.int .i64 y)) ∧ w'.cell? ⟨b, o + k * 2, none⟩ = some (.int .i64 x') ∧ w'.cell? ⟨b, o + k * 2 + 1, none⟩ = some (.int .i64 y')) V6 := unhide HCC _ d4
    have BXV6 := hide X4
    have BYV6 := hide Y4
    have BLV6 := hide d4
    obtain ⟨u0, y0⟩ : ∃ u : Value, V2.cell? ⟨g1, 0, none⟩ = some u := ⟨_, y0⟩
    obtain ⟨u1, y1⟩ : ∃ u : Value, V3.cell? ⟨g1, 1, none⟩ = some u := ⟨_, y1⟩
    obtain ⟨u2, y2⟩ : ∃ u : Value, V4.cell? ⟨g2, 0, none⟩ = some u := ⟨_, y2⟩
    obtain ⟨u3, y3⟩ : ∃ u : Value, V5.cell? ⟨g2, 1, none⟩ = some u := ⟨_, y3⟩
    clear X0 X1 X2 X3 X4 Y0 Y1 Y2 Y3 Y4 d1 d2 d3 d4
    refine wpHold_one (k := 10) (by kernel_rfl) rfl (fun K hK => ?_)
    (try simp only [List.getElem_toArray, List.getElem_cons_succ, List.getElem_cons_zero])
    go_simp
    refine hK.out _ _ hC4 ?_
    clear hK K
    (try simp only [Act.put, List.setIfInBounds_toArray, List.set_cons_zero, List.set_cons_succ])
    refine wpHold_one (k := 11) (by kernel_rfl) rfl (fun K hK => ?_)
    (try simp only [List.getElem_toArray, List.getElem_cons_succ, List.getElem_cons_zero])
    go_simp
    refine hK.out _ _ hC6 ?_
    clear hK K
    (try simp only [Act.put, List.setIfInBounds_toArray, List.set_cons_zero, List.set_cons_succ])
    refine wpHold_done (by kernel_rfl) ?_ _
    clear hC0 hC1 hC2 hC4 hC6 HCC b1 b2 bd0 hV1 hV2 hV3 hV4 hV5 hV6 y0 y1 y2 y3 l0 l1 l2 l3 hg1 hg2 hg2' s1 HNE
    have c0 := (unhide BXV6).c0
    have c1 := (unhide BXV6).c1
    have c2 := (unhide BYV6).c0
    have c3 := (unhide BYV6).c1
    by_cases q1 : x ≤ y
    · by_cases q2 : x' ≤ y'
      · have HV : Hid (R = decide (x' < x)) := by show R = _; rw [← unhide HR]; apply decide_eq_decide.2; omega
        clear HR
        go_wp2
        go_ret
        exact ⟨by rw [unhide HV]; rfl, unhide BLV6⟩
      · have HV : Hid (R = false) := by show R = _; rw [← unhide HR]; apply decide_eq_false; omega
        clear HR
        go_wp2
        go_ret
        exact ⟨by rw [unhide HV]; rfl, unhide BLV6⟩
    · by_cases q2 : x' ≤ y'
      · have HV : Hid (R = true) := by show R = _; rw [← unhide HR]; apply decide_eq_true; omega
        clear HR
        go_wp2
        go_ret
        exact ⟨by rw [unhide HV]; rfl, unhide BLV6⟩
      · have HV : Hid (R = decide (y < y')) := by show R = _; rw [← unhide HR]; apply decide_eq_decide.2; omega
        clear HR
        go_wp2
        go_ret
        exact ⟨by rw [unhide HV]; rfl, unhide BLV6⟩
  · (try simp only [List.getElem_toArray, List.getElem_cons_succ, List.getElem_cons_zero])
    go_simp
    (try rw [hV1])
    (try rw [hg1])
    refine hK.out _ _ hC1 ?_
    clear hK K
    (try simp only [Act.put, List.setIfInBounds_toArray, List.set_cons_zero, List.set_cons_succ])
    refine wpHold_one (k := 8) (by kernel_rfl) rfl (fun K hK => ?_)
    (try simp only [List.getElem_toArray, List.getElem_cons_succ, List.getElem_cons_zero])
    go_simp
    (try rw [hV2])
    (try rw [hg2'])
    refine hK.out _ _ hC2 ?_
    clear hK K
    (try simp only [Act.put, List.setIfInBounds_toArray, List.set_cons_zero, List.set_cons_succ])
    have X0 : Box2 60 V2 g2 (.int .i64 0) (.int .i64 0) := box2_last hV2 hg2'
    have Y0 : Box2 60 V2 g1 (.int .i64 0) (.int .i64 0) := box2_new hV1 hV2 hg1
    have HNE : g2 ≠ g1 := by omega
    have X1 := X0.set0 (.int .i64 x)
    have d1 := b2.setCell (p := ⟨g2, 0, none⟩) (by show _ ≤ g2; have := bd0.size; omega) (.int .i64 x)
    have Y1 := Y0.apart (j := 0) (x := .int .i64 x) HNE.symm
    have y0 := X0.c0
    have l0 := X0.free 0
    obtain ⟨V3, hV3⟩ : ∃ V, V2.setCell ⟨g2, 0, none⟩ (.int .i64 x) = V := ⟨_, rfl⟩
    rw [hV3] at X1 Y1 d1
    have y1 := X1.c1
    have l1 := X1.free 1
    have X2 := X1.set1 (.int .i64 y)
    have d2 := d1.setCell (p := ⟨g2, 1, none⟩) (by show _ ≤ g2; have := bd0.size; omega) (.int .i64 y)
    have Y2 := Y1.apart (j := 1) (x := .int .i64 y) HNE.symm
    obtain ⟨V4, hV4⟩ : ∃ V, V3.setCell ⟨g2, 1, none⟩ (.int .i64 y) = V := ⟨_, rfl⟩
    rw [hV4] at X2 Y2 d2
    have y2 := Y2.c0
    have l2 := Y2.free 0
    have hC4 : (fun w' : World => w'.cell? ⟨pa, 0, none⟩ = some (.slice (some ⟨b, o, none⟩) n c) ∧ (w'.cell? ⟨b, o + i * 2, none⟩ = some (.int .i64 x) ∧ w'.cell? ⟨b, o + i * 2 + 1, none⟩ = some (.int .i64 y)) ∧ w'.cell? ⟨b, o + k * 2, none⟩ = some (.int .i64 x') ∧ w'.cell? ⟨b, o + k * 2 + 1, none⟩ = some (.int .i64 y')) V4 := unhide HCC _ d2
    have Y3 := Y2.set0 (.int .i64 x')
    have d3 := d2.setCell (p := ⟨g1, 0, none⟩) (by show _ ≤ g1; have := bd0.size; omega) (.int .i64 x')
    have X3 := X2.apart (j := 0) (x := .int .i64 x') HNE
    obtain ⟨V5, hV5⟩ : ∃ V, V4.setCell ⟨g1, 0, none⟩ (.int .i64 x') = V := ⟨_, rfl⟩
    rw [hV5] at X3 Y3 d3
    have y3 := Y3.c1
    have l3 := Y3.free 1
    have Y4 := Y3.set1 (.int .i64 y')
    have d4 := d3.setCell (p := ⟨g1, 1, none⟩) (by show _ ≤ g1; have := bd0.size; omega) (.int .i64 y')
    have X4 := X3.apart (j := 1) (x := .int .i64 y') HNE
    obtain ⟨V6, hV6⟩ : ∃ V, V5.setCell ⟨g1, 1, none⟩ (.int .i64 y') = V := ⟨_, rfl⟩
    rw [hV6] at X4 Y4 d4
    have hC6 : (fun w' : World => w'.cell? ⟨pa, 0, none⟩ = some (.slice (some ⟨b, o, none⟩) n c) ∧ (w'.cell? ⟨b, o + i * 2, none⟩ = some (.int .i64 x) ∧ w'.cell? ⟨b, o + i * 2 + 1, none⟩ = some (.int .i64 y)) ∧ w'.cell? ⟨b, o + k * 2, none⟩ = some (.int .i64 x') ∧ w'.cell? ⟨b, o + k * 2 + 1, none⟩ = some (.int .i64 y')) V6 := unhide HCC _ d4
    have BXV6 := hide X4
    have BYV6 := hide Y4
    have BLV6 := hide d4
    obtain ⟨u0, y0⟩ : ∃ u : Value, V2.cell? ⟨g2, 0, none⟩ = some u := ⟨_, y0⟩
    obtain ⟨u1, y1⟩ : ∃ u : Value, V3.cell? ⟨g2, 1, none⟩ = some u := ⟨_, y1⟩
    obtain ⟨u2, y2⟩ : ∃ u : Value, V4.cell? ⟨g1, 0, none⟩ = some u := ⟨_, y2⟩
    obtain ⟨u3, y3⟩ : ∃ u : Value, V5.cell? ⟨g1, 1, none⟩ = some u := ⟨_, y3⟩
    clear X0 X1 X2 X3 X4 Y0 Y1 Y2 Y3 Y4 d1 d2 d3 d4
    refine wpHold_one (k := 10) (by kernel_rfl) rfl (fun K hK => ?_)
    (try simp only [List.getElem_toArray, List.getElem_cons_succ, List.getElem_cons_zero])
    go_simp
    refine hK.out _ _ hC4 ?_
    clear hK K
    (try simp only [Act.put, List.setIfInBounds_toArray, List.set_cons_zero, List.set_cons_succ])
    refine wpHold_one (k := 11) (by kernel_rfl) rfl (fun K hK => ?_)
    (try simp only [List.getElem_toArray, List.getElem_cons_succ, List.getElem_cons_zero])
    go_simp
    refine hK.out _ _ hC6 ?_
    clear hK K
    (try simp only [Act.put, List.setIfInBounds_toArray, List.set_cons_zero, List.set_cons_succ])
    refine wpHold_done (by kernel_rfl) ?_ _
    clear hC0 hC1 hC2 hC4 hC6 HCC b1 b2 bd0 hV1 hV2 hV3 hV4 hV5 hV6 y0 y1 y2 y3 l0 l1 l2 l3 hg1 hg2 hg2' s1 HNE
    have c0 := (unhide BXV6).c0
    have c1 := (unhide BXV6).c1
    have c2 := (unhide BYV6).c0
    have c3 := (unhide BYV6).c1
    by_cases q1 : x ≤ y
    · by_cases q2 : x' ≤ y'
      · have HV : Hid (R = decide (x' < x)) := by show R = _; rw [← unhide HR]; apply decide_eq_decide.2; omega
        clear HR
        go_wp2
        go_ret
        exact ⟨by rw [unhide HV]; rfl, unhide BLV6⟩
      · have HV : Hid (R = false) := by show R = _; rw [← unhide HR]; apply decide_eq_false; omega
        clear HR
        go_wp2
        go_ret
        exact ⟨by rw [unhide HV]; rfl, unhide BLV6⟩
    · by_cases q2 : x' ≤ y'
      · have HV : Hid (R = true) := by show R = _; rw [← unhide HR]; apply decide_eq_true; omega
        clear HR
        go_wp2
        go_ret
        exact ⟨by rw [unhide HV]; rfl, unhide BLV6⟩
      · have HV : Hid (R = decide (y < y')) := by show R = _; rw [← unhide HR]; apply decide_eq_decide.2; omega
        clear HR
        go_wp2
        go_ret
        exact ⟨by rw [unhide HV]; rfl, unhide BLV6⟩

theorem eg_rj (args : Array Value) (w : World) : (callFunc 32 args).run Tryd.prog w = .ok (.enter 32 args) w := by
  go_simp

set_option maxHeartbeats 8000000 in
set_option maxRecDepth 100000 in
set_option linter.unusedSimpArgs false in
theorem rjohnson_any (a : Option Addr) (n c : Nat) (f : Nat → T2) (w : World) (ha : DRow w a n c f) (hn : n ≤ 60) :
    Calls Tryd.prog 15 #[.slice a n c] w (RwPost w n (ltc (fun i k => ncmp (f i) (f k)))) := by
  obtain ⟨wb, hwb⟩ : ∃ W, w.alloc (.cells #[.slice a n c] 24) = W := ⟨_, rfl⟩
  have b1 : Below w.heap.size w wb := by rw [← hwb]; exact alloc_below _ _
  have sz : wb.heap.size = w.heap.size + 1 := by rw [← hwb, alloc_size]
  obtain ⟨pl, hpl⟩ : ∃ p, w.heap.size = p := ⟨_, rfl⟩
  have cb : wb.cell? ⟨pl, 0, none⟩ = some (.slice a n c) := by rw [← hwb, ← hpl]; simp only [World.cell?, heap_alloc_new]; rfl
  have hab := ha.below b1
  have HC := hide (insert_any n pl 32 eg_rj (ltc (fun i k => ncmp (f i) (f k))) wo_n hn wb (fun i k W hi hk hW => rjohnson1_any pl a n c f wb W i k hi hk hn hab cb (by omega) hW))
  have HB := hide b1
  have HSZ : Hid (w.heap.size ≤ wb.heap.size) := by show w.heap.size ≤ wb.heap.size; omega
  have h1 := ha.1
  have h2 := ha.2.1
  have HPL := hide hpl
  clear ha hab b1 sz
  go_enter Tryd.func15, Tryd.ntmps15
  go_wp2_with fail
  refine (unhide HC).mono ?_
  rintro e w2 ⟨hb2, v, L, rfl, hO, hp, hs⟩
  have HO : Hid (OwnN w2 w.heap.size v L) := by
    refine ⟨hO.1, ?_⟩
    rcases hO.2 with h | ⟨g, cap, cur, hv, hg, h⟩
    · exact Or.inl h
    · exact Or.inr ⟨g, cap, cur, hv, Nat.le_trans (unhide HSZ) hg, h⟩
  have HP := hide hp
  have HS := hide hs
  have HB2 := hide (below_step (unhide HB) hb2)
  clear hO hp hs hb2 HC
  go_wp2
  go_ret
  exact ⟨v, L, rfl, unhide HO, unhide HP, unhide HS, unhide HB2⟩

set_option maxHeartbeats 8000000 in
set_option maxRecDepth 100000 in
set_option linter.unusedSimpArgs false in
theorem shopJohnson_any (a : Option Addr) (n c : Nat) (f : Nat → T2) (w : World) (het : ErrTy w) (ha : DRow w a n c f) :
    Calls Tryd.prog 4 #[.slice a n c] w fun e w' => e = .returned (.bool true) ∧ Below w.heap.size w w' := by
  have b1 := ha.1
  have b2 := ha.2.1
  by_cases h1 : 100 < n
  · have e1 : (100 : Int) < (n : Int) := by omega
    clear ha
    go_enter Tryd.func4, Tryd.ntmps4
    go_wp2
    go_ret
    exact ⟨rfl, Below.refl _ _⟩
  have e1 : ¬ (100 : Int) < (n : Int) := by omega
  have HE := hide het
  have C0 := hide (twos_any a n c f w ha (by omega))
  have C3 : Hid (∀ W, Below w.heap.size w W → Calls Tryd.prog 16 #[.slice a n c] W (JoPost W n f)) := fun W hW => johnson_any a n c f W (ha.below hW)
  by_cases ht : dcode n f = 0
  case neg =>
    obtain ⟨k, hk⟩ : ∃ k, dcode n f = k := ⟨_, rfl⟩
    have q1 : (k == 0) = false := by rw [hk] at ht; simpa using ht
    have HK := hide hk
    have HT : Hid (k ≠ 0) := by rw [hk] at ht; exact ht
    clear ha het hk ht
    go_enter Tryd.func4, Tryd.ntmps4
    go_wp2_with fail
    refine (unhide C0).mono ?_
    rintro e w0 ⟨a', c', rfl, hr, hb0⟩
    have C1 := hide (rtwos_any a' n c' f w0 hr)
    rw [unhide HK] at C1
    have HB0 := hide hb0
    have q5 := hr.1
    have q6 := hr.2.1
    clear hr hb0 C0
    go_wp2_with fail
    refine (unhide C1).mono ?_
    rintro e w1 ⟨rfl, hb1⟩
    have C3' := hide (unhide C3 w1 (below_step (unhide HB0) hb1))
    have HB1 := hide (below_step (unhide HB0) hb1)
    clear C1 C3 hb1
    go_wp2_with fail
    refine (unhide C3').mono ?_
    rintro e w2 ⟨hb2, hp⟩
    have he : e = .returned (.tuple #[.slice none 0 0, .iface 26 (.int .i64 k)]) := by
      rcases hp with ⟨_, h⟩ | ⟨h, _⟩
      · rw [h, unhide HK]
      · exact absurd (h.symm.trans (unhide HK)) (fun e => unhide HT e.symm)
    subst he
    clear hp
    have HB2 := hide (below_step (unhide HB1) hb2)
    have C4 := hide (ints_bad k (unhide HT) w2 ((unhide HE).below (unhide HB2)))
    clear hb2 C3'
    go_wp2_with fail
    refine (unhide C4).mono ?_
    rintro e w3 ⟨rfl, hb3⟩
    have HB3 := hide (below_step (unhide HB2) hb3)
    clear hb3 C4
    go_wp2
    go_ret
    exact ⟨rfl, unhide HB3⟩
  · have hgl := goodD_of ht
    have hn60 := hgl.few
    have HT := hide ht
    clear ha het hgl ht
    go_enter Tryd.func4, Tryd.ntmps4
    go_wp2_with fail
    refine (unhide C0).mono ?_
    rintro e w0 ⟨a', c', rfl, hr, hb0⟩
    have C1 := hide (rtwos_any a' n c' f w0 hr)
    rw [unhide HT] at C1
    have HB0 := hide hb0
    have q5 := hr.1
    have q6 := hr.2.1
    have HR := hide hr
    clear hr hb0 C0
    go_wp2_with fail
    refine (unhide C1).mono ?_
    rintro e w1 ⟨rfl, hb1⟩
    have C2 := hide (rjohnson_any a' n c' f w1 ((unhide HR).below hb1) hn60)
    have HB1 := hide (below_step (unhide HB0) hb1)
    clear C1 hb1
    go_wp2_with fail
    refine (unhide C2).mono ?_
    rintro e w2 ⟨v, L, rfl, hO, hp, hs, hb2⟩
    have HB2 := hide (below_step (unhide HB1) hb2)
    have C3' := hide (unhide C3 w2 (unhide HB2))
    have HO : Hid (OwnN w2 w1.heap.size v L ∧ L.Perm (List.range n) ∧ L.Pairwise (Lo (ltc (fun i k => ncmp (f i) (f k))))) := ⟨hO, hp, hs⟩
    clear hO hp hs hb2 C2 C3
    go_wp2_with fail
    refine (unhide C3').mono ?_
    rintro e w3 ⟨hb3, hp⟩
    rcases hp with ⟨h, _⟩ | ⟨_, G, g, _, rfl, hOg, hre, hsr⟩
    · exact absurd (unhide HT) h
    obtain ⟨a2, c2, rfl, hir⟩ := rows_ints wo_n hre hsr (unhide HO).1 (unhide HO).2.1 (unhide HO).2.2 hb3
    have C4 := hide (ints_good (some ⟨G, 0, none⟩) a2 n n c2 (nI g) w3 (hOg.irow (by omega)) hir)
    have HB3 := hide (below_step (unhide HB2) hb3)
    have q7 := hir.1
    have q8 := hir.2.1
    clear hb3 hOg hre hsr hir C3' HO
    go_wp2_with fail
    refine (unhide C4).mono ?_
    rintro e w4 ⟨rfl, hb4⟩
    have HB4 := hide (below_step (unhide HB3) hb4)
    clear hb4 C4
    go_wp2
    go_ret
    exact ⟨rfl, unhide HB4⟩
end Go.Proofs.YtepgdlgifempeaaDoor
