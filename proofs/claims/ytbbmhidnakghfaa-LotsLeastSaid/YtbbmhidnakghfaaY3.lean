/- Johnson, Longest. -/
import Derived.Test.YtbbmhidnakghfaaY2
namespace Go.Proofs.Ytbbmhidnakghfaa
open Go.RowKit Go.Sort Stb

theorem wpHold_two {P : Program} {md : Region.Mode} {ops : Array Oper} {Q : Exit → Act → World → Prop} {C : World → Prop} {k1 k2 : Nat} {o1 o2 : Oper} {fuel : Nat} {listed : Array Bool} {a : Act} {w : World} (hr : Region.ready md ops listed = [k1, k2]) (ho1 : ops[k1]? = some o1) (ho2 : ops[k2]? = some o2)
    (h1 : ∀ K' : Act → World → Prop, Shut (∀ a w, C w → wpHold P md ops Q C fuel (listed.setIfInBounds k1 true) a w → K' a w) → if Region.wanted o1 (yielded ops a.tmps) = true then Oper.wp P o1 a w K' Q else K' (a.put o1.dst undef) w)
    (h2 : ∀ K' : Act → World → Prop, Shut (∀ a w, C w → wpHold P md ops Q C fuel (listed.setIfInBounds k2 true) a w → K' a w) → if Region.wanted o2 (yielded ops a.tmps) = true then Oper.wp P o2 a w K' Q else K' (a.put o2.dst undef) w) :
    wpHold P md ops Q C (fuel + 1) listed a w := by
  refine ⟨fun h0 => (by rw [hr] at h0; cases h0), fun i hi => ?_⟩
  rw [hr] at hi
  rcases List.mem_cons.1 hi with rfl | hi
  · exact wpOp_step ho1 (fun K' hK => h1 K' (fun a w hS hW => hK a w ⟨hS, hW⟩))
  · obtain rfl := List.mem_singleton.1 hi
    exact wpOp_step ho2 (fun K' hK => h2 K' (fun a w hS hW => hK a w ⟨hS, hW⟩))
/-- A block of two cells. -/
def Box2 (T : TypeId) (w : World) (g : Nat) (u v : Value) : Prop := w.heap[g]? = some (.cells #[u, v] T)
theorem Box2.lt {T : TypeId} {w : World} {g : Nat} {u v : Value} (h : Box2 T w g u v) : g < w.heap.size := (Array.getElem?_eq_some_iff.1 h).1
theorem Box2.keep {T : TypeId} {w w' : World} {g : Nat} {u v : Value} (h : Box2 T w g u v) (hb : Below w.heap.size w w') : Box2 T w' g u v := by
  unfold Box2; rw [hb.block g h.lt]; exact h
theorem Box2.c0 {T : TypeId} {w : World} {g : Nat} {u v : Value} (h : Box2 T w g u v) : w.cell? ⟨g, 0, none⟩ = some u := by
  unfold Box2 at h
  simp only [World.cell?, h]
  rfl
theorem Box2.c1 {T : TypeId} {w : World} {g : Nat} {u v : Value} (h : Box2 T w g u v) : w.cell? ⟨g, 1, none⟩ = some v := by
  unfold Box2 at h
  simp only [World.cell?, h]
  rfl
theorem Box2.free {T : TypeId} {w : World} {g : Nat} {u v : Value} (h : Box2 T w g u v) (j : Nat) : w.frozen? ⟨g, j, none⟩ = false := by
  unfold Box2 at h; simp [World.frozen?, h]
theorem Box2.set0 {T : TypeId} {w : World} {g : Nat} {u v : Value} (h : Box2 T w g u v) (x : Value) : Box2 T (w.setCell ⟨g, 0, none⟩ x) g x v := by
  unfold Box2 at h ⊢
  rw [setCell_eq]
  simp only [mapBlock, Array.getElem?_modify, h, if_true, Option.map_some, onCells]
  rfl
theorem Box2.set1 {T : TypeId} {w : World} {g : Nat} {u v : Value} (h : Box2 T w g u v) (x : Value) : Box2 T (w.setCell ⟨g, 1, none⟩ x) g u x := by
  unfold Box2 at h ⊢
  rw [setCell_eq]
  simp only [mapBlock, Array.getElem?_modify, h, if_true, Option.map_some, onCells]
  rfl
theorem Box2.apart {T : TypeId} {w : World} {g b j : Nat} {u v x : Value} (h : Box2 T w g u v) (hne : g ≠ b) : Box2 T (w.setCell ⟨b, j, none⟩ x) g u v := by
  unfold Box2; rw [Below.heap_setCell _ _ _ _ hne]; exact h
theorem box2_last {T : TypeId} {w w' : World} {u v : Value} {g : Nat} (h : w.alloc (.cells #[u, v] T) = w') (hg : w.heap.size = g) : Box2 T w' g u v := by
  rw [← h, ← hg]; exact heap_alloc_new w _
theorem box2_new {T : TypeId} {w w1 w2 : World} {u v : Value} {ob : Obj} {g : Nat} (h : w.alloc (.cells #[u, v] T) = w1) (h2 : w1.alloc ob = w2) (hg : w.heap.size = g) : Box2 T w2 g u v :=
  (box2_last h hg).keep (by rw [← h2]; exact alloc_below _ _)

set_option maxHeartbeats 8000000 in
set_option maxRecDepth 100000 in
set_option linter.unusedSimpArgs false in
theorem johnson2_any (pa pb : Nat) (a : Option Addr) (n c : Nat) (f : Nat → T2) (wb W : World) (i k : Nat) (hi : i < n) (hk : k < n) (hn : n ≤ 60) (ha : DRow wb a n c f) (h1 : wb.cell? ⟨pa, 0, none⟩ = some (.slice a n c)) (h2 : wb.cell? ⟨pb, 0, none⟩ = some (.func (.func 15) #[] #[])) (hpa : pa < wb.heap.size) (hpb : pb < wb.heap.size) (hW : Below wb.heap.size wb W) :
    Calls Try.prog 17 #[.int .i64 (i : Int), .int .i64 (k : Int), .pointer (some ⟨pa, 0, none⟩), .pointer (some ⟨pb, 0, none⟩)] W fun e w' => e = .returned (.int .i64 (ncmp (f i) (f k))) ∧ Below W.heap.size W w' := by
  obtain ⟨b, o, rfl, hbl, hc⟩ := ha.2.2 (by omega)
  have hi' := hc i hi
  have hk' := hc k hk
  obtain ⟨⟨x, y⟩, hfi⟩ : ∃ t, f i = t := ⟨_, rfl⟩
  obtain ⟨⟨x', y'⟩, hfk⟩ : ∃ t, f k = t := ⟨_, rfl⟩
  rw [hfi] at hi' ⊢
  rw [hfk] at hk' ⊢
  simp only at hi' hk'
  have HCC : Hid (∀ W', Below W.heap.size W W' → (fun w' : World => w'.cell? ⟨pa, 0, none⟩ = some (.slice (some ⟨b, o, none⟩) n c) ∧ (w'.cell? ⟨b, o + i * 2, none⟩ = some (.int .i64 x) ∧ w'.cell? ⟨b, o + i * 2 + 1, none⟩ = some (.int .i64 y)) ∧ w'.cell? ⟨b, o + k * 2, none⟩ = some (.int .i64 x') ∧ w'.cell? ⟨b, o + k * 2 + 1, none⟩ = some (.int .i64 y')) W') := fun W' hW' => by
    have B := below_step hW hW'
    refine ⟨by rw [B.cell (p := ⟨pa, 0, none⟩) hpa]; exact h1, ?_, ?_⟩
    · rw [B.cell (p := ⟨b, o + i * 2, none⟩) hbl, B.cell (p := ⟨b, o + i * 2 + 1, none⟩) hbl]; exact hi'
    · rw [B.cell (p := ⟨b, o + k * 2, none⟩) hbl, B.cell (p := ⟨b, o + k * 2 + 1, none⟩) hbl]; exact hk'
  have HPB : Hid (∀ W', Below W.heap.size W W' → W'.cell? ⟨pb, 0, none⟩ = some (.func (.func 15) #[] #[])) := fun W' hW' => by
    rw [(below_step hW hW').cell (p := ⟨pb, 0, none⟩) hpb]; exact h2
  have e1 : (i : Int) < (n : Int) := by omega
  have e2 : (k : Int) < (n : Int) := by omega
  have e3 : (0 : Int) ≤ (i : Int) := by omega
  have e4 : (0 : Int) ≤ (k : Int) := by omega
  obtain ⟨R, hR⟩ : ∃ R, ncmp (x, y) (x', y') = R := ⟨_, rfl⟩
  rw [hR]
  have HR := hide hR
  clear hR hi' hk' hfi hfk hc ha h1 h2 hpa hpb hW hbl hi hk
  go_enter Try.func17, Try.ntmps17
  go_wp2_with fail
  refine wp_region_hold (fun w' : World => w'.cell? ⟨pa, 0, none⟩ = some (.slice (some ⟨b, o, none⟩) n c) ∧ (w'.cell? ⟨b, o + i * 2, none⟩ = some (.int .i64 x) ∧ w'.cell? ⟨b, o + i * 2 + 1, none⟩ = some (.int .i64 y)) ∧ w'.cell? ⟨b, o + k * 2, none⟩ = some (.int .i64 x') ∧ w'.cell? ⟨b, o + k * 2 + 1, none⟩ = some (.int .i64 y')) (by kernel_rfl) ?_
  have bd0 : Below W.heap.size W W.drew := (Below.refl _ _).drew
  have hC0 : (fun w' : World => w'.cell? ⟨pa, 0, none⟩ = some (.slice (some ⟨b, o, none⟩) n c) ∧ (w'.cell? ⟨b, o + i * 2, none⟩ = some (.int .i64 x) ∧ w'.cell? ⟨b, o + i * 2 + 1, none⟩ = some (.int .i64 y)) ∧ w'.cell? ⟨b, o + k * 2, none⟩ = some (.int .i64 x') ∧ w'.cell? ⟨b, o + k * 2 + 1, none⟩ = some (.int .i64 y')) W.drew := unhide HCC _ bd0
  obtain ⟨WD, hWD⟩ : ∃ V, W.drew = V := ⟨_, rfl⟩
  rw [hWD] at bd0 hC0 ⊢
  clear hWD
  refine wpHold_take (i := 0) (v := ?_) rfl (by kernel_rfl) (by kernel_rfl) (by kernel_rfl) (fun _ _ _ h => h) (Or.inl ⟨by rfl, ?_⟩) hC0 ?_
  rotate_left
  · intro w hSw; (try dsimp only at hSw); obtain ⟨z0, ⟨z1, z2⟩, z3, z4⟩ := hSw; go_simp; (try with_reducible rfl)
  (try simp only [List.getElem_toArray, List.getElem_cons_succ, List.getElem_cons_zero])
  (try simp only [Act.put, List.setIfInBounds_toArray, List.set_cons_zero, List.set_cons_succ])
  refine wpHold_take (i := 1) (v := ?_) rfl (by kernel_rfl) (by kernel_rfl) (by kernel_rfl) (fun _ _ _ h => h) (Or.inl ⟨by rfl, ?_⟩) hC0 ?_
  rotate_left
  · intro w hSw; clear hSw; go_simp; (try with_reducible rfl)
  (try simp only [List.getElem_toArray, List.getElem_cons_succ, List.getElem_cons_zero])
  (try simp only [Act.put, List.setIfInBounds_toArray, List.set_cons_zero, List.set_cons_succ])
  refine wpHold_take (i := 2) (v := ?_) rfl (by kernel_rfl) (by kernel_rfl) (by kernel_rfl) (fun _ _ _ h => h) (Or.inl ⟨by rfl, ?_⟩) hC0 ?_
  rotate_left
  · intro w hSw; (try dsimp only at hSw); obtain ⟨z0, ⟨z1, z2⟩, z3, z4⟩ := hSw; go_simp; (try with_reducible rfl)
  (try simp only [List.getElem_toArray, List.getElem_cons_succ, List.getElem_cons_zero])
  (try simp only [Act.put, List.setIfInBounds_toArray, List.set_cons_zero, List.set_cons_succ])
  refine wpHold_take (i := 3) (v := ?_) rfl (by kernel_rfl) (by kernel_rfl) (by kernel_rfl) (fun _ _ _ h => h) (Or.inl ⟨by rfl, ?_⟩) hC0 ?_
  rotate_left
  · intro w hSw; (try dsimp only at hSw); obtain ⟨z0, ⟨z1, z2⟩, z3, z4⟩ := hSw; go_simp; (try with_reducible rfl)
  (try simp only [List.getElem_toArray, List.getElem_cons_succ, List.getElem_cons_zero])
  (try simp only [Act.put, List.setIfInBounds_toArray, List.set_cons_zero, List.set_cons_succ])
  refine wpHold_take (i := 4) (v := ?_) rfl (by kernel_rfl) (by kernel_rfl) (by kernel_rfl) (fun _ _ _ h => h) (Or.inl ⟨by rfl, ?_⟩) hC0 ?_
  rotate_left
  · intro w hSw; (try dsimp only at hSw); obtain ⟨z0, ⟨z1, z2⟩, z3, z4⟩ := hSw; go_simp; (try with_reducible rfl)
  (try simp only [List.getElem_toArray, List.getElem_cons_succ, List.getElem_cons_zero])
  (try simp only [Act.put, List.setIfInBounds_toArray, List.set_cons_zero, List.set_cons_succ])
  refine wpHold_take (i := 5) (v := ?_) rfl (by kernel_rfl) (by kernel_rfl) (by kernel_rfl) (fun _ _ _ h => h) (Or.inl ⟨by rfl, ?_⟩) hC0 ?_
  rotate_left
  · intro w hSw; clear hSw; go_simp; (try with_reducible rfl)
  (try simp only [List.getElem_toArray, List.getElem_cons_succ, List.getElem_cons_zero])
  (try simp only [Act.put, List.setIfInBounds_toArray, List.set_cons_zero, List.set_cons_succ])
  refine wpHold_take (i := 6) (v := ?_) rfl (by kernel_rfl) (by kernel_rfl) (by kernel_rfl) (fun _ _ _ h => h) (Or.inl ⟨by rfl, ?_⟩) hC0 ?_
  rotate_left
  · intro w hSw; (try dsimp only at hSw); obtain ⟨z0, ⟨z1, z2⟩, z3, z4⟩ := hSw; go_simp; (try with_reducible rfl)
  (try simp only [List.getElem_toArray, List.getElem_cons_succ, List.getElem_cons_zero])
  (try simp only [Act.put, List.setIfInBounds_toArray, List.set_cons_zero, List.set_cons_succ])
  refine wpHold_take (i := 7) (v := ?_) rfl (by kernel_rfl) (by kernel_rfl) (by kernel_rfl) (fun _ _ _ h => h) (Or.inl ⟨by rfl, ?_⟩) hC0 ?_
  rotate_left
  · intro w hSw; (try dsimp only at hSw); obtain ⟨z0, ⟨z1, z2⟩, z3, z4⟩ := hSw; go_simp; (try with_reducible rfl)
  (try simp only [List.getElem_toArray, List.getElem_cons_succ, List.getElem_cons_zero])
  (try simp only [Act.put, List.setIfInBounds_toArray, List.set_cons_zero, List.set_cons_succ])
  obtain ⟨g1, hg1⟩ : ∃ g, WD.heap.size = g := ⟨_, rfl⟩
  obtain ⟨g2, hg2⟩ : ∃ g, g1 + 1 = g := ⟨_, rfl⟩
  have b1 := below_step bd0 (alloc_below WD (.cells #[.int .i64 0, .int .i64 0] 37))
  have s1 := alloc_size WD (.cells #[.int .i64 0, .int .i64 0] 37)
  obtain ⟨V1, hV1⟩ : ∃ V, WD.alloc (.cells #[.int .i64 0, .int .i64 0] 37) = V := ⟨_, rfl⟩
  rw [hV1] at b1 s1
  have hC1 : (fun w' : World => w'.cell? ⟨pa, 0, none⟩ = some (.slice (some ⟨b, o, none⟩) n c) ∧ (w'.cell? ⟨b, o + i * 2, none⟩ = some (.int .i64 x) ∧ w'.cell? ⟨b, o + i * 2 + 1, none⟩ = some (.int .i64 y)) ∧ w'.cell? ⟨b, o + k * 2, none⟩ = some (.int .i64 x') ∧ w'.cell? ⟨b, o + k * 2 + 1, none⟩ = some (.int .i64 y')) V1 := unhide HCC _ b1
  have b2 := below_step b1 (alloc_below V1 (.cells #[.int .i64 0, .int .i64 0] 37))
  obtain ⟨V2, hV2⟩ : ∃ V, V1.alloc (.cells #[.int .i64 0, .int .i64 0] 37) = V := ⟨_, rfl⟩
  rw [hV2] at b2
  have hC2 : (fun w' : World => w'.cell? ⟨pa, 0, none⟩ = some (.slice (some ⟨b, o, none⟩) n c) ∧ (w'.cell? ⟨b, o + i * 2, none⟩ = some (.int .i64 x) ∧ w'.cell? ⟨b, o + i * 2 + 1, none⟩ = some (.int .i64 y)) ∧ w'.cell? ⟨b, o + k * 2, none⟩ = some (.int .i64 x') ∧ w'.cell? ⟨b, o + k * 2 + 1, none⟩ = some (.int .i64 y')) V2 := unhide HCC _ b2
  have hg2' : V1.heap.size = g2 := by omega
  refine wpHold_two (by kernel_rfl : _ = [8, 9]) rfl rfl (fun K hK => ?_) (fun K hK => ?_)
  · (try simp only [List.getElem_toArray, List.getElem_cons_succ, List.getElem_cons_zero])
    go_simp
    (try rw [hV1])
    (try rw [hg1])
    refine hK.out _ _ hC1 ?_
    clear hK K
    (try simp only [Act.put, List.setIfInBounds_toArray, List.set_cons_zero, List.set_cons_succ])
    refine wpHold_one (k := 9) (by kernel_rfl) rfl (fun K hK => ?_)
    (try simp only [List.getElem_toArray, List.getElem_cons_succ, List.getElem_cons_zero])
    go_simp
    (try rw [hV2])
    (try rw [hg2'])
    refine hK.out _ _ hC2 ?_
    clear hK K
    (try simp only [Act.put, List.setIfInBounds_toArray, List.set_cons_zero, List.set_cons_succ])
    have X0 : Box2 37 V2 g1 (.int .i64 0) (.int .i64 0) := box2_new hV1 hV2 hg1
    have Y0 : Box2 37 V2 g2 (.int .i64 0) (.int .i64 0) := box2_last hV2 hg2'
    have HNE : g1 ≠ g2 := by omega
    have X1 := X0.set0 (.int .i64 x)
    have d1 := b2.setCell (p := ⟨g1, 0, none⟩) (by show _ ≤ g1; have := bd0.size; omega) (.int .i64 x)
    have Y1 := Y0.apart (j := 0) (x := .int .i64 x) HNE.symm
    have y0 := X0.c0
    have l0 := X0.free 0
    obtain ⟨V3, hV3⟩ : ∃ V, V2.setCell ⟨g1, 0, none⟩ (.int .i64 x) = V := ⟨_, rfl⟩
    rw [hV3] at X1 Y1 d1
    have y1 := X1.c1
    have l1 := X1.free 1
    have X2 := X1.set1 (.int .i64 y)
    have d2 := d1.setCell (p := ⟨g1, 1, none⟩) (by show _ ≤ g1; have := bd0.size; omega) (.int .i64 y)
    have Y2 := Y1.apart (j := 1) (x := .int .i64 y) HNE.symm
    obtain ⟨V4, hV4⟩ : ∃ V, V3.setCell ⟨g1, 1, none⟩ (.int .i64 y) = V := ⟨_, rfl⟩
    rw [hV4] at X2 Y2 d2
    have y2 := Y2.c0
    have l2 := Y2.free 0
    have hC4 : (fun w' : World => w'.cell? ⟨pa, 0, none⟩ = some (.slice (some ⟨b, o, none⟩) n c) ∧ (w'.cell? ⟨b, o + i * 2, none⟩ = some (.int .i64 x) ∧ w'.cell? ⟨b, o + i * 2 + 1, none⟩ = some (.int .i64 y)) ∧ w'.cell? ⟨b, o + k * 2, none⟩ = some (.int .i64 x') ∧ w'.cell? ⟨b, o + k * 2 + 1, none⟩ = some (.int .i64 y')) V4 := unhide HCC _ d2
    have Y3 := Y2.set0 (.int .i64 x')
    have d3 := d2.setCell (p := ⟨g2, 0, none⟩) (by show _ ≤ g2; have := bd0.size; omega) (.int .i64 x')
    have X3 := X2.apart (j := 0) (x := .int .i64 x') HNE
    obtain ⟨V5, hV5⟩ : ∃ V, V4.setCell ⟨g2, 0, none⟩ (.int .i64 x') = V := ⟨_, rfl⟩
    rw [hV5] at X3 Y3 d3
    have y3 := Y3.c1
    have l3 := Y3.free 1
    have Y4 := Y3.set1 (.int .i64 y')
    have d4 := d3.setCell (p := ⟨g2, 1, none⟩) (by show _ ≤ g2; have := bd0.size; omega) (.int .i64 y')
    have X4 := X3.apart (j := 1) (x := .int .i64 y') HNE
    obtain ⟨V6, hV6⟩ : ∃ V, V5.setCell ⟨g2, 1, none⟩ (.int .i64 y') = V := ⟨_, rfl⟩
    rw [hV6] at X4 Y4 d4
    have hC6 : (fun w' : World => w'.cell? ⟨pa, 0, none⟩ = some (.slice (some ⟨b, o, none⟩) n c) ∧ (w'.cell? ⟨b, o + i * 2, none⟩ = some (.int .i64 x) ∧ w'.cell? ⟨b, o + i * 2 + 1, none⟩ = some (.int .i64 y)) ∧ w'.cell? ⟨b, o + k * 2, none⟩ = some (.int .i64 x') ∧ w'.cell? ⟨b, o + k * 2 + 1, none⟩ = some (.int .i64 y')) V6 := unhide HCC _ d4
    have BXV6 := hide X4
    have BYV6 := hide Y4
    have BLV6 := hide d4
    obtain ⟨u0, y0⟩ : ∃ u : Value, V2.cell? ⟨g1, 0, none⟩ = some u := ⟨_, y0⟩
    obtain ⟨u1, y1⟩ : ∃ u : Value, V3.cell? ⟨g1, 1, none⟩ = some u := ⟨_, y1⟩
    obtain ⟨u2, y2⟩ : ∃ u : Value, V4.cell? ⟨g2, 0, none⟩ = some u := ⟨_, y2⟩
    obtain ⟨u3, y3⟩ : ∃ u : Value, V5.cell? ⟨g2, 1, none⟩ = some u := ⟨_, y3⟩
    clear X0 X1 X2 X3 X4 Y0 Y1 Y2 Y3 Y4 d1 d2 d3 d4
    refine wpHold_one (k := 10) (by kernel_rfl) rfl (fun K hK => ?_)
    (try simp only [List.getElem_toArray, List.getElem_cons_succ, List.getElem_cons_zero])
    go_simp
    refine hK.out _ _ hC4 ?_
    clear hK K
    (try simp only [Act.put, List.setIfInBounds_toArray, List.set_cons_zero, List.set_cons_succ])
    refine wpHold_one (k := 11) (by kernel_rfl) rfl (fun K hK => ?_)
    (try simp only [List.getElem_toArray, List.getElem_cons_succ, List.getElem_cons_zero])
    go_simp
    refine hK.out _ _ hC6 ?_
    clear hK K
    (try simp only [Act.put, List.setIfInBounds_toArray, List.set_cons_zero, List.set_cons_succ])
    refine wpHold_done (by kernel_rfl) ?_ _
    clear hC0 hC1 hC2 hC4 hC6 HCC b1 b2 bd0 hV1 hV2 hV3 hV4 hV5 hV6 y0 y1 y2 y3 l0 l1 l2 l3 hg1 hg2 hg2' s1 HNE
    have c0 := (unhide BXV6).c0
    have c1 := (unhide BXV6).c1
    have c2 := (unhide BYV6).c0
    have c3 := (unhide BYV6).c1
    have c4 := unhide HPB _ (unhide BLV6)
    by_cases q1 : early (x, y) = true
    · by_cases q2 : early (x', y') = true
      · have HV : Hid (R = cmpI x x') := by show R = _; rw [← unhide HR]; unfold ncmp; rw [if_pos ⟨q1, q2⟩]
        have G1 := hide (johnson1_any (x, y) V6)
        rw [q1] at G1
        have G2 : Hid (∀ W', Calls Try.prog 15 #[.agg #[.int .i64 x', .int .i64 y']] W' fun e w' => e = .returned (.bool true) ∧ Below W'.heap.size W' w') := fun W' => by have := johnson1_any (x', y') W'; rw [q2] at this; exact this
        clear q1 q2
        go_wp2_with fail
        refine (unhide G1).mono ?_
        rintro e_ V7 ⟨rfl, hbV7⟩
        have BXV7 := hide ((unhide BXV6).keep hbV7)
        have BYV7 := hide ((unhide BYV6).keep hbV7)
        have BLV7 := hide (below_step (unhide BLV6) hbV7)
        have c0 := (unhide BXV7).c0
        have c1 := (unhide BXV7).c1
        have c2 := (unhide BYV7).c0
        have c3 := (unhide BYV7).c1
        have c4 := unhide HPB _ (unhide BLV7)
        clear hbV7
        go_wp2_with fail
        refine (unhide G2 _).mono ?_
        rintro e_ V8 ⟨rfl, hbV8⟩
        have BXV8 := hide ((unhide BXV7).keep hbV8)
        have BYV8 := hide ((unhide BYV7).keep hbV8)
        have BLV8 := hide (below_step (unhide BLV7) hbV8)
        have c0 := (unhide BXV8).c0
        have c1 := (unhide BXV8).c1
        have c2 := (unhide BYV8).c0
        have c3 := (unhide BYV8).c1
        have c4 := unhide HPB _ (unhide BLV8)
        clear hbV8
        go_wp2_with fail
        refine (compare_any x x' _).mono ?_
        rintro e_ w9 ⟨rfl, rfl⟩
        go_wp2
        go_ret
        exact ⟨by rw [unhide HV]; rfl, unhide BLV8⟩
      · have q2' : early (x', y') = false := by simpa using q2
        have HV : Hid (R = -1) := by show R = _; rw [← unhide HR]; unfold ncmp; rw [if_neg (fun h => q2 h.2), if_pos q1]
        have G1 := hide (johnson1_any (x, y) V6)
        rw [q1] at G1
        have G1' : Hid (∀ W', Calls Try.prog 15 #[.agg #[.int .i64 x, .int .i64 y]] W' fun e w' => e = .returned (.bool true) ∧ Below W'.heap.size W' w') := fun W' => by have := johnson1_any (x, y) W'; rw [q1] at this; exact this
        have G2 : Hid (∀ W', Calls Try.prog 15 #[.agg #[.int .i64 x', .int .i64 y']] W' fun e w' => e = .returned (.bool false) ∧ Below W'.heap.size W' w') := fun W' => by have := johnson1_any (x', y') W'; rw [q2'] at this; exact this
        clear q1 q2 q2'
        go_wp2_with fail
        refine (unhide G1).mono ?_
        rintro e_ V7 ⟨rfl, hbV7⟩
        have BXV7 := hide ((unhide BXV6).keep hbV7)
        have BYV7 := hide ((unhide BYV6).keep hbV7)
        have BLV7 := hide (below_step (unhide BLV6) hbV7)
        have c0 := (unhide BXV7).c0
        have c1 := (unhide BXV7).c1
        have c2 := (unhide BYV7).c0
        have c3 := (unhide BYV7).c1
        have c4 := unhide HPB _ (unhide BLV7)
        clear hbV7
        go_wp2_with fail
        refine (unhide G2 _).mono ?_
        rintro e_ V8 ⟨rfl, hbV8⟩
        have BXV8 := hide ((unhide BXV7).keep hbV8)
        have BYV8 := hide ((unhide BYV7).keep hbV8)
        have BLV8 := hide (below_step (unhide BLV7) hbV8)
        have c0 := (unhide BXV8).c0
        have c1 := (unhide BXV8).c1
        have c2 := (unhide BYV8).c0
        have c3 := (unhide BYV8).c1
        have c4 := unhide HPB _ (unhide BLV8)
        clear hbV8
        go_wp2_with fail
        refine (unhide G1' _).mono ?_
        rintro e_ V9 ⟨rfl, hbV9⟩
        have BXV9 := hide ((unhide BXV8).keep hbV9)
        have BYV9 := hide ((unhide BYV8).keep hbV9)
        have BLV9 := hide (below_step (unhide BLV8) hbV9)
        have c0 := (unhide BXV9).c0
        have c1 := (unhide BXV9).c1
        have c2 := (unhide BYV9).c0
        have c3 := (unhide BYV9).c1
        have c4 := unhide HPB _ (unhide BLV9)
        clear hbV9
        go_wp2
        go_ret
        exact ⟨by rw [unhide HV]; rfl, unhide BLV9⟩
    · have q1' : early (x, y) = false := by simpa using q1
      have G1 := hide (johnson1_any (x, y) V6)
      rw [q1'] at G1
      have G1' : Hid (∀ W', Calls Try.prog 15 #[.agg #[.int .i64 x, .int .i64 y]] W' fun e w' => e = .returned (.bool false) ∧ Below W'.heap.size W' w') := fun W' => by have := johnson1_any (x, y) W'; rw [q1'] at this; exact this
      by_cases q2 : early (x', y') = true
      · have HV : Hid (R = 1) := by show R = _; rw [← unhide HR]; unfold ncmp; rw [if_neg (fun h => q1 h.1), if_neg q1, if_pos q2]
        have G2 : Hid (∀ W', Calls Try.prog 15 #[.agg #[.int .i64 x', .int .i64 y']] W' fun e w' => e = .returned (.bool true) ∧ Below W'.heap.size W' w') := fun W' => by have := johnson1_any (x', y') W'; rw [q2] at this; exact this
        clear q1 q2 q1'
        go_wp2_with fail
        refine (unhide G1).mono ?_
        rintro e_ V7 ⟨rfl, hbV7⟩
        have BXV7 := hide ((unhide BXV6).keep hbV7)
        have BYV7 := hide ((unhide BYV6).keep hbV7)
        have BLV7 := hide (below_step (unhide BLV6) hbV7)
        have c0 := (unhide BXV7).c0
        have c1 := (unhide BXV7).c1
        have c2 := (unhide BYV7).c0
        have c3 := (unhide BYV7).c1
        have c4 := unhide HPB _ (unhide BLV7)
        clear hbV7
        go_wp2_with fail
        refine (unhide G1' _).mono ?_
        rintro e_ V8 ⟨rfl, hbV8⟩
        have BXV8 := hide ((unhide BXV7).keep hbV8)
        have BYV8 := hide ((unhide BYV7).keep hbV8)
        have BLV8 := hide (below_step (unhide BLV7) hbV8)
        have c0 := (unhide BXV8).c0
        have c1 := (unhide BXV8).c1
        have c2 := (unhide BYV8).c0
        have c3 := (unhide BYV8).c1
        have c4 := unhide HPB _ (unhide BLV8)
        clear hbV8
        go_wp2_with fail
        refine (unhide G2 _).mono ?_
        rintro e_ V9 ⟨rfl, hbV9⟩
        have BXV9 := hide ((unhide BXV8).keep hbV9)
        have BYV9 := hide ((unhide BYV8).keep hbV9)
        have BLV9 := hide (below_step (unhide BLV8) hbV9)
        have c0 := (unhide BXV9).c0
        have c1 := (unhide BXV9).c1
        have c2 := (unhide BYV9).c0
        have c3 := (unhide BYV9).c1
        have c4 := unhide HPB _ (unhide BLV9)
        clear hbV9
        go_wp2
        go_ret
        exact ⟨by rw [unhide HV]; rfl, unhide BLV9⟩
      · have q2' : early (x', y') = false := by simpa using q2
        have HV : Hid (R = cmpI y' y) := by show R = _; rw [← unhide HR]; unfold ncmp; rw [if_neg (fun h => q1 h.1), if_neg q1, if_neg q2]
        have G2 : Hid (∀ W', Calls Try.prog 15 #[.agg #[.int .i64 x', .int .i64 y']] W' fun e w' => e = .returned (.bool false) ∧ Below W'.heap.size W' w') := fun W' => by have := johnson1_any (x', y') W'; rw [q2'] at this; exact this
        clear q1 q2 q1' q2'
        go_wp2_with fail
        refine (unhide G1).mono ?_
        rintro e_ V7 ⟨rfl, hbV7⟩
        have BXV7 := hide ((unhide BXV6).keep hbV7)
        have BYV7 := hide ((unhide BYV6).keep hbV7)
        have BLV7 := hide (below_step (unhide BLV6) hbV7)
        have c0 := (unhide BXV7).c0
        have c1 := (unhide BXV7).c1
        have c2 := (unhide BYV7).c0
        have c3 := (unhide BYV7).c1
        have c4 := unhide HPB _ (unhide BLV7)
        clear hbV7
        go_wp2_with fail
        refine (unhide G1' _).mono ?_
        rintro e_ V8 ⟨rfl, hbV8⟩
        have BXV8 := hide ((unhide BXV7).keep hbV8)
        have BYV8 := hide ((unhide BYV7).keep hbV8)
        have BLV8 := hide (below_step (unhide BLV7) hbV8)
        have c0 := (unhide BXV8).c0
        have c1 := (unhide BXV8).c1
        have c2 := (unhide BYV8).c0
        have c3 := (unhide BYV8).c1
        have c4 := unhide HPB _ (unhide BLV8)
        clear hbV8
        go_wp2_with fail
        refine (unhide G2 _).mono ?_
        rintro e_ V9 ⟨rfl, hbV9⟩
        have BXV9 := hide ((unhide BXV8).keep hbV9)
        have BYV9 := hide ((unhide BYV8).keep hbV9)
        have BLV9 := hide (below_step (unhide BLV8) hbV9)
        have c0 := (unhide BXV9).c0
        have c1 := (unhide BXV9).c1
        have c2 := (unhide BYV9).c0
        have c3 := (unhide BYV9).c1
        have c4 := unhide HPB _ (unhide BLV9)
        clear hbV9
        go_wp2_with fail
        refine (compare_any y' y _).mono ?_
        rintro e_ w9 ⟨rfl, rfl⟩
        go_wp2
        go_ret
        exact ⟨by rw [unhide HV]; rfl, unhide BLV9⟩
  · (try simp only [List.getElem_toArray, List.getElem_cons_succ, List.getElem_cons_zero])
    go_simp
    (try rw [hV1])
    (try rw [hg1])
    refine hK.out _ _ hC1 ?_
    clear hK K
    (try simp only [Act.put, List.setIfInBounds_toArray, List.set_cons_zero, List.set_cons_succ])
    refine wpHold_one (k := 8) (by kernel_rfl) rfl (fun K hK => ?_)
    (try simp only [List.getElem_toArray, List.getElem_cons_succ, List.getElem_cons_zero])
    go_simp
    (try rw [hV2])
    (try rw [hg2'])
    refine hK.out _ _ hC2 ?_
    clear hK K
    (try simp only [Act.put, List.setIfInBounds_toArray, List.set_cons_zero, List.set_cons_succ])
    have X0 : Box2 37 V2 g2 (.int .i64 0) (.int .i64 0) := box2_last hV2 hg2'
    have Y0 : Box2 37 V2 g1 (.int .i64 0) (.int .i64 0) := box2_new hV1 hV2 hg1
    have HNE : g2 ≠ g1 := by omega
    have X1 := X0.set0 (.int .i64 x)
    have d1 := b2.setCell (p := ⟨g2, 0, none⟩) (by show _ ≤ g2; have := bd0.size; omega) (.int .i64 x)
    have Y1 := Y0.apart (j := 0) (x := .int .i64 x) HNE.symm
    have y0 := X0.c0
    have l0 := X0.free 0
    obtain ⟨V3, hV3⟩ : ∃ V, V2.setCell ⟨g2, 0, none⟩ (.int .i64 x) = V := ⟨_, rfl⟩
    rw [hV3] at X1 Y1 d1
    have y1 := X1.c1
    have l1 := X1.free 1
    have X2 := X1.set1 (.int .i64 y)
    have d2 := d1.setCell (p := ⟨g2, 1, none⟩) (by show _ ≤ g2; have := bd0.size; omega) (.int .i64 y)
    have Y2 := Y1.apart (j := 1) (x := .int .i64 y) HNE.symm
    obtain ⟨V4, hV4⟩ : ∃ V, V3.setCell ⟨g2, 1, none⟩ (.int .i64 y) = V := ⟨_, rfl⟩
    rw [hV4] at X2 Y2 d2
    have y2 := Y2.c0
    have l2 := Y2.free 0
    have hC4 : (fun w' : World => w'.cell? ⟨pa, 0, none⟩ = some (.slice (some ⟨b, o, none⟩) n c) ∧ (w'.cell? ⟨b, o + i * 2, none⟩ = some (.int .i64 x) ∧ w'.cell? ⟨b, o + i * 2 + 1, none⟩ = some (.int .i64 y)) ∧ w'.cell? ⟨b, o + k * 2, none⟩ = some (.int .i64 x') ∧ w'.cell? ⟨b, o + k * 2 + 1, none⟩ = some (.int .i64 y')) V4 := unhide HCC _ d2
    have Y3 := Y2.set0 (.int .i64 x')
    have d3 := d2.setCell (p := ⟨g1, 0, none⟩) (by show _ ≤ g1; have := bd0.size; omega) (.int .i64 x')
    have X3 := X2.apart (j := 0) (x := .int .i64 x') HNE
    obtain ⟨V5, hV5⟩ : ∃ V, V4.setCell ⟨g1, 0, none⟩ (.int .i64 x') = V := ⟨_, rfl⟩
    rw [hV5] at X3 Y3 d3
    have y3 := Y3.c1
    have l3 := Y3.free 1
    have Y4 := Y3.set1 (.int .i64 y')
    have d4 := d3.setCell (p := ⟨g1, 1, none⟩) (by show _ ≤ g1; have := bd0.size; omega) (.int .i64 y')
    have X4 := X3.apart (j := 1) (x := .int .i64 y') HNE
    obtain ⟨V6, hV6⟩ : ∃ V, V5.setCell ⟨g1, 1, none⟩ (.int .i64 y') = V := ⟨_, rfl⟩
    rw [hV6] at X4 Y4 d4
    have hC6 : (fun w' : World => w'.cell? ⟨pa, 0, none⟩ = some (.slice (some ⟨b, o, none⟩) n c) ∧ (w'.cell? ⟨b, o + i * 2, none⟩ = some (.int .i64 x) ∧ w'.cell? ⟨b, o + i * 2 + 1, none⟩ = some (.int .i64 y)) ∧ w'.cell? ⟨b, o + k * 2, none⟩ = some (.int .i64 x') ∧ w'.cell? ⟨b, o + k * 2 + 1, none⟩ = some (.int .i64 y')) V6 := unhide HCC _ d4
    have BXV6 := hide X4
    have BYV6 := hide Y4
    have BLV6 := hide d4
    obtain ⟨u0, y0⟩ : ∃ u : Value, V2.cell? ⟨g2, 0, none⟩ = some u := ⟨_, y0⟩
    obtain ⟨u1, y1⟩ : ∃ u : Value, V3.cell? ⟨g2, 1, none⟩ = some u := ⟨_, y1⟩
    obtain ⟨u2, y2⟩ : ∃ u : Value, V4.cell? ⟨g1, 0, none⟩ = some u := ⟨_, y2⟩
    obtain ⟨u3, y3⟩ : ∃ u : Value, V5.cell? ⟨g1, 1, none⟩ = some u := ⟨_, y3⟩
    clear X0 X1 X2 X3 X4 Y0 Y1 Y2 Y3 Y4 d1 d2 d3 d4
    refine wpHold_one (k := 10) (by kernel_rfl) rfl (fun K hK => ?_)
    (try simp only [List.getElem_toArray, List.getElem_cons_succ, List.getElem_cons_zero])
    go_simp
    refine hK.out _ _ hC4 ?_
    clear hK K
    (try simp only [Act.put, List.setIfInBounds_toArray, List.set_cons_zero, List.set_cons_succ])
    refine wpHold_one (k := 11) (by kernel_rfl) rfl (fun K hK => ?_)
    (try simp only [List.getElem_toArray, List.getElem_cons_succ, List.getElem_cons_zero])
    go_simp
    refine hK.out _ _ hC6 ?_
    clear hK K
    (try simp only [Act.put, List.setIfInBounds_toArray, List.set_cons_zero, List.set_cons_succ])
    refine wpHold_done (by kernel_rfl) ?_ _
    clear hC0 hC1 hC2 hC4 hC6 HCC b1 b2 bd0 hV1 hV2 hV3 hV4 hV5 hV6 y0 y1 y2 y3 l0 l1 l2 l3 hg1 hg2 hg2' s1 HNE
    have c0 := (unhide BXV6).c0
    have c1 := (unhide BXV6).c1
    have c2 := (unhide BYV6).c0
    have c3 := (unhide BYV6).c1
    have c4 := unhide HPB _ (unhide BLV6)
    by_cases q1 : early (x, y) = true
    · by_cases q2 : early (x', y') = true
      · have HV : Hid (R = cmpI x x') := by show R = _; rw [← unhide HR]; unfold ncmp; rw [if_pos ⟨q1, q2⟩]
        have G1 := hide (johnson1_any (x, y) V6)
        rw [q1] at G1
        have G2 : Hid (∀ W', Calls Try.prog 15 #[.agg #[.int .i64 x', .int .i64 y']] W' fun e w' => e = .returned (.bool true) ∧ Below W'.heap.size W' w') := fun W' => by have := johnson1_any (x', y') W'; rw [q2] at this; exact this
        clear q1 q2
        go_wp2_with fail
        refine (unhide G1).mono ?_
        rintro e_ V7 ⟨rfl, hbV7⟩
        have BXV7 := hide ((unhide BXV6).keep hbV7)
        have BYV7 := hide ((unhide BYV6).keep hbV7)
        have BLV7 := hide (below_step (unhide BLV6) hbV7)
        have c0 := (unhide BXV7).c0
        have c1 := (unhide BXV7).c1
        have c2 := (unhide BYV7).c0
        have c3 := (unhide BYV7).c1
        have c4 := unhide HPB _ (unhide BLV7)
        clear hbV7
        go_wp2_with fail
        refine (unhide G2 _).mono ?_
        rintro e_ V8 ⟨rfl, hbV8⟩
        have BXV8 := hide ((unhide BXV7).keep hbV8)
        have BYV8 := hide ((unhide BYV7).keep hbV8)
        have BLV8 := hide (below_step (unhide BLV7) hbV8)
        have c0 := (unhide BXV8).c0
        have c1 := (unhide BXV8).c1
        have c2 := (unhide BYV8).c0
        have c3 := (unhide BYV8).c1
        have c4 := unhide HPB _ (unhide BLV8)
        clear hbV8
        go_wp2_with fail
        refine (compare_any x x' _).mono ?_
        rintro e_ w9 ⟨rfl, rfl⟩
        go_wp2
        go_ret
        exact ⟨by rw [unhide HV]; rfl, unhide BLV8⟩
      · have q2' : early (x', y') = false := by simpa using q2
        have HV : Hid (R = -1) := by show R = _; rw [← unhide HR]; unfold ncmp; rw [if_neg (fun h => q2 h.2), if_pos q1]
        have G1 := hide (johnson1_any (x, y) V6)
        rw [q1] at G1
        have G1' : Hid (∀ W', Calls Try.prog 15 #[.agg #[.int .i64 x, .int .i64 y]] W' fun e w' => e = .returned (.bool true) ∧ Below W'.heap.size W' w') := fun W' => by have := johnson1_any (x, y) W'; rw [q1] at this; exact this
        have G2 : Hid (∀ W', Calls Try.prog 15 #[.agg #[.int .i64 x', .int .i64 y']] W' fun e w' => e = .returned (.bool false) ∧ Below W'.heap.size W' w') := fun W' => by have := johnson1_any (x', y') W'; rw [q2'] at this; exact this
        clear q1 q2 q2'
        go_wp2_with fail
        refine (unhide G1).mono ?_
        rintro e_ V7 ⟨rfl, hbV7⟩
        have BXV7 := hide ((unhide BXV6).keep hbV7)
        have BYV7 := hide ((unhide BYV6).keep hbV7)
        have BLV7 := hide (below_step (unhide BLV6) hbV7)
        have c0 := (unhide BXV7).c0
        have c1 := (unhide BXV7).c1
        have c2 := (unhide BYV7).c0
        have c3 := (unhide BYV7).c1
        have c4 := unhide HPB _ (unhide BLV7)
        clear hbV7
        go_wp2_with fail
        refine (unhide G2 _).mono ?_
        rintro e_ V8 ⟨rfl, hbV8⟩
        have BXV8 := hide ((unhide BXV7).keep hbV8)
        have BYV8 := hide ((unhide BYV7).keep hbV8)
        have BLV8 := hide (below_step (unhide BLV7) hbV8)
        have c0 := (unhide BXV8).c0
        have c1 := (unhide BXV8).c1
        have c2 := (unhide BYV8).c0
        have c3 := (unhide BYV8).c1
        have c4 := unhide HPB _ (unhide BLV8)
        clear hbV8
        go_wp2_with fail
        refine (unhide G1' _).mono ?_
        rintro e_ V9 ⟨rfl, hbV9⟩
        have BXV9 := hide ((unhide BXV8).keep hbV9)
        have BYV9 := hide ((unhide BYV8).keep hbV9)
        have BLV9 := hide (below_step (unhide BLV8) hbV9)
        have c0 := (unhide BXV9).c0
        have c1 := (unhide BXV9).c1
        have c2 := (unhide BYV9).c0
        have c3 := (unhide BYV9).c1
        have c4 := unhide HPB _ (unhide BLV9)
        clear hbV9
        go_wp2
        go_ret
        exact ⟨by rw [unhide HV]; rfl, unhide BLV9⟩
    · have q1' : early (x, y) = false := by simpa using q1
      have G1 := hide (johnson1_any (x, y) V6)
      rw [q1'] at G1
      have G1' : Hid (∀ W', Calls Try.prog 15 #[.agg #[.int .i64 x, .int .i64 y]] W' fun e w' => e = .returned (.bool false) ∧ Below W'.heap.size W' w') := fun W' => by have := johnson1_any (x, y) W'; rw [q1'] at this; exact this
      by_cases q2 : early (x', y') = true
      · have HV : Hid (R = 1) := by show R = _; rw [← unhide HR]; unfold ncmp; rw [if_neg (fun h => q1 h.1), if_neg q1, if_pos q2]
        have G2 : Hid (∀ W', Calls Try.prog 15 #[.agg #[.int .i64 x', .int .i64 y']] W' fun e w' => e = .returned (.bool true) ∧ Below W'.heap.size W' w') := fun W' => by have := johnson1_any (x', y') W'; rw [q2] at this; exact this
        clear q1 q2 q1'
        go_wp2_with fail
        refine (unhide G1).mono ?_
        rintro e_ V7 ⟨rfl, hbV7⟩
        have BXV7 := hide ((unhide BXV6).keep hbV7)
        have BYV7 := hide ((unhide BYV6).keep hbV7)
        have BLV7 := hide (below_step (unhide BLV6) hbV7)
        have c0 := (unhide BXV7).c0
        have c1 := (unhide BXV7).c1
        have c2 := (unhide BYV7).c0
        have c3 := (unhide BYV7).c1
        have c4 := unhide HPB _ (unhide BLV7)
        clear hbV7
        go_wp2_with fail
        refine (unhide G1' _).mono ?_
        rintro e_ V8 ⟨rfl, hbV8⟩
        have BXV8 := hide ((unhide BXV7).keep hbV8)
        have BYV8 := hide ((unhide BYV7).keep hbV8)
        have BLV8 := hide (below_step (unhide BLV7) hbV8)
        have c0 := (unhide BXV8).c0
        have c1 := (unhide BXV8).c1
        have c2 := (unhide BYV8).c0
        have c3 := (unhide BYV8).c1
        have c4 := unhide HPB _ (unhide BLV8)
        clear hbV8
        go_wp2_with fail
        refine (unhide G2 _).mono ?_
        rintro e_ V9 ⟨rfl, hbV9⟩
        have BXV9 := hide ((unhide BXV8).keep hbV9)
        have BYV9 := hide ((unhide BYV8).keep hbV9)
        have BLV9 := hide (below_step (unhide BLV8) hbV9)
        have c0 := (unhide BXV9).c0
        have c1 := (unhide BXV9).c1
        have c2 := (unhide BYV9).c0
        have c3 := (unhide BYV9).c1
        have c4 := unhide HPB _ (unhide BLV9)
        clear hbV9
        go_wp2
        go_ret
        exact ⟨by rw [unhide HV]; rfl, unhide BLV9⟩
      · have q2' : early (x', y') = false := by simpa using q2
        have HV : Hid (R = cmpI y' y) := by show R = _; rw [← unhide HR]; unfold ncmp; rw [if_neg (fun h => q1 h.1), if_neg q1, if_neg q2]
        have G2 : Hid (∀ W', Calls Try.prog 15 #[.agg #[.int .i64 x', .int .i64 y']] W' fun e w' => e = .returned (.bool false) ∧ Below W'.heap.size W' w') := fun W' => by have := johnson1_any (x', y') W'; rw [q2'] at this; exact this
        clear q1 q2 q1' q2'
        go_wp2_with fail
        refine (unhide G1).mono ?_
        rintro e_ V7 ⟨rfl, hbV7⟩
        have BXV7 := hide ((unhide BXV6).keep hbV7)
        have BYV7 := hide ((unhide BYV6).keep hbV7)
        have BLV7 := hide (below_step (unhide BLV6) hbV7)
        have c0 := (unhide BXV7).c0
        have c1 := (unhide BXV7).c1
        have c2 := (unhide BYV7).c0
        have c3 := (unhide BYV7).c1
        have c4 := unhide HPB _ (unhide BLV7)
        clear hbV7
        go_wp2_with fail
        refine (unhide G1' _).mono ?_
        rintro e_ V8 ⟨rfl, hbV8⟩
        have BXV8 := hide ((unhide BXV7).keep hbV8)
        have BYV8 := hide ((unhide BYV7).keep hbV8)
        have BLV8 := hide (below_step (unhide BLV7) hbV8)
        have c0 := (unhide BXV8).c0
        have c1 := (unhide BXV8).c1
        have c2 := (unhide BYV8).c0
        have c3 := (unhide BYV8).c1
        have c4 := unhide HPB _ (unhide BLV8)
        clear hbV8
        go_wp2_with fail
        refine (unhide G2 _).mono ?_
        rintro e_ V9 ⟨rfl, hbV9⟩
        have BXV9 := hide ((unhide BXV8).keep hbV9)
        have BYV9 := hide ((unhide BYV8).keep hbV9)
        have BLV9 := hide (below_step (unhide BLV8) hbV9)
        have c0 := (unhide BXV9).c0
        have c1 := (unhide BXV9).c1
        have c2 := (unhide BYV9).c0
        have c3 := (unhide BYV9).c1
        have c4 := unhide HPB _ (unhide BLV9)
        clear hbV9
        go_wp2_with fail
        refine (compare_any y' y _).mono ?_
        rintro e_ w9 ⟨rfl, rfl⟩
        go_wp2
        go_ret
        exact ⟨by rw [unhide HV]; rfl, unhide BLV9⟩
end Go.Proofs.Ytbbmhidnakghfaa
