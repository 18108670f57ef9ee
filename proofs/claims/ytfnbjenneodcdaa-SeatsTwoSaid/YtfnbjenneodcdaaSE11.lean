/- A fact: a seat that a dear one asks for half the time. -/
import Derived.Test.YtfnbjenneodcdaaSE9
namespace Go.Proofs.Ytfnbjenneodcdaa
open Go.RowKit Go.Sort Go.Shelf

theorem law_two {w : World} {g : Nat} {ta tb : Tri} {qa qb : Rat} (h : w.heap[g]? = some (.cells #[.bool ta.s, .slice ta.a1 ta.n1 ta.c1, .slice ta.a2 ta.n2 ta.c2, .bool tb.s, .slice tb.a1 tb.n1 tb.c1, .slice tb.a2 tb.n2 tb.c2] 48)) (ra : RatIs w ta.val qa) (rb : RatIs w tb.val qb) : LawIs w (.slice (some ⟨g, 0, none⟩) 2 2) [qa, qb] := by
  refine ⟨_, 2, rfl, Nat.le_refl _, by decide, fun _ => ⟨g, 0, rfl, (Array.getElem?_eq_some_iff.1 h).1, fun j hj => ?_⟩⟩
  match j, hj with
  | 0, _ => exact ⟨ta.s, ta.a1, ta.a2, ta.n1, ta.c1, ta.n2, ta.c2, by simp [World.cell?, h], by simp [World.cell?, h], by simp [World.cell?, h], ra⟩
  | 1, _ => exact ⟨tb.s, tb.a1, tb.a2, tb.n1, tb.c1, tb.n2, tb.c2, by simp [World.cell?, h], by simp [World.cell?, h], by simp [World.cell?, h], rb⟩
def hv : Rat := Rat.divInt 1 2
theorem flown_code : fcode [(100, [hv, hv])] = 0 := by decide +kernel
theorem flown_one {n : Nat} (h : LwIs [hv, hv] (Rat.divInt 40 100) n) : n = 1 := by
  have h1 := h.lt
  have h2 : n < 2 := h1
  match n, h2 with
  | 0, _ => exact absurd (show Rat.divInt 40 100 < 1 - Bth.ps (fun i => ([hv, hv])[i]!) (0 + 1) by decide +kernel) h.hi
  | 1, _ => rfl
theorem flown_none {n : Nat} (h : LwIs [hv, hv] (Rat.divInt 60 100) n) : n = 0 := by
  have h1 := h.lt
  have h2 : n < 2 := h1
  match n, h2 with
  | 0, _ => rfl
  | 1, _ => exact absurd (h.lo 0 (by decide)) (show ¬ Rat.divInt 60 100 < 1 - Bth.ps (fun i => ([hv, hv])[i]!) (0 + 1) by decide +kernel)
theorem hv_RS : RS hv 1 := ⟨by decide +kernel, by decide +kernel⟩

set_option maxHeartbeats 16000000 in
set_option maxRecDepth 100000 in
set_option linter.unusedSimpArgs false in
theorem flown_any (w : World) : Calls Try.prog 6 #[] w fun e w' => e = .returned (.bool true) ∧ Below w.heap.size w w' := by
  go_enter Try.func6, Try.ntmps6
  go_wp2_with fail
  refine (of_any 1 2 (by decide) (by decide) (by decide) (by decide) (by decide) w).mono ?_
  rintro e w0 ⟨v1, rfl, hv1, hb1⟩
  obtain ⟨t1, rfl, r1⟩ := tri_of hv1
  simp only [Tri.val]
  have b1 := below_step hb1 (alloc_below w0 (.cells #[.bool t1.s, .slice t1.a1 t1.n1 t1.c1, .slice t1.a2 t1.n2 t1.c2] 48))
  have X1 := BoxIs.new r1
  obtain ⟨W1, hW1⟩ : ∃ W, w0.alloc (.cells #[.bool t1.s, .slice t1.a1 t1.n1 t1.c1, .slice t1.a2 t1.n2 t1.c2] 48) = W := ⟨_, rfl⟩
  obtain ⟨bA, hbA⟩ : ∃ b, w0.heap.size = b := ⟨_, rfl⟩
  rw [hW1] at b1 X1
  rw [hbA] at X1
  have HX1 : Hid (BoxIs W1 bA t1 hv) := X1
  have HB0 := hide b1
  have HBW1 : Hid (Below W1.heap.size W1 W1) := Below.refl _ _
  clear b1 X1 hv1 r1 hb1
  have ⟨x0, x1, x2⟩ := (unhide HX1).cells _ (unhide HBW1)
  have b2 := alloc_below W1 (.cells #[.bool t1.s, .slice t1.a1 t1.n1 t1.c1, .slice t1.a2 t1.n2 t1.c2, .bool t1.s, .slice t1.a1 t1.n1 t1.c1, .slice t1.a2 t1.n2 t1.c2] 48)
  have n2 := heap_alloc_new W1 (.cells #[.bool t1.s, .slice t1.a1 t1.n1 t1.c1, .slice t1.a2 t1.n2 t1.c2, .bool t1.s, .slice t1.a1 t1.n1 t1.c1, .slice t1.a2 t1.n2 t1.c2] 48)
  have r2 := (unhide HX1).2.below (below_step (unhide HBW1) b2)
  obtain ⟨V2, hV2⟩ : ∃ W, W1.alloc (.cells #[.bool t1.s, .slice t1.a1 t1.n1 t1.c1, .slice t1.a2 t1.n2 t1.c2, .bool t1.s, .slice t1.a1 t1.n1 t1.c1, .slice t1.a2 t1.n2 t1.c2] 48) = W := ⟨_, rfl⟩
  obtain ⟨g2, hg2⟩ : ∃ b, W1.heap.size = b := ⟨_, rfl⟩
  rw [hV2] at b2 n2 r2
  rw [hg2] at n2
  have HBV2 := hide (below_step (unhide HBW1) b2)
  have HL2 := hide (littlewood_any 100 40 (some ⟨g2, 0, none⟩) 2 2 [hv, hv] V2 (law_two n2 r2 r2) rfl (by omega) (fun i hi => by
    match i, hi with
    | 0, _ => exact hv_RS
    | 1, _ => exact hv_RS) flown_code (by omega) (by omega))
  clear b2 n2 r2
  go_wp2_with fail
  clear x0 x1 x2 hV2 hg2 hW1 hbA
  refine (unhide HL2).mono ?_
  rintro e Z2 ⟨m2, rfl, hlw2, hb2⟩
  obtain rfl := flown_one hlw2
  have HBZ2 := hide (below_step (unhide HBV2) hb2)
  clear hlw2 hb2 HL2
  have HBZ2' := HBZ2
  have ⟨x0, x1, x2⟩ := (unhide HX1).cells _ (unhide HBZ2)
  have b3 := alloc_below Z2 (.cells #[.bool t1.s, .slice t1.a1 t1.n1 t1.c1, .slice t1.a2 t1.n2 t1.c2, .bool t1.s, .slice t1.a1 t1.n1 t1.c1, .slice t1.a2 t1.n2 t1.c2] 48)
  have n3 := heap_alloc_new Z2 (.cells #[.bool t1.s, .slice t1.a1 t1.n1 t1.c1, .slice t1.a2 t1.n2 t1.c2, .bool t1.s, .slice t1.a1 t1.n1 t1.c1, .slice t1.a2 t1.n2 t1.c2] 48)
  have r3 := (unhide HX1).2.below (below_step (unhide HBZ2) b3)
  obtain ⟨V3, hV3⟩ : ∃ W, Z2.alloc (.cells #[.bool t1.s, .slice t1.a1 t1.n1 t1.c1, .slice t1.a2 t1.n2 t1.c2, .bool t1.s, .slice t1.a1 t1.n1 t1.c1, .slice t1.a2 t1.n2 t1.c2] 48) = W := ⟨_, rfl⟩
  obtain ⟨g3, hg3⟩ : ∃ b, Z2.heap.size = b := ⟨_, rfl⟩
  rw [hV3] at b3 n3 r3
  rw [hg3] at n3
  have HBV3 := hide (below_step (unhide HBZ2) b3)
  have HL3 := hide (littlewood_any 100 60 (some ⟨g3, 0, none⟩) 2 2 [hv, hv] V3 (law_two n3 r3 r3) rfl (by omega) (fun i hi => by
    match i, hi with
    | 0, _ => exact hv_RS
    | 1, _ => exact hv_RS) flown_code (by omega) (by omega))
  clear b3 n3 r3
  go_wp2_with fail
  clear x0 x1 x2 hV3 hg3
  refine (unhide HL3).mono ?_
  rintro e Z3 ⟨m3, rfl, hlw3, hb3⟩
  obtain rfl := flown_none hlw3
  have HBZ3 := hide (below_step (unhide HBV3) hb3)
  clear hlw3 hb3 HL3
  have HBF := hide (below_step (unhide HB0) (unhide HBZ3))
  go_wp2
  go_ret
  exact ⟨rfl, unhide HBF⟩
end Go.Proofs.Ytfnbjenneodcdaa
