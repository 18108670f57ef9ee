/- RatioField: the law's walk. -/
import Derived.Test.YtdicbnchkfclaaaGreatDoorR1
namespace Go.Proofs.YtdicbnchkfclaaaGreatDoor
open Go.RowKit Go.Sort Go.Shelf

def rfAct (x0 y0 x1 y1 x2 y2 : Int) (g0 g1 g2 : Nat) (s7 s8 s9 s13 s15 s17 : Value) : Act := { tmps := #[.agg #[.int .i64 x0, .int .i64 y0], .agg #[.int .i64 x1, .int .i64 y1], .agg #[.int .i64 x2, .int .i64 y2], .pointer (some ⟨g0, 0, none⟩), .pointer (some ⟨g1, 0, none⟩), .pointer (some ⟨g2, 0, none⟩), .bool false, s7, s8, s9, undef, undef, .agg #[.int .i64 x0, .int .i64 y0], s13, .agg #[.int .i64 x1, .int .i64 y1], s15, .agg #[.int .i64 x2, .int .i64 y2], s17, undef, undef, undef, undef, undef, undef, undef, undef, undef, undef, undef, undef, undef, undef, undef, undef, undef, undef, undef, undef, undef, undef, undef, undef, undef, undef, undef, undef, undef, undef, undef, undef, undef, undef, undef, undef, undef, undef, undef, undef, undef, undef, undef, undef, undef, undef, undef, undef, undef, undef, undef, undef, undef, undef, undef, undef, undef, undef, undef, undef, undef, undef, undef, undef, undef, undef, undef, undef, undef, undef, undef, undef, undef, undef, undef, undef, undef], defers := [] }

/-- Made, or not yet. -/
def Alc (B : Nat) (l : Bool) (s : Value) (w : World) : Prop := (l = false ∧ s = undef) ∨ (l = true ∧ ∃ b, s = .pointer (some ⟨b, 0, none⟩) ∧ BoxIs w b zTri 0 ∧ B ≤ b)
theorem Alc.keep {B : Nat} {l : Bool} {s : Value} {w w' : World} (h : Alc B l s w) (hb : Below w.heap.size w w') : Alc B l s w' := by
  rcases h with h | ⟨h, b, h1, h2, h3⟩
  · exact Or.inl h
  · exact Or.inr ⟨h, b, h1, h2.keep hb, h3⟩
theorem Alc.lt {B : Nat} {l : Bool} {s : Value} {w : World} (h : Alc B l s w) : ∀ b, s = .pointer (some ⟨b, 0, none⟩) → b < w.heap.size := fun b e => by
  rcases h with ⟨_, h⟩ | ⟨_, b', h1, h2, _⟩
  · rw [h] at e; cases e
  · rw [h1] at e; injection e with e; injection e with e; injection e with e; rw [← e]; exact h2.lt

structure RfI (x0 y0 x1 y1 x2 y2 : Int) (q0 q1 q2 : Rat) (w0 : World) (g0 g1 g2 : Nat) (c : Nat) (l6 l7 l8 : Bool) (a : Act) (w : World) (s7 s8 s9 s13 s15 s17 : Value) : Prop where
  act : a = rfAct x0 y0 x1 y1 x2 y2 g0 g1 g2 s7 s8 s9 s13 s15 s17
  bl : Below w0.heap.size w0 w
  r0 : 1 ≤ c → RatIs w s13 q0
  r1 : 2 ≤ c → RatIs w s15 q1
  r2 : 3 ≤ c → RatIs w s17 q2
  a7 : Alc w0.heap.size l6 s7 w
  a8 : Alc w0.heap.size l7 s8 w
  a9 : Alc w0.heap.size l8 s9 w
  n78 : ∀ b, s7 = .pointer (some ⟨b, 0, none⟩) → s8 ≠ .pointer (some ⟨b, 0, none⟩)
  n79 : ∀ b, s7 = .pointer (some ⟨b, 0, none⟩) → s9 ≠ .pointer (some ⟨b, 0, none⟩)
  n89 : ∀ b, s8 = .pointer (some ⟨b, 0, none⟩) → s9 ≠ .pointer (some ⟨b, 0, none⟩)

theorem ptr_ne {w : World} {s : Value} (h : ∀ b, s = .pointer (some ⟨b, 0, none⟩) → b < w.heap.size) (e : s = .pointer (some ⟨w.heap.size, 0, none⟩)) : False := Nat.lt_irrefl _ (h _ e)
theorem ptr_inj {b b' : Nat} (h : Value.pointer (some ⟨b, 0, none⟩) = .pointer (some ⟨b', 0, none⟩)) : b = b' := by injection h with h; injection h with h; injection h

theorem wpHold_listed {P : Program} {md : Region.Mode} {ops : Array Oper} {Q : Exit → Act → World → Prop} {C : World → Prop} {m n : Nat} {L L' : Array Bool} {a : Act} {w : World} (hn : m = n) (h : L = L') (H : wpHold P md ops Q C n L' a w) : wpHold P md ops Q C m L a w := by subst hn; subst h; exact H

set_option maxHeartbeats 16000000 in
set_option maxRecDepth 100000 in
set_option linter.unusedSimpArgs false in
theorem ratioField_any (x0 y0 x1 y1 x2 y2 : Int) (w : World) (htab : Tab w) (hg : ErrTy w) (i0 : I64 x0) (j0 : I64 y0) (i1 : I64 x1) (j1 : I64 y1) (i2 : I64 x2) (j2 : I64 y2) :
    Calls Tryz.prog 3 #[.agg #[.int .i64 x0, .int .i64 y0], .agg #[.int .i64 x1, .int .i64 y1], .agg #[.int .i64 x2, .int .i64 y2]] w fun e w' => e = .returned (.bool true) ∧ Below w.heap.size w w' := by
  have RS0 := hide (pq_RS (p := (x0, y0)) i0 j0)
  have RS1 := hide (pq_RS (p := (x1, y1)) i1 j1)
  have RS2 := hide (pq_RS (p := (x2, y2)) i2 j2)
  have HF0 : Hid (∀ W, Calls Tryz.prog 5 #[.agg #[.int .i64 x0, .int .i64 y0]] W fun e w' => ∃ v, e = .returned v ∧ RatIs w' v (pq (x0, y0)) ∧ Below W.heap.size W w') := fun W => f_any x0 y0 i0.1 i0.2 j0.1 j0.2 W
  have HF1 : Hid (∀ W, Calls Tryz.prog 5 #[.agg #[.int .i64 x1, .int .i64 y1]] W fun e w' => ∃ v, e = .returned v ∧ RatIs w' v (pq (x1, y1)) ∧ Below W.heap.size W w') := fun W => f_any x1 y1 i1.1 i1.2 j1.1 j1.2 W
  have HF2 : Hid (∀ W, Calls Tryz.prog 5 #[.agg #[.int .i64 x2, .int .i64 y2]] W fun e w' => ∃ v, e = .returned v ∧ RatIs w' v (pq (x2, y2)) ∧ Below W.heap.size W w') := fun W => f_any x2 y2 i2.1 i2.2 j2.1 j2.2 W
  obtain ⟨q0, hq0⟩ : ∃ q, pq (x0, y0) = q := ⟨_, rfl⟩
  obtain ⟨q1, hq1⟩ : ∃ q, pq (x1, y1) = q := ⟨_, rfl⟩
  obtain ⟨q2, hq2⟩ : ∃ q, pq (x2, y2) = q := ⟨_, rfl⟩
  rw [hq0] at RS0 HF0
  rw [hq1] at RS1 HF1
  rw [hq2] at RS2 HF2
  clear i0 j0 i1 j1 i2 j2 hq0 hq1 hq2
  have KKe : KK = 1099511627776 := rfl
  have bA := below_step (below_step (alloc_below w (.cells #[.int .i64 x0, .int .i64 y0] 23)) (alloc_below _ (.cells #[.int .i64 x1, .int .i64 y1] 23))) (alloc_below _ (.cells #[.int .i64 x2, .int .i64 y2] 23))
  have ec : ∀ W, Below (((w.alloc (.cells #[.int .i64 x0, .int .i64 y0] 23)).alloc (.cells #[.int .i64 x1, .int .i64 y1] 23)).alloc (.cells #[.int .i64 x2, .int .i64 y2] 23)).heap.size (((w.alloc (.cells #[.int .i64 x0, .int .i64 y0] 23)).alloc (.cells #[.int .i64 x1, .int .i64 y1] 23)).alloc (.cells #[.int .i64 x2, .int .i64 y2] 23)) W →
      W.cell? ⟨w.heap.size, 0, none⟩ = some (.int .i64 x0) ∧ W.cell? ⟨w.heap.size, 1, none⟩ = some (.int .i64 y0) ∧ W.cell? ⟨w.heap.size + 1, 0, none⟩ = some (.int .i64 x1) ∧ W.cell? ⟨w.heap.size + 1, 1, none⟩ = some (.int .i64 y1) ∧ W.cell? ⟨w.heap.size + 1 + 1, 0, none⟩ = some (.int .i64 x2) ∧ W.cell? ⟨w.heap.size + 1 + 1, 1, none⟩ = some (.int .i64 y2) := fun W hW => by
    have h0 := heap_kept (heap_kept (heap_kept (heap_alloc_new w (.cells #[.int .i64 x0, .int .i64 y0] 23)) (alloc_below _ (.cells #[.int .i64 x1, .int .i64 y1] 23))) (alloc_below _ (.cells #[.int .i64 x2, .int .i64 y2] 23))) hW
    have h1 := heap_kept (heap_kept (heap_alloc_new (w.alloc (.cells #[.int .i64 x0, .int .i64 y0] 23)) (.cells #[.int .i64 x1, .int .i64 y1] 23)) (alloc_below _ (.cells #[.int .i64 x2, .int .i64 y2] 23))) hW
    have h2 := heap_kept (heap_alloc_new ((w.alloc (.cells #[.int .i64 x0, .int .i64 y0] 23)).alloc (.cells #[.int .i64 x1, .int .i64 y1] 23)) (.cells #[.int .i64 x2, .int .i64 y2] 23)) hW
    simp only [alloc_size] at h1 h2
    exact ⟨by simp [World.cell?, h0], by simp [World.cell?, h0], by simp [World.cell?, h1], by simp [World.cell?, h1], by simp [World.cell?, h2], by simp [World.cell?, h2]⟩
  obtain ⟨W0, hW0⟩ : ∃ W, ((w.alloc (.cells #[.int .i64 x0, .int .i64 y0] 23)).alloc (.cells #[.int .i64 x1, .int .i64 y1] 23)).alloc (.cells #[.int .i64 x2, .int .i64 y2] 23) = W := ⟨_, rfl⟩
  rw [hW0] at bA ec
  have HWE := hide hW0
  have HBA := hide bA
  have HEC := hide ec
  clear hW0 bA ec
  go_enter Tryz.func3, Tryz.ntmps3
  go_wp2_with fail
  rw [unhide HWE]
  clear HWE
  generalize hg0 : w.heap.size = g0
  generalize hg1 : g0 + 1 = g1
  generalize hg2 : g1 + 1 = g2
  rw [hg0, hg1, hg2] at HEC
  have bd0 : Below W0.heap.size W0 W0.drew := (Below.refl _ _).drew
  refine wp_region_hold (fun w' : World => w'.cell? ⟨g0, 0, none⟩ = some (.int .i64 x0) ∧ w'.cell? ⟨g0, 1, none⟩ = some (.int .i64 y0) ∧ w'.cell? ⟨g1, 0, none⟩ = some (.int .i64 x1) ∧ w'.cell? ⟨g1, 1, none⟩ = some (.int .i64 y1) ∧ w'.cell? ⟨g2, 0, none⟩ = some (.int .i64 x2) ∧ w'.cell? ⟨g2, 1, none⟩ = some (.int .i64 y2)) (by kernel_rfl) ?_
  have hC0 : (fun w' : World => w'.cell? ⟨g0, 0, none⟩ = some (.int .i64 x0) ∧ w'.cell? ⟨g0, 1, none⟩ = some (.int .i64 y0) ∧ w'.cell? ⟨g1, 0, none⟩ = some (.int .i64 x1) ∧ w'.cell? ⟨g1, 1, none⟩ = some (.int .i64 y1) ∧ w'.cell? ⟨g2, 0, none⟩ = some (.int .i64 x2) ∧ w'.cell? ⟨g2, 1, none⟩ = some (.int .i64 y2)) W0.drew := unhide HEC _ bd0
  refine wpHold_take (i := 0) (v := ?_) rfl (by kernel_rfl) (by kernel_rfl) (by kernel_rfl) (fun _ _ _ h => h) (Or.inl ⟨by rfl, ?_⟩) hC0 ?_
  rotate_left
  · intro w hSw; (try dsimp only at hSw); obtain ⟨z0, z1, z2, z3, z4, z5⟩ := hSw; go_simp; (try with_reducible rfl)
  (try simp only [List.getElem_toArray, List.getElem_cons_succ, List.getElem_cons_zero])
  (try simp only [Act.put, List.setIfInBounds_toArray, List.set_cons_zero, List.set_cons_succ])
  refine wpHold_take (i := 2) (v := ?_) rfl (by kernel_rfl) (by kernel_rfl) (by kernel_rfl) (fun _ _ _ h => h) (Or.inl ⟨by rfl, ?_⟩) hC0 ?_
  rotate_left
  · intro w hSw; (try dsimp only at hSw); obtain ⟨z0, z1, z2, z3, z4, z5⟩ := hSw; go_simp; (try with_reducible rfl)
  (try simp only [List.getElem_toArray, List.getElem_cons_succ, List.getElem_cons_zero])
  (try simp only [Act.put, List.setIfInBounds_toArray, List.set_cons_zero, List.set_cons_succ])
  refine wpHold_take (i := 4) (v := ?_) rfl (by kernel_rfl) (by kernel_rfl) (by kernel_rfl) (fun _ _ _ h => h) (Or.inl ⟨by rfl, ?_⟩) hC0 ?_
  rotate_left
  · intro w hSw; (try dsimp only at hSw); obtain ⟨z0, z1, z2, z3, z4, z5⟩ := hSw; go_simp; (try with_reducible rfl)
  (try simp only [List.getElem_toArray, List.getElem_cons_succ, List.getElem_cons_zero])
  (try simp only [Act.put, List.setIfInBounds_toArray, List.set_cons_zero, List.set_cons_succ])
  have HEC1 : Hid (∀ W, Below W0.drew.heap.size W0.drew W → (fun w' : World => w'.cell? ⟨g0, 0, none⟩ = some (.int .i64 x0) ∧ w'.cell? ⟨g0, 1, none⟩ = some (.int .i64 y0) ∧ w'.cell? ⟨g1, 0, none⟩ = some (.int .i64 x1) ∧ w'.cell? ⟨g1, 1, none⟩ = some (.int .i64 y1) ∧ w'.cell? ⟨g2, 0, none⟩ = some (.int .i64 x2) ∧ w'.cell? ⟨g2, 1, none⟩ = some (.int .i64 y2)) W) := fun W hW => unhide HEC _ (below_step bd0 hW)
  have HBW := hide (below_step (unhide HBA) bd0)
  obtain ⟨W1, hW1⟩ : ∃ W, W0.drew = W := ⟨_, rfl⟩
  rw [hW1] at HEC1 HBW ⊢
  clear hC0 bd0 hW1 HEC
  refine wpHold_listed (n := 9) (L' := #[true, decide (1 ≤ 0), true, decide (2 ≤ 0), true, decide (3 ≤ 0), false, false, false, false, false, false]) (by kernel_rfl) (by kernel_rfl) ?_
  refine six_any (fun c l6 l7 l8 a w => ∃ s7 s8 s9 s13 s15 s17, RfI x0 y0 x1 y1 x2 y2 q0 q1 q2 W1 g0 g1 g2 c l6 l7 l8 a w s7 s8 s9 s13 s15 s17) ?_ ?_ ?_ ?_ ?_ ?_ ?_ ?_ ?_ 6 0 false false false (by omega) (by rfl) _ _ ⟨undef, undef, undef, undef, undef, undef, rfl, Below.refl _ _, fun h => absurd h (by decide), fun h => absurd h (by decide), fun h => absurd h (by decide), Or.inl ⟨rfl, rfl⟩, Or.inl ⟨rfl, rfl⟩, Or.inl ⟨rfl, rfl⟩, fun _ h => (by cases h), fun _ h => (by cases h), fun _ h => (by cases h)⟩
  · intro c l6 l7 l8 hc
    match c, hc with
    | 0, _ => cases l6 <;> cases l7 <;> cases l8 <;> (show (_ : Bool) = _; kernel_rfl)
    | 1, _ => cases l6 <;> cases l7 <;> cases l8 <;> (show (_ : Bool) = _; kernel_rfl)
    | 2, _ => cases l6 <;> cases l7 <;> cases l8 <;> (show (_ : Bool) = _; kernel_rfl)
    | 3, _ => cases l6 <;> cases l7 <;> cases l8 <;> (show (_ : Bool) = _; kernel_rfl)
  · intro c l6 l7 l8 hc
    match c, hc with
    | 0, _ => cases l6 <;> cases l7 <;> cases l8 <;> (intro _; show (_ : Bool) = _; kernel_rfl)
    | 1, _ => cases l6 <;> cases l7 <;> cases l8 <;> (intro _; show (_ : Bool) = _; kernel_rfl)
    | 2, _ => cases l6 <;> cases l7 <;> cases l8 <;> (intro _; show (_ : Bool) = _; kernel_rfl)
    | 3, _ => cases l6 <;> cases l7 <;> cases l8 <;> (intro h; first | (show (_ : Bool) = _; kernel_rfl) | exact absurd h (by decide))
  · rintro l6 l7 l8 a wq ⟨s7, s8, s9, s13, s15, s17, J⟩
    obtain rfl := J.act
    refine wpOp_step rfl (fun K hK => ?_)
    unfold rfAct at hK ⊢
    (try simp only [List.getElem_toArray, List.getElem_cons_succ, List.getElem_cons_zero])
    go_simp
    refine (unhide HF0 wq).mono ?_
    rintro e wz ⟨v, rfl, hv, hb⟩
    refine hK _ _ ⟨unhide HEC1 _ (below_step J.bl hb), s7, s8, s9, v, s15, s17, rfl, below_step J.bl hb, fun _ => hv, fun h => absurd h (by decide), fun h => absurd h (by decide), J.a7.keep hb, J.a8.keep hb, J.a9.keep hb, J.n78, J.n79, J.n89⟩
  · rintro l6 l7 l8 a wq ⟨s7, s8, s9, s13, s15, s17, J⟩
    obtain rfl := J.act
    refine wpOp_step rfl (fun K hK => ?_)
    unfold rfAct at hK ⊢
    (try simp only [List.getElem_toArray, List.getElem_cons_succ, List.getElem_cons_zero])
    go_simp
    refine (unhide HF1 wq).mono ?_
    rintro e wz ⟨v, rfl, hv, hb⟩
    refine hK _ _ ⟨unhide HEC1 _ (below_step J.bl hb), s7, s8, s9, s13, v, s17, rfl, below_step J.bl hb, fun _ => (J.r0 (by decide)).below hb, fun _ => hv, fun h => absurd h (by decide), J.a7.keep hb, J.a8.keep hb, J.a9.keep hb, J.n78, J.n79, J.n89⟩
  · rintro l6 l7 l8 a wq ⟨s7, s8, s9, s13, s15, s17, J⟩
    obtain rfl := J.act
    refine wpOp_step rfl (fun K hK => ?_)
    unfold rfAct at hK ⊢
    (try simp only [List.getElem_toArray, List.getElem_cons_succ, List.getElem_cons_zero])
    go_simp
    refine (unhide HF2 wq).mono ?_
    rintro e wz ⟨v, rfl, hv, hb⟩
    refine hK _ _ ⟨unhide HEC1 _ (below_step J.bl hb), s7, s8, s9, s13, s15, v, rfl, below_step J.bl hb, fun _ => (J.r0 (by decide)).below hb, fun _ => (J.r1 (by decide)).below hb, fun _ => hv, J.a7.keep hb, J.a8.keep hb, J.a9.keep hb, J.n78, J.n79, J.n89⟩
  · rintro c l7 l8 a wq ⟨s7, s8, s9, s13, s15, s17, J⟩
    obtain rfl := J.act
    refine wpOp_step rfl (fun K hK => ?_)
    unfold rfAct at hK ⊢
    (try simp only [List.getElem_toArray, List.getElem_cons_succ, List.getElem_cons_zero])
    go_simp
    have hb := alloc_below wq (.cells #[.bool false, .slice none 0 0, .slice none 0 0] 27)
    refine hK _ _ ⟨unhide HEC1 _ (below_step J.bl hb), .pointer (some ⟨wq.heap.size, 0, none⟩), s8, s9, s13, s15, s17, rfl, below_step J.bl hb, fun h => (J.r0 h).below hb, fun h => (J.r1 h).below hb, fun h => (J.r2 h).below hb, Or.inr ⟨rfl, wq.heap.size, rfl, BoxIs.new (t := zTri) (rat_zero _), J.bl.size⟩, J.a8.keep hb, J.a9.keep hb, fun b e h => ptr_ne J.a8.lt (by rw [h, ← ptr_inj e]), fun b e h => ptr_ne J.a9.lt (by rw [h, ← ptr_inj e]), J.n89⟩
  · rintro c l6 l8 a wq ⟨s7, s8, s9, s13, s15, s17, J⟩
    obtain rfl := J.act
    refine wpOp_step rfl (fun K hK => ?_)
    unfold rfAct at hK ⊢
    (try simp only [List.getElem_toArray, List.getElem_cons_succ, List.getElem_cons_zero])
    go_simp
    have hb := alloc_below wq (.cells #[.bool false, .slice none 0 0, .slice none 0 0] 27)
    refine hK _ _ ⟨unhide HEC1 _ (below_step J.bl hb), s7, .pointer (some ⟨wq.heap.size, 0, none⟩), s9, s13, s15, s17, rfl, below_step J.bl hb, fun h => (J.r0 h).below hb, fun h => (J.r1 h).below hb, fun h => (J.r2 h).below hb, J.a7.keep hb, Or.inr ⟨rfl, wq.heap.size, rfl, BoxIs.new (t := zTri) (rat_zero _), J.bl.size⟩, J.a9.keep hb, fun b e h => ptr_ne J.a7.lt (by rw [e, ← ptr_inj h]), J.n79, fun b e h => ptr_ne J.a9.lt (by rw [h, ← ptr_inj e])⟩
  · rintro c l6 l7 a wq ⟨s7, s8, s9, s13, s15, s17, J⟩
    obtain rfl := J.act
    refine wpOp_step rfl (fun K hK => ?_)
    unfold rfAct at hK ⊢
    (try simp only [List.getElem_toArray, List.getElem_cons_succ, List.getElem_cons_zero])
    go_simp
    have hb := alloc_below wq (.cells #[.bool false, .slice none 0 0, .slice none 0 0] 27)
    refine hK _ _ ⟨unhide HEC1 _ (below_step J.bl hb), s7, s8, .pointer (some ⟨wq.heap.size, 0, none⟩), s13, s15, s17, rfl, below_step J.bl hb, fun h => (J.r0 h).below hb, fun h => (J.r1 h).below hb, fun h => (J.r2 h).below hb, J.a7.keep hb, J.a8.keep hb, Or.inr ⟨rfl, wq.heap.size, rfl, BoxIs.new (t := zTri) (rat_zero _), J.bl.size⟩, J.n78, fun b e h => ptr_ne J.a7.lt (by rw [e, ← ptr_inj h]), fun b e h => ptr_ne J.a8.lt (by rw [e, ← ptr_inj h])⟩
  · rintro a wq ⟨s7, s8, s9, s13, s15, s17, J⟩
    obtain rfl := J.act
    obtain ⟨_, b7, rfl, B7, e7⟩ := J.a7.resolve_left (fun h => by cases h.1)
    obtain ⟨_, b8, rfl, B8, e8⟩ := J.a8.resolve_left (fun h => by cases h.1)
    obtain ⟨_, b9, rfl, B9, e9⟩ := J.a9.resolve_left (fun h => by cases h.1)
    have n78 : b7 ≠ b8 := fun e => J.n78 b7 rfl (by rw [e])
    have n79 : b7 ≠ b9 := fun e => J.n79 b7 rfl (by rw [e])
    have n89 : b8 ≠ b9 := fun e => J.n89 b8 rfl (by rw [e])
    obtain ⟨t0, rfl, r0⟩ := tri_of (J.r0 (by decide))
    obtain ⟨t1, rfl, r1⟩ := tri_of (J.r1 (by decide))
    obtain ⟨t2, rfl, r2⟩ := tri_of (J.r2 (by decide))
    have bl := J.bl
    clear J HF0 HF1 HF2 HBA
    unfold rfAct
    simp only [Tri.val]
    have ⟨l0, l1, l2⟩ := B7.free
    have ⟨k0, k1, k2⟩ := B7.cells _ (Below.refl _ _)
    have B8n := B8.other B7 n78.symm (.bool t0.s) (.slice t0.a1 t0.n1 t0.c1) (.slice t0.a2 t0.n2 t0.c2)
    have B9n := B9.other B7 n79.symm (.bool t0.s) (.slice t0.a1 t0.n1 t0.c1) (.slice t0.a2 t0.n2 t0.c2)
    have r1n := r1.boxSet B7 (.bool t0.s) (.slice t0.a1 t0.n1 t0.c1) (.slice t0.a2 t0.n2 t0.c2)
    have r2n := r2.boxSet B7 (.bool t0.s) (.slice t0.a1 t0.n1 t0.c1) (.slice t0.a2 t0.n2 t0.c2)
    have B7n := B7.set r0
    have bln := ((bl.setCell (p := ⟨b7, 0, none⟩) e7 (.bool t0.s)).setCell (p := ⟨b7, 1, none⟩) e7 (.slice t0.a1 t0.n1 t0.c1)).setCell (p := ⟨b7, 2, none⟩) e7 (.slice t0.a2 t0.n2 t0.c2)
    have hCn : (fun w' : World => w'.cell? ⟨g0, 0, none⟩ = some (.int .i64 x0) ∧ w'.cell? ⟨g0, 1, none⟩ = some (.int .i64 y0) ∧ w'.cell? ⟨g1, 0, none⟩ = some (.int .i64 x1) ∧ w'.cell? ⟨g1, 1, none⟩ = some (.int .i64 y1) ∧ w'.cell? ⟨g2, 0, none⟩ = some (.int .i64 x2) ∧ w'.cell? ⟨g2, 1, none⟩ = some (.int .i64 y2)) _ := unhide HEC1 _ bln
    have HB7 := hide B7n
    have HB8 := hide B8n
    have HB9 := hide B9n
    have Hr1 := hide r1n
    have Hr2 := hide r2n
    have Hbl := hide bln
    have HhC := hide hCn
    clear B7n B8n B9n r1n r2n bln hCn
    refine wpHold_one (k := 9) (by kernel_rfl) rfl (fun K hK => ?_)
    (try simp only [List.getElem_toArray, List.getElem_cons_succ, List.getElem_cons_zero])
    go_simp
    refine hK.out _ _ (unhide HhC) ?_
    clear hK K
    (try simp only [Act.put, List.setIfInBounds_toArray, List.set_cons_zero, List.set_cons_succ])
    clear HhC k0 k1 k2 l0 l1 l2 bl B7 B8 B9 r1 r2 r0
    obtain ⟨Y7, hY7⟩ : ∃ W, ((wq.setCell ⟨b7, 0, none⟩ (.bool t0.s)).setCell ⟨b7, 1, none⟩ (.slice t0.a1 t0.n1 t0.c1)).setCell ⟨b7, 2, none⟩ (.slice t0.a2 t0.n2 t0.c2) = W := ⟨_, rfl⟩
    rw [hY7] at HB7 HB8 HB9 Hr1 Hr2 Hbl ⊢
    have B7 := unhide HB7
    have B8 := unhide HB8
    have B9 := unhide HB9
    have r1 := unhide Hr1
    have r2 := unhide Hr2
    have bl := unhide Hbl
    clear hY7 HB7 HB8 HB9 Hr1 Hr2 Hbl
    have ⟨l0, l1, l2⟩ := B8.free
    have ⟨k0, k1, k2⟩ := B8.cells _ (Below.refl _ _)
    have B7n := B7.other B8 n78 (.bool t1.s) (.slice t1.a1 t1.n1 t1.c1) (.slice t1.a2 t1.n2 t1.c2)
    have B9n := B9.other B8 n89.symm (.bool t1.s) (.slice t1.a1 t1.n1 t1.c1) (.slice t1.a2 t1.n2 t1.c2)
    have r2n := r2.boxSet B8 (.bool t1.s) (.slice t1.a1 t1.n1 t1.c1) (.slice t1.a2 t1.n2 t1.c2)
    have B8n := B8.set r1
    have bln := ((bl.setCell (p := ⟨b8, 0, none⟩) e8 (.bool t1.s)).setCell (p := ⟨b8, 1, none⟩) e8 (.slice t1.a1 t1.n1 t1.c1)).setCell (p := ⟨b8, 2, none⟩) e8 (.slice t1.a2 t1.n2 t1.c2)
    have hCn : (fun w' : World => w'.cell? ⟨g0, 0, none⟩ = some (.int .i64 x0) ∧ w'.cell? ⟨g0, 1, none⟩ = some (.int .i64 y0) ∧ w'.cell? ⟨g1, 0, none⟩ = some (.int .i64 x1) ∧ w'.cell? ⟨g1, 1, none⟩ = some (.int .i64 y1) ∧ w'.cell? ⟨g2, 0, none⟩ = some (.int .i64 x2) ∧ w'.cell? ⟨g2, 1, none⟩ = some (.int .i64 y2)) _ := unhide HEC1 _ bln
    have HB8 := hide B8n
    have HB7 := hide B7n
    have HB9 := hide B9n
    have Hr2 := hide r2n
    have Hbl := hide bln
    have HhC := hide hCn
    clear B8n B7n B9n r2n bln hCn
    refine wpHold_one (k := 10) (by kernel_rfl) rfl (fun K hK => ?_)
    (try simp only [List.getElem_toArray, List.getElem_cons_succ, List.getElem_cons_zero])
    go_simp
    refine hK.out _ _ (unhide HhC) ?_
    clear hK K
    (try simp only [Act.put, List.setIfInBounds_toArray, List.set_cons_zero, List.set_cons_succ])
    clear HhC k0 k1 k2 l0 l1 l2 bl B8 B7 B9 r2 r1
    obtain ⟨Y8, hY8⟩ : ∃ W, ((Y7.setCell ⟨b8, 0, none⟩ (.bool t1.s)).setCell ⟨b8, 1, none⟩ (.slice t1.a1 t1.n1 t1.c1)).setCell ⟨b8, 2, none⟩ (.slice t1.a2 t1.n2 t1.c2) = W := ⟨_, rfl⟩
    rw [hY8] at HB8 HB7 HB9 Hr2 Hbl ⊢
    have B8 := unhide HB8
    have B7 := unhide HB7
    have B9 := unhide HB9
    have r2 := unhide Hr2
    have bl := unhide Hbl
    clear hY8 HB8 HB7 HB9 Hr2 Hbl
    have ⟨l0, l1, l2⟩ := B9.free
    have ⟨k0, k1, k2⟩ := B9.cells _ (Below.refl _ _)
    have B7n := B7.other B9 n79 (.bool t2.s) (.slice t2.a1 t2.n1 t2.c1) (.slice t2.a2 t2.n2 t2.c2)
    have B8n := B8.other B9 n89 (.bool t2.s) (.slice t2.a1 t2.n1 t2.c1) (.slice t2.a2 t2.n2 t2.c2)
    have B9n := B9.set r2
    have bln := ((bl.setCell (p := ⟨b9, 0, none⟩) e9 (.bool t2.s)).setCell (p := ⟨b9, 1, none⟩) e9 (.slice t2.a1 t2.n1 t2.c1)).setCell (p := ⟨b9, 2, none⟩) e9 (.slice t2.a2 t2.n2 t2.c2)
    have hCn : (fun w' : World => w'.cell? ⟨g0, 0, none⟩ = some (.int .i64 x0) ∧ w'.cell? ⟨g0, 1, none⟩ = some (.int .i64 y0) ∧ w'.cell? ⟨g1, 0, none⟩ = some (.int .i64 x1) ∧ w'.cell? ⟨g1, 1, none⟩ = some (.int .i64 y1) ∧ w'.cell? ⟨g2, 0, none⟩ = some (.int .i64 x2) ∧ w'.cell? ⟨g2, 1, none⟩ = some (.int .i64 y2)) _ := unhide HEC1 _ bln
    have HB9 := hide B9n
    have HB7 := hide B7n
    have HB8 := hide B8n
    have Hbl := hide bln
    have HhC := hide hCn
    clear B9n B7n B8n bln hCn
    refine wpHold_one (k := 11) (by kernel_rfl) rfl (fun K hK => ?_)
    (try simp only [List.getElem_toArray, List.getElem_cons_succ, List.getElem_cons_zero])
    go_simp
    refine hK.out _ _ (unhide HhC) ?_
    clear hK K
    (try simp only [Act.put, List.setIfInBounds_toArray, List.set_cons_zero, List.set_cons_succ])
    clear HhC k0 k1 k2 l0 l1 l2 bl B9 B7 B8 r2
    obtain ⟨Y9, hY9⟩ : ∃ W, ((Y8.setCell ⟨b9, 0, none⟩ (.bool t2.s)).setCell ⟨b9, 1, none⟩ (.slice t2.a1 t2.n1 t2.c1)).setCell ⟨b9, 2, none⟩ (.slice t2.a2 t2.n2 t2.c2) = W := ⟨_, rfl⟩
    rw [hY9] at HB9 HB7 HB8 Hbl ⊢
    have B9 := unhide HB9
    have B7 := unhide HB7
    have B8 := unhide HB8
    have bl := unhide Hbl
    clear hY9 HB9 HB7 HB8 Hbl
    refine wpHold_done (by kernel_rfl) ?_ _
    have HB7 := hide B7
    have HB8 := hide B8
    have HB9 := hide B9
    have HBY := hide (below_step (unhide HBW) bl)
    have HTB : Hid (∀ W, Below Y9.heap.size Y9 W → Tab W) := fun W hW => tab_below htab (below_step (unhide HBY) hW)
    have HET : Hid (∀ W, Below Y9.heap.size Y9 W → ErrTy W) := fun W hW => hg.below (below_step (unhide HBY) hW)
    clear B7 B8 B9 bl n78 n79 n89 e7 e8 e9 HEC1 HBW htab hg hg0 hg1 hg2
    have HADD : Hid (∀ W v v' q q', RatIs W v q → RatIs W v' q' → RS q 50 → RS q' 50 → Calls Tryz.prog 8 #[v, v'] W fun e w' => ∃ v, e = .returned v ∧ RatIs w' v (q + q') ∧ Below W.heap.size W w') := fun W v v' q q' h h' r r' => addR_any v v' q q' W h h' 50 r r' (by rw [KKe]; omega)
    have HMUL : Hid (∀ W v v' q q', RatIs W v q → RatIs W v' q' → RS q 50 → RS q' 50 → Calls Tryz.prog 9 #[v, v'] W fun e w' => ∃ v, e = .returned v ∧ RatIs w' v (q * q') ∧ Below W.heap.size W w') := fun W v v' q q' h h' r r' => mulR_any v v' q q' W h h' 50 r r' (by rw [KKe]; omega)
    have HSUB : Hid (∀ W v v' q q', RatIs W v q → RatIs W v' q' → RS q 50 → RS q' 50 → Calls Tryz.prog 10 #[v, v'] W fun e w' => ∃ v, e = .returned v ∧ RatIs w' v (q - q') ∧ Below W.heap.size W w') := fun W v v' q q' h h' r r' => subR_any v v' q q' W h h' 50 r r' (by rw [KKe]; omega)
    have HLIK : Hid (∀ W v v' q, RatIs W v q → RatIs W v' q → RS q 50 → Below Y9.heap.size Y9 W → Calls Tryz.prog 7 #[v, v'] W fun e w' => e = .returned (.bool true) ∧ Below W.heap.size W w') := fun W v v' q h h' r hb => like_any v v' q W h h' 50 r (by rw [KKe]; omega) (unhide HTB W hb)
    have HALF : Hid (∀ W, Below Y9.heap.size Y9 W → Calls Tryz.prog 6 #[] W fun e w' => e = .returned (.bool true) ∧ Below W.heap.size W w') := fun W hb => half_any W (unhide HTB W hb)
    have R0 : RS q0 50 := (unhide RS0).mono (by omega)
    have R1 : RS q1 50 := (unhide RS1).mono (by omega)
    have R2 : RS q2 50 := (unhide RS2).mono (by omega)
    have A01 : RS (q0 + q1) 50 := ((unhide RS0).add (unhide RS1)).mono (by omega)
    have A12 : RS (q1 + q2) 50 := ((unhide RS1).add (unhide RS2)).mono (by omega)
    have M02 : RS (q0 * q2) 50 := ((unhide RS0).mul (unhide RS2)).mono (by omega)
    have M12 : RS (q1 * q2) 50 := ((unhide RS1).mul (unhide RS2)).mono (by omega)
    have M01 : RS (q0 * q1) 50 := ((unhide RS0).mul (unhide RS1)).mono (by omega)
    have S01 : RS (q0 - q1) 50 := by rw [Rat.sub_eq_add_neg]; exact ((unhide RS0).add (unhide RS1).neg).mono (by omega)
    have L1 : RS ((q0 + q1) * q2) 50 := (((unhide RS0).add (unhide RS1)).mul (unhide RS2)).mono (by omega)
    have L2 : RS (q0 + (q1 + q2)) 50 := ((unhide RS0).add ((unhide RS1).add (unhide RS2))).mono (by omega)
    have L3 : RS (q0 * (q1 * q2)) 50 := ((unhide RS0).mul ((unhide RS1).mul (unhide RS2))).mono (by omega)
    have E1 : q0 * q2 + q1 * q2 = (q0 + q1) * q2 := by grind
    have E2 : q0 + q1 + q2 = q0 + (q1 + q2) := by grind
    have E3 : q0 * q1 * q2 = q0 * (q1 * q2) := by grind
    have E4 : q0 - q1 + q1 = q0 := by grind
    go_wp2_with fail
    have HCC : Hid (∀ W, Below Y9.heap.size Y9 W → (fun w' : World => (w'.cell? ⟨b7, 0, none⟩ = some (.bool t0.s) ∧ w'.cell? ⟨b7, 1, none⟩ = some (.slice t0.a1 t0.n1 t0.c1) ∧ w'.cell? ⟨b7, 2, none⟩ = some (.slice t0.a2 t0.n2 t0.c2)) ∧ (w'.cell? ⟨b8, 0, none⟩ = some (.bool t1.s) ∧ w'.cell? ⟨b8, 1, none⟩ = some (.slice t1.a1 t1.n1 t1.c1) ∧ w'.cell? ⟨b8, 2, none⟩ = some (.slice t1.a2 t1.n2 t1.c2)) ∧ w'.cell? ⟨b9, 0, none⟩ = some (.bool t2.s) ∧ w'.cell? ⟨b9, 1, none⟩ = some (.slice t2.a1 t2.n1 t2.c1) ∧ w'.cell? ⟨b9, 2, none⟩ = some (.slice t2.a2 t2.n2 t2.c2)) W) := fun W hW => ⟨(unhide HB7).cells W hW, (unhide HB8).cells W hW, (unhide HB9).cells W hW⟩
    refine wp_region_hold (fun w' : World => (w'.cell? ⟨b7, 0, none⟩ = some (.bool t0.s) ∧ w'.cell? ⟨b7, 1, none⟩ = some (.slice t0.a1 t0.n1 t0.c1) ∧ w'.cell? ⟨b7, 2, none⟩ = some (.slice t0.a2 t0.n2 t0.c2)) ∧ (w'.cell? ⟨b8, 0, none⟩ = some (.bool t1.s) ∧ w'.cell? ⟨b8, 1, none⟩ = some (.slice t1.a1 t1.n1 t1.c1) ∧ w'.cell? ⟨b8, 2, none⟩ = some (.slice t1.a2 t1.n2 t1.c2)) ∧ w'.cell? ⟨b9, 0, none⟩ = some (.bool t2.s) ∧ w'.cell? ⟨b9, 1, none⟩ = some (.slice t2.a1 t2.n1 t2.c1) ∧ w'.cell? ⟨b9, 2, none⟩ = some (.slice t2.a2 t2.n2 t2.c2)) (by kernel_rfl) ?_
    have bd0 : Below Y9.heap.size Y9 Y9.drew := (Below.refl _ _).drew
    have hC0 : (fun w' : World => (w'.cell? ⟨b7, 0, none⟩ = some (.bool t0.s) ∧ w'.cell? ⟨b7, 1, none⟩ = some (.slice t0.a1 t0.n1 t0.c1) ∧ w'.cell? ⟨b7, 2, none⟩ = some (.slice t0.a2 t0.n2 t0.c2)) ∧ (w'.cell? ⟨b8, 0, none⟩ = some (.bool t1.s) ∧ w'.cell? ⟨b8, 1, none⟩ = some (.slice t1.a1 t1.n1 t1.c1) ∧ w'.cell? ⟨b8, 2, none⟩ = some (.slice t1.a2 t1.n2 t1.c2)) ∧ w'.cell? ⟨b9, 0, none⟩ = some (.bool t2.s) ∧ w'.cell? ⟨b9, 1, none⟩ = some (.slice t2.a1 t2.n1 t2.c1) ∧ w'.cell? ⟨b9, 2, none⟩ = some (.slice t2.a2 t2.n2 t2.c2)) Y9.drew := unhide HCC _ bd0
    refine wpHold_one (k := 0) (by kernel_rfl) rfl (fun K hK => ?_)
    (try simp only [List.getElem_toArray, List.getElem_cons_succ, List.getElem_cons_zero])
    go_simp
    refine (unhide HALF _ bd0).mono ?_
    rintro e xw_1 ⟨rfl, hb_1⟩
    have cc_1 := below_step bd0 hb_1
    have hC_1 : (fun w' : World => (w'.cell? ⟨b7, 0, none⟩ = some (.bool t0.s) ∧ w'.cell? ⟨b7, 1, none⟩ = some (.slice t0.a1 t0.n1 t0.c1) ∧ w'.cell? ⟨b7, 2, none⟩ = some (.slice t0.a2 t0.n2 t0.c2)) ∧ (w'.cell? ⟨b8, 0, none⟩ = some (.bool t1.s) ∧ w'.cell? ⟨b8, 1, none⟩ = some (.slice t1.a1 t1.n1 t1.c1) ∧ w'.cell? ⟨b8, 2, none⟩ = some (.slice t1.a2 t1.n2 t1.c2)) ∧ w'.cell? ⟨b9, 0, none⟩ = some (.bool t2.s) ∧ w'.cell? ⟨b9, 1, none⟩ = some (.slice t2.a1 t2.n1 t2.c1) ∧ w'.cell? ⟨b9, 2, none⟩ = some (.slice t2.a2 t2.n2 t2.c2)) xw_1 := unhide HCC _ cc_1
    refine hK.out _ _ hC_1 ?_
    clear hK K
    (try simp only [Act.put, List.setIfInBounds_toArray, List.set_cons_zero, List.set_cons_succ])
    refine wpHold_take (i := 1) (v := ?_) rfl (by kernel_rfl) (by kernel_rfl) (by kernel_rfl) (fun _ _ _ h => h) (Or.inl ⟨by rfl, ?_⟩) hC_1 ?_
    rotate_left
    · intro w hSw; clear hSw; go_simp; (try with_reducible rfl)
    (try simp only [List.getElem_toArray, List.getElem_cons_succ, List.getElem_cons_zero])
    (try simp only [Act.put, List.setIfInBounds_toArray, List.set_cons_zero, List.set_cons_succ])
    refine wpHold_take (i := 2) (v := ?_) rfl (by kernel_rfl) (by kernel_rfl) (by kernel_rfl) (fun _ _ _ h => h) (Or.inl ⟨by rfl, ?_⟩) hC_1 ?_
    rotate_left
    · intro w hSw; clear hSw; go_simp; (try with_reducible rfl)
    (try simp only [List.getElem_toArray, List.getElem_cons_succ, List.getElem_cons_zero])
    (try simp only [Act.put, List.setIfInBounds_toArray, List.set_cons_zero, List.set_cons_succ])
    refine wpHold_take (i := 3) (v := ?_) rfl (by kernel_rfl) (by kernel_rfl) (by kernel_rfl) (fun _ _ _ h => h) (Or.inl ⟨by rfl, ?_⟩) hC_1 ?_
    rotate_left
    · intro w hSw; (try dsimp only at hSw); obtain ⟨⟨z0, z1, z2⟩, ⟨z3, z4, z5⟩, z6, z7, z8⟩ := hSw; go_simp; (try with_reducible rfl)
    (try simp only [List.getElem_toArray, List.getElem_cons_succ, List.getElem_cons_zero])
    (try simp only [Act.put, List.setIfInBounds_toArray, List.set_cons_zero, List.set_cons_succ])
    refine wpHold_take (i := 4) (v := ?_) rfl (by kernel_rfl) (by kernel_rfl) (by kernel_rfl) (fun _ _ _ h => h) (Or.inl ⟨by rfl, ?_⟩) hC_1 ?_
    rotate_left
    · intro w hSw; (try dsimp only at hSw); obtain ⟨⟨z0, z1, z2⟩, ⟨z3, z4, z5⟩, z6, z7, z8⟩ := hSw; go_simp; (try with_reducible rfl)
    (try simp only [List.getElem_toArray, List.getElem_cons_succ, List.getElem_cons_zero])
    (try simp only [Act.put, List.setIfInBounds_toArray, List.set_cons_zero, List.set_cons_succ])
    refine wpHold_take (i := 6) (v := ?_) rfl (by kernel_rfl) (by kernel_rfl) (by kernel_rfl) (fun _ _ _ h => h) (Or.inl ⟨by rfl, ?_⟩) hC_1 ?_
    rotate_left
    · intro w hSw; (try dsimp only at hSw); obtain ⟨⟨z0, z1, z2⟩, ⟨z3, z4, z5⟩, z6, z7, z8⟩ := hSw; go_simp; (try with_reducible rfl)
    (try simp only [List.getElem_toArray, List.getElem_cons_succ, List.getElem_cons_zero])
    (try simp only [Act.put, List.setIfInBounds_toArray, List.set_cons_zero, List.set_cons_succ])
    refine wpHold_take (i := 8) (v := ?_) rfl (by kernel_rfl) (by kernel_rfl) (by kernel_rfl) (fun _ _ _ h => h) (Or.inl ⟨by rfl, ?_⟩) hC_1 ?_
    rotate_left
    · intro w hSw; (try dsimp only at hSw); obtain ⟨⟨z0, z1, z2⟩, ⟨z3, z4, z5⟩, z6, z7, z8⟩ := hSw; go_simp; (try with_reducible rfl)
    (try simp only [List.getElem_toArray, List.getElem_cons_succ, List.getElem_cons_zero])
    (try simp only [Act.put, List.setIfInBounds_toArray, List.set_cons_zero, List.set_cons_succ])
    refine wpHold_take (i := 9) (v := ?_) rfl (by kernel_rfl) (by kernel_rfl) (by kernel_rfl) (fun _ _ _ h => h) (Or.inl ⟨by rfl, ?_⟩) hC_1 ?_
    rotate_left
    · intro w hSw; (try dsimp only at hSw); obtain ⟨⟨z0, z1, z2⟩, ⟨z3, z4, z5⟩, z6, z7, z8⟩ := hSw; go_simp; (try with_reducible rfl)
    (try simp only [List.getElem_toArray, List.getElem_cons_succ, List.getElem_cons_zero])
    (try simp only [Act.put, List.setIfInBounds_toArray, List.set_cons_zero, List.set_cons_succ])
    refine wpHold_take (i := 11) (v := ?_) rfl (by kernel_rfl) (by kernel_rfl) (by kernel_rfl) (fun _ _ _ h => h) (Or.inl ⟨by rfl, ?_⟩) hC_1 ?_
    rotate_left
    · intro w hSw; (try dsimp only at hSw); obtain ⟨⟨z0, z1, z2⟩, ⟨z3, z4, z5⟩, z6, z7, z8⟩ := hSw; go_simp; (try with_reducible rfl)
    (try simp only [List.getElem_toArray, List.getElem_cons_succ, List.getElem_cons_zero])
    (try simp only [Act.put, List.setIfInBounds_toArray, List.set_cons_zero, List.set_cons_succ])
    refine wpHold_take (i := 12) (v := ?_) rfl (by kernel_rfl) (by kernel_rfl) (by kernel_rfl) (fun _ _ _ h => h) (Or.inl ⟨by rfl, ?_⟩) hC_1 ?_
    rotate_left
    · intro w hSw; (try dsimp only at hSw); obtain ⟨⟨z0, z1, z2⟩, ⟨z3, z4, z5⟩, z6, z7, z8⟩ := hSw; go_simp; (try with_reducible rfl)
    (try simp only [List.getElem_toArray, List.getElem_cons_succ, List.getElem_cons_zero])
    (try simp only [Act.put, List.setIfInBounds_toArray, List.set_cons_zero, List.set_cons_succ])
    refine wpHold_one (k := 5) (by kernel_rfl) rfl (fun K hK => ?_)
    (try simp only [List.getElem_toArray, List.getElem_cons_succ, List.getElem_cons_zero])
    go_simp
    refine (unhide HADD _ _ _ _ _ (((unhide HB7).2).below cc_1) (((unhide HB8).2).below cc_1) R0 R1).mono ?_
    rintro e xw_2 ⟨xv_2, rfl, hv_2, hb_2⟩
    have cc_2 := below_step cc_1 hb_2
    have hC_2 : (fun w' : World => (w'.cell? ⟨b7, 0, none⟩ = some (.bool t0.s) ∧ w'.cell? ⟨b7, 1, none⟩ = some (.slice t0.a1 t0.n1 t0.c1) ∧ w'.cell? ⟨b7, 2, none⟩ = some (.slice t0.a2 t0.n2 t0.c2)) ∧ (w'.cell? ⟨b8, 0, none⟩ = some (.bool t1.s) ∧ w'.cell? ⟨b8, 1, none⟩ = some (.slice t1.a1 t1.n1 t1.c1) ∧ w'.cell? ⟨b8, 2, none⟩ = some (.slice t1.a2 t1.n2 t1.c2)) ∧ w'.cell? ⟨b9, 0, none⟩ = some (.bool t2.s) ∧ w'.cell? ⟨b9, 1, none⟩ = some (.slice t2.a1 t2.n1 t2.c1) ∧ w'.cell? ⟨b9, 2, none⟩ = some (.slice t2.a2 t2.n2 t2.c2)) xw_2 := unhide HCC _ cc_2
    refine hK.out _ _ hC_2 ?_
    clear hK K
    (try simp only [Act.put, List.setIfInBounds_toArray, List.set_cons_zero, List.set_cons_succ])
    refine wpHold_one (k := 7) (by kernel_rfl) rfl (fun K hK => ?_)
    (try simp only [List.getElem_toArray, List.getElem_cons_succ, List.getElem_cons_zero])
    go_simp
    refine (unhide HMUL _ _ _ _ _ hv_2 (((unhide HB9).2).below cc_2) A01 R2).mono ?_
    rintro e xw_3 ⟨xv_3, rfl, hv_3, hb_3⟩
    have cc_3 := below_step cc_2 hb_3
    have hC_3 : (fun w' : World => (w'.cell? ⟨b7, 0, none⟩ = some (.bool t0.s) ∧ w'.cell? ⟨b7, 1, none⟩ = some (.slice t0.a1 t0.n1 t0.c1) ∧ w'.cell? ⟨b7, 2, none⟩ = some (.slice t0.a2 t0.n2 t0.c2)) ∧ (w'.cell? ⟨b8, 0, none⟩ = some (.bool t1.s) ∧ w'.cell? ⟨b8, 1, none⟩ = some (.slice t1.a1 t1.n1 t1.c1) ∧ w'.cell? ⟨b8, 2, none⟩ = some (.slice t1.a2 t1.n2 t1.c2)) ∧ w'.cell? ⟨b9, 0, none⟩ = some (.bool t2.s) ∧ w'.cell? ⟨b9, 1, none⟩ = some (.slice t2.a1 t2.n1 t2.c1) ∧ w'.cell? ⟨b9, 2, none⟩ = some (.slice t2.a2 t2.n2 t2.c2)) xw_3 := unhide HCC _ cc_3
    refine hK.out _ _ hC_3 ?_
    clear hK K
    (try simp only [Act.put, List.setIfInBounds_toArray, List.set_cons_zero, List.set_cons_succ])
    refine wpHold_one (k := 10) (by kernel_rfl) rfl (fun K hK => ?_)
    (try simp only [List.getElem_toArray, List.getElem_cons_succ, List.getElem_cons_zero])
    go_simp
    refine (unhide HMUL _ _ _ _ _ (((unhide HB7).2).below cc_3) (((unhide HB9).2).below cc_3) R0 R2).mono ?_
    rintro e xw_4 ⟨xv_4, rfl, hv_4, hb_4⟩
    have cc_4 := below_step cc_3 hb_4
    have hC_4 : (fun w' : World => (w'.cell? ⟨b7, 0, none⟩ = some (.bool t0.s) ∧ w'.cell? ⟨b7, 1, none⟩ = some (.slice t0.a1 t0.n1 t0.c1) ∧ w'.cell? ⟨b7, 2, none⟩ = some (.slice t0.a2 t0.n2 t0.c2)) ∧ (w'.cell? ⟨b8, 0, none⟩ = some (.bool t1.s) ∧ w'.cell? ⟨b8, 1, none⟩ = some (.slice t1.a1 t1.n1 t1.c1) ∧ w'.cell? ⟨b8, 2, none⟩ = some (.slice t1.a2 t1.n2 t1.c2)) ∧ w'.cell? ⟨b9, 0, none⟩ = some (.bool t2.s) ∧ w'.cell? ⟨b9, 1, none⟩ = some (.slice t2.a1 t2.n1 t2.c1) ∧ w'.cell? ⟨b9, 2, none⟩ = some (.slice t2.a2 t2.n2 t2.c2)) xw_4 := unhide HCC _ cc_4
    refine hK.out _ _ hC_4 ?_
    clear hK K
    (try simp only [Act.put, List.setIfInBounds_toArray, List.set_cons_zero, List.set_cons_succ])
    refine wpHold_one (k := 13) (by kernel_rfl) rfl (fun K hK => ?_)
    (try simp only [List.getElem_toArray, List.getElem_cons_succ, List.getElem_cons_zero])
    go_simp
    refine (unhide HMUL _ _ _ _ _ (((unhide HB8).2).below cc_4) (((unhide HB9).2).below cc_4) R1 R2).mono ?_
    rintro e xw_5 ⟨xv_5, rfl, hv_5, hb_5⟩
    have cc_5 := below_step cc_4 hb_5
    have hC_5 : (fun w' : World => (w'.cell? ⟨b7, 0, none⟩ = some (.bool t0.s) ∧ w'.cell? ⟨b7, 1, none⟩ = some (.slice t0.a1 t0.n1 t0.c1) ∧ w'.cell? ⟨b7, 2, none⟩ = some (.slice t0.a2 t0.n2 t0.c2)) ∧ (w'.cell? ⟨b8, 0, none⟩ = some (.bool t1.s) ∧ w'.cell? ⟨b8, 1, none⟩ = some (.slice t1.a1 t1.n1 t1.c1) ∧ w'.cell? ⟨b8, 2, none⟩ = some (.slice t1.a2 t1.n2 t1.c2)) ∧ w'.cell? ⟨b9, 0, none⟩ = some (.bool t2.s) ∧ w'.cell? ⟨b9, 1, none⟩ = some (.slice t2.a1 t2.n1 t2.c1) ∧ w'.cell? ⟨b9, 2, none⟩ = some (.slice t2.a2 t2.n2 t2.c2)) xw_5 := unhide HCC _ cc_5
    refine hK.out _ _ hC_5 ?_
    clear hK K
    (try simp only [Act.put, List.setIfInBounds_toArray, List.set_cons_zero, List.set_cons_succ])
    refine wpHold_one (k := 14) (by kernel_rfl) rfl (fun K hK => ?_)
    (try simp only [List.getElem_toArray, List.getElem_cons_succ, List.getElem_cons_zero])
    go_simp
    refine (unhide HADD _ _ _ _ _ (hv_4.below hb_5) hv_5 M02 M12).mono ?_
    rintro e xw_6 ⟨xv_6, rfl, hv_6, hb_6⟩
    have cc_6 := below_step cc_5 hb_6
    have hC_6 : (fun w' : World => (w'.cell? ⟨b7, 0, none⟩ = some (.bool t0.s) ∧ w'.cell? ⟨b7, 1, none⟩ = some (.slice t0.a1 t0.n1 t0.c1) ∧ w'.cell? ⟨b7, 2, none⟩ = some (.slice t0.a2 t0.n2 t0.c2)) ∧ (w'.cell? ⟨b8, 0, none⟩ = some (.bool t1.s) ∧ w'.cell? ⟨b8, 1, none⟩ = some (.slice t1.a1 t1.n1 t1.c1) ∧ w'.cell? ⟨b8, 2, none⟩ = some (.slice t1.a2 t1.n2 t1.c2)) ∧ w'.cell? ⟨b9, 0, none⟩ = some (.bool t2.s) ∧ w'.cell? ⟨b9, 1, none⟩ = some (.slice t2.a1 t2.n1 t2.c1) ∧ w'.cell? ⟨b9, 2, none⟩ = some (.slice t2.a2 t2.n2 t2.c2)) xw_6 := unhide HCC _ cc_6
    refine hK.out _ _ hC_6 ?_
    clear hK K
    (try simp only [Act.put, List.setIfInBounds_toArray, List.set_cons_zero, List.set_cons_succ])
    refine wpHold_one (k := 15) (by kernel_rfl) rfl (fun K hK => ?_)
    (try simp only [List.getElem_toArray, List.getElem_cons_succ, List.getElem_cons_zero])
    go_simp
    refine (unhide HLIK _ _ _ _ (((hv_3.below hb_4).below hb_5).below hb_6) (by rw [← E1]; exact hv_6) L1 cc_6).mono ?_
    rintro e xw_7 ⟨rfl, hb_7⟩
    have cc_7 := below_step cc_6 hb_7
    have hC_7 : (fun w' : World => (w'.cell? ⟨b7, 0, none⟩ = some (.bool t0.s) ∧ w'.cell? ⟨b7, 1, none⟩ = some (.slice t0.a1 t0.n1 t0.c1) ∧ w'.cell? ⟨b7, 2, none⟩ = some (.slice t0.a2 t0.n2 t0.c2)) ∧ (w'.cell? ⟨b8, 0, none⟩ = some (.bool t1.s) ∧ w'.cell? ⟨b8, 1, none⟩ = some (.slice t1.a1 t1.n1 t1.c1) ∧ w'.cell? ⟨b8, 2, none⟩ = some (.slice t1.a2 t1.n2 t1.c2)) ∧ w'.cell? ⟨b9, 0, none⟩ = some (.bool t2.s) ∧ w'.cell? ⟨b9, 1, none⟩ = some (.slice t2.a1 t2.n1 t2.c1) ∧ w'.cell? ⟨b9, 2, none⟩ = some (.slice t2.a2 t2.n2 t2.c2)) xw_7 := unhide HCC _ cc_7
    refine hK.out _ _ hC_7 ?_
    clear hK K
    (try simp only [Act.put, List.setIfInBounds_toArray, List.set_cons_zero, List.set_cons_succ])
    refine wpHold_take (i := 16) (v := ?_) rfl (by kernel_rfl) (by kernel_rfl) (by kernel_rfl) (fun _ _ _ h => h) (Or.inl ⟨by rfl, ?_⟩) hC_7 ?_
    rotate_left
    · intro w hSw; clear hSw; go_simp; (try with_reducible rfl)
    (try simp only [List.getElem_toArray, List.getElem_cons_succ, List.getElem_cons_zero])
    (try simp only [Act.put, List.setIfInBounds_toArray, List.set_cons_zero, List.set_cons_succ])
    refine wpHold_take (i := 17) (v := ?_) rfl (by kernel_rfl) (by kernel_rfl) (by kernel_rfl) (fun _ _ _ h => h) (Or.inl ⟨by rfl, ?_⟩) hC_7 ?_
    rotate_left
    · intro w hSw; clear hSw; go_simp; (try with_reducible rfl)
    (try simp only [List.getElem_toArray, List.getElem_cons_succ, List.getElem_cons_zero])
    (try simp only [Act.put, List.setIfInBounds_toArray, List.set_cons_zero, List.set_cons_succ])
    refine wpHold_take (i := 18) (v := ?_) rfl (by kernel_rfl) (by kernel_rfl) (by kernel_rfl) (fun _ _ _ h => h) (Or.inl ⟨by rfl, ?_⟩) hC_7 ?_
    rotate_left
    · intro w hSw; clear hSw; go_simp; (try with_reducible rfl)
    (try simp only [List.getElem_toArray, List.getElem_cons_succ, List.getElem_cons_zero])
    (try simp only [Act.put, List.setIfInBounds_toArray, List.set_cons_zero, List.set_cons_succ])
    refine wpHold_take (i := 19) (v := ?_) rfl (by kernel_rfl) (by kernel_rfl) (by kernel_rfl) (fun _ _ _ h => h) (Or.inl ⟨by rfl, ?_⟩) hC_7 ?_
    rotate_left
    · intro w hSw; (try dsimp only at hSw); obtain ⟨⟨z0, z1, z2⟩, ⟨z3, z4, z5⟩, z6, z7, z8⟩ := hSw; go_simp; (try with_reducible rfl)
    (try simp only [List.getElem_toArray, List.getElem_cons_succ, List.getElem_cons_zero])
    (try simp only [Act.put, List.setIfInBounds_toArray, List.set_cons_zero, List.set_cons_succ])
    refine wpHold_take (i := 20) (v := ?_) rfl (by kernel_rfl) (by kernel_rfl) (by kernel_rfl) (fun _ _ _ h => h) (Or.inl ⟨by rfl, ?_⟩) hC_7 ?_
    rotate_left
    · intro w hSw; (try dsimp only at hSw); obtain ⟨⟨z0, z1, z2⟩, ⟨z3, z4, z5⟩, z6, z7, z8⟩ := hSw; go_simp; (try with_reducible rfl)
    (try simp only [List.getElem_toArray, List.getElem_cons_succ, List.getElem_cons_zero])
    (try simp only [Act.put, List.setIfInBounds_toArray, List.set_cons_zero, List.set_cons_succ])
    refine wpHold_take (i := 21) (v := ?_) rfl (by kernel_rfl) (by kernel_rfl) (by kernel_rfl) (fun _ _ _ h => h) (Or.inl ⟨by rfl, ?_⟩) hC_7 ?_
    rotate_left
    · intro w hSw; (try dsimp only at hSw); obtain ⟨⟨z0, z1, z2⟩, ⟨z3, z4, z5⟩, z6, z7, z8⟩ := hSw; go_simp; (try with_reducible rfl)
    (try simp only [List.getElem_toArray, List.getElem_cons_succ, List.getElem_cons_zero])
    (try simp only [Act.put, List.setIfInBounds_toArray, List.set_cons_zero, List.set_cons_succ])
    refine wpHold_take (i := 24) (v := ?_) rfl (by kernel_rfl) (by kernel_rfl) (by kernel_rfl) (fun _ _ _ h => h) (Or.inl ⟨by rfl, ?_⟩) hC_7 ?_
    rotate_left
    · intro w hSw; (try dsimp only at hSw); obtain ⟨⟨z0, z1, z2⟩, ⟨z3, z4, z5⟩, z6, z7, z8⟩ := hSw; go_simp; (try with_reducible rfl)
    (try simp only [List.getElem_toArray, List.getElem_cons_succ, List.getElem_cons_zero])
    (try simp only [Act.put, List.setIfInBounds_toArray, List.set_cons_zero, List.set_cons_succ])
    refine wpHold_take (i := 25) (v := ?_) rfl (by kernel_rfl) (by kernel_rfl) (by kernel_rfl) (fun _ _ _ h => h) (Or.inl ⟨by rfl, ?_⟩) hC_7 ?_
    rotate_left
    · intro w hSw; (try dsimp only at hSw); obtain ⟨⟨z0, z1, z2⟩, ⟨z3, z4, z5⟩, z6, z7, z8⟩ := hSw; go_simp; (try with_reducible rfl)
    (try simp only [List.getElem_toArray, List.getElem_cons_succ, List.getElem_cons_zero])
    (try simp only [Act.put, List.setIfInBounds_toArray, List.set_cons_zero, List.set_cons_succ])
    refine wpHold_take (i := 27) (v := ?_) rfl (by kernel_rfl) (by kernel_rfl) (by kernel_rfl) (fun _ _ _ h => h) (Or.inl ⟨by rfl, ?_⟩) hC_7 ?_
    rotate_left
    · intro w hSw; (try dsimp only at hSw); obtain ⟨⟨z0, z1, z2⟩, ⟨z3, z4, z5⟩, z6, z7, z8⟩ := hSw; go_simp; (try with_reducible rfl)
    (try simp only [List.getElem_toArray, List.getElem_cons_succ, List.getElem_cons_zero])
    (try simp only [Act.put, List.setIfInBounds_toArray, List.set_cons_zero, List.set_cons_succ])
    refine wpHold_one (k := 22) (by kernel_rfl) rfl (fun K hK => ?_)
    (try simp only [List.getElem_toArray, List.getElem_cons_succ, List.getElem_cons_zero])
    go_simp
    refine (unhide HADD _ _ _ _ _ (((unhide HB8).2).below cc_7) (((unhide HB9).2).below cc_7) R1 R2).mono ?_
    rintro e xw_8 ⟨xv_8, rfl, hv_8, hb_8⟩
    have cc_8 := below_step cc_7 hb_8
    have hC_8 : (fun w' : World => (w'.cell? ⟨b7, 0, none⟩ = some (.bool t0.s) ∧ w'.cell? ⟨b7, 1, none⟩ = some (.slice t0.a1 t0.n1 t0.c1) ∧ w'.cell? ⟨b7, 2, none⟩ = some (.slice t0.a2 t0.n2 t0.c2)) ∧ (w'.cell? ⟨b8, 0, none⟩ = some (.bool t1.s) ∧ w'.cell? ⟨b8, 1, none⟩ = some (.slice t1.a1 t1.n1 t1.c1) ∧ w'.cell? ⟨b8, 2, none⟩ = some (.slice t1.a2 t1.n2 t1.c2)) ∧ w'.cell? ⟨b9, 0, none⟩ = some (.bool t2.s) ∧ w'.cell? ⟨b9, 1, none⟩ = some (.slice t2.a1 t2.n1 t2.c1) ∧ w'.cell? ⟨b9, 2, none⟩ = some (.slice t2.a2 t2.n2 t2.c2)) xw_8 := unhide HCC _ cc_8
    refine hK.out _ _ hC_8 ?_
    clear hK K
    (try simp only [Act.put, List.setIfInBounds_toArray, List.set_cons_zero, List.set_cons_succ])
    refine wpHold_one (k := 23) (by kernel_rfl) rfl (fun K hK => ?_)
    (try simp only [List.getElem_toArray, List.getElem_cons_succ, List.getElem_cons_zero])
    go_simp
    refine (unhide HADD _ _ _ _ _ (((unhide HB7).2).below cc_8) hv_8 R0 A12).mono ?_
    rintro e xw_9 ⟨xv_9, rfl, hv_9, hb_9⟩
    have cc_9 := below_step cc_8 hb_9
    have hC_9 : (fun w' : World => (w'.cell? ⟨b7, 0, none⟩ = some (.bool t0.s) ∧ w'.cell? ⟨b7, 1, none⟩ = some (.slice t0.a1 t0.n1 t0.c1) ∧ w'.cell? ⟨b7, 2, none⟩ = some (.slice t0.a2 t0.n2 t0.c2)) ∧ (w'.cell? ⟨b8, 0, none⟩ = some (.bool t1.s) ∧ w'.cell? ⟨b8, 1, none⟩ = some (.slice t1.a1 t1.n1 t1.c1) ∧ w'.cell? ⟨b8, 2, none⟩ = some (.slice t1.a2 t1.n2 t1.c2)) ∧ w'.cell? ⟨b9, 0, none⟩ = some (.bool t2.s) ∧ w'.cell? ⟨b9, 1, none⟩ = some (.slice t2.a1 t2.n1 t2.c1) ∧ w'.cell? ⟨b9, 2, none⟩ = some (.slice t2.a2 t2.n2 t2.c2)) xw_9 := unhide HCC _ cc_9
    refine hK.out _ _ hC_9 ?_
    clear hK K
    (try simp only [Act.put, List.setIfInBounds_toArray, List.set_cons_zero, List.set_cons_succ])
    refine wpHold_one (k := 26) (by kernel_rfl) rfl (fun K hK => ?_)
    (try simp only [List.getElem_toArray, List.getElem_cons_succ, List.getElem_cons_zero])
    go_simp
    refine (unhide HADD _ _ _ _ _ (((unhide HB7).2).below cc_9) (((unhide HB8).2).below cc_9) R0 R1).mono ?_
    rintro e xw_10 ⟨xv_10, rfl, hv_10, hb_10⟩
    have cc_10 := below_step cc_9 hb_10
    have hC_10 : (fun w' : World => (w'.cell? ⟨b7, 0, none⟩ = some (.bool t0.s) ∧ w'.cell? ⟨b7, 1, none⟩ = some (.slice t0.a1 t0.n1 t0.c1) ∧ w'.cell? ⟨b7, 2, none⟩ = some (.slice t0.a2 t0.n2 t0.c2)) ∧ (w'.cell? ⟨b8, 0, none⟩ = some (.bool t1.s) ∧ w'.cell? ⟨b8, 1, none⟩ = some (.slice t1.a1 t1.n1 t1.c1) ∧ w'.cell? ⟨b8, 2, none⟩ = some (.slice t1.a2 t1.n2 t1.c2)) ∧ w'.cell? ⟨b9, 0, none⟩ = some (.bool t2.s) ∧ w'.cell? ⟨b9, 1, none⟩ = some (.slice t2.a1 t2.n1 t2.c1) ∧ w'.cell? ⟨b9, 2, none⟩ = some (.slice t2.a2 t2.n2 t2.c2)) xw_10 := unhide HCC _ cc_10
    refine hK.out _ _ hC_10 ?_
    clear hK K
    (try simp only [Act.put, List.setIfInBounds_toArray, List.set_cons_zero, List.set_cons_succ])
    refine wpHold_one (k := 28) (by kernel_rfl) rfl (fun K hK => ?_)
    (try simp only [List.getElem_toArray, List.getElem_cons_succ, List.getElem_cons_zero])
    go_simp
    refine (unhide HADD _ _ _ _ _ hv_10 (((unhide HB9).2).below cc_10) A01 R2).mono ?_
    rintro e xw_11 ⟨xv_11, rfl, hv_11, hb_11⟩
    have cc_11 := below_step cc_10 hb_11
    have hC_11 : (fun w' : World => (w'.cell? ⟨b7, 0, none⟩ = some (.bool t0.s) ∧ w'.cell? ⟨b7, 1, none⟩ = some (.slice t0.a1 t0.n1 t0.c1) ∧ w'.cell? ⟨b7, 2, none⟩ = some (.slice t0.a2 t0.n2 t0.c2)) ∧ (w'.cell? ⟨b8, 0, none⟩ = some (.bool t1.s) ∧ w'.cell? ⟨b8, 1, none⟩ = some (.slice t1.a1 t1.n1 t1.c1) ∧ w'.cell? ⟨b8, 2, none⟩ = some (.slice t1.a2 t1.n2 t1.c2)) ∧ w'.cell? ⟨b9, 0, none⟩ = some (.bool t2.s) ∧ w'.cell? ⟨b9, 1, none⟩ = some (.slice t2.a1 t2.n1 t2.c1) ∧ w'.cell? ⟨b9, 2, none⟩ = some (.slice t2.a2 t2.n2 t2.c2)) xw_11 := unhide HCC _ cc_11
    refine hK.out _ _ hC_11 ?_
    clear hK K
    (try simp only [Act.put, List.setIfInBounds_toArray, List.set_cons_zero, List.set_cons_succ])
    refine wpHold_one (k := 29) (by kernel_rfl) rfl (fun K hK => ?_)
    (try simp only [List.getElem_toArray, List.getElem_cons_succ, List.getElem_cons_zero])
    go_simp
    refine (unhide HLIK _ _ _ _ ((hv_9.below hb_10).below hb_11) (by rw [← E2]; exact hv_11) L2 cc_11).mono ?_
    rintro e xw_12 ⟨rfl, hb_12⟩
    have cc_12 := below_step cc_11 hb_12
    have hC_12 : (fun w' : World => (w'.cell? ⟨b7, 0, none⟩ = some (.bool t0.s) ∧ w'.cell? ⟨b7, 1, none⟩ = some (.slice t0.a1 t0.n1 t0.c1) ∧ w'.cell? ⟨b7, 2, none⟩ = some (.slice t0.a2 t0.n2 t0.c2)) ∧ (w'.cell? ⟨b8, 0, none⟩ = some (.bool t1.s) ∧ w'.cell? ⟨b8, 1, none⟩ = some (.slice t1.a1 t1.n1 t1.c1) ∧ w'.cell? ⟨b8, 2, none⟩ = some (.slice t1.a2 t1.n2 t1.c2)) ∧ w'.cell? ⟨b9, 0, none⟩ = some (.bool t2.s) ∧ w'.cell? ⟨b9, 1, none⟩ = some (.slice t2.a1 t2.n1 t2.c1) ∧ w'.cell? ⟨b9, 2, none⟩ = some (.slice t2.a2 t2.n2 t2.c2)) xw_12 := unhide HCC _ cc_12
    refine hK.out _ _ hC_12 ?_
    clear hK K
    (try simp only [Act.put, List.setIfInBounds_toArray, List.set_cons_zero, List.set_cons_succ])
    refine wpHold_take (i := 30) (v := ?_) rfl (by kernel_rfl) (by kernel_rfl) (by kernel_rfl) (fun _ _ _ h => h) (Or.inl ⟨by rfl, ?_⟩) hC_12 ?_
    rotate_left
    · intro w hSw; clear hSw; go_simp; (try with_reducible rfl)
    (try simp only [List.getElem_toArray, List.getElem_cons_succ, List.getElem_cons_zero])
    (try simp only [Act.put, List.setIfInBounds_toArray, List.set_cons_zero, List.set_cons_succ])
    refine wpHold_take (i := 31) (v := ?_) rfl (by kernel_rfl) (by kernel_rfl) (by kernel_rfl) (fun _ _ _ h => h) (Or.inl ⟨by rfl, ?_⟩) hC_12 ?_
    rotate_left
    · intro w hSw; clear hSw; go_simp; (try with_reducible rfl)
    (try simp only [List.getElem_toArray, List.getElem_cons_succ, List.getElem_cons_zero])
    (try simp only [Act.put, List.setIfInBounds_toArray, List.set_cons_zero, List.set_cons_succ])
    refine wpHold_take (i := 32) (v := ?_) rfl (by kernel_rfl) (by kernel_rfl) (by kernel_rfl) (fun _ _ _ h => h) (Or.inl ⟨by rfl, ?_⟩) hC_12 ?_
    rotate_left
    · intro w hSw; clear hSw; go_simp; (try with_reducible rfl)
    (try simp only [List.getElem_toArray, List.getElem_cons_succ, List.getElem_cons_zero])
    (try simp only [Act.put, List.setIfInBounds_toArray, List.set_cons_zero, List.set_cons_succ])
    refine wpHold_take (i := 33) (v := ?_) rfl (by kernel_rfl) (by kernel_rfl) (by kernel_rfl) (fun _ _ _ h => h) (Or.inl ⟨by rfl, ?_⟩) hC_12 ?_
    rotate_left
    · intro w hSw; (try dsimp only at hSw); obtain ⟨⟨z0, z1, z2⟩, ⟨z3, z4, z5⟩, z6, z7, z8⟩ := hSw; go_simp; (try with_reducible rfl)
    (try simp only [List.getElem_toArray, List.getElem_cons_succ, List.getElem_cons_zero])
    (try simp only [Act.put, List.setIfInBounds_toArray, List.set_cons_zero, List.set_cons_succ])
    refine wpHold_take (i := 34) (v := ?_) rfl (by kernel_rfl) (by kernel_rfl) (by kernel_rfl) (fun _ _ _ h => h) (Or.inl ⟨by rfl, ?_⟩) hC_12 ?_
    rotate_left
    · intro w hSw; (try dsimp only at hSw); obtain ⟨⟨z0, z1, z2⟩, ⟨z3, z4, z5⟩, z6, z7, z8⟩ := hSw; go_simp; (try with_reducible rfl)
    (try simp only [List.getElem_toArray, List.getElem_cons_succ, List.getElem_cons_zero])
    (try simp only [Act.put, List.setIfInBounds_toArray, List.set_cons_zero, List.set_cons_succ])
    refine wpHold_take (i := 35) (v := ?_) rfl (by kernel_rfl) (by kernel_rfl) (by kernel_rfl) (fun _ _ _ h => h) (Or.inl ⟨by rfl, ?_⟩) hC_12 ?_
    rotate_left
    · intro w hSw; (try dsimp only at hSw); obtain ⟨⟨z0, z1, z2⟩, ⟨z3, z4, z5⟩, z6, z7, z8⟩ := hSw; go_simp; (try with_reducible rfl)
    (try simp only [List.getElem_toArray, List.getElem_cons_succ, List.getElem_cons_zero])
    (try simp only [Act.put, List.setIfInBounds_toArray, List.set_cons_zero, List.set_cons_succ])
    refine wpHold_take (i := 38) (v := ?_) rfl (by kernel_rfl) (by kernel_rfl) (by kernel_rfl) (fun _ _ _ h => h) (Or.inl ⟨by rfl, ?_⟩) hC_12 ?_
    rotate_left
    · intro w hSw; (try dsimp only at hSw); obtain ⟨⟨z0, z1, z2⟩, ⟨z3, z4, z5⟩, z6, z7, z8⟩ := hSw; go_simp; (try with_reducible rfl)
    (try simp only [List.getElem_toArray, List.getElem_cons_succ, List.getElem_cons_zero])
    (try simp only [Act.put, List.setIfInBounds_toArray, List.set_cons_zero, List.set_cons_succ])
    refine wpHold_take (i := 39) (v := ?_) rfl (by kernel_rfl) (by kernel_rfl) (by kernel_rfl) (fun _ _ _ h => h) (Or.inl ⟨by rfl, ?_⟩) hC_12 ?_
    rotate_left
    · intro w hSw; (try dsimp only at hSw); obtain ⟨⟨z0, z1, z2⟩, ⟨z3, z4, z5⟩, z6, z7, z8⟩ := hSw; go_simp; (try with_reducible rfl)
    (try simp only [List.getElem_toArray, List.getElem_cons_succ, List.getElem_cons_zero])
    (try simp only [Act.put, List.setIfInBounds_toArray, List.set_cons_zero, List.set_cons_succ])
    refine wpHold_take (i := 41) (v := ?_) rfl (by kernel_rfl) (by kernel_rfl) (by kernel_rfl) (fun _ _ _ h => h) (Or.inl ⟨by rfl, ?_⟩) hC_12 ?_
    rotate_left
    · intro w hSw; (try dsimp only at hSw); obtain ⟨⟨z0, z1, z2⟩, ⟨z3, z4, z5⟩, z6, z7, z8⟩ := hSw; go_simp; (try with_reducible rfl)
    (try simp only [List.getElem_toArray, List.getElem_cons_succ, List.getElem_cons_zero])
    (try simp only [Act.put, List.setIfInBounds_toArray, List.set_cons_zero, List.set_cons_succ])
    refine wpHold_one (k := 36) (by kernel_rfl) rfl (fun K hK => ?_)
    (try simp only [List.getElem_toArray, List.getElem_cons_succ, List.getElem_cons_zero])
    go_simp
    refine (unhide HMUL _ _ _ _ _ (((unhide HB8).2).below cc_12) (((unhide HB9).2).below cc_12) R1 R2).mono ?_
    rintro e xw_13 ⟨xv_13, rfl, hv_13, hb_13⟩
    have cc_13 := below_step cc_12 hb_13
    have hC_13 : (fun w' : World => (w'.cell? ⟨b7, 0, none⟩ = some (.bool t0.s) ∧ w'.cell? ⟨b7, 1, none⟩ = some (.slice t0.a1 t0.n1 t0.c1) ∧ w'.cell? ⟨b7, 2, none⟩ = some (.slice t0.a2 t0.n2 t0.c2)) ∧ (w'.cell? ⟨b8, 0, none⟩ = some (.bool t1.s) ∧ w'.cell? ⟨b8, 1, none⟩ = some (.slice t1.a1 t1.n1 t1.c1) ∧ w'.cell? ⟨b8, 2, none⟩ = some (.slice t1.a2 t1.n2 t1.c2)) ∧ w'.cell? ⟨b9, 0, none⟩ = some (.bool t2.s) ∧ w'.cell? ⟨b9, 1, none⟩ = some (.slice t2.a1 t2.n1 t2.c1) ∧ w'.cell? ⟨b9, 2, none⟩ = some (.slice t2.a2 t2.n2 t2.c2)) xw_13 := unhide HCC _ cc_13
    refine hK.out _ _ hC_13 ?_
    clear hK K
    (try simp only [Act.put, List.setIfInBounds_toArray, List.set_cons_zero, List.set_cons_succ])
    refine wpHold_one (k := 37) (by kernel_rfl) rfl (fun K hK => ?_)
    (try simp only [List.getElem_toArray, List.getElem_cons_succ, List.getElem_cons_zero])
    go_simp
    refine (unhide HMUL _ _ _ _ _ (((unhide HB7).2).below cc_13) hv_13 R0 M12).mono ?_
    rintro e xw_14 ⟨xv_14, rfl, hv_14, hb_14⟩
    have cc_14 := below_step cc_13 hb_14
    have hC_14 : (fun w' : World => (w'.cell? ⟨b7, 0, none⟩ = some (.bool t0.s) ∧ w'.cell? ⟨b7, 1, none⟩ = some (.slice t0.a1 t0.n1 t0.c1) ∧ w'.cell? ⟨b7, 2, none⟩ = some (.slice t0.a2 t0.n2 t0.c2)) ∧ (w'.cell? ⟨b8, 0, none⟩ = some (.bool t1.s) ∧ w'.cell? ⟨b8, 1, none⟩ = some (.slice t1.a1 t1.n1 t1.c1) ∧ w'.cell? ⟨b8, 2, none⟩ = some (.slice t1.a2 t1.n2 t1.c2)) ∧ w'.cell? ⟨b9, 0, none⟩ = some (.bool t2.s) ∧ w'.cell? ⟨b9, 1, none⟩ = some (.slice t2.a1 t2.n1 t2.c1) ∧ w'.cell? ⟨b9, 2, none⟩ = some (.slice t2.a2 t2.n2 t2.c2)) xw_14 := unhide HCC _ cc_14
    refine hK.out _ _ hC_14 ?_
    clear hK K
    (try simp only [Act.put, List.setIfInBounds_toArray, List.set_cons_zero, List.set_cons_succ])
    refine wpHold_one (k := 40) (by kernel_rfl) rfl (fun K hK => ?_)
    (try simp only [List.getElem_toArray, List.getElem_cons_succ, List.getElem_cons_zero])
    go_simp
    refine (unhide HMUL _ _ _ _ _ (((unhide HB7).2).below cc_14) (((unhide HB8).2).below cc_14) R0 R1).mono ?_
    rintro e xw_15 ⟨xv_15, rfl, hv_15, hb_15⟩
    have cc_15 := below_step cc_14 hb_15
    have hC_15 : (fun w' : World => (w'.cell? ⟨b7, 0, none⟩ = some (.bool t0.s) ∧ w'.cell? ⟨b7, 1, none⟩ = some (.slice t0.a1 t0.n1 t0.c1) ∧ w'.cell? ⟨b7, 2, none⟩ = some (.slice t0.a2 t0.n2 t0.c2)) ∧ (w'.cell? ⟨b8, 0, none⟩ = some (.bool t1.s) ∧ w'.cell? ⟨b8, 1, none⟩ = some (.slice t1.a1 t1.n1 t1.c1) ∧ w'.cell? ⟨b8, 2, none⟩ = some (.slice t1.a2 t1.n2 t1.c2)) ∧ w'.cell? ⟨b9, 0, none⟩ = some (.bool t2.s) ∧ w'.cell? ⟨b9, 1, none⟩ = some (.slice t2.a1 t2.n1 t2.c1) ∧ w'.cell? ⟨b9, 2, none⟩ = some (.slice t2.a2 t2.n2 t2.c2)) xw_15 := unhide HCC _ cc_15
    refine hK.out _ _ hC_15 ?_
    clear hK K
    (try simp only [Act.put, List.setIfInBounds_toArray, List.set_cons_zero, List.set_cons_succ])
    refine wpHold_one (k := 42) (by kernel_rfl) rfl (fun K hK => ?_)
    (try simp only [List.getElem_toArray, List.getElem_cons_succ, List.getElem_cons_zero])
    go_simp
    refine (unhide HMUL _ _ _ _ _ hv_15 (((unhide HB9).2).below cc_15) M01 R2).mono ?_
    rintro e xw_16 ⟨xv_16, rfl, hv_16, hb_16⟩
    have cc_16 := below_step cc_15 hb_16
    have hC_16 : (fun w' : World => (w'.cell? ⟨b7, 0, none⟩ = some (.bool t0.s) ∧ w'.cell? ⟨b7, 1, none⟩ = some (.slice t0.a1 t0.n1 t0.c1) ∧ w'.cell? ⟨b7, 2, none⟩ = some (.slice t0.a2 t0.n2 t0.c2)) ∧ (w'.cell? ⟨b8, 0, none⟩ = some (.bool t1.s) ∧ w'.cell? ⟨b8, 1, none⟩ = some (.slice t1.a1 t1.n1 t1.c1) ∧ w'.cell? ⟨b8, 2, none⟩ = some (.slice t1.a2 t1.n2 t1.c2)) ∧ w'.cell? ⟨b9, 0, none⟩ = some (.bool t2.s) ∧ w'.cell? ⟨b9, 1, none⟩ = some (.slice t2.a1 t2.n1 t2.c1) ∧ w'.cell? ⟨b9, 2, none⟩ = some (.slice t2.a2 t2.n2 t2.c2)) xw_16 := unhide HCC _ cc_16
    refine hK.out _ _ hC_16 ?_
    clear hK K
    (try simp only [Act.put, List.setIfInBounds_toArray, List.set_cons_zero, List.set_cons_succ])
    refine wpHold_one (k := 43) (by kernel_rfl) rfl (fun K hK => ?_)
    (try simp only [List.getElem_toArray, List.getElem_cons_succ, List.getElem_cons_zero])
    go_simp
    refine (unhide HLIK _ _ _ _ ((hv_14.below hb_15).below hb_16) (by rw [← E3]; exact hv_16) L3 cc_16).mono ?_
    rintro e xw_17 ⟨rfl, hb_17⟩
    have cc_17 := below_step cc_16 hb_17
    have hC_17 : (fun w' : World => (w'.cell? ⟨b7, 0, none⟩ = some (.bool t0.s) ∧ w'.cell? ⟨b7, 1, none⟩ = some (.slice t0.a1 t0.n1 t0.c1) ∧ w'.cell? ⟨b7, 2, none⟩ = some (.slice t0.a2 t0.n2 t0.c2)) ∧ (w'.cell? ⟨b8, 0, none⟩ = some (.bool t1.s) ∧ w'.cell? ⟨b8, 1, none⟩ = some (.slice t1.a1 t1.n1 t1.c1) ∧ w'.cell? ⟨b8, 2, none⟩ = some (.slice t1.a2 t1.n2 t1.c2)) ∧ w'.cell? ⟨b9, 0, none⟩ = some (.bool t2.s) ∧ w'.cell? ⟨b9, 1, none⟩ = some (.slice t2.a1 t2.n1 t2.c1) ∧ w'.cell? ⟨b9, 2, none⟩ = some (.slice t2.a2 t2.n2 t2.c2)) xw_17 := unhide HCC _ cc_17
    refine hK.out _ _ hC_17 ?_
    clear hK K
    (try simp only [Act.put, List.setIfInBounds_toArray, List.set_cons_zero, List.set_cons_succ])
    refine wpHold_take (i := 44) (v := ?_) rfl (by kernel_rfl) (by kernel_rfl) (by kernel_rfl) (fun _ _ _ h => h) (Or.inl ⟨by rfl, ?_⟩) hC_17 ?_
    rotate_left
    · intro w hSw; clear hSw; go_simp; (try with_reducible rfl)
    (try simp only [List.getElem_toArray, List.getElem_cons_succ, List.getElem_cons_zero])
    (try simp only [Act.put, List.setIfInBounds_toArray, List.set_cons_zero, List.set_cons_succ])
    refine wpHold_take (i := 45) (v := ?_) rfl (by kernel_rfl) (by kernel_rfl) (by kernel_rfl) (fun _ _ _ h => h) (Or.inl ⟨by rfl, ?_⟩) hC_17 ?_
    rotate_left
    · intro w hSw; clear hSw; go_simp; (try with_reducible rfl)
    (try simp only [List.getElem_toArray, List.getElem_cons_succ, List.getElem_cons_zero])
    (try simp only [Act.put, List.setIfInBounds_toArray, List.set_cons_zero, List.set_cons_succ])
    refine wpHold_take (i := 46) (v := ?_) rfl (by kernel_rfl) (by kernel_rfl) (by kernel_rfl) (fun _ _ _ h => h) (Or.inl ⟨by rfl, ?_⟩) hC_17 ?_
    rotate_left
    · intro w hSw; clear hSw; go_simp; (try with_reducible rfl)
    (try simp only [List.getElem_toArray, List.getElem_cons_succ, List.getElem_cons_zero])
    (try simp only [Act.put, List.setIfInBounds_toArray, List.set_cons_zero, List.set_cons_succ])
    refine wpHold_take (i := 47) (v := ?_) rfl (by kernel_rfl) (by kernel_rfl) (by kernel_rfl) (fun _ _ _ h => h) (Or.inl ⟨by rfl, ?_⟩) hC_17 ?_
    rotate_left
    · intro w hSw; (try dsimp only at hSw); obtain ⟨⟨z0, z1, z2⟩, ⟨z3, z4, z5⟩, z6, z7, z8⟩ := hSw; go_simp; (try with_reducible rfl)
    (try simp only [List.getElem_toArray, List.getElem_cons_succ, List.getElem_cons_zero])
    (try simp only [Act.put, List.setIfInBounds_toArray, List.set_cons_zero, List.set_cons_succ])
    refine wpHold_take (i := 48) (v := ?_) rfl (by kernel_rfl) (by kernel_rfl) (by kernel_rfl) (fun _ _ _ h => h) (Or.inl ⟨by rfl, ?_⟩) hC_17 ?_
    rotate_left
    · intro w hSw; (try dsimp only at hSw); obtain ⟨⟨z0, z1, z2⟩, ⟨z3, z4, z5⟩, z6, z7, z8⟩ := hSw; go_simp; (try with_reducible rfl)
    (try simp only [List.getElem_toArray, List.getElem_cons_succ, List.getElem_cons_zero])
    (try simp only [Act.put, List.setIfInBounds_toArray, List.set_cons_zero, List.set_cons_succ])
    refine wpHold_take (i := 50) (v := ?_) rfl (by kernel_rfl) (by kernel_rfl) (by kernel_rfl) (fun _ _ _ h => h) (Or.inl ⟨by rfl, ?_⟩) hC_17 ?_
    rotate_left
    · intro w hSw; (try dsimp only at hSw); obtain ⟨⟨z0, z1, z2⟩, ⟨z3, z4, z5⟩, z6, z7, z8⟩ := hSw; go_simp; (try with_reducible rfl)
    (try simp only [List.getElem_toArray, List.getElem_cons_succ, List.getElem_cons_zero])
    (try simp only [Act.put, List.setIfInBounds_toArray, List.set_cons_zero, List.set_cons_succ])
    refine wpHold_take (i := 52) (v := ?_) rfl (by kernel_rfl) (by kernel_rfl) (by kernel_rfl) (fun _ _ _ h => h) (Or.inl ⟨by rfl, ?_⟩) hC_17 ?_
    rotate_left
    · intro w hSw; (try dsimp only at hSw); obtain ⟨⟨z0, z1, z2⟩, ⟨z3, z4, z5⟩, z6, z7, z8⟩ := hSw; go_simp; (try with_reducible rfl)
    (try simp only [List.getElem_toArray, List.getElem_cons_succ, List.getElem_cons_zero])
    (try simp only [Act.put, List.setIfInBounds_toArray, List.set_cons_zero, List.set_cons_succ])
    refine wpHold_one (k := 49) (by kernel_rfl) rfl (fun K hK => ?_)
    (try simp only [List.getElem_toArray, List.getElem_cons_succ, List.getElem_cons_zero])
    go_simp
    refine (unhide HSUB _ _ _ _ _ (((unhide HB7).2).below cc_17) (((unhide HB8).2).below cc_17) R0 R1).mono ?_
    rintro e xw_18 ⟨xv_18, rfl, hv_18, hb_18⟩
    have cc_18 := below_step cc_17 hb_18
    have hC_18 : (fun w' : World => (w'.cell? ⟨b7, 0, none⟩ = some (.bool t0.s) ∧ w'.cell? ⟨b7, 1, none⟩ = some (.slice t0.a1 t0.n1 t0.c1) ∧ w'.cell? ⟨b7, 2, none⟩ = some (.slice t0.a2 t0.n2 t0.c2)) ∧ (w'.cell? ⟨b8, 0, none⟩ = some (.bool t1.s) ∧ w'.cell? ⟨b8, 1, none⟩ = some (.slice t1.a1 t1.n1 t1.c1) ∧ w'.cell? ⟨b8, 2, none⟩ = some (.slice t1.a2 t1.n2 t1.c2)) ∧ w'.cell? ⟨b9, 0, none⟩ = some (.bool t2.s) ∧ w'.cell? ⟨b9, 1, none⟩ = some (.slice t2.a1 t2.n1 t2.c1) ∧ w'.cell? ⟨b9, 2, none⟩ = some (.slice t2.a2 t2.n2 t2.c2)) xw_18 := unhide HCC _ cc_18
    refine hK.out _ _ hC_18 ?_
    clear hK K
    (try simp only [Act.put, List.setIfInBounds_toArray, List.set_cons_zero, List.set_cons_succ])
    refine wpHold_one (k := 51) (by kernel_rfl) rfl (fun K hK => ?_)
    (try simp only [List.getElem_toArray, List.getElem_cons_succ, List.getElem_cons_zero])
    go_simp
    refine (unhide HADD _ _ _ _ _ hv_18 (((unhide HB8).2).below cc_18) S01 R1).mono ?_
    rintro e xw_19 ⟨xv_19, rfl, hv_19, hb_19⟩
    have cc_19 := below_step cc_18 hb_19
    have hC_19 : (fun w' : World => (w'.cell? ⟨b7, 0, none⟩ = some (.bool t0.s) ∧ w'.cell? ⟨b7, 1, none⟩ = some (.slice t0.a1 t0.n1 t0.c1) ∧ w'.cell? ⟨b7, 2, none⟩ = some (.slice t0.a2 t0.n2 t0.c2)) ∧ (w'.cell? ⟨b8, 0, none⟩ = some (.bool t1.s) ∧ w'.cell? ⟨b8, 1, none⟩ = some (.slice t1.a1 t1.n1 t1.c1) ∧ w'.cell? ⟨b8, 2, none⟩ = some (.slice t1.a2 t1.n2 t1.c2)) ∧ w'.cell? ⟨b9, 0, none⟩ = some (.bool t2.s) ∧ w'.cell? ⟨b9, 1, none⟩ = some (.slice t2.a1 t2.n1 t2.c1) ∧ w'.cell? ⟨b9, 2, none⟩ = some (.slice t2.a2 t2.n2 t2.c2)) xw_19 := unhide HCC _ cc_19
    refine hK.out _ _ hC_19 ?_
    clear hK K
    (try simp only [Act.put, List.setIfInBounds_toArray, List.set_cons_zero, List.set_cons_succ])
    refine wpHold_one (k := 53) (by kernel_rfl) rfl (fun K hK => ?_)
    (try simp only [List.getElem_toArray, List.getElem_cons_succ, List.getElem_cons_zero])
    go_simp
    refine (unhide HLIK _ _ _ _ (by rw [← E4]; exact hv_19) (((unhide HB7).2).below cc_19) R0 cc_19).mono ?_
    rintro e xw_20 ⟨rfl, hb_20⟩
    have cc_20 := below_step cc_19 hb_20
    have hC_20 : (fun w' : World => (w'.cell? ⟨b7, 0, none⟩ = some (.bool t0.s) ∧ w'.cell? ⟨b7, 1, none⟩ = some (.slice t0.a1 t0.n1 t0.c1) ∧ w'.cell? ⟨b7, 2, none⟩ = some (.slice t0.a2 t0.n2 t0.c2)) ∧ (w'.cell? ⟨b8, 0, none⟩ = some (.bool t1.s) ∧ w'.cell? ⟨b8, 1, none⟩ = some (.slice t1.a1 t1.n1 t1.c1) ∧ w'.cell? ⟨b8, 2, none⟩ = some (.slice t1.a2 t1.n2 t1.c2)) ∧ w'.cell? ⟨b9, 0, none⟩ = some (.bool t2.s) ∧ w'.cell? ⟨b9, 1, none⟩ = some (.slice t2.a1 t2.n1 t2.c1) ∧ w'.cell? ⟨b9, 2, none⟩ = some (.slice t2.a2 t2.n2 t2.c2)) xw_20 := unhide HCC _ cc_20
    refine hK.out _ _ hC_20 ?_
    clear hK K
    (try simp only [Act.put, List.setIfInBounds_toArray, List.set_cons_zero, List.set_cons_succ])
    refine wpHold_take (i := 54) (v := ?_) rfl (by kernel_rfl) (by kernel_rfl) (by kernel_rfl) (fun _ _ _ h => h) (Or.inl ⟨by rfl, ?_⟩) hC_20 ?_
    rotate_left
    · intro w hSw; clear hSw; go_simp; (try with_reducible rfl)
    (try simp only [List.getElem_toArray, List.getElem_cons_succ, List.getElem_cons_zero])
    (try simp only [Act.put, List.setIfInBounds_toArray, List.set_cons_zero, List.set_cons_succ])
    refine wpHold_take (i := 55) (v := ?_) rfl (by kernel_rfl) (by kernel_rfl) (by kernel_rfl) (fun _ _ _ h => h) (Or.inl ⟨by rfl, ?_⟩) hC_20 ?_
    rotate_left
    · intro w hSw; clear hSw; go_simp; (try with_reducible rfl)
    (try simp only [List.getElem_toArray, List.getElem_cons_succ, List.getElem_cons_zero])
    (try simp only [Act.put, List.setIfInBounds_toArray, List.set_cons_zero, List.set_cons_succ])
    refine wpHold_done (by kernel_rfl) ?_ _
    have HN7 := hide ((unhide HB7).keep cc_20)
    have HN8 := hide ((unhide HB8).keep cc_20)
    have HBZ := hide (below_step (unhide HBY) cc_20)
    have HET' : Hid (∀ W, Below xw_20.heap.size xw_20 W → ErrTy W) := fun W hW => unhide HET W (below_step cc_20 hW)
    have HTB' : Hid (∀ W, Below xw_20.heap.size xw_20 W → Tab W) := fun W hW => unhide HTB W (below_step cc_20 hW)
    clear HB7 HB8 HB9 HBY HET HTB HCC HADD HSUB HLIK HALF L1 L2 L3 E1 E2 E3 E4 A01 A12 M02 M12 M01 S01 R2
    clear hC_1 cc_1 hb_1 hC_2 cc_2 hb_2 hC_3 cc_3 hb_3 hC_4 cc_4 hb_4 hC_5 cc_5 hb_5 hC_6 cc_6 hb_6 hC_7 cc_7 hb_7 hC_8 cc_8 hb_8 hC_9 cc_9 hb_9 hC_10 cc_10 hb_10 hC_11 cc_11 hb_11 hC_12 cc_12 hb_12 hC_13 cc_13 hb_13 hC_14 cc_14 hb_14 hC_15 cc_15 hb_15 hC_16 cc_16 hb_16 hC_17 cc_17 hb_17 hC_18 cc_18 hb_18 hC_19 cc_19 hb_19 hC_20 cc_20 hb_20 hv_2 hv_3 hv_4 hv_5 hv_6 hv_8 hv_9 hv_10 hv_11 hv_13 hv_14 hv_15 hv_16 hv_18 hv_19 hC0 bd0
    obtain ⟨k0, k1, k2⟩ := (unhide HN7).cells _ (Below.refl _ _)
    obtain ⟨k3, k4, k5⟩ := (unhide HN8).cells _ (Below.refl _ _)
    have HB_0 := hide (Below.refl xw_20.heap.size xw_20)
    have hsg : (q1.num.sign = 0) = (q1.num = 0) := by rw [Int.sign_eq_zero_iff_zero]
    have HSG : Hid (∀ W, Below xw_20.heap.size xw_20 W → Calls Tryz.prog 12 #[.agg #[.bool t1.s, .slice t1.a1 t1.n1 t1.c1, .slice t1.a2 t1.n2 t1.c2]] W fun e w' => e = .returned (.int .i64 q1.num.sign) ∧ Below W.heap.size W w') := fun W hW => sign_any _ _ W ((unhide HN8).2.below hW)
    have bd := sign_bd q1.num
    by_cases hz : q1.num = 0
    · have HDZ := hide (divR_zero t0.val t1.val q0 q1 xw_20 (unhide HN7).2 (unhide HN8).2 hz)
      have hs0 : q1.num.sign = 0 := by rw [hz]; rfl
      rw [hs0] at HSG
      clear hsg bd hz hs0
      go_wp2_with fail
      refine (unhide HDZ).mono ?_
      rintro e y1 ⟨rfl, hb1⟩
      have hb2 := below_step hb1 (alloc_below y1 (.cells #[.bool false, .slice none 0 0, .slice none 0 0] 27))
      have HB2 := hide hb2
      have HX10 := hide (BoxIs.new (w := y1) (t := zTri) (q := 0) (rat_zero _))
      obtain ⟨j0, j1, j2⟩ := (unhide HN8).cells _ hb2
      clear hb1 hb2 k0 k1 k2 k3 k4 k5
      go_wp2_with fail
      refine (unhide HSG _ (unhide HB2)).mono ?_
      rintro e y3 ⟨rfl, hb3⟩
      have hb4 := below_step (unhide HB2) hb3
      have HTE := hide (tell_errno 11 y3 (unhide HET' _ hb4))
      have HB4 := hide hb4
      clear hb3 hb4
      go_wp2_with fail
      refine (unhide HTE).mono ?_
      rintro e y5 ⟨rfl, hb5⟩
      have HB5 := hide (below_step (unhide HBZ) (below_step (unhide HB4) hb5))
      clear hb5
      go_wp2
      go_ret
      exact ⟨rfl, unhide HB5⟩
    · have hq : q0 / q1 * q1 = q0 := by
        have : q1 ≠ 0 := fun e => hz (by rw [e]; rfl)
        exact Rat.div_mul_cancel this
      have HDV := hide (divR_any t0.val t1.val q0 q1 xw_20 (unhide HN7).2 (unhide HN8).2 50 R0 R1 (by rw [KKe]; omega) hz)
      have RDV : RS (q0 / q1) 50 := by rw [Rat.div_def]; exact ((unhide RS0).mul ((unhide RS1).inv hz)).mono (by omega)
      have hs1 : (q1.num.sign == 0) = false := by rw [beq_eq_false_iff_ne]; intro h; exact hz (Int.sign_eq_zero_iff_zero.1 h)
      obtain ⟨bda, bdb⟩ := bd
      generalize q1.num.sign = sg at *
      clear hsg hz
      go_wp2_with fail
      refine (unhide HDV).mono ?_
      rintro e w_301 ⟨v6, rfl, hv6, hbx⟩
      obtain ⟨td, rfl, hr_301⟩ := tri_of hv6
      simp only [Tri.val]
      have HL_b7_b10 := hide (Nat.lt_of_lt_of_le (unhide HN7).lt hbx.size)
      have HL_b8_b10 := hide (Nat.lt_of_lt_of_le (unhide HN8).lt hbx.size)
      have HG_b10 := hide (below_step (unhide HB_0) hbx).size
      have hb_301 := below_step hbx (alloc_below w_301 (.cells #[.bool td.s, .slice td.a1 td.n1 td.c1, .slice td.a2 td.n2 td.c2] 27))
      have HB_302 := hide (below_step (unhide HB_0) hb_301)
      have HX_b7_302 := hide ((unhide HN7).keep hb_301)
      have HX_b8_302 := hide ((unhide HN8).keep hb_301)
      clear HB_0 HN7 HN8
      have HX_b10_301 := hide (BoxIs.new hr_301)
      obtain ⟨Wb10, hW_301⟩ : ∃ W, w_301.alloc (.cells #[.bool td.s, .slice td.a1 td.n1 td.c1, .slice td.a2 td.n2 td.c2] 27) = W := ⟨_, rfl⟩
      obtain ⟨b10, hc_301⟩ : ∃ b, w_301.heap.size = b := ⟨_, rfl⟩
      rw [hW_301] at HB_302 HX_b7_302 HX_b8_302 HX_b10_301
      rw [hc_301] at HX_b10_301 HL_b7_b10 HL_b8_b10 HG_b10
      clear hv6 hr_301 hbx hb_301
      obtain ⟨j0, j1, j2⟩ := (unhide HX_b8_302).cells _ (Below.refl _ _)
      go_wp2_with fail
      clear hW_301 hc_301
      clear j0 j1 j2 k0 k1 k2 k3 k4 k5
      refine (unhide HSG _ (unhide HB_302)).mono ?_
      rintro e w_303 ⟨rfl, hbx⟩
      have HB_304 := hide (below_step (unhide HB_302) hbx)
      have HX_b7_304 := hide ((unhide HX_b7_302).keep hbx)
      have HX_b8_304 := hide ((unhide HX_b8_302).keep hbx)
      have HX_b10_304 := hide ((unhide HX_b10_301).keep hbx)
      clear HB_302 HX_b7_302 HX_b8_302 HX_b10_301
      clear hbx
      go_wp2_with fail
      have HCC : Hid (∀ W, Below w_303.heap.size w_303 W → (fun w' : World => (w'.cell? ⟨b7, 0, none⟩ = some (.bool t0.s) ∧ w'.cell? ⟨b7, 1, none⟩ = some (.slice t0.a1 t0.n1 t0.c1) ∧ w'.cell? ⟨b7, 2, none⟩ = some (.slice t0.a2 t0.n2 t0.c2)) ∧ (w'.cell? ⟨b8, 0, none⟩ = some (.bool t1.s) ∧ w'.cell? ⟨b8, 1, none⟩ = some (.slice t1.a1 t1.n1 t1.c1) ∧ w'.cell? ⟨b8, 2, none⟩ = some (.slice t1.a2 t1.n2 t1.c2)) ∧ w'.cell? ⟨b10, 0, none⟩ = some (.bool td.s) ∧ w'.cell? ⟨b10, 1, none⟩ = some (.slice td.a1 td.n1 td.c1) ∧ w'.cell? ⟨b10, 2, none⟩ = some (.slice td.a2 td.n2 td.c2)) W) := fun W hW => ⟨(unhide HX_b7_304).cells W hW, (unhide HX_b8_304).cells W hW, (unhide HX_b10_304).cells W hW⟩
      have HLIK : Hid (∀ W v v' q, RatIs W v q → RatIs W v' q → RS q 50 → Below w_303.heap.size w_303 W → Calls Tryz.prog 7 #[v, v'] W fun e w' => e = .returned (.bool true) ∧ Below W.heap.size W w') := fun W v v' q h h' r hb => like_any v v' q W h h' 50 r (by rw [KKe]; omega) (unhide HTB' W (below_step (unhide HB_304) hb))
      refine wp_region_hold (fun w' : World => (w'.cell? ⟨b7, 0, none⟩ = some (.bool t0.s) ∧ w'.cell? ⟨b7, 1, none⟩ = some (.slice t0.a1 t0.n1 t0.c1) ∧ w'.cell? ⟨b7, 2, none⟩ = some (.slice t0.a2 t0.n2 t0.c2)) ∧ (w'.cell? ⟨b8, 0, none⟩ = some (.bool t1.s) ∧ w'.cell? ⟨b8, 1, none⟩ = some (.slice t1.a1 t1.n1 t1.c1) ∧ w'.cell? ⟨b8, 2, none⟩ = some (.slice t1.a2 t1.n2 t1.c2)) ∧ w'.cell? ⟨b10, 0, none⟩ = some (.bool td.s) ∧ w'.cell? ⟨b10, 1, none⟩ = some (.slice td.a1 td.n1 td.c1) ∧ w'.cell? ⟨b10, 2, none⟩ = some (.slice td.a2 td.n2 td.c2)) (by kernel_rfl) ?_
      have bd0 : Below w_303.heap.size w_303 w_303.drew := (Below.refl _ _).drew
      have hC0 : (fun w' : World => (w'.cell? ⟨b7, 0, none⟩ = some (.bool t0.s) ∧ w'.cell? ⟨b7, 1, none⟩ = some (.slice t0.a1 t0.n1 t0.c1) ∧ w'.cell? ⟨b7, 2, none⟩ = some (.slice t0.a2 t0.n2 t0.c2)) ∧ (w'.cell? ⟨b8, 0, none⟩ = some (.bool t1.s) ∧ w'.cell? ⟨b8, 1, none⟩ = some (.slice t1.a1 t1.n1 t1.c1) ∧ w'.cell? ⟨b8, 2, none⟩ = some (.slice t1.a2 t1.n2 t1.c2)) ∧ w'.cell? ⟨b10, 0, none⟩ = some (.bool td.s) ∧ w'.cell? ⟨b10, 1, none⟩ = some (.slice td.a1 td.n1 td.c1) ∧ w'.cell? ⟨b10, 2, none⟩ = some (.slice td.a2 td.n2 td.c2)) w_303.drew := unhide HCC _ bd0
      refine wpHold_take (i := 0) (v := ?_) rfl (by kernel_rfl) (by kernel_rfl) (by kernel_rfl) (fun _ _ _ h => h) (Or.inl ⟨by rfl, ?_⟩) hC0 ?_
      rotate_left
      · intro w hSw; clear hSw; go_simp; (try with_reducible rfl)
      (try simp only [List.getElem_toArray, List.getElem_cons_succ, List.getElem_cons_zero])
      (try simp only [Act.put, List.setIfInBounds_toArray, List.set_cons_zero, List.set_cons_succ])
      refine wpHold_take (i := 1) (v := ?_) rfl (by kernel_rfl) (by kernel_rfl) (by kernel_rfl) (fun _ _ _ h => h) (Or.inl ⟨by rfl, ?_⟩) hC0 ?_
      rotate_left
      · intro w hSw; clear hSw; go_simp; (try with_reducible rfl)
      (try simp only [List.getElem_toArray, List.getElem_cons_succ, List.getElem_cons_zero])
      (try simp only [Act.put, List.setIfInBounds_toArray, List.set_cons_zero, List.set_cons_succ])
      refine wpHold_take (i := 2) (v := ?_) rfl (by kernel_rfl) (by kernel_rfl) (by kernel_rfl) (fun _ _ _ h => h) (Or.inl ⟨by rfl, ?_⟩) hC0 ?_
      rotate_left
      · intro w hSw; clear hSw; go_simp; (try with_reducible rfl)
      (try simp only [List.getElem_toArray, List.getElem_cons_succ, List.getElem_cons_zero])
      (try simp only [Act.put, List.setIfInBounds_toArray, List.set_cons_zero, List.set_cons_succ])
      refine wpHold_take (i := 3) (v := ?_) rfl (by kernel_rfl) (by kernel_rfl) (by kernel_rfl) (fun _ _ _ h => h) (Or.inl ⟨by rfl, ?_⟩) hC0 ?_
      rotate_left
      · intro w hSw; (try dsimp only at hSw); obtain ⟨⟨z0, z1, z2⟩, ⟨z3, z4, z5⟩, z6, z7, z8⟩ := hSw; go_simp; (try with_reducible rfl)
      (try simp only [List.getElem_toArray, List.getElem_cons_succ, List.getElem_cons_zero])
      (try simp only [Act.put, List.setIfInBounds_toArray, List.set_cons_zero, List.set_cons_succ])
      refine wpHold_take (i := 4) (v := ?_) rfl (by kernel_rfl) (by kernel_rfl) (by kernel_rfl) (fun _ _ _ h => h) (Or.inl ⟨by rfl, ?_⟩) hC0 ?_
      rotate_left
      · intro w hSw; (try dsimp only at hSw); obtain ⟨⟨z0, z1, z2⟩, ⟨z3, z4, z5⟩, z6, z7, z8⟩ := hSw; go_simp; (try with_reducible rfl)
      (try simp only [List.getElem_toArray, List.getElem_cons_succ, List.getElem_cons_zero])
      (try simp only [Act.put, List.setIfInBounds_toArray, List.set_cons_zero, List.set_cons_succ])
      refine wpHold_take (i := 6) (v := ?_) rfl (by kernel_rfl) (by kernel_rfl) (by kernel_rfl) (fun _ _ _ h => h) (Or.inl ⟨by rfl, ?_⟩) hC0 ?_
      rotate_left
      · intro w hSw; (try dsimp only at hSw); obtain ⟨⟨z0, z1, z2⟩, ⟨z3, z4, z5⟩, z6, z7, z8⟩ := hSw; go_simp; (try with_reducible rfl)
      (try simp only [List.getElem_toArray, List.getElem_cons_succ, List.getElem_cons_zero])
      (try simp only [Act.put, List.setIfInBounds_toArray, List.set_cons_zero, List.set_cons_succ])
      refine wpHold_one (k := 5) (by kernel_rfl) rfl (fun K hK => ?_)
      (try simp only [List.getElem_toArray, List.getElem_cons_succ, List.getElem_cons_zero])
      go_simp
      refine (unhide HMUL _ _ _ _ _ (((unhide HX_b10_304).2).below bd0) (((unhide HX_b8_304).2).below bd0) RDV R1).mono ?_
      rintro e xw_401 ⟨xv_401, rfl, hv_401, hb_401⟩
      have cc_401 := below_step bd0 hb_401
      have hC_401 : (fun w' : World => (w'.cell? ⟨b7, 0, none⟩ = some (.bool t0.s) ∧ w'.cell? ⟨b7, 1, none⟩ = some (.slice t0.a1 t0.n1 t0.c1) ∧ w'.cell? ⟨b7, 2, none⟩ = some (.slice t0.a2 t0.n2 t0.c2)) ∧ (w'.cell? ⟨b8, 0, none⟩ = some (.bool t1.s) ∧ w'.cell? ⟨b8, 1, none⟩ = some (.slice t1.a1 t1.n1 t1.c1) ∧ w'.cell? ⟨b8, 2, none⟩ = some (.slice t1.a2 t1.n2 t1.c2)) ∧ w'.cell? ⟨b10, 0, none⟩ = some (.bool td.s) ∧ w'.cell? ⟨b10, 1, none⟩ = some (.slice td.a1 td.n1 td.c1) ∧ w'.cell? ⟨b10, 2, none⟩ = some (.slice td.a2 td.n2 td.c2)) xw_401 := unhide HCC _ cc_401
      refine hK.out _ _ hC_401 ?_
      clear hK K
      (try simp only [Act.put, List.setIfInBounds_toArray, List.set_cons_zero, List.set_cons_succ])
      refine wpHold_one (k := 7) (by kernel_rfl) rfl (fun K hK => ?_)
      (try simp only [List.getElem_toArray, List.getElem_cons_succ, List.getElem_cons_zero])
      go_simp
      refine (unhide HLIK _ _ _ _ (by rw [← hq]; exact hv_401) (((unhide HX_b7_304).2).below cc_401) R0 cc_401).mono ?_
      rintro e xw_402 ⟨rfl, hb_402⟩
      have cc_402 := below_step cc_401 hb_402
      have hC_402 : (fun w' : World => (w'.cell? ⟨b7, 0, none⟩ = some (.bool t0.s) ∧ w'.cell? ⟨b7, 1, none⟩ = some (.slice t0.a1 t0.n1 t0.c1) ∧ w'.cell? ⟨b7, 2, none⟩ = some (.slice t0.a2 t0.n2 t0.c2)) ∧ (w'.cell? ⟨b8, 0, none⟩ = some (.bool t1.s) ∧ w'.cell? ⟨b8, 1, none⟩ = some (.slice t1.a1 t1.n1 t1.c1) ∧ w'.cell? ⟨b8, 2, none⟩ = some (.slice t1.a2 t1.n2 t1.c2)) ∧ w'.cell? ⟨b10, 0, none⟩ = some (.bool td.s) ∧ w'.cell? ⟨b10, 1, none⟩ = some (.slice td.a1 td.n1 td.c1) ∧ w'.cell? ⟨b10, 2, none⟩ = some (.slice td.a2 td.n2 td.c2)) xw_402 := unhide HCC _ cc_402
      refine hK.out _ _ hC_402 ?_
      clear hK K
      (try simp only [Act.put, List.setIfInBounds_toArray, List.set_cons_zero, List.set_cons_succ])
      refine wpHold_take (i := 8) (v := ?_) rfl (by kernel_rfl) (by kernel_rfl) (by kernel_rfl) (fun _ _ _ h => h) (Or.inl ⟨by rfl, ?_⟩) hC_402 ?_
      rotate_left
      · intro w hSw; clear hSw; go_simp; (try with_reducible rfl)
      (try simp only [List.getElem_toArray, List.getElem_cons_succ, List.getElem_cons_zero])
      (try simp only [Act.put, List.setIfInBounds_toArray, List.set_cons_zero, List.set_cons_succ])
      refine wpHold_one (k := 9) (by kernel_rfl) rfl (fun K hK => ?_)
      (try simp only [List.getElem_toArray, List.getElem_cons_succ, List.getElem_cons_zero])
      go_simp
      refine hK.out _ _ hC_402 ?_
      clear hK K
      (try simp only [Act.put, List.setIfInBounds_toArray, List.set_cons_zero, List.set_cons_succ])
      refine wpHold_done (by kernel_rfl) ?_ _
      have HFI := hide (below_step (unhide HBZ) (below_step (unhide HB_304) cc_402))
      clear hC_401 cc_401 hb_401 hC_402 cc_402 hb_402 hv_401 hC0 bd0
      go_wp2
      go_ret
      exact ⟨rfl, unhide HFI⟩
end Go.Proofs.YtdicbnchkfclaaaGreatDoor
