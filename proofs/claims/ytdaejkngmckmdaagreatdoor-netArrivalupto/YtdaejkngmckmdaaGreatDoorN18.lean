/- Nets: Means, what it does in any order. -/
import Derived.Test.YtdaejkngmckmdaaGreatDoorN17
namespace Go.Proofs.YtdaejkngmckmdaaGreatDoor
open Go.RowKit Go.Sort Go.Shelf

/-- Two rows and a box, made in any order, and what is put into it. -/
structure MeanJ (w0 : World) (n : Nat) (s : Bool × Bool × Bool × Bool) (W : World) (s1 s2 s3 s4 : Value) : Prop where
  bl : Below w0.heap.size w0 W
  j1 : s.1 = true → ∃ g, s1 = .slice (some ⟨g, 0, none⟩) n n ∧ W.heap[g]? = some (.cells (tcells (List.replicate n zTri)).toArray 39) ∧ w0.heap.size ≤ g
  j2 : s.2.1 = true → ∃ g, s2 = .slice (some ⟨g, 0, none⟩) n n ∧ W.heap[g]? = some (.cells (tcells (List.replicate n zTri)).toArray 39) ∧ w0.heap.size ≤ g
  j3 : s.2.2.1 = true → ∃ g, s3 = .pointer (some ⟨g, 0, none⟩) ∧ W.heap[g]? = some (.cells #[.bool false, .slice none 0 0, .slice none 0 0, .slice none 0 0, .slice none 0 0] 51) ∧ w0.heap.size ≤ g
  j4 : s.2.2.2 = true → s.1 = true ∧ s.2.1 = true ∧ s4 = .agg #[.bool false, .slice none 0 0, .slice none 0 0, s1, s2]
  ne : s.1 = true → s.2.1 = true → s1 ≠ s2
theorem MeanJ.start (w0 : World) (n : Nat) (s1 s2 s3 s4 : Value) : MeanJ w0 n (false, false, false, false) w0 s1 s2 s3 s4 := ⟨Below.refl _ _, fun h => absurd h Bool.false_ne_true, fun h => absurd h Bool.false_ne_true, fun h => absurd h Bool.false_ne_true, fun h => absurd h Bool.false_ne_true, fun h => absurd h Bool.false_ne_true⟩
section
variable {w0 wv : World} {n : Nat} {a b c e : Bool} {s1 s2 s3 s4 : Value}
theorem mean_kept {w w' : World} {g : Nat} {o : Obj} (h : w.heap[g]? = some o) (hb : Below w.heap.size w w') : w'.heap[g]? = some o ∧ g < w.heap.size := ⟨heap_kept h hb, (Array.getElem?_eq_some_iff.1 h).1⟩
theorem MeanJ.made1 (J : MeanJ w0 n (false, b, c, e) wv s1 s2 s3 s4) : MeanJ w0 n (true, b, c, e) (wv.alloc (.cells (tcells (List.replicate n zTri)).toArray 39)) (.slice (some ⟨wv.heap.size, 0, none⟩) n n) s2 s3 s4 := by
  have hb := alloc_below wv (.cells (tcells (List.replicate n zTri)).toArray 39)
  refine ⟨below_step J.bl hb, fun _ => ⟨_, rfl, heap_alloc_new wv _, J.bl.size⟩, fun h => ?_, fun h => ?_, fun h => absurd (J.j4 h).1 Bool.false_ne_true, fun _ h => ?_⟩
  · obtain ⟨g, e1, e2, e3⟩ := J.j2 h
    exact ⟨g, e1, heap_kept e2 hb, e3⟩
  · obtain ⟨g, e1, e2, e3⟩ := J.j3 h
    exact ⟨g, e1, heap_kept e2 hb, e3⟩
  · obtain ⟨g, e1, e2, e3⟩ := J.j2 h
    have := (mean_kept e2 hb).2
    intro x
    rw [e1] at x
    injection x with x
    injection x with x
    injection x with x
    omega
theorem MeanJ.made2 (J : MeanJ w0 n (a, false, c, e) wv s1 s2 s3 s4) : MeanJ w0 n (a, true, c, e) (wv.alloc (.cells (tcells (List.replicate n zTri)).toArray 39)) s1 (.slice (some ⟨wv.heap.size, 0, none⟩) n n) s3 s4 := by
  have hb := alloc_below wv (.cells (tcells (List.replicate n zTri)).toArray 39)
  refine ⟨below_step J.bl hb, fun h => ?_, fun _ => ⟨_, rfl, heap_alloc_new wv _, J.bl.size⟩, fun h => ?_, fun h => absurd (J.j4 h).2.1 Bool.false_ne_true, fun h _ => ?_⟩
  · obtain ⟨g, e1, e2, e3⟩ := J.j1 h
    exact ⟨g, e1, heap_kept e2 hb, e3⟩
  · obtain ⟨g, e1, e2, e3⟩ := J.j3 h
    exact ⟨g, e1, heap_kept e2 hb, e3⟩
  · obtain ⟨g, e1, e2, e3⟩ := J.j1 h
    have := (mean_kept e2 hb).2
    intro x
    rw [e1] at x
    injection x with x
    injection x with x
    injection x with x
    omega
theorem MeanJ.made3 (J : MeanJ w0 n (a, b, false, e) wv s1 s2 s3 s4) : MeanJ w0 n (a, b, true, e) (wv.alloc (.cells #[.bool false, .slice none 0 0, .slice none 0 0, .slice none 0 0, .slice none 0 0] 51)) s1 s2 (.pointer (some ⟨wv.heap.size, 0, none⟩)) s4 := by
  have hb := alloc_below wv (.cells #[.bool false, .slice none 0 0, .slice none 0 0, .slice none 0 0, .slice none 0 0] 51)
  refine ⟨below_step J.bl hb, fun h => ?_, fun h => ?_, fun _ => ⟨_, rfl, heap_alloc_new wv _, J.bl.size⟩, J.j4, J.ne⟩
  · obtain ⟨g, e1, e2, e3⟩ := J.j1 h
    exact ⟨g, e1, heap_kept e2 hb, e3⟩
  · obtain ⟨g, e1, e2, e3⟩ := J.j2 h
    exact ⟨g, e1, heap_kept e2 hb, e3⟩
theorem MeanJ.made4 (J : MeanJ w0 n (true, true, c, false) wv s1 s2 s3 s4) : MeanJ w0 n (true, true, c, true) wv s1 s2 s3 (.agg #[.bool false, .slice none 0 0, .slice none 0 0, s1, s2]) :=
  ⟨J.bl, J.j1, J.j2, J.j3, fun _ => ⟨rfl, rfl, rfl⟩, J.ne⟩
end
def next5 (s : Bool × Bool × Bool × Bool) (i : Nat) : Option (Bool × Bool × Bool × Bool) := if i = 1 ∧ s.1 = false then some (true, s.2) else if i = 3 ∧ s.2.1 = false then some (s.1, true, s.2.2) else if i = 5 ∧ s.2.2.1 = false then some (s.1, s.2.1, true, s.2.2.2) else if i = 4 ∧ s.2.2.2 = false ∧ s.1 = true ∧ s.2.1 = true then some (s.1, s.2.1, s.2.2.1, true) else none
/-- The box of all, written for the first time. -/
theorem mean_lay {W : World} {b gT gN n : Nat} (h : W.heap[b]? = some (.cells #[.bool false, .slice none 0 0, .slice none 0 0, .slice none 0 0, .slice none 0 0] 51)) : (((((W.setCell ⟨b, 0, none⟩ (.bool false)).setCell ⟨b, 1, none⟩ (.slice none 0 0)).setCell ⟨b, 2, none⟩ (.slice none 0 0)).setCell ⟨b, 3, none⟩ (.slice (some ⟨gT, 0, none⟩) n n)).setCell ⟨b, 4, none⟩ (.slice (some ⟨gN, 0, none⟩) n n)).heap[b]? = some (.cells #[.bool false, .slice none 0 0, .slice none 0 0, .slice (some ⟨gT, 0, none⟩) n n, .slice (some ⟨gN, 0, none⟩) n n] 51) := by
  rw [setCell_eq, setCell_eq, setCell_eq, setCell_eq, setCell_eq]
  simp [mapBlock, Array.getElem?_modify, h, onCells]
theorem mean_far {W : World} {b g : Nat} {x0 x1 x2 x3 x4 : Value} (hg : g ≠ b) : (((((W.setCell ⟨b, 0, none⟩ x0).setCell ⟨b, 1, none⟩ x1).setCell ⟨b, 2, none⟩ x2).setCell ⟨b, 3, none⟩ x3).setCell ⟨b, 4, none⟩ x4).heap[g]? = W.heap[g]? := by
  rw [Below.heap_setCell _ _ _ _ hg, Below.heap_setCell _ _ _ _ hg, Below.heap_setCell _ _ _ _ hg, Below.heap_setCell _ _ _ _ hg, Below.heap_setCell _ _ _ _ hg]
theorem sums_of {w W : World} {g n : Nat} (h : W.heap[g]? = some (.cells (tcells (List.replicate n zTri)).toArray 39)) (hb : Below w.heap.size w W) (hg : w.heap.size ≤ g) : SumsAt w W g (List.replicate n zTri) (List.replicate n 0) := by
  refine ⟨h, by rw [List.length_replicate, List.length_replicate], fun j hj => ?_, hb, hg⟩
  rw [List.length_replicate] at hj
  have e1 : (List.replicate n zTri)[j]! = zTri := by simp [hj]
  have e2 : (List.replicate n (0 : Rat))[j]! = 0 := by simp [hj]
  rw [e1, e2]
  exact rat_zero _
/-- The times and how often, of the person before. -/
def MeanQ (d : Nat → Rat) (n q : Nat) (tq : List Rat) (oq : Rat) : Prop := tq.length = n ∧ ∀ k, q = k + 1 → tq = row (Net.tim d n k) n ∧ oq = Net.oft d n k
/-- A row as far as it is filled. -/
def FillTo (f : Nat → Rat) (n i : Nat) (tq : List Rat) : Prop := tq.length = n ∧ ∀ j, j < i → tq[j]! = f j
theorem FillTo.next {f : Nat → Rat} {n i : Nat} {tq : List Rat} (h : FillTo f n i tq) (hi : i < n) : FillTo f n (i + 1) (tq.set i (f i)) := by
  obtain ⟨h1, h2⟩ := h
  refine ⟨by rw [List.length_set, h1], fun j hj => ?_⟩
  by_cases e : i = j
  · subst e
    have hi' : i < tq.length := by omega
    simp [hi']
  · have g : (tq.set i (f i))[j]! = tq[j]! := by simp [e]
    rw [g, h2 j (by omega)]
theorem FillTo.all {f : Nat → Rat} {n : Nat} {tq : List Rat} (h : FillTo f n n tq) : tq = row f n := row_eq h.1 h.2
section
variable {w wr : World} {bm gT gN br n : Nat} {ut un : List Tri} {tq nq : List Rat} {t : Tri} {oq : Rat}
theorem MeanS.boxO (h : MeanS w wr bm gT gN br n ut un tq nq t oq) {b : Nat} {u v : Tri} {q : Rat} (hx : BoxIs wr b u q) (hne : b ≠ bm) : BoxIs (((wr.setCell ⟨bm, 0, none⟩ (.bool v.s)).setCell ⟨bm, 1, none⟩ (.slice v.a1 v.n1 v.c1)).setCell ⟨bm, 2, none⟩ (.slice v.a2 v.n2 v.c2)) b u q := by
  have far : ∀ g, g ≠ bm → (((wr.setCell ⟨bm, 0, none⟩ (.bool v.s)).setCell ⟨bm, 1, none⟩ (.slice v.a1 v.n1 v.c1)).setCell ⟨bm, 2, none⟩ (.slice v.a2 v.n2 v.c2)).heap[g]? = wr.heap[g]? := fun g hg => by rw [Below.heap_setCell _ _ _ _ hg, Below.heap_setCell _ _ _ _ hg, Below.heap_setCell _ _ _ _ hg]
  exact ⟨by rw [far _ hne]; exact hx.1, hx.2.other h.M noWordM (by simp [World.setCell]) (fun k hk => far k hk)⟩
theorem MeanS.lt (h : MeanS w wr bm gT gN br n ut un tq nq t oq) : bm < wr.heap.size ∧ gT < wr.heap.size ∧ gN < wr.heap.size ∧ br < wr.heap.size :=
  ⟨(Array.getElem?_eq_some_iff.1 h.M).1, (Array.getElem?_eq_some_iff.1 h.T.row).1, (Array.getElem?_eq_some_iff.1 h.N.row).1, (Array.getElem?_eq_some_iff.1 h.R).1⟩
theorem MeanS.done (h : MeanS w wr bm gT gN br n ut un tq nq t oq) : RatIs (((((wr.setCell ⟨br, 0, none⟩ (.bool t.s)).setCell ⟨br, 1, none⟩ (.slice t.a1 t.n1 t.c1)).setCell ⟨br, 2, none⟩ (.slice t.a2 t.n2 t.c2)).setCell ⟨br, 3, none⟩ (.slice (some ⟨gT, 0, none⟩) n n)).setCell ⟨br, 4, none⟩ (.slice (some ⟨gN, 0, none⟩) n n)) t.val oq ∧ SumsAt w (((((wr.setCell ⟨br, 0, none⟩ (.bool t.s)).setCell ⟨br, 1, none⟩ (.slice t.a1 t.n1 t.c1)).setCell ⟨br, 2, none⟩ (.slice t.a2 t.n2 t.c2)).setCell ⟨br, 3, none⟩ (.slice (some ⟨gT, 0, none⟩) n n)).setCell ⟨br, 4, none⟩ (.slice (some ⟨gN, 0, none⟩) n n)) gT ut tq ∧ SumsAt w (((((wr.setCell ⟨br, 0, none⟩ (.bool t.s)).setCell ⟨br, 1, none⟩ (.slice t.a1 t.n1 t.c1)).setCell ⟨br, 2, none⟩ (.slice t.a2 t.n2 t.c2)).setCell ⟨br, 3, none⟩ (.slice (some ⟨gT, 0, none⟩) n n)).setCell ⟨br, 4, none⟩ (.slice (some ⟨gN, 0, none⟩) n n)) gN un nq ∧ (((((wr.setCell ⟨br, 0, none⟩ (.bool t.s)).setCell ⟨br, 1, none⟩ (.slice t.a1 t.n1 t.c1)).setCell ⟨br, 2, none⟩ (.slice t.a2 t.n2 t.c2)).setCell ⟨br, 3, none⟩ (.slice (some ⟨gT, 0, none⟩) n n)).setCell ⟨br, 4, none⟩ (.slice (some ⟨gN, 0, none⟩) n n)).heap[br]? = some (.cells #[.bool t.s, .slice t.a1 t.n1 t.c1, .slice t.a2 t.n2 t.c2, .slice (some ⟨gT, 0, none⟩) n n, .slice (some ⟨gN, 0, none⟩) n n] 51) := by
  have far : ∀ g, g ≠ br → (((((wr.setCell ⟨br, 0, none⟩ (.bool t.s)).setCell ⟨br, 1, none⟩ (.slice t.a1 t.n1 t.c1)).setCell ⟨br, 2, none⟩ (.slice t.a2 t.n2 t.c2)).setCell ⟨br, 3, none⟩ (.slice (some ⟨gT, 0, none⟩) n n)).setCell ⟨br, 4, none⟩ (.slice (some ⟨gN, 0, none⟩) n n)).heap[g]? = wr.heap[g]? := fun g hg => mean_far hg
  have keep : ∀ {v : Value} {q : Rat}, RatIs wr v q → RatIs (((((wr.setCell ⟨br, 0, none⟩ (.bool t.s)).setCell ⟨br, 1, none⟩ (.slice t.a1 t.n1 t.c1)).setCell ⟨br, 2, none⟩ (.slice t.a2 t.n2 t.c2)).setCell ⟨br, 3, none⟩ (.slice (some ⟨gT, 0, none⟩) n n)).setCell ⟨br, 4, none⟩ (.slice (some ⟨gN, 0, none⟩) n n)) v q := fun {v q} hq => hq.other h.R noWordM (by simp [World.setCell]) (fun k hk => far k hk)
  have bl := ((((h.T.bl.setCell (p := ⟨br, 0, none⟩) h.gr (.bool t.s)).setCell (p := ⟨br, 1, none⟩) h.gr (.slice t.a1 t.n1 t.c1)).setCell (p := ⟨br, 2, none⟩) h.gr (.slice t.a2 t.n2 t.c2)).setCell (p := ⟨br, 3, none⟩) h.gr (.slice (some ⟨gT, 0, none⟩) n n)).setCell (p := ⟨br, 4, none⟩) h.gr (.slice (some ⟨gN, 0, none⟩) n n)
  refine ⟨keep h.O, ⟨by rw [far _ (Ne.symm (mean_ne h.R h.T.row))]; exact h.T.row, h.T.len, fun j hj => keep (h.T.rat j hj), bl, h.T.gl⟩, ⟨by rw [far _ (Ne.symm (mean_ne h.R h.N.row))]; exact h.N.row, h.N.len, fun j hj => keep (h.N.rat j hj), bl, h.N.gl⟩, ?_⟩
  have hM := h.R
  rw [setCell_eq, setCell_eq, setCell_eq, setCell_eq, setCell_eq]
  simp [mapBlock, Array.getElem?_modify, hM, onCells]
theorem mean_cells {W : World} {b : Nat} {x0 x1 x2 x3 x4 : Value} (h : W.heap[b]? = some (.cells #[x0, x1, x2, x3, x4] 51)) : (W.cell? ⟨b, 0, none⟩ = some x0 ∧ W.cell? ⟨b, 1, none⟩ = some x1 ∧ W.cell? ⟨b, 2, none⟩ = some x2 ∧ W.cell? ⟨b, 3, none⟩ = some x3 ∧ W.cell? ⟨b, 4, none⟩ = some x4) ∧ W.frozen? ⟨b, 0, none⟩ = false ∧ W.frozen? ⟨b, 1, none⟩ = false ∧ W.frozen? ⟨b, 2, none⟩ = false ∧ W.frozen? ⟨b, 3, none⟩ = false ∧ W.frozen? ⟨b, 4, none⟩ = false := by simp [World.cell?, World.frozen?, h]
end
/-- Whole, Sum, Div in a chain, what follows of them, a box at any time, and the store into it. -/
structure OftJ (q1 q2 q3 : Rat) (w0 : World) (s : Bool × Bool × Bool × Bool × Bool × Bool × Bool × Bool) (W : World) (s1 s2 s3 s7 s8 s9 s4 : Value) : Prop where
  bl : Below w0.heap.size w0 W
  r1 : s.1 = true → RatIs W s1 q1
  r2 : s.2.1 = true → s.1 = true ∧ RatIs W s2 q2
  r3 : s.2.2.1 = true → s.2.1 = true ∧ ∃ v, s3 = .tuple #[v, .nilIface] ∧ RatIs W v q3
  r7 : s.2.2.2.1 = true → s.2.2.1 = true ∧ s7 = s3
  r8 : s.2.2.2.2.1 = true → s.2.2.2.1 = true ∧ ∃ v, s3 = .tuple #[v, .nilIface] ∧ s8 = v
  r9 : s.2.2.2.2.2.1 = true → s.2.2.2.1 = true ∧ s9 = .nilIface
  al : s.2.2.2.2.2.2.1 = true → s.2.2.2.2.2.2.2 = false → ∃ b, s4 = .pointer (some ⟨b, 0, none⟩) ∧ BoxIs W b zTri 0 ∧ w0.heap.size ≤ b
  st : s.2.2.2.2.2.2.2 = true → s.2.2.2.2.2.2.1 = true ∧ s.2.2.2.2.1 = true ∧ ∃ b t, s4 = .pointer (some ⟨b, 0, none⟩) ∧ BoxIs W b t q3 ∧ w0.heap.size ≤ b
def nextO (s : Bool × Bool × Bool × Bool × Bool × Bool × Bool × Bool) (i : Nat) : Option (Bool × Bool × Bool × Bool × Bool × Bool × Bool × Bool) :=
  if i = 2 ∧ s.1 = false then some (true, s.2) else if i = 5 ∧ s.2.1 = false ∧ s.1 = true then some (s.1, true, s.2.2) else if i = 6 ∧ s.2.2.1 = false ∧ s.2.1 = true then some (s.1, s.2.1, true, s.2.2.2)
  else if i = 7 ∧ s.2.2.2.1 = false ∧ s.2.2.1 = true then some (s.1, s.2.1, s.2.2.1, true, s.2.2.2.2) else if i = 8 ∧ s.2.2.2.2.1 = false ∧ s.2.2.2.1 = true then some (s.1, s.2.1, s.2.2.1, s.2.2.2.1, true, s.2.2.2.2.2) else if i = 9 ∧ s.2.2.2.2.2.1 = false ∧ s.2.2.2.1 = true then some (s.1, s.2.1, s.2.2.1, s.2.2.2.1, s.2.2.2.2.1, true, s.2.2.2.2.2.2)
  else if i = 10 ∧ s.2.2.2.2.2.2.1 = false then some (s.1, s.2.1, s.2.2.1, s.2.2.2.1, s.2.2.2.2.1, s.2.2.2.2.2.1, true, s.2.2.2.2.2.2.2)
  else if i = 11 ∧ s.2.2.2.2.2.2.2 = false ∧ s.2.2.2.2.1 = true ∧ s.2.2.2.2.2.2.1 = true then some (s.1, s.2.1, s.2.2.1, s.2.2.2.1, s.2.2.2.2.1, s.2.2.2.2.2.1, s.2.2.2.2.2.2.1, true) else none
section
variable {q1 q2 q3 : Rat} {w0 wv wz : World} {b1 b2 b3 b7 b8 b9 b4 b0 : Bool} {s1 s2 s3 s7 s8 s9 s4 : Value}
theorem OftJ.start : OftJ q1 q2 q3 w0 (false, false, false, false, false, false, false, false) w0 s1 s2 s3 s7 s8 s9 s4 := ⟨Below.refl _ _, fun h => absurd h Bool.false_ne_true, fun h => absurd h Bool.false_ne_true, fun h => absurd h Bool.false_ne_true, fun h => absurd h Bool.false_ne_true, fun h => absurd h Bool.false_ne_true, fun h => absurd h Bool.false_ne_true, fun h => absurd h Bool.false_ne_true, fun h => absurd h Bool.false_ne_true⟩
theorem OftJ.keep {s : Bool × Bool × Bool × Bool × Bool × Bool × Bool × Bool} (J : OftJ q1 q2 q3 w0 s wv s1 s2 s3 s7 s8 s9 s4) (hb : Below wv.heap.size wv wz) : OftJ q1 q2 q3 w0 s wz s1 s2 s3 s7 s8 s9 s4 :=
  ⟨below_step J.bl hb, fun h => (J.r1 h).below hb, fun h => ⟨(J.r2 h).1, (J.r2 h).2.below hb⟩, fun h => by
    obtain ⟨e1, v, e2, e3⟩ := J.r3 h
    exact ⟨e1, v, e2, e3.below hb⟩, J.r7, J.r8, J.r9, fun h h' => by
    obtain ⟨b, e1, e2, e3⟩ := J.al h h'
    exact ⟨b, e1, e2.keep hb, e3⟩, fun h => by
    obtain ⟨h1, h2, b, t, e1, e2, e3⟩ := J.st h
    exact ⟨h1, h2, b, t, e1, e2.keep hb, e3⟩⟩
theorem OftJ.k1 {v : Value} (J : OftJ q1 q2 q3 w0 (false, b2, b3, b7, b8, b9, b4, b0) wv s1 s2 s3 s7 s8 s9 s4) (hv : RatIs wv v q1) : OftJ q1 q2 q3 w0 (true, b2, b3, b7, b8, b9, b4, b0) wv v s2 s3 s7 s8 s9 s4 :=
  ⟨J.bl, fun _ => hv, fun h => ⟨rfl, (J.r2 h).2⟩, J.r3, J.r7, J.r8, J.r9, J.al, J.st⟩
theorem OftJ.k2 {v : Value} (J : OftJ q1 q2 q3 w0 (true, false, b3, b7, b8, b9, b4, b0) wv s1 s2 s3 s7 s8 s9 s4) (hv : RatIs wv v q2) : OftJ q1 q2 q3 w0 (true, true, b3, b7, b8, b9, b4, b0) wv s1 v s3 s7 s8 s9 s4 :=
  ⟨J.bl, J.r1, fun _ => ⟨rfl, hv⟩, fun h => ⟨rfl, (J.r3 h).2⟩, J.r7, J.r8, J.r9, J.al, J.st⟩
theorem OftJ.k3 {v : Value} (J : OftJ q1 q2 q3 w0 (b1, true, false, b7, b8, b9, b4, b0) wv s1 s2 s3 s7 s8 s9 s4) (hv : RatIs wv v q3) : OftJ q1 q2 q3 w0 (b1, true, true, b7, b8, b9, b4, b0) wv s1 s2 (.tuple #[v, .nilIface]) s7 s8 s9 s4 :=
  ⟨J.bl, J.r1, J.r2, fun _ => ⟨rfl, v, rfl, hv⟩, fun h => absurd (J.r7 h).1 Bool.false_ne_true, fun h => absurd (J.r7 (J.r8 h).1).1 Bool.false_ne_true, fun h => absurd (J.r7 (J.r9 h).1).1 Bool.false_ne_true, J.al, J.st⟩
theorem OftJ.k7 (J : OftJ q1 q2 q3 w0 (b1, b2, true, false, b8, b9, b4, b0) wv s1 s2 s3 s7 s8 s9 s4) : OftJ q1 q2 q3 w0 (b1, b2, true, true, b8, b9, b4, b0) wv s1 s2 s3 s3 s8 s9 s4 :=
  ⟨J.bl, J.r1, J.r2, J.r3, fun _ => ⟨rfl, rfl⟩, fun h => ⟨rfl, (J.r8 h).2⟩, fun h => ⟨rfl, (J.r9 h).2⟩, J.al, J.st⟩
theorem OftJ.k8 {v : Value} (J : OftJ q1 q2 q3 w0 (b1, b2, b3, true, false, b9, b4, b0) wv s1 s2 (.tuple #[v, .nilIface]) s7 s8 s9 s4) : OftJ q1 q2 q3 w0 (b1, b2, b3, true, true, b9, b4, b0) wv s1 s2 (.tuple #[v, .nilIface]) s7 v s9 s4 :=
  ⟨J.bl, J.r1, J.r2, J.r3, J.r7, fun _ => ⟨rfl, v, rfl, rfl⟩, J.r9, J.al, fun h => absurd (J.st h).2.1 Bool.false_ne_true⟩
theorem OftJ.k9 (J : OftJ q1 q2 q3 w0 (b1, b2, b3, true, b8, false, b4, b0) wv s1 s2 s3 s7 s8 s9 s4) : OftJ q1 q2 q3 w0 (b1, b2, b3, true, b8, true, b4, b0) wv s1 s2 s3 s7 s8 .nilIface s4 :=
  ⟨J.bl, J.r1, J.r2, J.r3, J.r7, J.r8, fun _ => ⟨rfl, rfl⟩, J.al, J.st⟩
theorem OftJ.k4 (J : OftJ q1 q2 q3 w0 (b1, b2, b3, b7, b8, b9, false, b0) wv s1 s2 s3 s7 s8 s9 s4) : OftJ q1 q2 q3 w0 (b1, b2, b3, b7, b8, b9, true, b0) (wv.alloc (.cells #[.bool false, .slice none 0 0, .slice none 0 0] 39)) s1 s2 s3 s7 s8 s9 (.pointer (some ⟨wv.heap.size, 0, none⟩)) := by
  have hb := alloc_below wv (.cells #[.bool false, .slice none 0 0, .slice none 0 0] 39)
  have K := J.keep hb
  exact ⟨K.bl, K.r1, K.r2, K.r3, K.r7, K.r8, K.r9, fun _ _ => ⟨wv.heap.size, rfl, BoxIs.new (t := zTri) (rat_zero _), J.bl.size⟩, fun h => absurd (J.st h).1 Bool.false_ne_true⟩
theorem OftJ.k0 {b : Nat} {t u : Tri} {qb : Rat} (J : OftJ q1 q2 q3 w0 (b1, b2, b3, b7, true, b9, true, false) wv s1 s2 s3 s7 s8 s9 (.pointer (some ⟨b, 0, none⟩))) (hB : BoxIs wv b u qb) (hg : w0.heap.size ≤ b) (hv : RatIs wv t.val q3) : OftJ q1 q2 q3 w0 (b1, b2, b3, b7, true, b9, true, true) (((wv.setCell ⟨b, 0, none⟩ (.bool t.s)).setCell ⟨b, 1, none⟩ (.slice t.a1 t.n1 t.c1)).setCell ⟨b, 2, none⟩ (.slice t.a2 t.n2 t.c2)) s1 s2 s3 s7 s8 s9 (.pointer (some ⟨b, 0, none⟩)) :=
  ⟨((((J.bl).setCell (p := ⟨b, 0, none⟩) hg (.bool t.s)).setCell (p := ⟨b, 1, none⟩) hg (.slice t.a1 t.n1 t.c1)).setCell (p := ⟨b, 2, none⟩) hg (.slice t.a2 t.n2 t.c2)), fun h => (J.r1 h).boxSet hB _ _ _, fun h => ⟨(J.r2 h).1, (J.r2 h).2.boxSet hB _ _ _⟩, fun h => by
    obtain ⟨e1, v, e2, e3⟩ := J.r3 h
    exact ⟨e1, v, e2, e3.boxSet hB _ _ _⟩, J.r7, J.r8, J.r9, fun _ h => absurd (show true = false from h) (by decide), fun _ => ⟨rfl, rfl, b, t, rfl, hB.set hv, hg⟩⟩
end
def allB (f : Bool → Bool) : Bool := f false && f true
theorem allB_of {f : Bool → Bool} (h : allB f = true) (b : Bool) : f b = true := by
  unfold allB at h
  rw [Bool.and_eq_true] at h
  cases b
  · exact h.1
  · exact h.2
theorem check8 {g fin : Bool × Bool × Bool × Bool × Bool × Bool × Bool × Bool → Bool} (h : (allB fun a => allB fun b => allB fun c => allB fun d => allB fun e => allB fun f => allB fun i => allB fun j => fin (a, b, c, d, e, f, i, j) || g (a, b, c, d, e, f, i, j)) = true) : ∀ s, fin s = false → g s = true := by
  rintro ⟨a, b, c, d, e, f, i, j⟩ hs
  have k := allB_of (allB_of (allB_of (allB_of (allB_of (allB_of (allB_of (allB_of h a) b) c) d) e) f) i) j
  rw [hs, Bool.false_or] at k
  exact k
theorem check8' {g fin : Bool × Bool × Bool × Bool × Bool × Bool × Bool × Bool → Bool} (h : (allB fun a => allB fun b => allB fun c => allB fun d => allB fun e => allB fun f => allB fun i => allB fun j => fin (a, b, c, d, e, f, i, j) || !g (a, b, c, d, e, f, i, j)) = true) : ∀ s, fin s = false → g s = false := fun s hs => by
  have k := check8 (g := fun s => !g s) h s hs
  cases e : g s with
  | false => rfl
  | true => rw [e] at k; cases k

/-- What Means says, of r + 1 people. -/
def MeansPost (w : World) (d : Nat → Rat) (n r : Nat) (e : Ending) (w' : World) : Prop := ∃ (t : Tri) (gT gN : Nat), e = .returned (.tuple #[.agg #[.bool t.s, .slice t.a1 t.n1 t.c1, .slice t.a2 t.n2 t.c2, .slice (some ⟨gT, 0, none⟩) n n, .slice (some ⟨gN, 0, none⟩) n n], .nilIface]) ∧ RatIs w' t.val (Net.oft d n r) ∧ LawIs w' (.slice (some ⟨gT, 0, none⟩) n n) (row (Net.tim d n r) n) ∧ LawIs w' (.slice (some ⟨gN, 0, none⟩) n n) (row (Net.num d n (r + 1)) n) ∧ Below w.heap.size w w'

set_option maxHeartbeats 8000000 in
set_option maxRecDepth 100000 in
set_option linter.unusedSimpArgs false in
theorem means_any (v : Value) (d : Nat → Rat) (n r : Nat) (w : World) (h : LawIs w v (row d n)) (hn0 : 0 < n) (hn5 : n ≤ 5) (hP : r ≤ 6) (hd : ∀ i, i < n → 0 ≤ d i) (hd0 : 0 < d 0) (hR : ∀ i, i < n → RS (d i) (XB + 1)) :
    Calls Tryz.prog 21 #[v, .int .i64 ((r : Int) + 1)] w (MeansPost w d n r) := by
  have KKe : KK = 1099511627776 := rfl
  have HV := hide h
  have HR := hide hR
  have HN0 := hide hn0
  have HZ : Hid (∀ k, Net.bz d n k ≠ 0) := fun k => by
    obtain ⟨m, rfl⟩ : ∃ m, n = m + 1 := ⟨n - 1, by omega⟩
    exact Bth.ne_of_pos (Net.bz_pos hd hd0 m k (Nat.le_refl _))
  have HTP : Hid (∀ k, 0 < Bth.ps (Net.tim d n k) n) := fun k => by
    obtain ⟨m, rfl⟩ : ∃ m, n = m + 1 := ⟨n - 1, by omega⟩
    exact Net.tim_pos hd hd0 (Nat.le_refl _) k
  have bA := alloc_below w (.cells #[.bool false, .slice none 0 0, .slice none 0 0, .slice none 0 0, .slice none 0 0] 51)
  have HCK : Hid (Calls Tryz.prog 43 #[v, .int .i64 ((r : Int) + 1)] (w.alloc (.cells #[.bool false, .slice none 0 0, .slice none 0 0, .slice none 0 0, .slice none 0 0] 51)) (CheckPost (w.alloc (.cells #[.bool false, .slice none 0 0, .slice none 0 0, .slice none 0 0, .slice none 0 0] 51)) (NonNeg (row d n)))) := checkCrowd_any v (row d n) (r + 1) _ (h.below bA) (by omega) (by rw [row_length]; exact hn5) (by rw [row_length]; exact hn0)
  have HNN : Hid (NonNeg (row d n)) := fun j hj => by
    rw [row_length] at hj
    rw [row_get hj]; exact hd j hj
  have hnew := heap_alloc_new w (.cells #[.bool false, .slice none 0 0, .slice none 0 0, .slice none 0 0, .slice none 0 0] 51)
  obtain ⟨W0, hW0⟩ : ∃ W, w.alloc (.cells #[.bool false, .slice none 0 0, .slice none 0 0, .slice none 0 0, .slice none 0 0] 51) = W := ⟨_, rfl⟩
  obtain ⟨br, hbr⟩ : ∃ g, w.heap.size = g := ⟨_, rfl⟩
  rw [hW0] at HCK bA hnew
  rw [hbr] at hnew
  have HBR := hide hnew
  have HB0 := hide bA
  have HGR : Hid (w.heap.size ≤ br) := by show _ ≤ _; omega
  obtain ⟨a, c, rfl, h1, h2, h3⟩ := h
  rw [row_length] at h1 h3 HCK ⊢
  have H3 := hide h3
  clear h3 hd hR hn0 hd0 bA hnew
  go_enter Tryz.func21, Tryz.ntmps21
  go_wp2_with fail
  clear hW0 hbr
  refine (unhide HCK).mono ?_
  rintro e w1 ⟨(⟨_, rfl⟩ | ⟨hx, k, rfl⟩), hb1⟩
  rotate_left
  · exact absurd (unhide HNN) hx
  have HB1 := hide (below_step (unhide HB0) hb1)
  have HBR1 := hide (heap_kept (unhide HBR) hb1)
  clear hb1 HCK HB0 HBR
  go_wp2_with fail
  refine wp_region_hold (fun _ => True) (by kernel_rfl) ?_
  have bd0 : Below w1.heap.size w1 w1.drew := (Below.refl _ _).drew
  obtain ⟨Wx, hWx⟩ : ∃ W, w1.drew = W := ⟨_, rfl⟩
  rw [hWx] at bd0 ⊢
  have hC0 : (fun _ : World => True) Wx := trivial
  refine wpHold_take (i := 0) (v := ?_) rfl (by kernel_rfl) (by kernel_rfl) (by kernel_rfl) (fun _ _ _ h => h) (Or.inl ⟨by rfl, ?_⟩) hC0 ?_
  rotate_left
  · intro w hSw; clear hSw; go_simp; (try with_reducible rfl)
  (try simp only [List.getElem_toArray, List.getElem_cons_succ, List.getElem_cons_zero])
  (try simp only [Act.put, List.setIfInBounds_toArray, List.set_cons_zero, List.set_cons_succ])
  refine wpHold_take (i := 2) (v := ?_) rfl (by kernel_rfl) (by kernel_rfl) (by kernel_rfl) (fun _ _ _ h => h) (Or.inl ⟨by rfl, ?_⟩) hC0 ?_
  rotate_left
  · intro w hSw; clear hSw; go_simp; (try with_reducible rfl)
  (try simp only [List.getElem_toArray, List.getElem_cons_succ, List.getElem_cons_zero])
  (try simp only [Act.put, List.setIfInBounds_toArray, List.set_cons_zero, List.set_cons_succ])
  refine wpHold_listed (n := 5) (L' := (fun s : Bool × Bool × Bool × Bool => #[true, s.1, true, s.2.1, s.2.2.2, s.2.2.1, false]) (false, false, false, false)) (by kernel_rfl) (by kernel_rfl) ?_
  refine wpHold_name (fun a0 ha0 => ?_)
  refine walk_any (fun s : Bool × Bool × Bool × Bool => #[true, s.1, true, s.2.1, s.2.2.2, s.2.2.1, false]) (fun s => 5 - (s.1.toNat + s.2.1.toNat + s.2.2.1.toNat + s.2.2.2.toNat)) (fun s => s.1 && s.2.1 && s.2.2.1 && s.2.2.2) next5 (fun s na W => ∃ s1 s2 s3 s4, na = (((a0.put (some 24) s1).put (some 26) s2).put (some 8) s3).put (some 27) s4 ∧ MeanJ Wx n s W s1 s2 s3 s4) ?_ ?_ ?_ ?_ 5 (false, false, false, false) rfl _ _ ⟨undef, undef, undef, undef, by subst ha0; rfl, MeanJ.start _ _ _ _ _ _⟩
  · clear ha0
    rintro ⟨a, b, c, e⟩ hs
    cases a
    · cases b <;> cases c <;> cases e <;> (show (_ : Bool) = _; kernel_rfl)
    · cases b
      · cases c <;> cases e <;> (show (_ : Bool) = _; kernel_rfl)
      · cases c
        · cases e <;> (show (_ : Bool) = _; kernel_rfl)
        · cases e
          · show (_ : Bool) = _; kernel_rfl
          · exact absurd (show true = false from hs) (by decide)
  · clear ha0
    rintro ⟨a, b, c, e⟩ hs
    cases a
    · cases b <;> cases c <;> cases e <;> (show (_ : Bool) = _; kernel_rfl)
    · cases b
      · cases c <;> cases e <;> (show (_ : Bool) = _; kernel_rfl)
      · cases c
        · cases e <;> (show (_ : Bool) = _; kernel_rfl)
        · cases e
          · show (_ : Bool) = _; kernel_rfl
          · exact absurd (show true = false from hs) (by decide)
  · rintro ⟨a, b, c, e⟩ i s' hs na wv ⟨s1, s2, s3, s4, rfl, J⟩
    subst ha0
    unfold next5 at hs
    by_cases h1 : i = 1 ∧ a = false
    · obtain ⟨rfl, rfl⟩ := h1
      rw [if_pos ⟨rfl, rfl⟩] at hs
      injection hs with hs
      subst hs
      have qmk := make_ratios (n : Int) (by omega) (by omega) wv
      rw [Int.toNat_natCast] at qmk
      refine wpOp_step rfl (fun K hK => ?_)
      (try simp only [Act.put, List.setIfInBounds_toArray, List.set_cons_zero, List.set_cons_succ] at hK ⊢)
      (try simp only [List.getElem_toArray, List.getElem_cons_succ, List.getElem_cons_zero])
      go_simp
      exact hK _ _ ⟨trivial, _, s2, s3, s4, rfl, J.made1⟩
    rw [if_neg h1] at hs
    by_cases h2 : i = 3 ∧ b = false
    · obtain ⟨rfl, rfl⟩ := h2
      rw [if_pos ⟨rfl, rfl⟩] at hs
      injection hs with hs
      subst hs
      have qmk := make_ratios (n : Int) (by omega) (by omega) wv
      rw [Int.toNat_natCast] at qmk
      refine wpOp_step rfl (fun K hK => ?_)
      (try simp only [Act.put, List.setIfInBounds_toArray, List.set_cons_zero, List.set_cons_succ] at hK ⊢)
      (try simp only [List.getElem_toArray, List.getElem_cons_succ, List.getElem_cons_zero])
      go_simp
      exact hK _ _ ⟨trivial, s1, _, s3, s4, rfl, J.made2⟩
    rw [if_neg h2] at hs
    by_cases h3 : i = 5 ∧ c = false
    · obtain ⟨rfl, rfl⟩ := h3
      rw [if_pos ⟨rfl, rfl⟩] at hs
      injection hs with hs
      subst hs
      refine wpOp_step rfl (fun K hK => ?_)
      (try simp only [Act.put, List.setIfInBounds_toArray, List.set_cons_zero, List.set_cons_succ] at hK ⊢)
      (try simp only [List.getElem_toArray, List.getElem_cons_succ, List.getElem_cons_zero])
      go_simp
      exact hK _ _ ⟨trivial, s1, s2, _, s4, rfl, J.made3⟩
    rw [if_neg h3] at hs
    by_cases h4 : i = 4 ∧ e = false ∧ a = true ∧ b = true
    · obtain ⟨rfl, rfl, rfl, rfl⟩ := h4
      rw [if_pos ⟨rfl, rfl, rfl, rfl⟩] at hs
      injection hs with hs
      subst hs
      obtain ⟨g1, e1, _, _⟩ := J.j1 rfl
      obtain ⟨g2, e2, _, _⟩ := J.j2 rfl
      subst e1 e2
      refine wpOp_step rfl (fun K hK => ?_)
      (try simp only [Act.put, List.setIfInBounds_toArray, List.set_cons_zero, List.set_cons_succ] at hK ⊢)
      (try simp only [List.getElem_toArray, List.getElem_cons_succ, List.getElem_cons_zero])
      go_simp
      exact hK _ _ ⟨trivial, _, _, s3, _, rfl, J.made4⟩
    rw [if_neg h4] at hs
    cases hs
  · rintro ⟨a, b, c, e⟩ hs na wv ⟨s1, s2, s3, s4, rfl, J⟩
    subst ha0
    obtain ⟨rfl, rfl, rfl, rfl⟩ : a = true ∧ b = true ∧ c = true ∧ e = true := by
      have hs' : (a && b && c && e) = true := hs
      simp only [Bool.and_eq_true] at hs'
      exact ⟨hs'.1.1.1, hs'.1.1.2, hs'.1.2, hs'.2⟩
    obtain ⟨gT, rfl, hT, gT1⟩ := J.j1 rfl
    obtain ⟨gN, rfl, hN, gN1⟩ := J.j2 rfl
    obtain ⟨bm, rfl, hM, gm1⟩ := J.j3 rfl
    obtain ⟨_, _, rfl⟩ := J.j4 rfl
    have hne : gT ≠ gN := fun e => J.ne rfl rfl (by rw [e])
    (try simp only [Act.put, List.setIfInBounds_toArray, List.set_cons_zero, List.set_cons_succ])
    have bwv := below_step (below_step (unhide HB1) bd0) J.bl
    have hsx : w.heap.size ≤ Wx.heap.size := (below_step (unhide HB1) bd0).size
    have hR := heap_kept (heap_kept (unhide HBR1) bd0) J.bl
    have hrx : br < Wx.heap.size := (Array.getElem?_eq_some_iff.1 (heap_kept (unhide HBR1) bd0)).1
    have hLay := mean_lay (gT := gT) (gN := gN) (n := n) hM
    have kM : (wv.cell? ⟨bm, 0, none⟩ = some (.bool false) ∧ wv.cell? ⟨bm, 1, none⟩ = some (.slice none 0 0) ∧ wv.cell? ⟨bm, 2, none⟩ = some (.slice none 0 0) ∧ wv.cell? ⟨bm, 3, none⟩ = some (.slice none 0 0) ∧ wv.cell? ⟨bm, 4, none⟩ = some (.slice none 0 0)) ∧ wv.frozen? ⟨bm, 0, none⟩ = false ∧ wv.frozen? ⟨bm, 1, none⟩ = false ∧ wv.frozen? ⟨bm, 2, none⟩ = false ∧ wv.frozen? ⟨bm, 3, none⟩ = false ∧ wv.frozen? ⟨bm, 4, none⟩ = false := by simp [World.cell?, World.frozen?, hM]
    have nT := mean_ne hM hT
    have nN := mean_ne hM hN
    have nR : br ≠ bm := by omega
    have gmm : w.heap.size ≤ bm := by omega
    have bW := ((((bwv.setCell (p := ⟨bm, 0, none⟩) gmm (.bool false)).setCell (p := ⟨bm, 1, none⟩) gmm (.slice none 0 0)).setCell (p := ⟨bm, 2, none⟩) gmm (.slice none 0 0)).setCell (p := ⟨bm, 3, none⟩) gmm (.slice (some ⟨gT, 0, none⟩) n n)).setCell (p := ⟨bm, 4, none⟩) gmm (.slice (some ⟨gN, 0, none⟩) n n)
    have oT := (mean_far (W := wv) (b := bm) (g := gT) (x0 := .bool false) (x1 := .slice none 0 0) (x2 := .slice none 0 0) (x3 := .slice (some ⟨gT, 0, none⟩) n n) (x4 := .slice (some ⟨gN, 0, none⟩) n n) (Ne.symm nT)).trans hT
    have oN := (mean_far (W := wv) (b := bm) (g := gN) (x0 := .bool false) (x1 := .slice none 0 0) (x2 := .slice none 0 0) (x3 := .slice (some ⟨gT, 0, none⟩) n n) (x4 := .slice (some ⟨gN, 0, none⟩) n n) (Ne.symm nN)).trans hN
    have oR := (mean_far (W := wv) (b := bm) (g := br) (x0 := .bool false) (x1 := .slice none 0 0) (x2 := .slice none 0 0) (x3 := .slice (some ⟨gT, 0, none⟩) n n) (x4 := .slice (some ⟨gN, 0, none⟩) n n) nR).trans hR
    obtain ⟨Wm, hWm⟩ : ∃ W, ((((wv.setCell ⟨bm, 0, none⟩ (.bool false)).setCell ⟨bm, 1, none⟩ (.slice none 0 0)).setCell ⟨bm, 2, none⟩ (.slice none 0 0)).setCell ⟨bm, 3, none⟩ (.slice (some ⟨gT, 0, none⟩) n n)).setCell ⟨bm, 4, none⟩ (.slice (some ⟨gN, 0, none⟩) n n) = W := ⟨_, rfl⟩
    rw [hWm] at hLay bW oT oN oR
    have MS : MeanS w Wm bm gT gN br n (List.replicate n zTri) (List.replicate n zTri) (List.replicate n 0) (List.replicate n 0) zTri 0 := ⟨sums_of oT bW (by omega), sums_of oN bW (by omega), hLay, rat_zero _, oR, hne, nR, gmm, unhide HGR⟩
    have HMS := hide MS
    obtain ⟨⟨m0, m1, m2, m3, m4⟩, f0, f1, f2, f3, f4⟩ := kM
    have hCm : (fun _ : World => True) Wm := trivial
    clear J hT hN hM gT1 gN1 gm1 bwv hR hrx hLay bW oT oN oR MS hC0 bd0 hWx hne nT nN nR gmm hsx HB1 HBR1
    refine wpHold_one (k := 6) (by kernel_rfl) rfl (fun K hK => ?_)
    (try simp only [List.getElem_toArray, List.getElem_cons_succ, List.getElem_cons_zero])
    go_simp
    refine hK.out _ _ hCm ?_
    clear hK K
    (try simp only [Act.put, List.setIfInBounds_toArray, List.set_cons_zero, List.set_cons_succ])
    refine wpHold_done (by kernel_rfl) ?_ _
    clear m0 m1 m2 m3 m4 f0 f1 f2 f3 f4 hWm hCm
    go_wp2_with fail
    rw [show (List.replicate n (0 : Rat)) = row (Net.num d n 0) n from row_eq (by simp) (fun i hi => by rw [Net.num_zero]; simp [hi])] at HMS
    go_loopw [29] (fun vi wr => ∃ (q : Nat) (ut un : List Tri) (tq : List Rat) (t : Tri) (oq : Rat), vi = .int .i64 (q : Int) ∧ q ≤ r + 1 ∧ MeanQ d n q tq oq ∧ MeanS w wr bm gT gN br n ut un tq (row (Net.num d n q) n) t oq) (fun vi _ => r + 1 - (intOf vi).toNat)
    case atStart => exact ⟨0, _, _, _, _, _, rfl, Nat.zero_le _, ⟨by simp [row_length], fun k hk => by omega⟩, unhide HMS⟩
    case round =>
      obtain ⟨q, ut, un, tq, t, oq, rfl, hq, hQ, hS⟩ := hrel
      clear HMS
      by_cases hlt : q < r + 1
      · have e1 : (q : Int) < (r : Int) + 1 := by omega
        have HTL : Hid (FillTo (Net.tim d n q) n 0 tq) := ⟨hQ.1, fun j hj => by omega⟩
        have HS := hide hS
        clear hS hQ
        go_wp2_with fail
        go_loopw [33] (fun vi wr => ∃ (i : Nat) (ut : List Tri) (tq : List Rat), vi = .int .i64 (i : Int) ∧ i ≤ n ∧ FillTo (Net.tim d n q) n i tq ∧ MeanS w wr bm gT gN br n ut un tq (row (Net.num d n q) n) t oq) (fun vi _ => n - (intOf vi).toNat)
        case atStart => exact ⟨0, _, _, rfl, Nat.zero_le _, unhide HTL, unhide HS⟩
        case round =>
          obtain ⟨i, ut, tq, rfl, hi, hF, hS⟩ := hrel
          clear HS HTL
          have HF := hide hF
          have HS := hide hS
          have hul : ut.length = n := by rw [hS.T.len, hF.1]
          have hnl : un.length = n := by rw [hS.N.len, row_length]
          by_cases hlt2 : i < n
          · have e2 : (i : Int) < (n : Int) := by omega
            have e3 : (0 : Int) ≤ (i : Int) := by omega
            have ⟨⟨c0, c1, c2⟩, _⟩ := hS.N.cells i (by omega)
            have rn := hS.N.rat i (by omega)
            rw [row_get hlt2] at rn
            obtain ⟨tn, htn⟩ : ∃ t, un[i]! = t := ⟨_, rfl⟩
            rw [htn] at c0 c1 c2 rn
            obtain ⟨b, o, rfl, hblt, hcs⟩ := unhide H3 (by omega)
            obtain ⟨xs, xp1, xp2, xn1, xd1, xn2, xd2, xk0, xk1, xk2, xr⟩ := hcs i hlt2
            obtain ⟨tx, rfl, rfl, rfl, rfl, rfl, rfl, rfl⟩ : ∃ t : Tri, xs = t.s ∧ xp1 = t.a1 ∧ xp2 = t.a2 ∧ xn1 = t.n1 ∧ xd1 = t.c1 ∧ xn2 = t.n2 ∧ xd2 = t.c2 := ⟨⟨xs, xp1, xp2, xn1, xd1, xn2, xd2⟩, rfl, rfl, rfl, rfl, rfl, rfl, rfl⟩
            rw [row_get hlt2] at xr
            have hGl := hS.lt.2.2.1
            have HBL := hide hS.T.bl
            have HRX := hide (xr.below hS.T.bl)
            have HRN := hide rn
            have HCC : Hid (∀ W, Below wr.heap.size wr W → (fun w' : World => w'.cell? ⟨bm, 3, none⟩ = some (.slice (some ⟨gT, 0, none⟩) n n) ∧ w'.cell? ⟨bm, 4, none⟩ = some (.slice (some ⟨gN, 0, none⟩) n n) ∧ (w'.cell? ⟨b, o + i * 3, none⟩ = some (.bool tx.s) ∧ w'.cell? ⟨b, o + i * 3 + 1, none⟩ = some (.slice tx.a1 tx.n1 tx.c1) ∧ w'.cell? ⟨b, o + i * 3 + 2, none⟩ = some (.slice tx.a2 tx.n2 tx.c2)) ∧ (w'.cell? ⟨gN, i * 3, none⟩ = some (.bool tn.s) ∧ w'.cell? ⟨gN, i * 3 + 1, none⟩ = some (.slice tn.a1 tn.n1 tn.c1) ∧ w'.cell? ⟨gN, i * 3 + 2, none⟩ = some (.slice tn.a2 tn.n2 tn.c2))) W) := fun W hW => by
              have bc := below_step (unhide HBL) hW
              have ⟨_, k3, k4⟩ := (unhide HS).kM W hW
              refine ⟨k3, k4, ?_, ?_⟩
              · rw [bc.cell (p := ⟨b, o + i * 3, none⟩) hblt, bc.cell (p := ⟨b, o + i * 3 + 1, none⟩) hblt, bc.cell (p := ⟨b, o + i * 3 + 2, none⟩) hblt]; exact ⟨xk0, xk1, xk2⟩
              · rw [hW.cell (p := ⟨gN, i * 3, none⟩) hGl, hW.cell (p := ⟨gN, i * 3 + 1, none⟩) hGl, hW.cell (p := ⟨gN, i * 3 + 2, none⟩) hGl]; exact ⟨c0, c1, c2⟩
            have hq6 : q ≤ 6 := by omega
            have HAD : Hid (∀ W v, Below wr.heap.size wr W → RatIs W v ((1 : Int) : Rat) → Calls Tryz.prog 14 #[.agg #[.bool tn.s, .slice tn.a1 tn.n1 tn.c1, .slice tn.a2 tn.n2 tn.c2], v] W fun e w' => ∃ v, e = .returned v ∧ RatIs w' v (Net.num d n q i + 1) ∧ Below W.heap.size W w') := fun W v hW hv => addR_any tn.val v _ _ W ((unhide HRN).below hW) hv 35000000000 (num_RS (unhide HR) hn5 (Nat.le_refl _) (by omega) (unhide HZ q) hlt2) (onei_RS.mono (by omega)) (by rw [KKe]; omega)
            have HMU : Hid (∀ W v, Below wr.heap.size wr W → RatIs W v (Net.num d n q i + 1) → Calls Tryz.prog 15 #[.agg #[.bool tx.s, .slice tx.a1 tx.n1 tx.c1, .slice tx.a2 tx.n2 tx.c2], v] W fun e w' => ∃ v, e = .returned v ∧ RatIs w' v (Net.tim d n q i) ∧ Below W.heap.size W w') := fun W v hW hv => by
              have h := mulR_any tx.val v _ _ W ((unhide HRX).below hW) hv 35000000005 ((unhide HR i hlt2).mono (by decide)) (((num_RS (unhide HR) hn5 (Nat.le_refl _) (by omega) (unhide HZ q) hlt2).add one_RS').mono (by omega)) (by rw [KKe]; omega)
              rw [Net.tim_next (unhide HZ q)] at h
              exact h
            clear hS hF rn htn c0 c1 c2 hcs xr xk0 xk1 xk2 hGl
            go_wp2_with fail
            refine wp_region_till (fun w' : World => w'.cell? ⟨bm, 3, none⟩ = some (.slice (some ⟨gT, 0, none⟩) n n) ∧ w'.cell? ⟨bm, 4, none⟩ = some (.slice (some ⟨gN, 0, none⟩) n n) ∧ (w'.cell? ⟨b, o + i * 3, none⟩ = some (.bool tx.s) ∧ w'.cell? ⟨b, o + i * 3 + 1, none⟩ = some (.slice tx.a1 tx.n1 tx.c1) ∧ w'.cell? ⟨b, o + i * 3 + 2, none⟩ = some (.slice tx.a2 tx.n2 tx.c2)) ∧ (w'.cell? ⟨gN, i * 3, none⟩ = some (.bool tn.s) ∧ w'.cell? ⟨gN, i * 3 + 1, none⟩ = some (.slice tn.a1 tn.n1 tn.c1) ∧ w'.cell? ⟨gN, i * 3 + 2, none⟩ = some (.slice tn.a2 tn.n2 tn.c2))) 16 (by kernel_rfl) ?_
            have bd0 : Below wr.heap.size wr wr.drew := (Below.refl _ _).drew
            have hC0 : (fun w' : World => w'.cell? ⟨bm, 3, none⟩ = some (.slice (some ⟨gT, 0, none⟩) n n) ∧ w'.cell? ⟨bm, 4, none⟩ = some (.slice (some ⟨gN, 0, none⟩) n n) ∧ (w'.cell? ⟨b, o + i * 3, none⟩ = some (.bool tx.s) ∧ w'.cell? ⟨b, o + i * 3 + 1, none⟩ = some (.slice tx.a1 tx.n1 tx.c1) ∧ w'.cell? ⟨b, o + i * 3 + 2, none⟩ = some (.slice tx.a2 tx.n2 tx.c2)) ∧ (w'.cell? ⟨gN, i * 3, none⟩ = some (.bool tn.s) ∧ w'.cell? ⟨gN, i * 3 + 1, none⟩ = some (.slice tn.a1 tn.n1 tn.c1) ∧ w'.cell? ⟨gN, i * 3 + 2, none⟩ = some (.slice tn.a2 tn.n2 tn.c2))) wr.drew := unhide HCC _ bd0
            refine wpTill_pure (i := 0) (v := ?_) rfl (by kernel_rfl) (by kernel_rfl) (by kernel_rfl) (by kernel_rfl) (fun _ _ _ h => h) (Or.inl ⟨by rfl, ?_⟩) (fun _ => hC0) ?_
            rotate_left
            · intro w hSw; clear hSw; go_simp; (try with_reducible rfl)
            (try simp only [List.getElem_toArray, List.getElem_cons_succ, List.getElem_cons_zero])
            (try simp only [Act.put, List.setIfInBounds_toArray, List.set_cons_zero, List.set_cons_succ])
            refine wpTill_take (i := 1) (v := ?_) rfl (by kernel_rfl) (by kernel_rfl) (by kernel_rfl) (by kernel_rfl) (by kernel_rfl) (by kernel_rfl) (fun _ _ _ h => h) (Or.inl ⟨by rfl, ?_⟩) hC0 ?_
            rotate_left
            · intro w hSw; (try dsimp only at hSw); obtain ⟨zt, zn, ⟨z0, z1, z2⟩, z3, z4, z5⟩ := hSw; go_simp; (try with_reducible rfl)
            (try simp only [List.getElem_toArray, List.getElem_cons_succ, List.getElem_cons_zero])
            (try simp only [Act.put, List.setIfInBounds_toArray, List.set_cons_zero, List.set_cons_succ])
            refine wpTill_pure (i := 2) (v := ?_) rfl (by kernel_rfl) (by kernel_rfl) (by kernel_rfl) (by kernel_rfl) (fun _ _ _ h => h) (Or.inl ⟨by rfl, ?_⟩) (fun _ => hC0) ?_
            rotate_left
            · intro w hSw; clear hSw; go_simp; (try with_reducible rfl)
            (try simp only [List.getElem_toArray, List.getElem_cons_succ, List.getElem_cons_zero])
            (try simp only [Act.put, List.setIfInBounds_toArray, List.set_cons_zero, List.set_cons_succ])
            refine wpTill_pure (i := 3) (v := ?_) rfl (by kernel_rfl) (by kernel_rfl) (by kernel_rfl) (by kernel_rfl) (fun _ _ _ h => h) (Or.inl ⟨by rfl, ?_⟩) (fun _ => hC0) ?_
            rotate_left
            · intro w hSw; clear hSw; go_simp; (try with_reducible rfl)
            (try simp only [List.getElem_toArray, List.getElem_cons_succ, List.getElem_cons_zero])
            (try simp only [Act.put, List.setIfInBounds_toArray, List.set_cons_zero, List.set_cons_succ])
            refine wpTill_pure (i := 4) (v := ?_) rfl (by kernel_rfl) (by kernel_rfl) (by kernel_rfl) (by kernel_rfl) (fun _ _ _ h => h) (Or.inl ⟨by rfl, ?_⟩) (fun _ => hC0) ?_
            rotate_left
            · intro w hSw; clear hSw; go_simp; (try with_reducible rfl)
            (try simp only [List.getElem_toArray, List.getElem_cons_succ, List.getElem_cons_zero])
            (try simp only [Act.put, List.setIfInBounds_toArray, List.set_cons_zero, List.set_cons_succ])
            refine wpTill_pure (i := 5) (v := ?_) rfl (by kernel_rfl) (by kernel_rfl) (by kernel_rfl) (by kernel_rfl) (fun _ _ _ h => h) (Or.inl ⟨by rfl, ?_⟩) (fun _ => hC0) ?_
            rotate_left
            · intro w hSw; clear hSw; go_simp; (try with_reducible rfl)
            (try simp only [List.getElem_toArray, List.getElem_cons_succ, List.getElem_cons_zero])
            (try simp only [Act.put, List.setIfInBounds_toArray, List.set_cons_zero, List.set_cons_succ])
            refine wpTill_take (i := 6) (v := ?_) rfl (by kernel_rfl) (by kernel_rfl) (by kernel_rfl) (by kernel_rfl) (by kernel_rfl) (by kernel_rfl) (fun _ _ _ h => h) (Or.inl ⟨by rfl, ?_⟩) hC0 ?_
            rotate_left
            · intro w hSw; (try dsimp only at hSw); obtain ⟨zt, zn, ⟨z0, z1, z2⟩, z3, z4, z5⟩ := hSw; go_simp; (try with_reducible rfl)
            (try simp only [List.getElem_toArray, List.getElem_cons_succ, List.getElem_cons_zero])
            (try simp only [Act.put, List.setIfInBounds_toArray, List.set_cons_zero, List.set_cons_succ])
            refine wpTill_pure (i := 7) (v := ?_) rfl (by kernel_rfl) (by kernel_rfl) (by kernel_rfl) (by kernel_rfl) (fun _ _ _ h => h) (Or.inl ⟨by rfl, ?_⟩) (fun _ => hC0) ?_
            rotate_left
            · intro w hSw; clear hSw; go_simp; (try with_reducible rfl)
            (try simp only [List.getElem_toArray, List.getElem_cons_succ, List.getElem_cons_zero])
            (try simp only [Act.put, List.setIfInBounds_toArray, List.set_cons_zero, List.set_cons_succ])
            refine wpTill_take (i := 8) (v := ?_) rfl (by kernel_rfl) (by kernel_rfl) (by kernel_rfl) (by kernel_rfl) (by kernel_rfl) (by kernel_rfl) (fun _ _ _ h => h) (Or.inl ⟨by rfl, ?_⟩) hC0 ?_
            rotate_left
            · intro w hSw; (try dsimp only at hSw); obtain ⟨zt, zn, ⟨z0, z1, z2⟩, z3, z4, z5⟩ := hSw; go_simp; (try with_reducible rfl)
            (try simp only [List.getElem_toArray, List.getElem_cons_succ, List.getElem_cons_zero])
            (try simp only [Act.put, List.setIfInBounds_toArray, List.set_cons_zero, List.set_cons_succ])
            refine wpTill_pure (i := 9) (v := ?_) rfl (by kernel_rfl) (by kernel_rfl) (by kernel_rfl) (by kernel_rfl) (fun _ _ _ h => h) (Or.inl ⟨by rfl, ?_⟩) (fun _ => hC0) ?_
            rotate_left
            · intro w hSw; clear hSw; go_simp; (try with_reducible rfl)
            (try simp only [List.getElem_toArray, List.getElem_cons_succ, List.getElem_cons_zero])
            (try simp only [Act.put, List.setIfInBounds_toArray, List.set_cons_zero, List.set_cons_succ])
            refine wpTill_pure (i := 10) (v := ?_) rfl (by kernel_rfl) (by kernel_rfl) (by kernel_rfl) (by kernel_rfl) (fun _ _ _ h => h) (Or.inl ⟨by rfl, ?_⟩) (fun _ => hC0) ?_
            rotate_left
            · intro w hSw; clear hSw; go_simp; (try with_reducible rfl)
            (try simp only [List.getElem_toArray, List.getElem_cons_succ, List.getElem_cons_zero])
            (try simp only [Act.put, List.setIfInBounds_toArray, List.set_cons_zero, List.set_cons_succ])
            refine wpTill_take (i := 11) (v := ?_) rfl (by kernel_rfl) (by kernel_rfl) (by kernel_rfl) (by kernel_rfl) (by kernel_rfl) (by kernel_rfl) (fun _ _ _ h => h) (Or.inl ⟨by rfl, ?_⟩) hC0 ?_
            rotate_left
            · intro w hSw; (try dsimp only at hSw); obtain ⟨zt, zn, ⟨z0, z1, z2⟩, z3, z4, z5⟩ := hSw; go_simp; (try with_reducible rfl)
            (try simp only [List.getElem_toArray, List.getElem_cons_succ, List.getElem_cons_zero])
            (try simp only [Act.put, List.setIfInBounds_toArray, List.set_cons_zero, List.set_cons_succ])
            refine wpTill_one (k := 12) (by kernel_rfl) rfl (fun K hK => ?_)
            (try simp only [List.getElem_toArray, List.getElem_cons_succ, List.getElem_cons_zero])
            go_simp
            refine (whole_any 1 (by decide) (by decide) _).mono ?_
            rintro e xw_1 ⟨xv_1, rfl, hv_1, hb_1⟩
            have cc_1 := below_step bd0 hb_1
            have hC_1 : (fun w' : World => w'.cell? ⟨bm, 3, none⟩ = some (.slice (some ⟨gT, 0, none⟩) n n) ∧ w'.cell? ⟨bm, 4, none⟩ = some (.slice (some ⟨gN, 0, none⟩) n n) ∧ (w'.cell? ⟨b, o + i * 3, none⟩ = some (.bool tx.s) ∧ w'.cell? ⟨b, o + i * 3 + 1, none⟩ = some (.slice tx.a1 tx.n1 tx.c1) ∧ w'.cell? ⟨b, o + i * 3 + 2, none⟩ = some (.slice tx.a2 tx.n2 tx.c2)) ∧ (w'.cell? ⟨gN, i * 3, none⟩ = some (.bool tn.s) ∧ w'.cell? ⟨gN, i * 3 + 1, none⟩ = some (.slice tn.a1 tn.n1 tn.c1) ∧ w'.cell? ⟨gN, i * 3 + 2, none⟩ = some (.slice tn.a2 tn.n2 tn.c2))) xw_1 := unhide HCC _ cc_1
            refine hK.out _ _ (fun _ => hC_1) ?_
            clear hK K
            (try simp only [Act.put, List.setIfInBounds_toArray, List.set_cons_zero, List.set_cons_succ])
            refine wpTill_one (k := 13) (by kernel_rfl) rfl (fun K hK => ?_)
            (try simp only [List.getElem_toArray, List.getElem_cons_succ, List.getElem_cons_zero])
            go_simp
            refine (unhide HAD _ _ cc_1 hv_1).mono ?_
            rintro e xw_2 ⟨xv_2, rfl, hv_2, hb_2⟩
            have cc_2 := below_step cc_1 hb_2
            have hC_2 : (fun w' : World => w'.cell? ⟨bm, 3, none⟩ = some (.slice (some ⟨gT, 0, none⟩) n n) ∧ w'.cell? ⟨bm, 4, none⟩ = some (.slice (some ⟨gN, 0, none⟩) n n) ∧ (w'.cell? ⟨b, o + i * 3, none⟩ = some (.bool tx.s) ∧ w'.cell? ⟨b, o + i * 3 + 1, none⟩ = some (.slice tx.a1 tx.n1 tx.c1) ∧ w'.cell? ⟨b, o + i * 3 + 2, none⟩ = some (.slice tx.a2 tx.n2 tx.c2)) ∧ (w'.cell? ⟨gN, i * 3, none⟩ = some (.bool tn.s) ∧ w'.cell? ⟨gN, i * 3 + 1, none⟩ = some (.slice tn.a1 tn.n1 tn.c1) ∧ w'.cell? ⟨gN, i * 3 + 2, none⟩ = some (.slice tn.a2 tn.n2 tn.c2))) xw_2 := unhide HCC _ cc_2
            refine hK.out _ _ (fun _ => hC_2) ?_
            clear hK K
            (try simp only [Act.put, List.setIfInBounds_toArray, List.set_cons_zero, List.set_cons_succ])
            refine wpTill_one (k := 14) (by kernel_rfl) rfl (fun K hK => ?_)
            (try simp only [List.getElem_toArray, List.getElem_cons_succ, List.getElem_cons_zero])
            go_simp
            refine (unhide HMU _ _ cc_2 hv_2).mono ?_
            rintro e xw_3 ⟨xv_3, rfl, hv_3, hb_3⟩
            have cc_3 := below_step cc_2 hb_3
            have hC_3 : (fun w' : World => w'.cell? ⟨bm, 3, none⟩ = some (.slice (some ⟨gT, 0, none⟩) n n) ∧ w'.cell? ⟨bm, 4, none⟩ = some (.slice (some ⟨gN, 0, none⟩) n n) ∧ (w'.cell? ⟨b, o + i * 3, none⟩ = some (.bool tx.s) ∧ w'.cell? ⟨b, o + i * 3 + 1, none⟩ = some (.slice tx.a1 tx.n1 tx.c1) ∧ w'.cell? ⟨b, o + i * 3 + 2, none⟩ = some (.slice tx.a2 tx.n2 tx.c2)) ∧ (w'.cell? ⟨gN, i * 3, none⟩ = some (.bool tn.s) ∧ w'.cell? ⟨gN, i * 3 + 1, none⟩ = some (.slice tn.a1 tn.n1 tn.c1) ∧ w'.cell? ⟨gN, i * 3 + 2, none⟩ = some (.slice tn.a2 tn.n2 tn.c2))) xw_3 := unhide HCC _ cc_3
            refine hK.out _ _ (fun _ => hC_3) ?_
            clear hK K
            (try simp only [Act.put, List.setIfInBounds_toArray, List.set_cons_zero, List.set_cons_succ])
            refine wpTill_pure (i := 15) (v := ?_) rfl (by kernel_rfl) (by kernel_rfl) (by kernel_rfl) (by kernel_rfl) (fun _ _ _ h => h) (Or.inl ⟨by rfl, ?_⟩) (fun _ => hC_3) ?_
            rotate_left
            · intro w hSw; clear hSw; go_simp; (try with_reducible rfl)
            (try simp only [List.getElem_toArray, List.getElem_cons_succ, List.getElem_cons_zero])
            (try simp only [Act.put, List.setIfInBounds_toArray, List.set_cons_zero, List.set_cons_succ])
            obtain ⟨tm, rfl, rm⟩ := tri_of hv_3
            simp only [Tri.val]
            have S8 := (unhide HS).keep cc_3
            have ⟨⟨y0, y1, y2⟩, l0, l1, l2⟩ := S8.T.cells i (by omega)
            have FZ := S8.setT i (by omega) tm _ rm
            obtain ⟨W9, hW9⟩ : ∃ W, ((xw_3.setCell ⟨gT, i * 3, none⟩ (.bool tm.s)).setCell ⟨gT, i * 3 + 1, none⟩ (.slice tm.a1 tm.n1 tm.c1)).setCell ⟨gT, i * 3 + 2, none⟩ (.slice tm.a2 tm.n2 tm.c2) = W := ⟨_, rfl⟩
            rw [hW9] at FZ
            have HFS := hide FZ
            clear S8 FZ rm hv_1 hb_1 hv_2 hb_2 hv_3 hb_3
            refine wpTill_one (k := 16) (by kernel_rfl) rfl (fun K hK => ?_)
            (try simp only [List.getElem_toArray, List.getElem_cons_succ, List.getElem_cons_zero])
            go_simp
            refine hK.out _ _ (fun h => absurd (h.symm.trans (by kernel_rfl)) Bool.false_ne_true) ?_
            clear hK K
            (try simp only [Act.put, List.setIfInBounds_toArray, List.set_cons_zero, List.set_cons_succ])
            refine wpTill_done (by kernel_rfl) ?_ _
            clear l0 l1 l2 y0 y1 y2 hW9 hC0 hC_1 cc_1 hC_2 cc_2 hC_3 cc_3 bd0 HCC HMU HAD HS HBL HRN HRX
            go_wp2_with fail
            exact ⟨⟨i + 1, _, _, by go_num, hlt2, (unhide HF).next hlt2, unhide HFS⟩, by simp [intOf]; omega⟩
          · obtain rfl : n = i := by omega
            have e2 : ¬ (n : Int) < (n : Int) := by omega
            have eT := hF.all
            subst eT
            clear hF HF hS
            have hq6 : q ≤ 6 := by omega
            have e4 : IntKind.i64.wrap ((q : Int) + 1) = (q : Int) + 1 := by rw [IntKind.wrap_i64]; omega
            have HCC : Hid (∀ W, Below wr.heap.size wr W → (fun w' : World => w'.cell? ⟨bm, 3, none⟩ = some (.slice (some ⟨gT, 0, none⟩) n n)) W) := fun W hW => ((unhide HS).kM W hW).2.1
            have HRT : Hid (∀ j, j < (row (Net.tim d n q) n).length → RS (row (Net.tim d n q) n)[j]! 35000000000) := fun j hj => by
              rw [row_length] at hj
              rw [row_get hj]
              exact tim_RS (unhide HR) hn5 (Nat.le_refl _) hq6 (unhide HZ q) hj
            have HSU : Hid (∀ W, Below wr.heap.size wr W → Calls Tryz.prog 45 #[.slice (some ⟨gT, 0, none⟩) n n] W fun e w' => ∃ v, e = .returned v ∧ RatIs w' v (Bth.ps (Net.tim d n q) n) ∧ Below W.heap.size W w') := fun W hW => by
              have LW := ((unhide HS).T.keep hW).law (by omega)
              rw [hul] at LW
              have h := sumR_any _ _ 35000000000 W LW (unhide HRT) (by rw [row_length, KKe]; omega)
              rw [qsum_row _ _ _ (by rw [row_length]; exact Nat.le_refl _), row_length] at h
              exact h
            have HDV : Hid (∀ W v1 v2, RatIs W v1 (((q : Int) + 1 : Int) : Rat) → RatIs W v2 (Bth.ps (Net.tim d n q) n) → Calls Tryz.prog 44 #[v1, v2] W fun e w' => ∃ v, e = .returned (.tuple #[v, .nilIface]) ∧ RatIs w' v (Net.oft d n q) ∧ Below W.heap.size W w') := fun W v1 v2 h1 h2 => by
              have hs := qsum_RS (unhide HRT) n (by rw [row_length]; exact Nat.le_refl _)
              rw [qsum_row _ _ _ (Nat.le_refl _)] at hs
              have h := divR_any v1 v2 _ _ W h1 h2 280000000000 ((whole_RS ⟨by omega, by omega⟩).mono (by omega)) (hs.mono (by omega)) (by rw [KKe]; omega) (fun x => Bth.ne_of_pos (unhide HTP q) (Rat.num_eq_zero.1 x))
              rw [show (((q : Int) + 1 : Int) : Rat) = (((q + 1 : Nat) : Int) : Rat) by rw [Int.natCast_add]; rfl, Net.oft_next (unhide HZ q) (unhide HZ (q + 1))] at h
              exact h
            have HW1 : Hid (∀ W, Calls Tryz.prog 13 #[.int .i64 ((q : Int) + 1)] W fun e w' => ∃ v, e = .returned v ∧ RatIs w' v (((q : Int) + 1 : Int) : Rat) ∧ Below W.heap.size W w') := fun W => whole_any ((q : Int) + 1) (by omega) (by omega) W
            go_wp2_with fail
            refine wp_region_hold (fun w' : World => w'.cell? ⟨bm, 3, none⟩ = some (.slice (some ⟨gT, 0, none⟩) n n)) (by kernel_rfl) ?_
            have bd0 : Below wr.heap.size wr wr.drew := (Below.refl _ _).drew
            obtain ⟨Wx, hWx⟩ : ∃ W, wr.drew = W := ⟨_, rfl⟩
            rw [hWx] at bd0 ⊢
            have hC0 : (fun w' : World => w'.cell? ⟨bm, 3, none⟩ = some (.slice (some ⟨gT, 0, none⟩) n n)) Wx := unhide HCC _ bd0
            refine wpHold_take (i := 0) (v := ?_) rfl (by kernel_rfl) (by kernel_rfl) (by kernel_rfl) (fun _ _ _ h => h) (Or.inl ⟨by rfl, ?_⟩) hC0 ?_
            rotate_left
            · intro w hSw; clear hSw; go_simp; (try with_reducible rfl)
            (try simp only [List.getElem_toArray, List.getElem_cons_succ, List.getElem_cons_zero])
            (try simp only [Act.put, List.setIfInBounds_toArray, List.set_cons_zero, List.set_cons_succ])
            refine wpHold_take (i := 1) (v := ?_) rfl (by kernel_rfl) (by kernel_rfl) (by kernel_rfl) (fun _ _ _ h => h) (Or.inl ⟨by rfl, ?_⟩) hC0 ?_
            rotate_left
            · intro w hSw; clear hSw; go_simp; (try with_reducible rfl)
            (try simp only [List.getElem_toArray, List.getElem_cons_succ, List.getElem_cons_zero])
            (try simp only [Act.put, List.setIfInBounds_toArray, List.set_cons_zero, List.set_cons_succ])
            refine wpHold_take (i := 3) (v := ?_) rfl (by kernel_rfl) (by kernel_rfl) (by kernel_rfl) (fun _ _ _ h => h) (Or.inl ⟨by rfl, ?_⟩) hC0 ?_
            rotate_left
            · intro w hSw; clear hSw; go_simp; (try with_reducible rfl)
            (try simp only [List.getElem_toArray, List.getElem_cons_succ, List.getElem_cons_zero])
            (try simp only [Act.put, List.setIfInBounds_toArray, List.set_cons_zero, List.set_cons_succ])
            refine wpHold_take (i := 4) (v := ?_) rfl (by kernel_rfl) (by kernel_rfl) (by kernel_rfl) (fun _ _ _ h => h) (Or.inl ⟨by rfl, ?_⟩) hC0 ?_
            rotate_left
            · intro w hSw; (try dsimp only at hSw); obtain h3 := hSw; go_simp; (try with_reducible rfl)
            (try simp only [List.getElem_toArray, List.getElem_cons_succ, List.getElem_cons_zero])
            (try simp only [Act.put, List.setIfInBounds_toArray, List.set_cons_zero, List.set_cons_succ])
            refine wpHold_listed (n := 9) (L' := (fun s : Bool × Bool × Bool × Bool × Bool × Bool × Bool × Bool => #[true, true, s.1, true, true, s.2.1, s.2.2.1, s.2.2.2.1, s.2.2.2.2.1, s.2.2.2.2.2.1, s.2.2.2.2.2.2.1, s.2.2.2.2.2.2.2, false]) (false, false, false, false, false, false, false, false)) (by kernel_rfl) (by kernel_rfl) ?_
            refine wpHold_name (fun a0 ha0 => ?_)
            refine walk_any (fun s : Bool × Bool × Bool × Bool × Bool × Bool × Bool × Bool => #[true, true, s.1, true, true, s.2.1, s.2.2.1, s.2.2.2.1, s.2.2.2.2.1, s.2.2.2.2.2.1, s.2.2.2.2.2.2.1, s.2.2.2.2.2.2.2, false]) (fun s => 9 - (s.1.toNat + s.2.1.toNat + s.2.2.1.toNat + s.2.2.2.1.toNat + s.2.2.2.2.1.toNat + s.2.2.2.2.2.1.toNat + s.2.2.2.2.2.2.1.toNat + s.2.2.2.2.2.2.2.toNat)) (fun s => s.1 && s.2.1 && s.2.2.1 && s.2.2.2.1 && s.2.2.2.2.1 && s.2.2.2.2.2.1 && s.2.2.2.2.2.2.1 && s.2.2.2.2.2.2.2) nextO (fun s na W => ∃ s1 s2 s3 s7 s8 s9 s4, na = ((((((a0.put (some 56) s1).put (some 59) s2).put (some 60) s3).put (some 53) s7).put (some 61) s8).put (some 62) s9).put (some 11) s4 ∧ OftJ (((q : Int) + 1 : Int) : Rat) (Bth.ps (Net.tim d n q) n) (Net.oft d n q) Wx s W s1 s2 s3 s7 s8 s9 s4) ?_ ?_ ?_ ?_ 9 (false, false, false, false, false, false, false, false) rfl _ _ ⟨u56, u59, u60, u53, u61, u62, u11, by subst ha0; rfl, OftJ.start⟩
            · clear ha0
              refine check8' ?_
              kernel_rfl
            · clear ha0
              refine check8 ?_
              kernel_rfl
            · rintro ⟨a, b, c, g7, g8, g9, g4, g0⟩ i s' hs na wv ⟨s1, s2, s3, s7, s8, s9, s4, rfl, J⟩
              subst ha0
              unfold nextO at hs
              by_cases h1 : i = 2 ∧ a = false
              · obtain ⟨rfl, rfl⟩ := h1
                rw [if_pos ⟨rfl, rfl⟩] at hs
                injection hs with hs
                subst hs
                refine wpOp_step rfl (fun K hK => ?_)
                (try simp only [Act.put, List.setIfInBounds_toArray, List.set_cons_zero, List.set_cons_succ] at hK ⊢)
                (try simp only [List.getElem_toArray, List.getElem_cons_succ, List.getElem_cons_zero])
                go_simp
                refine (unhide HW1 wv).mono ?_
                rintro e wz ⟨v, rfl, hv, hb⟩
                have K := J.keep hb
                exact hK _ _ ⟨unhide HCC _ (below_step bd0 K.bl), _, s2, s3, s7, s8, s9, s4, rfl, K.k1 hv⟩
              rw [if_neg h1] at hs
              by_cases h2 : i = 5 ∧ b = false ∧ a = true
              · obtain ⟨rfl, rfl, rfl⟩ := h2
                rw [if_pos ⟨rfl, rfl, rfl⟩] at hs
                injection hs with hs
                subst hs
                refine wpOp_step rfl (fun K hK => ?_)
                (try simp only [Act.put, List.setIfInBounds_toArray, List.set_cons_zero, List.set_cons_succ] at hK ⊢)
                (try simp only [List.getElem_toArray, List.getElem_cons_succ, List.getElem_cons_zero])
                go_simp
                refine (unhide HSU wv (below_step bd0 J.bl)).mono ?_
                rintro e wz ⟨v, rfl, hv, hb⟩
                have K := J.keep hb
                exact hK _ _ ⟨unhide HCC _ (below_step bd0 K.bl), s1, _, s3, s7, s8, s9, s4, rfl, K.k2 hv⟩
              rw [if_neg h2] at hs
              by_cases h3 : i = 6 ∧ c = false ∧ b = true
              · obtain ⟨rfl, rfl, rfl⟩ := h3
                rw [if_pos ⟨rfl, rfl, rfl⟩] at hs
                injection hs with hs
                subst hs
                refine wpOp_step rfl (fun K hK => ?_)
                (try simp only [Act.put, List.setIfInBounds_toArray, List.set_cons_zero, List.set_cons_succ] at hK ⊢)
                (try simp only [List.getElem_toArray, List.getElem_cons_succ, List.getElem_cons_zero])
                go_simp
                obtain ⟨h1, h2⟩ := J.r2 rfl
                refine (unhide HDV wv _ _ (J.r1 h1) h2).mono ?_
                rintro e wz ⟨v, rfl, hv, hb⟩
                have K := J.keep hb
                exact hK _ _ ⟨unhide HCC _ (below_step bd0 K.bl), s1, s2, _, s7, s8, s9, s4, rfl, K.k3 hv⟩
              rw [if_neg h3] at hs
              by_cases h7 : i = 7 ∧ g7 = false ∧ c = true
              · obtain ⟨rfl, rfl, rfl⟩ := h7
                rw [if_pos ⟨rfl, rfl, rfl⟩] at hs
                injection hs with hs
                subst hs
                obtain ⟨_, v, rfl, _⟩ := J.r3 rfl
                refine wpOp_step rfl (fun K hK => ?_)
                (try simp only [Act.put, List.setIfInBounds_toArray, List.set_cons_zero, List.set_cons_succ] at hK ⊢)
                (try simp only [List.getElem_toArray, List.getElem_cons_succ, List.getElem_cons_zero])
                go_simp
                exact hK _ _ ⟨unhide HCC _ (below_step bd0 J.bl), s1, s2, _, _, s8, s9, s4, rfl, J.k7⟩
              rw [if_neg h7] at hs
              by_cases h8 : i = 8 ∧ g8 = false ∧ g7 = true
              · obtain ⟨rfl, rfl, rfl⟩ := h8
                rw [if_pos ⟨rfl, rfl, rfl⟩] at hs
                injection hs with hs
                subst hs
                obtain ⟨h3, rfl⟩ := J.r7 rfl
                obtain ⟨_, v, rfl, _⟩ := J.r3 h3
                refine wpOp_step rfl (fun K hK => ?_)
                (try simp only [Act.put, List.setIfInBounds_toArray, List.set_cons_zero, List.set_cons_succ] at hK ⊢)
                (try simp only [List.getElem_toArray, List.getElem_cons_succ, List.getElem_cons_zero])
                go_simp
                exact hK _ _ ⟨unhide HCC _ (below_step bd0 J.bl), s1, s2, _, _, _, s9, s4, rfl, J.k8⟩
              rw [if_neg h8] at hs
              by_cases h9 : i = 9 ∧ g9 = false ∧ g7 = true
              · obtain ⟨rfl, rfl, rfl⟩ := h9
                rw [if_pos ⟨rfl, rfl, rfl⟩] at hs
                injection hs with hs
                subst hs
                obtain ⟨h3, rfl⟩ := J.r7 rfl
                obtain ⟨_, v, rfl, _⟩ := J.r3 h3
                refine wpOp_step rfl (fun K hK => ?_)
                (try simp only [Act.put, List.setIfInBounds_toArray, List.set_cons_zero, List.set_cons_succ] at hK ⊢)
                (try simp only [List.getElem_toArray, List.getElem_cons_succ, List.getElem_cons_zero])
                go_simp
                exact hK _ _ ⟨unhide HCC _ (below_step bd0 J.bl), s1, s2, _, _, s8, _, s4, rfl, J.k9⟩
              rw [if_neg h9] at hs
              by_cases h4 : i = 10 ∧ g4 = false
              · obtain ⟨rfl, rfl⟩ := h4
                rw [if_pos ⟨rfl, rfl⟩] at hs
                injection hs with hs
                subst hs
                refine wpOp_step rfl (fun K hK => ?_)
                (try simp only [Act.put, List.setIfInBounds_toArray, List.set_cons_zero, List.set_cons_succ] at hK ⊢)
                (try simp only [List.getElem_toArray, List.getElem_cons_succ, List.getElem_cons_zero])
                go_simp
                exact hK _ _ ⟨unhide HCC _ (below_step bd0 J.k4.bl), s1, s2, s3, s7, s8, s9, _, rfl, J.k4⟩
              rw [if_neg h4] at hs
              by_cases h0 : i = 11 ∧ g0 = false ∧ g8 = true ∧ g4 = true
              · obtain ⟨rfl, rfl, rfl, rfl⟩ := h0
                rw [if_pos ⟨rfl, rfl, rfl, rfl⟩] at hs
                injection hs with hs
                subst hs
                obtain ⟨h7, v, e3, e8⟩ := J.r8 rfl
                obtain ⟨_, v', e3', rv⟩ := J.r3 (J.r7 h7).1
                rw [e3] at e3'
                injection e3' with e3'
                injection e3' with e3'
                injection e3' with e3' _
                subst e3'
                obtain ⟨bo, rfl, B10, e10⟩ := J.al rfl rfl
                obtain ⟨tv, ev, r0⟩ := tri_of rv
                rw [ev] at e8
                subst e8
                have ⟨l0, l1, l2⟩ := B10.free
                have ⟨k0, k1, k2⟩ := B10.cells _ (Below.refl _ _)
                have K0 := J.k0 B10 e10 r0
                simp only [Tri.val] at K0 ⊢
                clear e3 rv ev r0 B10
                refine wpOp_step rfl (fun K hK => ?_)
                (try simp only [Act.put, List.setIfInBounds_toArray, List.set_cons_zero, List.set_cons_succ] at hK ⊢)
                (try simp only [List.getElem_toArray, List.getElem_cons_succ, List.getElem_cons_zero])
                go_simp
                exact hK _ _ ⟨unhide HCC _ (below_step bd0 K0.bl), s1, s2, s3, s7, _, s9, _, rfl, K0⟩
              rw [if_neg h0] at hs
              cases hs
            · rintro ⟨a, b, c, g7, g8, g9, g4, g0⟩ hs na wv ⟨s1, s2, s3, s7, s8, s9, s4, rfl, J⟩
              subst ha0
              obtain ⟨rfl, rfl, rfl, rfl, rfl, rfl, rfl, rfl⟩ : a = true ∧ b = true ∧ c = true ∧ g7 = true ∧ g8 = true ∧ g9 = true ∧ g4 = true ∧ g0 = true := by
                have hs' : (a && b && c && g7 && g8 && g9 && g4 && g0) = true := hs
                simp only [Bool.and_eq_true] at hs'
                exact ⟨hs'.1.1.1.1.1.1.1, hs'.1.1.1.1.1.1.2, hs'.1.1.1.1.1.2, hs'.1.1.1.1.2, hs'.1.1.1.2, hs'.1.1.2, hs'.1.2, hs'.2⟩
              obtain ⟨_, v, rfl, rv⟩ := J.r3 rfl
              obtain ⟨_, rfl⟩ := J.r7 rfl
              obtain ⟨_, v', ev, rfl⟩ := J.r8 rfl
              obtain ⟨_, rfl⟩ := J.r9 rfl
              obtain ⟨_, _, bo, tv, rfl, NB, e10⟩ := J.st rfl
              (try simp only [Act.put, List.setIfInBounds_toArray, List.set_cons_zero, List.set_cons_succ])
              have YB := below_step bd0 J.bl
              have HG10 := hide (Nat.le_trans bd0.size e10)
              have hCn : (fun w' : World => w'.cell? ⟨bm, 3, none⟩ = some (.slice (some ⟨gT, 0, none⟩) n n)) _ := unhide HCC _ YB
              have HXB := hide NB
              have HS10 := hide ((unhide HS).keep YB)
              have HLT := hide (unhide HS).lt
              clear J hC0 YB NB rv ev
              refine wpHold_one (k := 12) (by kernel_rfl) rfl (fun K hK => ?_)
              (try simp only [List.getElem_toArray, List.getElem_cons_succ, List.getElem_cons_zero])
              go_simp
              refine hK.out _ _ hCn ?_
              clear hK K
              (try simp only [Act.put, List.setIfInBounds_toArray, List.set_cons_zero, List.set_cons_succ])
              refine wpHold_done (by kernel_rfl) ?_ _
              clear hCn e10 bd0 hWx HCC HSU HDV HW1 HRT HS
              have hnb : bo ≠ bm := by have := unhide HLT; have := unhide HG10; omega
              have HNN2 : Hid (bo ≠ gN) := by have := unhide HLT; have := unhide HG10; show _ ≠ _; omega
              have ⟨k0, k1, k2⟩ := (unhide HXB).cells _ (Below.refl _ _)
              have ⟨⟨m0, m1, m2⟩, m3, m4⟩ := (unhide HS10).kM _ (Below.refl _ _)
              have ⟨f0, f1, f2⟩ := (unhide HS10).fM
              have FSt := (unhide HS10).setO tv _ (unhide HXB).2
              have FX := (unhide HS10).boxO (v := tv) (unhide HXB) hnb
              obtain ⟨W11, hW11⟩ : ∃ W, ((wv.setCell ⟨bm, 0, none⟩ (.bool tv.s)).setCell ⟨bm, 1, none⟩ (.slice tv.a1 tv.n1 tv.c1)).setCell ⟨bm, 2, none⟩ (.slice tv.a2 tv.n2 tv.c2) = W := ⟨_, rfl⟩
              rw [hW11] at FSt FX
              have HFS := hide FSt
              have HFX := hide FX
              have HNL : Hid (FillTo (Net.num d n (q + 1)) n 0 (row (Net.num d n q) n)) := ⟨row_length _ _, fun j hj => by omega⟩
              clear FSt FX hnb HXB HS10 HLT HG10
              go_wp2_with fail
              clear k0 k1 k2 m0 m1 m2 m3 m4 f0 f1 f2 hW11
              go_loopw [70] (fun vi wr => ∃ (i : Nat) (un : List Tri) (nq : List Rat), vi = .int .i64 (i : Int) ∧ i ≤ n ∧ FillTo (Net.num d n (q + 1)) n i nq ∧ MeanS w wr bm gT gN br n ut un (row (Net.tim d n q) n) nq tv (Net.oft d n q) ∧ BoxIs wr bo tv (Net.oft d n q)) (fun vi _ => n - (intOf vi).toNat)
              case atStart => exact ⟨0, _, _, rfl, Nat.zero_le _, unhide HNL, unhide HFS, unhide HFX⟩
              case round =>
                obtain ⟨i, un, nq, rfl, hi, hF, hS, hX⟩ := hrel
                clear HFS HFX HNL
                have HF := hide hF
                have HS := hide hS
                have HX := hide hX
                have hnl : un.length = n := by rw [hS.N.len, hF.1]
                by_cases hlt2 : i < n
                · have e5 : (i : Int) < (n : Int) := by omega
                  have e3 : (0 : Int) ≤ (i : Int) := by omega
                  have ⟨⟨c0, c1, c2⟩, _⟩ := hS.T.cells i (by omega)
                  have rt := hS.T.rat i (by omega)
                  rw [row_get hlt2] at rt
                  obtain ⟨tm, htm⟩ : ∃ t, ut[i]! = t := ⟨_, rfl⟩
                  rw [htm] at c0 c1 c2 rt
                  have hGl := hS.lt.2.1
                  have HRT := hide rt
                  have HCC : Hid (∀ W, Below wr.heap.size wr W → (fun w' : World => w'.cell? ⟨bm, 3, none⟩ = some (.slice (some ⟨gT, 0, none⟩) n n) ∧ w'.cell? ⟨bm, 4, none⟩ = some (.slice (some ⟨gN, 0, none⟩) n n) ∧ (w'.cell? ⟨bo, 0, none⟩ = some (.bool tv.s) ∧ w'.cell? ⟨bo, 1, none⟩ = some (.slice tv.a1 tv.n1 tv.c1) ∧ w'.cell? ⟨bo, 2, none⟩ = some (.slice tv.a2 tv.n2 tv.c2)) ∧ (w'.cell? ⟨gT, i * 3, none⟩ = some (.bool tm.s) ∧ w'.cell? ⟨gT, i * 3 + 1, none⟩ = some (.slice tm.a1 tm.n1 tm.c1) ∧ w'.cell? ⟨gT, i * 3 + 2, none⟩ = some (.slice tm.a2 tm.n2 tm.c2))) W) := fun W hW => by
                    have ⟨_, k3, k4⟩ := (unhide HS).kM W hW
                    refine ⟨k3, k4, (unhide HX).cells W hW, ?_⟩
                    rw [hW.cell (p := ⟨gT, i * 3, none⟩) hGl, hW.cell (p := ⟨gT, i * 3 + 1, none⟩) hGl, hW.cell (p := ⟨gT, i * 3 + 2, none⟩) hGl]; exact ⟨c0, c1, c2⟩
                  have HMU : Hid (∀ W, Below wr.heap.size wr W → Calls Tryz.prog 15 #[.agg #[.bool tv.s, .slice tv.a1 tv.n1 tv.c1, .slice tv.a2 tv.n2 tv.c2], .agg #[.bool tm.s, .slice tm.a1 tm.n1 tm.c1, .slice tm.a2 tm.n2 tm.c2]] W fun e w' => ∃ v, e = .returned v ∧ RatIs w' v (Net.num d n (q + 1) i) ∧ Below W.heap.size W w') := fun W hW => by
                    have h := mulR_any tv.val tm.val _ _ W ((unhide HX).2.below hW) ((unhide HRT).below hW) 35000000005 ((oft_RS (unhide HR) hn5 (Nat.le_refl _) hq6 (unhide HZ (q + 1))).mono (by decide)) ((tim_RS (unhide HR) hn5 (Nat.le_refl _) hq6 (unhide HZ q) hlt2).mono (by decide)) (by rw [KKe]; omega)
                    rw [Net.num_next (unhide HZ q)] at h
                    exact h
                  clear hS hF hX rt htm c0 c1 c2 hGl
                  go_wp2_with fail
                  refine wp_region_till (fun w' : World => w'.cell? ⟨bm, 3, none⟩ = some (.slice (some ⟨gT, 0, none⟩) n n) ∧ w'.cell? ⟨bm, 4, none⟩ = some (.slice (some ⟨gN, 0, none⟩) n n) ∧ (w'.cell? ⟨bo, 0, none⟩ = some (.bool tv.s) ∧ w'.cell? ⟨bo, 1, none⟩ = some (.slice tv.a1 tv.n1 tv.c1) ∧ w'.cell? ⟨bo, 2, none⟩ = some (.slice tv.a2 tv.n2 tv.c2)) ∧ (w'.cell? ⟨gT, i * 3, none⟩ = some (.bool tm.s) ∧ w'.cell? ⟨gT, i * 3 + 1, none⟩ = some (.slice tm.a1 tm.n1 tm.c1) ∧ w'.cell? ⟨gT, i * 3 + 2, none⟩ = some (.slice tm.a2 tm.n2 tm.c2))) 11 (by kernel_rfl) ?_
                  have bd0 : Below wr.heap.size wr wr.drew := (Below.refl _ _).drew
                  have hC0 : (fun w' : World => w'.cell? ⟨bm, 3, none⟩ = some (.slice (some ⟨gT, 0, none⟩) n n) ∧ w'.cell? ⟨bm, 4, none⟩ = some (.slice (some ⟨gN, 0, none⟩) n n) ∧ (w'.cell? ⟨bo, 0, none⟩ = some (.bool tv.s) ∧ w'.cell? ⟨bo, 1, none⟩ = some (.slice tv.a1 tv.n1 tv.c1) ∧ w'.cell? ⟨bo, 2, none⟩ = some (.slice tv.a2 tv.n2 tv.c2)) ∧ (w'.cell? ⟨gT, i * 3, none⟩ = some (.bool tm.s) ∧ w'.cell? ⟨gT, i * 3 + 1, none⟩ = some (.slice tm.a1 tm.n1 tm.c1) ∧ w'.cell? ⟨gT, i * 3 + 2, none⟩ = some (.slice tm.a2 tm.n2 tm.c2))) wr.drew := unhide HCC _ bd0
                  refine wpTill_pure (i := 0) (v := ?_) rfl (by kernel_rfl) (by kernel_rfl) (by kernel_rfl) (by kernel_rfl) (fun _ _ _ h => h) (Or.inl ⟨by rfl, ?_⟩) (fun _ => hC0) ?_
                  rotate_left
                  · intro w hSw; clear hSw; go_simp; (try with_reducible rfl)
                  (try simp only [List.getElem_toArray, List.getElem_cons_succ, List.getElem_cons_zero])
                  (try simp only [Act.put, List.setIfInBounds_toArray, List.set_cons_zero, List.set_cons_succ])
                  refine wpTill_take (i := 1) (v := ?_) rfl (by kernel_rfl) (by kernel_rfl) (by kernel_rfl) (by kernel_rfl) (by kernel_rfl) (by kernel_rfl) (fun _ _ _ h => h) (Or.inl ⟨by rfl, ?_⟩) hC0 ?_
                  rotate_left
                  · intro w hSw; (try dsimp only at hSw); obtain ⟨zt, zn, ⟨z0, z1, z2⟩, z3, z4, z5⟩ := hSw; go_simp; (try with_reducible rfl)
                  (try simp only [List.getElem_toArray, List.getElem_cons_succ, List.getElem_cons_zero])
                  (try simp only [Act.put, List.setIfInBounds_toArray, List.set_cons_zero, List.set_cons_succ])
                  refine wpTill_pure (i := 2) (v := ?_) rfl (by kernel_rfl) (by kernel_rfl) (by kernel_rfl) (by kernel_rfl) (fun _ _ _ h => h) (Or.inl ⟨by rfl, ?_⟩) (fun _ => hC0) ?_
                  rotate_left
                  · intro w hSw; clear hSw; go_simp; (try with_reducible rfl)
                  (try simp only [List.getElem_toArray, List.getElem_cons_succ, List.getElem_cons_zero])
                  (try simp only [Act.put, List.setIfInBounds_toArray, List.set_cons_zero, List.set_cons_succ])
                  refine wpTill_take (i := 3) (v := ?_) rfl (by kernel_rfl) (by kernel_rfl) (by kernel_rfl) (by kernel_rfl) (by kernel_rfl) (by kernel_rfl) (fun _ _ _ h => h) (Or.inl ⟨by rfl, ?_⟩) hC0 ?_
                  rotate_left
                  · intro w hSw; (try dsimp only at hSw); obtain ⟨zt, zn, ⟨z0, z1, z2⟩, z3, z4, z5⟩ := hSw; go_simp; (try with_reducible rfl)
                  (try simp only [List.getElem_toArray, List.getElem_cons_succ, List.getElem_cons_zero])
                  (try simp only [Act.put, List.setIfInBounds_toArray, List.set_cons_zero, List.set_cons_succ])
                  refine wpTill_pure (i := 4) (v := ?_) rfl (by kernel_rfl) (by kernel_rfl) (by kernel_rfl) (by kernel_rfl) (fun _ _ _ h => h) (Or.inl ⟨by rfl, ?_⟩) (fun _ => hC0) ?_
                  rotate_left
                  · intro w hSw; clear hSw; go_simp; (try with_reducible rfl)
                  (try simp only [List.getElem_toArray, List.getElem_cons_succ, List.getElem_cons_zero])
                  (try simp only [Act.put, List.setIfInBounds_toArray, List.set_cons_zero, List.set_cons_succ])
                  refine wpTill_take (i := 5) (v := ?_) rfl (by kernel_rfl) (by kernel_rfl) (by kernel_rfl) (by kernel_rfl) (by kernel_rfl) (by kernel_rfl) (fun _ _ _ h => h) (Or.inl ⟨by rfl, ?_⟩) hC0 ?_
                  rotate_left
                  · intro w hSw; (try dsimp only at hSw); obtain ⟨zt, zn, ⟨z0, z1, z2⟩, z3, z4, z5⟩ := hSw; go_simp; (try with_reducible rfl)
                  (try simp only [List.getElem_toArray, List.getElem_cons_succ, List.getElem_cons_zero])
                  (try simp only [Act.put, List.setIfInBounds_toArray, List.set_cons_zero, List.set_cons_succ])
                  refine wpTill_pure (i := 6) (v := ?_) rfl (by kernel_rfl) (by kernel_rfl) (by kernel_rfl) (by kernel_rfl) (fun _ _ _ h => h) (Or.inl ⟨by rfl, ?_⟩) (fun _ => hC0) ?_
                  rotate_left
                  · intro w hSw; clear hSw; go_simp; (try with_reducible rfl)
                  (try simp only [List.getElem_toArray, List.getElem_cons_succ, List.getElem_cons_zero])
                  (try simp only [Act.put, List.setIfInBounds_toArray, List.set_cons_zero, List.set_cons_succ])
                  refine wpTill_pure (i := 7) (v := ?_) rfl (by kernel_rfl) (by kernel_rfl) (by kernel_rfl) (by kernel_rfl) (fun _ _ _ h => h) (Or.inl ⟨by rfl, ?_⟩) (fun _ => hC0) ?_
                  rotate_left
                  · intro w hSw; clear hSw; go_simp; (try with_reducible rfl)
                  (try simp only [List.getElem_toArray, List.getElem_cons_succ, List.getElem_cons_zero])
                  (try simp only [Act.put, List.setIfInBounds_toArray, List.set_cons_zero, List.set_cons_succ])
                  refine wpTill_take (i := 8) (v := ?_) rfl (by kernel_rfl) (by kernel_rfl) (by kernel_rfl) (by kernel_rfl) (by kernel_rfl) (by kernel_rfl) (fun _ _ _ h => h) (Or.inl ⟨by rfl, ?_⟩) hC0 ?_
                  rotate_left
                  · intro w hSw; (try dsimp only at hSw); obtain ⟨zt, zn, ⟨z0, z1, z2⟩, z3, z4, z5⟩ := hSw; go_simp; (try with_reducible rfl)
                  (try simp only [List.getElem_toArray, List.getElem_cons_succ, List.getElem_cons_zero])
                  (try simp only [Act.put, List.setIfInBounds_toArray, List.set_cons_zero, List.set_cons_succ])
                  refine wpTill_one (k := 9) (by kernel_rfl) rfl (fun K hK => ?_)
                  (try simp only [List.getElem_toArray, List.getElem_cons_succ, List.getElem_cons_zero])
                  go_simp
                  refine (unhide HMU _ bd0).mono ?_
                  rintro e xw_1 ⟨xv_1, rfl, hv_1, hb_1⟩
                  have cc_1 := below_step bd0 hb_1
                  have hC_1 : (fun w' : World => w'.cell? ⟨bm, 3, none⟩ = some (.slice (some ⟨gT, 0, none⟩) n n) ∧ w'.cell? ⟨bm, 4, none⟩ = some (.slice (some ⟨gN, 0, none⟩) n n) ∧ (w'.cell? ⟨bo, 0, none⟩ = some (.bool tv.s) ∧ w'.cell? ⟨bo, 1, none⟩ = some (.slice tv.a1 tv.n1 tv.c1) ∧ w'.cell? ⟨bo, 2, none⟩ = some (.slice tv.a2 tv.n2 tv.c2)) ∧ (w'.cell? ⟨gT, i * 3, none⟩ = some (.bool tm.s) ∧ w'.cell? ⟨gT, i * 3 + 1, none⟩ = some (.slice tm.a1 tm.n1 tm.c1) ∧ w'.cell? ⟨gT, i * 3 + 2, none⟩ = some (.slice tm.a2 tm.n2 tm.c2))) xw_1 := unhide HCC _ cc_1
                  refine hK.out _ _ (fun _ => hC_1) ?_
                  clear hK K
                  (try simp only [Act.put, List.setIfInBounds_toArray, List.set_cons_zero, List.set_cons_succ])
                  refine wpTill_pure (i := 10) (v := ?_) rfl (by kernel_rfl) (by kernel_rfl) (by kernel_rfl) (by kernel_rfl) (fun _ _ _ h => h) (Or.inl ⟨by rfl, ?_⟩) (fun _ => hC_1) ?_
                  rotate_left
                  · intro w hSw; clear hSw; go_simp; (try with_reducible rfl)
                  (try simp only [List.getElem_toArray, List.getElem_cons_succ, List.getElem_cons_zero])
                  (try simp only [Act.put, List.setIfInBounds_toArray, List.set_cons_zero, List.set_cons_succ])
                  obtain ⟨tu, rfl, ru⟩ := tri_of hv_1
                  simp only [Tri.val]
                  have S8 := (unhide HS).keep cc_1
                  have ⟨⟨y0, y1, y2⟩, l0, l1, l2⟩ := S8.N.cells i (by omega)
                  have FZ := S8.setN i (by omega) tu _ ru
                  have FX := ((unhide HX).keep cc_1).rowed S8.N.row (unhide HNN2) (i * 3) (i * 3 + 1) (i * 3 + 2) (.bool tu.s) (.slice tu.a1 tu.n1 tu.c1) (.slice tu.a2 tu.n2 tu.c2)
                  obtain ⟨W9, hW9⟩ : ∃ W, ((xw_1.setCell ⟨gN, i * 3, none⟩ (.bool tu.s)).setCell ⟨gN, i * 3 + 1, none⟩ (.slice tu.a1 tu.n1 tu.c1)).setCell ⟨gN, i * 3 + 2, none⟩ (.slice tu.a2 tu.n2 tu.c2) = W := ⟨_, rfl⟩
                  rw [hW9] at FZ FX
                  have HFS := hide FZ
                  have HFX := hide FX
                  clear S8 FZ FX ru hv_1 hb_1
                  refine wpTill_one (k := 11) (by kernel_rfl) rfl (fun K hK => ?_)
                  (try simp only [List.getElem_toArray, List.getElem_cons_succ, List.getElem_cons_zero])
                  go_simp
                  refine hK.out _ _ (fun h => absurd (h.symm.trans (by kernel_rfl)) Bool.false_ne_true) ?_
                  clear hK K
                  (try simp only [Act.put, List.setIfInBounds_toArray, List.set_cons_zero, List.set_cons_succ])
                  refine wpTill_done (by kernel_rfl) ?_ _
                  clear l0 l1 l2 y0 y1 y2 hW9 hC0 hC_1 cc_1 bd0 HCC HMU HS HX HRT
                  go_wp2_with fail
                  exact ⟨⟨i + 1, _, _, by go_num, hlt2, (unhide HF).next hlt2, unhide HFS, unhide HFX⟩, by simp [intOf]; omega⟩
                · obtain rfl : n = i := by omega
                  have e5 : ¬ (n : Int) < (n : Int) := by omega
                  have eT := hF.all
                  subst eT
                  have HS2 := hide hS
                  clear hS hF HF HS HX hX
                  go_wp2_with fail
                  exact ⟨⟨q + 1, _, _, _, _, _, by go_num, hlt, ⟨row_length _ _, fun k hk => by rw [show k = q from by omega]; exact ⟨rfl, rfl⟩⟩, unhide HS2⟩, by simp [intOf]; omega⟩
      · obtain rfl : q = r + 1 := by omega
        have e1 : ¬ ((r + 1 : Nat) : Int) < (r : Int) + 1 := by omega
        obtain ⟨eT, eO⟩ := hQ.2 r rfl
        subst eT eO
        have ⟨⟨m0, m1, m2⟩, m3, m4⟩ := hS.kM _ (Below.refl _ _)
        have ⟨⟨n0, n1, n2, n3, n4⟩, f0, f1, f2, f3, f4⟩ := mean_cells hS.R
        have ⟨dO, dT, dN, dR⟩ := hS.done
        have hul : ut.length = n := by rw [hS.T.len, row_length]
        have hnl : un.length = n := by rw [hS.N.len, row_length]
        obtain ⟨W9, hW9⟩ : ∃ W, ((((wr.setCell ⟨br, 0, none⟩ (.bool t.s)).setCell ⟨br, 1, none⟩ (.slice t.a1 t.n1 t.c1)).setCell ⟨br, 2, none⟩ (.slice t.a2 t.n2 t.c2)).setCell ⟨br, 3, none⟩ (.slice (some ⟨gT, 0, none⟩) n n)).setCell ⟨br, 4, none⟩ (.slice (some ⟨gN, 0, none⟩) n n) = W := ⟨_, rfl⟩
        rw [hW9] at dO dT dN dR
        have ⟨⟨z0, z1, z2, z3, z4⟩, _⟩ := mean_cells dR
        have LT := dT.law (by omega)
        have LN := dN.law (by omega)
        rw [hul] at LT
        rw [hnl] at LN
        have HO := hide dO
        have HT := hide LT
        have HN := hide LN
        have HB := hide dT.bl
        clear hS dO dT dN dR LT LN hQ hul hnl
        go_wp2
        exact bodyPost_ret (v := .tuple #[.agg #[.bool t.s, .slice t.a1 t.n1 t.c1, .slice t.a2 t.n2 t.c2, .slice (some ⟨gT, 0, none⟩) n n, .slice (some ⟨gN, 0, none⟩) n n], .nilIface]) (by simp [results, Tryz.results21, go_sem, z0, z1, z2, z3, z4]) rfl ⟨t, gT, gN, rfl, unhide HO, unhide HT, unhide HN, unhide HB⟩
end Go.Proofs.YtdaejkngmckmdaaGreatDoor
