/- Rows of numbers and of truths of the call's own. -/
import Derived.Test.YtcmddkekidgkoaaDoorP1
import Derived.Test.YtcmddkekidgkoaaDoorH1
import Derived.Test.YtcmddkekidgkoaaDoorM25
namespace Go.Proofs.YtcmddkekidgkoaaDoor
open Go.RowKit Go.Sort

/-- The cells of a row of numbers. -/
def lrow (lf : Nat → Int) (n : Nat) : List Value := (List.range n).map fun j => .int .i64 (lf j)
theorem lrow_length (lf : Nat → Int) (n : Nat) : (lrow lf n).length = n := by simp [lrow]
theorem lrow_get (lf : Nat → Int) {n j : Nat} (h : j < n) : (lrow lf n)[j]? = some (.int .i64 (lf j)) := by simp [lrow, h]
def updI (f : Nat → Int) (j : Nat) (v : Int) : Nat → Int := fun i => if i = j then v else f i
theorem lrow_set (lf : Nat → Int) {n j : Nat} (v : Int) : (lrow lf n).set j (.int .i64 v) = lrow (updI lf j v) n := by
  apply List.ext_getElem?
  intro i
  unfold lrow updI
  rw [List.getElem?_set]
  by_cases h : j = i
  · subst h
    by_cases hj : j < n <;> simp [hj]
  · by_cases hi : i < n <;> simp [h, hi, Ne.symm h]
theorem lrow_congr {f g : Nat → Int} {n : Nat} (h : ∀ j, j < n → f j = g j) : lrow f n = lrow g n := by
  unfold lrow
  exact List.map_congr_left fun j hj => by rw [h j (List.mem_range.1 hj)]

/-- Block G is the row. -/
def OwnI (w : World) (G n : Nat) (lf : Nat → Int) : Prop := w.heap[G]? = some (.cells (lrow lf n).toArray 3)
theorem OwnI.lt {w : World} {G n : Nat} {lf : Nat → Int} (h : OwnI w G n lf) : G < w.heap.size := (Array.getElem?_eq_some_iff.1 h).1
theorem OwnI.keep {w w' : World} {G n : Nat} {lf : Nat → Int} (h : OwnI w G n lf) (hb : Below w.heap.size w w') : OwnI w' G n lf := by
  unfold OwnI; rw [hb.block G h.lt]; exact h
theorem OwnI.cell {w : World} {G n : Nat} {lf : Nat → Int} (h : OwnI w G n lf) {j : Nat} (hj : j < n) : w.cell? ⟨G, j, none⟩ = some (.int .i64 (lf j)) := by
  unfold OwnI at h
  simp only [World.cell?, h]
  have := lrow_get lf hj
  simpa using this
theorem OwnI.free {w : World} {G n : Nat} {lf : Nat → Int} (h : OwnI w G n lf) (j : Nat) : w.frozen? ⟨G, j, none⟩ = false := by
  unfold OwnI at h; simp [World.frozen?, h]
theorem OwnI.set {w : World} {G n : Nat} {lf : Nat → Int} (h : OwnI w G n lf) (j : Nat) (v : Int) : OwnI (w.setCell ⟨G, j, none⟩ (.int .i64 v)) G n (updI lf j v) := by
  unfold OwnI at h ⊢
  rw [setCell_eq]
  simp only [mapBlock, Array.getElem?_modify, h, if_true, Option.map_some, onCells]
  rw [← lrow_set]
  simp
theorem OwnI.irow {w : World} {G n : Nat} {lf : Nat → Int} (h : OwnI w G n lf) (hn : n ≤ 9223372036854775807) : IRow w (some ⟨G, 0, none⟩) n n lf :=
  ⟨Nat.le_refl _, hn, fun _ => ⟨G, 0, rfl, h.lt, fun j hj => by rw [Nat.zero_add]; exact h.cell hj⟩⟩
theorem OwnI.congr {w : World} {G n : Nat} {f g : Nat → Int} (h : OwnI w G n f) (e : ∀ j, j < n → f j = g j) : OwnI w G n g := by
  unfold OwnI at h ⊢; rw [← lrow_congr e]; exact h

theorem Tryd.infoI : (Tryd.prog.info? 3).map (fun i => (i.zero, i.size, i.bytes)) = some (some (.int .i64 0), 1, 8) := by kernel_rfl
theorem make_ints (k : Nat) (h1 : k ≤ 1099511627776) (w : World) :
    (Instr.makeSlice 31 (.int .i64 (k : Int)) (.int .i64 (k : Int))).run Tryd.prog w = .ok (.slice (some ⟨w.heap.size, 0, none⟩) k k) (w.alloc (.cells (lrow (fun _ => 0) k).toArray 3)) := by
  obtain ⟨i, hi, hz0, hz1, hz2⟩ := info_parts Tryd.infoI
  have e : madeCells (Value.int .i64 0).cells ((k : Int).toNat * i.size) = (lrow (fun _ => 0) k).toArray := by
    rw [hz1]
    apply Array.ext
    · simp [madeCells, lrow]
    · intro j h1 h2
      simp [madeCells, lrow, Value.cells, Nat.mod_one]
  rw [run_make w 31 3 i (.int .i64 0) Tryd.underlying31 hi hz0 .i64 .i64 k k (by omega) (Int.le_refl _) (by rw [hz2]; omega) (by omega), e]
  simp
theorem make_own (w : World) (k : Nat) : OwnI (w.alloc (.cells (lrow (fun _ => 0) k).toArray 3)) w.heap.size k (fun _ => 0) := heap_alloc_new w _
/-- The cells of a row of truths. -/
def brow (lf : Nat → Bool) (n : Nat) : List Value := (List.range n).map fun j => .bool (lf j)
theorem brow_length (lf : Nat → Bool) (n : Nat) : (brow lf n).length = n := by simp [brow]
theorem brow_get (lf : Nat → Bool) {n j : Nat} (h : j < n) : (brow lf n)[j]? = some (.bool (lf j)) := by simp [brow, h]
def updB (f : Nat → Bool) (j : Nat) (v : Bool) : Nat → Bool := fun i => if i = j then v else f i
theorem brow_set (lf : Nat → Bool) {n j : Nat} (v : Bool) : (brow lf n).set j (.bool v) = brow (updB lf j v) n := by
  apply List.ext_getElem?
  intro i
  unfold brow updB
  rw [List.getElem?_set]
  by_cases h : j = i
  · subst h
    by_cases hj : j < n <;> simp [hj]
  · by_cases hi : i < n <;> simp [h, hi, Ne.symm h]
theorem brow_congr {f g : Nat → Bool} {n : Nat} (h : ∀ j, j < n → f j = g j) : brow f n = brow g n := by
  unfold brow
  exact List.map_congr_left fun j hj => by rw [h j (List.mem_range.1 hj)]

/-- Block G is the row. -/
def OwnB (w : World) (G n : Nat) (lf : Nat → Bool) : Prop := w.heap[G]? = some (.cells (brow lf n).toArray 4)
theorem OwnB.lt {w : World} {G n : Nat} {lf : Nat → Bool} (h : OwnB w G n lf) : G < w.heap.size := (Array.getElem?_eq_some_iff.1 h).1
theorem OwnB.keep {w w' : World} {G n : Nat} {lf : Nat → Bool} (h : OwnB w G n lf) (hb : Below w.heap.size w w') : OwnB w' G n lf := by
  unfold OwnB; rw [hb.block G h.lt]; exact h
theorem OwnB.cell {w : World} {G n : Nat} {lf : Nat → Bool} (h : OwnB w G n lf) {j : Nat} (hj : j < n) : w.cell? ⟨G, j, none⟩ = some (.bool (lf j)) := by
  unfold OwnB at h
  simp only [World.cell?, h]
  have := brow_get lf hj
  simpa using this
theorem OwnB.free {w : World} {G n : Nat} {lf : Nat → Bool} (h : OwnB w G n lf) (j : Nat) : w.frozen? ⟨G, j, none⟩ = false := by
  unfold OwnB at h; simp [World.frozen?, h]
theorem OwnB.set {w : World} {G n : Nat} {lf : Nat → Bool} (h : OwnB w G n lf) (j : Nat) (v : Bool) : OwnB (w.setCell ⟨G, j, none⟩ (.bool v)) G n (updB lf j v) := by
  unfold OwnB at h ⊢
  rw [setCell_eq]
  simp only [mapBlock, Array.getElem?_modify, h, if_true, Option.map_some, onCells]
  rw [← brow_set]
  simp
theorem OwnB.congr {w : World} {G n : Nat} {f g : Nat → Bool} (h : OwnB w G n f) (e : ∀ j, j < n → f j = g j) : OwnB w G n g := by
  unfold OwnB at h ⊢; rw [← brow_congr e]; exact h

theorem Tryd.infoB : (Tryd.prog.info? 4).map (fun i => (i.zero, i.size, i.bytes)) = some (some (.bool false), 1, 1) := by kernel_rfl
theorem make_bools (k : Nat) (h1 : k ≤ 1099511627776) (w : World) :
    (Instr.makeSlice 110 (.int .i64 (k : Int)) (.int .i64 (k : Int))).run Tryd.prog w = .ok (.slice (some ⟨w.heap.size, 0, none⟩) k k) (w.alloc (.cells (brow (fun _ => false) k).toArray 4)) := by
  obtain ⟨i, hi, hz0, hz1, hz2⟩ := info_parts Tryd.infoB
  have e : madeCells (Value.bool false).cells ((k : Int).toNat * i.size) = (brow (fun _ => false) k).toArray := by
    rw [hz1]
    apply Array.ext
    · simp [madeCells, brow]
    · intro j h1 h2
      simp [madeCells, brow, Value.cells, Nat.mod_one]
  rw [run_make w 110 4 i (.bool false) Tryd.underlying110 hi hz0 .i64 .i64 k k (by omega) (Int.le_refl _) (by rw [hz2]; omega) (by omega), e]
  simp
theorem make_ownB (w : World) (k : Nat) : OwnB (w.alloc (.cells (brow (fun _ => false) k).toArray 4)) w.heap.size k (fun _ => false) := heap_alloc_new w _

theorem OwnI.other {w w' : World} {G n : Nat} {lf : Nat → Int} (h : OwnI w G n lf) (e : w'.heap[G]? = w.heap[G]?) : OwnI w' G n lf := by unfold OwnI; rw [e]; exact h
theorem OwnB.other {w w' : World} {G n : Nat} {lf : Nat → Bool} (h : OwnB w G n lf) (e : w'.heap[G]? = w.heap[G]?) : OwnB w' G n lf := by unfold OwnB; rw [e]; exact h
theorem OwnI.apart {w : World} {G n g j : Nat} {lf : Nat → Int} {v : Value} (h : OwnI w G n lf) (hne : G ≠ g) : OwnI (w.setCell ⟨g, j, none⟩ v) G n lf := h.other (Below.heap_setCell _ _ _ _ hne)
theorem OwnB.apart {w : World} {G n g j : Nat} {lf : Nat → Bool} {v : Value} (h : OwnB w G n lf) (hne : G ≠ g) : OwnB (w.setCell ⟨g, j, none⟩ v) G n lf := h.other (Below.heap_setCell _ _ _ _ hne)
theorem swp_ints (f : Nat → Nat) {a b : Nat} (h : a ≠ b) : updI (updI (fun i => ((f i : Nat) : Int)) a (f b)) b (f a) = fun i => ((Stb.swp f a b i : Nat) : Int) := by
  funext i
  unfold updI Stb.swp
  by_cases h1 : i = b
  · rw [if_pos h1]
    by_cases h2 : i = a
    · exact absurd (h2.symm.trans h1) h
    · rw [if_neg h2, if_pos h1]
  · rw [if_neg h1]
    by_cases h2 : i = a
    · rw [if_pos h2, if_pos h2]
    · rw [if_neg h2, if_neg h2, if_neg h1]
end Go.Proofs.YtcmddkekidgkoaaDoor
