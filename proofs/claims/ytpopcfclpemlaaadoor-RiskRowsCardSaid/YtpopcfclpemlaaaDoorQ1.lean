/- Rows of fractions that are filled one by one; a quotient; shares. -/
import Derived.Test.YtpopcfclpemlaaaDoorM20
import Derived.Test.YtpopcfclpemlaaaDoorX3
import Derived.Test.YtpopcfclpemlaaaDoorX2
import Derived.Test.YtpopcfclpemlaaaDoorA15
import Derived.Test.YtpopcfclpemlaaaDoorA18
namespace Go.Proofs.YtpopcfclpemlaaaDoor
open Go.RowKit Go.Sort Go.Shelf

/-- The first k of a row of N are said, the others 0. -/
def fill (f : Nat → Rat) (N k : Nat) : List Rat := (List.range N).map fun i => if i < k then f i else 0
theorem fill_length (f : Nat → Rat) (N k : Nat) : (fill f N k).length = N := by simp [fill]
theorem fill_zero (f : Nat → Rat) (N : Nat) : List.replicate N 0 = fill f N 0 := by
  apply List.ext_getElem?
  intro i
  unfold fill
  by_cases h : i < N <;> simp [h]
theorem fill_get {f : Nat → Rat} {N k i : Nat} (h : i < k) (hN : i < N) : (fill f N k)[i]! = f i := by simp [fill, h, hN]
theorem fill_none {f : Nat → Rat} {N k i : Nat} (h : k ≤ i) (hN : i < N) : (fill f N k)[i]! = 0 := by
  have : ¬ i < k := by omega
  simp [fill, this, hN]
theorem fill_set (f : Nat → Rat) (N k : Nat) : (fill f N k).set k (f k) = fill f N (k + 1) := by
  apply List.ext_getElem?
  intro i
  unfold fill
  rw [List.getElem?_set]
  by_cases h : k = i
  · subst h
    by_cases hk : k < N <;> simp [hk]
  · by_cases hi : i < N
    · have e : (i < k + 1) = (i < k) := by apply propext; omega
      simp [h, hi, e]
    · simp [h, hi]
/-- A row that is said wholly. -/
def row (f : Nat → Rat) (N : Nat) : List Rat := fill f N N
theorem row_length (f : Nat → Rat) (N : Nat) : (row f N).length = N := fill_length _ _ _
theorem row_get {f : Nat → Rat} {N i : Nat} (h : i < N) : (row f N)[i]! = f i := fill_get h h
theorem row_eq {qs : List Rat} {f : Nat → Rat} {N : Nat} (hl : qs.length = N) (h : ∀ i, i < N → qs[i]! = f i) : qs = row f N := by
  apply List.ext_getElem?
  intro i
  by_cases hi : i < N
  · have a := h i hi
    rw [← row_get (f := f) hi] at a
    rw [List.getElem!_eq_getElem?_getD, List.getElem!_eq_getElem?_getD] at a
    have h1 : i < qs.length := by omega
    have h2 : i < (row f N).length := by rw [row_length]; exact hi
    rw [List.getElem?_eq_getElem h1, List.getElem?_eq_getElem h2] at a ⊢
    simpa using a
  · rw [List.getElem?_eq_none (by omega), List.getElem?_eq_none (by rw [row_length]; omega)]
theorem row_congr {f g : Nat → Rat} {N : Nat} (h : ∀ i, i < N → f i = g i) : row f N = row g N := row_eq (row_length f N) (fun i hi => by rw [row_get hi, h i hi])
theorem qsum_row (f : Nat → Rat) (N : Nat) : ∀ k, k ≤ N → qsum (row f N) k = Bth.ps f k
  | 0, _ => rfl
  | k + 1, h => by
    show qsum (row f N) k + (row f N)[k]! = Bth.ps f k + f k
    rw [qsum_row f N k (by omega), row_get (by omega)]

theorem make_ratios (k : Int) (h0 : 0 ≤ k) (h1 : k ≤ 1099511627776) (w : World) :
    (Instr.makeSlice 26 (.int .i64 k) (.int .i64 k)).run Tryd.prog w = .ok (.slice (some ⟨w.heap.size, 0, none⟩) k.toNat k.toNat) (w.alloc (.cells (tcells (List.replicate k.toNat zTri)).toArray 31)) := by
  obtain ⟨i, hi, hz0, hz1, hz2⟩ := info_parts Tryd.infoR
  have e : madeCells (Value.agg zR).cells (k.toNat * i.size) = (tcells (List.replicate k.toNat zTri)).toArray := by
    rw [hz1, zcells]
    have hzc : (Value.agg zR).cells = zR := by simp [Value.cells, zR]
    rw [hzc]
    generalize k.toNat * 3 = n
    apply Array.ext
    · simp [madeCells]
    · intro j h1 h2
      simp [madeCells, zR]
  rw [run_make w 26 31 i (.agg zR) Tryd.underlying26 hi hz0 .i64 .i64 k k h0 (Int.le_refl _) (by rw [hz2]; omega) (by omega), e]

theorem BoxIs.rowed {w : World} {b g : Nat} {t : Tri} {q : Rat} {us : List Tri} (h : BoxIs w b t q) (hg : w.heap[g]? = some (.cells (tcells us).toArray 31)) (hne : b ≠ g) (i0 i1 i2 : Nat) (x0 x1 x2 : Value) :
    BoxIs (((w.setCell ⟨g, i0, none⟩ x0).setCell ⟨g, i1, none⟩ x1).setCell ⟨g, i2, none⟩ x2) b t q :=
  ⟨by rw [Below.heap_setCell _ _ _ _ hne, Below.heap_setCell _ _ _ _ hne, Below.heap_setCell _ _ _ _ hne]; exact h.1, h.2.rowed hg _ _ _ _ _ _⟩

/-- A number's share. -/
def shr (qs : List Rat) (s : Rat) (i : Nat) : Rat := qs[i]! / s

end Go.Proofs.YtpopcfclpemlaaaDoor
