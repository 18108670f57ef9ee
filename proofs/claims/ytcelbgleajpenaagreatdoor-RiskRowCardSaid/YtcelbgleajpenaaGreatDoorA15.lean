/- Fractions divided: numbers of any length. -/
import Derived.Test.YtcelbgleajpenaaGreatDoorA12
import Derived.Test.YtcelbgleajpenaaGreatDoorA14
import Derived.Test.YtcelbgleajpenaaGreatDoorA9
namespace Go.Proofs.YtcelbgleajpenaaGreatDoor
open Go.RowKit Go.Sort Go.Shelf

end Go.Proofs.YtcelbgleajpenaaGreatDoor
/- Rows of fractions in memory; their sum. -/
namespace Go.Proofs.YtcelbgleajpenaaGreatDoor
open Go.RowKit Go.Sort Go.Shelf

theorem RS.mono {q : Rat} {i j : Nat} (h : RS q i) (hij : i ≤ j) : RS q j := ⟨Int.lt_of_lt_of_le h.1 (Wd.pw_mono hij), Int.lt_of_lt_of_le h.2 (Wd.pw_mono hij)⟩

theorem mkRat_bd (z : Int) (d : Nat) (hd : d ≠ 0) : (mkRat z d).num.natAbs ≤ z.natAbs ∧ (mkRat z d).den ≤ d := by
  rw [Rat.num_mkRat, Rat.den_mkRat, if_neg hd, if_neg hd]
  refine ⟨?_, Nat.div_le_self _ _⟩
  rw [Int.natAbs_ediv_of_dvd (Int.ofNat_dvd_left.2 (Nat.gcd_dvd_right _ _)), Int.natAbs_natCast]
  exact Nat.div_le_self _ _

theorem prod_bd {x y : Nat} {i j : Nat} (hx : (x : Int) < Wd.pw i) (hy : (y : Int) < Wd.pw j) : ((x * y : Nat) : Int) < Wd.pw (i + j) := by
  rw [Int.natCast_mul]; exact mul_small (by omega) hx hy

theorem RS.add {a b : Rat} {i j : Nat} (ha : RS a i) (hb : RS b j) : RS (a + b) (i + j + 1) := by
  rw [Rat.add_def']
  have m := mkRat_bd (a.num * b.den + b.num * a.den) (a.den * b.den) (Nat.mul_ne_zero a.den_nz b.den_nz)
  have p1 := prod_bd ha.1 hb.2
  have p2 := prod_bd hb.1 ha.2
  rw [Nat.add_comm j i] at p2
  have p3 := prod_bd ha.2 hb.2
  have q : (a.num * b.den + b.num * a.den).natAbs ≤ a.num.natAbs * b.den + b.num.natAbs * a.den := by
    have := Int.natAbs_add_le (a.num * b.den) (b.num * a.den)
    rw [Int.natAbs_mul, Int.natAbs_mul, Int.natAbs_natCast, Int.natAbs_natCast] at this
    exact this
  have t := pw_two p1 p2
  refine ⟨?_, Int.lt_of_lt_of_le (Int.lt_of_le_of_lt (by omega) p3) (Wd.pw_mono (by omega))⟩
  omega
theorem RS.mul {a b : Rat} {i j : Nat} (ha : RS a i) (hb : RS b j) : RS (a * b) (i + j) := by
  rw [Rat.mul_def']
  have m := mkRat_bd (a.num * b.num) (a.den * b.den) (Nat.mul_ne_zero a.den_nz b.den_nz)
  have p1 := prod_bd ha.1 hb.1
  have p3 := prod_bd ha.2 hb.2
  rw [Int.natAbs_mul] at m
  exact ⟨by omega, by omega⟩
/-- A box of a fraction, written anew. -/
theorem box_set {w : World} {g : Nat} {x0 x1 x2 y0 y1 y2 : Value} {T : TypeId} (h : w.heap[g]? = some (.cells #[x0, x1, x2] T)) :
    (((w.setCell ⟨g, 0, none⟩ y0).setCell ⟨g, 1, none⟩ y1).setCell ⟨g, 2, none⟩ y2).heap[g]? = some (.cells #[y0, y1, y2] T) := by
  rw [setCell_eq, setCell_eq, setCell_eq]
  simp [mapBlock, Array.getElem?_modify, h, onCells]
end Go.Proofs.YtcelbgleajpenaaGreatDoor
/- The sum of a row of fractions. -/
namespace Go.Proofs.YtcelbgleajpenaaGreatDoor
open Go.RowKit Go.Sort Go.Shelf

end Go.Proofs.YtcelbgleajpenaaGreatDoor
/- Whether a row of fractions may be a law. -/
namespace Go.Proofs.YtcelbgleajpenaaGreatDoor
open Go.RowKit Go.Sort Go.Shelf

end Go.Proofs.YtcelbgleajpenaaGreatDoor
/- Pairs of whole numbers made a row of fractions. -/
namespace Go.Proofs.YtcelbgleajpenaaGreatDoor
open Go.RowKit Go.Sort Go.Shelf

/-- The fraction of a pair. -/
def pq (p : Int × Int) : Rat := Rat.divInt p.1 (if p.2 = 0 then 1 else p.2)
def I64 (x : Int) : Prop := -9223372036854775808 ≤ x ∧ x ≤ 9223372036854775807

theorem pq_RS {p : Int × Int} (h1 : I64 p.1) (h2 : I64 p.2) : RS (pq p) 1 := by
  obtain ⟨x, y⟩ := p
  unfold pq I64 at *
  have hy : (if y = 0 then 1 else y) ≠ 0 := by split <;> omega
  have hb : (if y = 0 then 1 else y).natAbs ≤ 9223372036854775808 := by split <;> omega
  have e := of_math (x := x) hy
  simp only at *
  rw [← e]
  have m := mkRat_bd (sn (decide (x < 0) != decide ((if y = 0 then 1 else y) < 0)) (x.natAbs : Int)) (if y = 0 then 1 else y).natAbs (by omega)
  rw [sn_abs, Int.natAbs_natCast] at m
  refine ⟨?_, ?_⟩
  · rw [Wd.pw_one]; omega
  · rw [Wd.pw_one]; omega

/-- Three cells a fraction. -/
abbrev Tri : Type := Bool × Option Addr × Option Addr × Nat × Nat × Nat × Nat
abbrev Tri.s (t : Tri) : Bool := t.1
abbrev Tri.a1 (t : Tri) : Option Addr := t.2.1
abbrev Tri.a2 (t : Tri) : Option Addr := t.2.2.1
abbrev Tri.n1 (t : Tri) : Nat := t.2.2.2.1
abbrev Tri.c1 (t : Tri) : Nat := t.2.2.2.2.1
abbrev Tri.n2 (t : Tri) : Nat := t.2.2.2.2.2.1
abbrev Tri.c2 (t : Tri) : Nat := t.2.2.2.2.2.2
def Tri.val (t : Tri) : Value := .agg #[.bool t.s, .slice t.a1 t.n1 t.c1, .slice t.a2 t.n2 t.c2]
def Tri.cells (t : Tri) : List Value := [.bool t.s, .slice t.a1 t.n1 t.c1, .slice t.a2 t.n2 t.c2]
def tcells (ts : List Tri) : List Value := ts.flatMap Tri.cells
theorem tcells_append (ts : List Tri) (t : Tri) : tcells (ts ++ [t]) = tcells ts ++ t.cells := by simp [tcells]
theorem tcells_get (ts : List Tri) (j k : Nat) (hj : j < ts.length) (hk : k < 3) : (tcells ts)[j * 3 + k]? = (ts[j]!).cells[k]? := by
  induction ts generalizing j with
  | nil => simp at hj
  | cons t ts ih =>
    have e : tcells (t :: ts) = t.cells ++ tcells ts := by simp [tcells]
    have hl : t.cells.length = 3 := rfl
    rw [e]
    cases j with
    | zero => rw [List.getElem?_append_left (by omega)]; simp
    | succ j =>
      rw [List.getElem?_append_right (by omega), hl, show (j + 1) * 3 + k - 3 = j * 3 + k by omega, ih j (by simpa using hj)]
      simp

end Go.Proofs.YtcelbgleajpenaaGreatDoor
