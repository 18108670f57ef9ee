/- The law: text and floor. -/
import Derived.Test.YtgpolilpgkhlkaaDoorW25
namespace Go.Proofs.YtgpolilpgkhlkaaDoor
open Go.RowKit Go.Sort Go.Shelf Go.Dd

theorem divInt_bd (x y : Int) (hy : y ≠ 0) : (Rat.divInt x y).num.natAbs ≤ x.natAbs ∧ (Rat.divInt x y).den ≤ y.natAbs := by
  obtain ⟨m, hm, h1, h2⟩ := Rat.divInt_num_den (n := x) (d := y) (n' := (Rat.divInt x y).num) (d' := (Rat.divInt x y).den) (z' := (Rat.divInt x y).den_nz) (c := (Rat.divInt x y).reduced) hy rfl
  have hmn : 1 ≤ m.natAbs := by omega
  have e1 : x.natAbs = (Rat.divInt x y).num.natAbs * m.natAbs := by rw [← Int.natAbs_mul, ← h1]
  have e2 : y.natAbs = (Rat.divInt x y).den * m.natAbs := by
    have : y.natAbs = ((Rat.divInt x y).den * m).natAbs := by rw [← h2]
    rw [this, Int.natAbs_mul, Int.natAbs_natCast]
  rw [e1, e2]
  exact ⟨Nat.le_mul_of_pos_right _ hmn, Nat.le_mul_of_pos_right _ hmn⟩

def qOf (x y : Int) : Rat := Rat.divInt x (if y = 0 then 1 else y)
theorem qOf_bd (x y : Int) (hx0 : -9223372036854775808 ≤ x) (hx1 : x ≤ 9223372036854775807) (hy0 : -9223372036854775808 ≤ y) (hy1 : y ≤ 9223372036854775807) :
    ((qOf x y).num.natAbs : Int) ≤ 9223372036854775808 ∧ ((qOf x y).den : Int) ≤ 9223372036854775808 := by
  unfold qOf
  have h := divInt_bd x (if y = 0 then 1 else y) (by split <;> omega)
  generalize Rat.divInt x (if y = 0 then 1 else y) = r at *
  have h2 := h.2
  have h1 := h.1
  constructor
  · omega
  · split at h2 <;> omega

theorem floor_low (q : Rat) : Wd.sg (((q.num / q.den : Int) : Rat).num * q.den) (q.num * ((q.num / q.den : Int) : Rat).den) ≤ 0 := by
  rw [Rat.num_intCast, Rat.den_intCast]
  have hd : (0 : Int) < q.den := by have := q.den_pos; omega
  have := Int.ediv_mul_le q.num (by omega : (q.den : Int) ≠ 0)
  unfold Wd.sg
  split <;> rename_i h1
  · decide
  · split <;> rename_i h2
    · first | decide | (simp at h1 h2; omega)
    · first | decide | (simp at h1 h2; omega)

theorem floor_high (q : Rat) : 0 < Wd.sg ((((q.num / q.den : Int) : Rat) + ((1 : Int) : Rat)).num * q.den) (q.num * (((q.num / q.den : Int) : Rat) + ((1 : Int) : Rat)).den) := by
  rw [← Rat.intCast_add, Rat.num_intCast, Rat.den_intCast]
  have hd : (0 : Int) < q.den := by have := q.den_pos; omega
  have := Int.lt_ediv_add_one_mul_self q.num hd
  unfold Wd.sg
  split <;> rename_i h1
  · simp at h1; omega
  · split <;> rename_i h2
    · first | decide | (simp at h1 h2; omega)
    · first | decide | (simp at h1 h2; omega)
end Go.Proofs.YtgpolilpgkhlkaaDoor
