/- Sizes of fractions: 1, differences, quotients. -/
import Derived.Test.YtpopcfclpemlaaaDoorA15
import Derived.Test.YtpopcfclpemlaaaDoorA12
namespace Go.Proofs.YtpopcfclpemlaaaDoor
open Go.RowKit Go.Sort Go.Shelf

theorem one_RS' : RS (1 : Rat) 1 := by
  refine ⟨?_, ?_⟩ <;> (show (1 : Int) < Wd.pw 1; decide)
theorem onei_RS : RS ((1 : Int) : Rat) 1 := by
  refine ⟨?_, ?_⟩ <;> (show (1 : Int) < Wd.pw 1; decide)
theorem sg_one (u : Rat) : Wd.sg (u.num * ((1 : Int) : Rat).den) (((1 : Int) : Rat).num * u.den) = Wd.sg u.num u.den := by
  have h1 : ((1 : Int) : Rat).den = 1 := rfl
  have h2 : ((1 : Int) : Rat).num = 1 := rfl
  rw [h1, h2]; simp
theorem sg_ge {a b : Int} (h : b ≤ a) : 0 ≤ Wd.sg a b ∧ Wd.sg a b ≤ 1 := by
  unfold Wd.sg
  rw [if_neg (by omega)]
  by_cases e : a = b
  · rw [if_pos e]; exact ⟨by decide, by decide⟩
  · rw [if_neg e]; exact ⟨by decide, by decide⟩
theorem RS.sub' {a b : Rat} {i j : Nat} (ha : RS a i) (hb : RS b j) : RS (a - b) (i + j + 1) := by
  rw [Rat.sub_eq_add_neg]; exact ha.add hb.neg
theorem RS.div' {a b : Rat} {i j : Nat} (ha : RS a i) (hb : RS b j) (hz : b.num ≠ 0) : RS (a / b) (i + j) := by
  rw [Rat.div_def]; exact ha.mul (hb.inv hz)

end Go.Proofs.YtpopcfclpemlaaaDoor
