/- The frame of a law over fractions: the three tables, rows of pairs that came in. -/
import Derived.Test.YtfpmgnlddlcpoaaGreatDoorF0
import Derived.Test.YtfpmgnlddlcpoaaGreatDoorA14
import Derived.Test.YtfpmgnlddlcpoaaGreatDoorA15
import Derived.Deep.SlicePairs
namespace Go.Proofs.YtfpmgnlddlcpoaaGreatDoor
open Go.ChangeShapes Go.WideShapes Go.ChangeAt Go.RowKit Go.Joins

def laid3 : List (String × DataW Unit) := [("math/bits.deBruijn32tab", Rows.laid_math_bits_deBruijn32tab), ("math/bits.deBruijn64tab", Rows.laid_math_bits_deBruijn64tab), ("internal/strconv.uint64pow10", Rows.laid_internal_strconv_uint64pow10)]

/-- The door's own heap meets the condition. -/
theorem door_met (os : Os) (args : Array Value) : laidMetH Tryz.prog laid3 ((World.doorLaid Tryz.prog 400 os).forCall (fun _ _ => 0) ⟨#[], args, []⟩).memory :=
  laidMetH_of_parts3 (fuel := 8) (laidMet_of_run' 8 (by kernel_rfl) (by kernel_rfl)) (by kernel_rfl) (by kernel_rfl)

theorem tab_of_laid {W : World} (h : laidMetH Tryz.prog laid3 W) : Tab W := by
  rw [MakeChecks.laidMetH_plain _ _ _ (by kernel_rfl)] at h
  obtain ⟨ps, ⟨g0, t0, cs0, f0, p0, q0, hg0, ht0, hv0, hd0, ⟨g1, t1, cs1, f1, p1, q1, hg1, ht1, hv1, hd1, ⟨g2, t2, cs2, f2, p2, q2, hg2, ht2, hv2, hd2, _, _⟩, _⟩, _⟩, _, _⟩ := h
  have hty : (Tryz.prog.globalNamed "internal/strconv.uint64pow10").bind (fun g => (Tryz.prog.globals[g]?).map (·.type)) = some 151 := by kernel_rfl
  rw [hg2] at hty
  have hty' : (Tryz.prog.globals[g2]?).map (·.type) = some 151 := hty
  obtain rfl := Option.some.inj (hty'.symm.trans ht2)
  show Lib.TabIs _ _ _ _ _
  unfold Lib.TabIs
  rw [hv2, ← Lib.cells_of_tab (k := .u64) (zs := Lib.pow10Tab) Tryz.underlying151 Tryz.underlying41 (by kernel_rfl) (by kernel_rfl) hd2]

theorem Tryz.cellsI : Tryz.prog.cellsOf 3 = 1 := by kernel_rfl

end Go.Proofs.YtfpmgnlddlcpoaaGreatDoor
