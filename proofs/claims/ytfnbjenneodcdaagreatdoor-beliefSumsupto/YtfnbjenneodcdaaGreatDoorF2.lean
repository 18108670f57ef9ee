/- The frame of a law over fractions that tells errors: the three tables and the handle of errors. -/
import Derived.Test.YtfnbjenneodcdaaGreatDoorF1
import Derived.Test.YtfnbjenneodcdaaGreatDoorT1
import Derived.LaidHandle
namespace Go.Proofs.YtfnbjenneodcdaaGreatDoor
open Go.ChangeShapes Go.WideShapes Go.ChangeAt Go.RowKit Go.Joins

def laid1 : List (String × DataW Unit) := [("errors.errorType", Rows.laid_errors_errorType)]
def laid4 : List (String × DataW Unit) := [("math/bits.deBruijn32tab", Rows.laid_math_bits_deBruijn32tab), ("math/bits.deBruijn64tab", Rows.laid_math_bits_deBruijn64tab), ("internal/strconv.uint64pow10", Rows.laid_internal_strconv_uint64pow10), ("errors.errorType", Rows.laid_errors_errorType)]
theorem Tryz.et : Tryz.prog.globalNamed "errors.errorType" = some 0 := by kernel_rfl
theorem Tryz.rt : (Tryz.prog.cutTypes.find? (·.1 == "internal/reflectlite.rtype")).map (·.2) = some 193 := by kernel_rfl
theorem Tryz.oneRow : ((List.range 288).filter fun t => Tryz.prog.rowNamed t [101, 114, 114, 111, 114]) = [32] := by kernel_rfl
theorem Tryz.size : Tryz.prog.types.size = 288 := by kernel_rfl

theorem door_met4 (os : Os) (args : Array Value) : laidMetH Tryz.prog laid4 ((World.doorLaid Tryz.prog 400 os).forCall (fun _ _ => 0) ⟨#[], args, []⟩).memory :=
  laidMetH_of_parts3 (fuel := 8) (laidMet_of_run' 8 (by kernel_rfl) (by kernel_rfl)) (by kernel_rfl) (by kernel_rfl)

theorem laid4_parts {W : World} (h : laidMetH Tryz.prog laid4 W) : laidMetH Tryz.prog laid3 W ∧ handlesMet Tryz.prog laid1 W := by
  have h' : laidMet Tryz.prog laid3 W ∧ handlesMet Tryz.prog laid1 W := h
  refine ⟨?_, h'.2⟩
  rw [MakeChecks.laidMetH_plain _ _ _ (by kernel_rfl)]
  exact h'.1

theorem tab_of_laid4 {W : World} (h : laidMetH Tryz.prog laid4 W) : Tab W := tab_of_laid (laid4_parts h).1

theorem err_of_laid4 {W : World} (h : laidMetH Tryz.prog laid4 W) : ErrTy W := by
  obtain ⟨name, u, ty, e1, e2, e3, e4, e5⟩ := (laid4_parts h).2 _ (List.mem_singleton.2 rfl)
  have en : name = [101, 114, 114, 111, 114] := (Option.some.inj e1).symm
  subst en
  obtain rfl := Option.some.inj (Tryz.rt.symm.trans e2)
  have hm : ty ∈ (List.range 288).filter fun t => Tryz.prog.rowNamed t [101, 114, 114, 111, 114] := List.mem_filter.2 ⟨List.mem_range.2 (by rw [← Tryz.size]; exact e3), e4⟩
  rw [Tryz.oneRow] at hm
  obtain rfl := List.mem_singleton.1 hm
  have hh : typeHandle Tryz.prog 32 = .pointer (some ⟨7, 32, none⟩) := by kernel_rfl
  rw [hh] at e5
  simpa [ErrTy] using World.var?_cell Tryz.et e5 0
end Go.Proofs.YtfnbjenneodcdaaGreatDoor
