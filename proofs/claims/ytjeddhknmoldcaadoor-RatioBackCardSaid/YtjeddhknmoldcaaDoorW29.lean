/- For every pair of two ints, Parse of Text of its fraction is the fraction again, and Floor is the greatest whole number not above it: the law returns true and leaves its argument alone. Condition: the three listed tables of the library start as the program's text lays them (the card ties them). -/
import Derived.Test.YtjeddhknmoldcaaDoorW27
import Derived.Test.YtjeddhknmoldcaaDoorW28
import Derived.Test.YtjeddhknmoldcaaDoorTie
import Derived.Test.YtjeddhknmoldcaaDoorCards
import Derived.SevenTiedAt
namespace Go.Proofs.YtjeddhknmoldcaaDoor
open Go

theorem ratioBack_holds : Rows.RatioBackSaid :=
  OpenClaim.holds_of_wide 3 Tryd.f3 rfl rfl rfl rfl rfl rfl rfl ⟨rfl, rfl, rfl, rfl, rfl⟩ rfl rfl rfl rfl rfl (by kernel_rfl) Tryd.func3 (by kernel_rfl)
    (of_decide_eq_true (by kernel_rfl)) (by unfold Func.isWrapper; first | (rw [if_pos (by decide +kernel)]; kernel_rfl) | (rw [if_neg (by decide +kernel)]; exact ⟨rfl, rfl⟩))
    (fun os started H enc _ => lifted_by ratioBack_any os started H enc)

theorem ratioBack_card_holds : Rows.RatioBackCardSaid :=
  Claim7.holds_tied_plain_at .later [] [.data, .data, .data] true (true, "16bd901018b1d131838b1ff3e1e24d06a77b47a80732ef20820f8f85291488db") false
    ratioBack_holds (fun _ h => by cases h) (by kernel_rfl) (fun _ h => by cases h) ratioBack_row_tie rfl ⟨rfl, rfl⟩ (by kernel_rfl) rfl
    (fun f fn hf hfn => by
      obtain rfl : f = 3 := Option.some.inj ((show Tryd.prog.funcNamed "foresight/foresightkeep.RatioBack" = some 3 by kernel_rfl).symm.trans hf) |>.symm
      obtain rfl : fn = Tryd.f3 := (Option.some.inj (Tryd.func3.symm.trans hfn)).symm
      exact ⟨by kernel_rfl, fun j t ht => by
        rw [Tryd.params3] at ht
        have hm : t ∈ [23] := by simpa using Array.mem_of_getElem? ht
        have hall : ([23].all fun u => !Tryd.prog.wantsStandIn u) = true := by kernel_rfl
        exact (show Tryd.prog.wantsStandIn t = false by simpa using List.all_eq_true.1 hall t hm)⟩)
    (by kernel_rfl)
#print axioms ratioBack_card_holds
end Go.Proofs.YtjeddhknmoldcaaDoor
