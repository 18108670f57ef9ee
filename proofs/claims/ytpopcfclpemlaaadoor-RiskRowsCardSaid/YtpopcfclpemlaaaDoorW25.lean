/- A half. -/
import Derived.Test.YtpopcfclpemlaaaDoorA14
namespace Go.Proofs.YtpopcfclpemlaaaDoor
open Go.RowKit Go.Sort Go.Shelf Go.Dd

def hf : Rat := Rat.divInt 2 4
theorem hf_num : hf.num = 1 := by rfl
theorem hf_den : hf.den = 2 := by rfl
theorem hf2 : hf + hf = Rat.divInt 16 16 := Rat.divInt_add_divInt 2 2 (by decide) (by decide)
theorem hf2_num : (hf + hf).num = 1 := by rw [hf2]; rfl
theorem hf2_den : (hf + hf).den = 1 := by rw [hf2]; rfl
theorem dec1 (k : Nat) (h : k < 10) : Lib.decDigits k = [UInt8.ofNat (48 + k)] := by
  unfold Lib.decDigits
  rw [dif_pos h]
theorem hf_text : qtext hf = [49, 47, 50] := by
  simp [qtext, upperText, hf_num, hf_den, dec1]
theorem hf2_text : qtext (hf + hf) = [49] := by
  simp [qtext, upperText, hf2_num, hf2_den, dec1]
theorem hf_cmp : Wd.sg (hf.num * (hf + hf).den) ((hf + hf).num * hf.den) = -1 := by
  rw [hf_num, hf_den, hf2_num, hf2_den]; rfl

end Go.Proofs.YtpopcfclpemlaaaDoor
