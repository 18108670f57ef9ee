/- Kelly: shares and products. -/
import Derived.Test.YtgpolilpgkhlkaaDoorT30
namespace Go.Proofs.YtgpolilpgkhlkaaDoor
open Go.RowKit Go.Sort Go.Shelf

theorem csum_le {c : Nat → Nat} {m : Nat} (h : ∀ i, c i ≤ m) : ∀ n, Stp.csum c n ≤ n * m
  | 0 => Nat.zero_le _
  | n + 1 => by
    have := csum_le h n
    have := h n
    show Stp.csum c n + c n ≤ _
    rw [Nat.succ_mul]; omega
theorem csum_mono (c : Nat → Nat) : ∀ {a b : Nat}, a ≤ b → Stp.csum c a ≤ Stp.csum c b
  | a, 0, h => by obtain rfl : a = 0 := by omega
                  exact Nat.le_refl _
  | a, b + 1, h => by
    by_cases e : a = b + 1
    · rw [e]; exact Nat.le_refl _
    · have := csum_mono c (a := a) (b := b) (by omega)
      show Stp.csum c a ≤ Stp.csum c b + _
      omega
/-- Shares of a sum. -/
def shf (c : Nat → Nat) (s : Nat) (i : Nat) : Rat := Rat.divInt ((c i : Nat) : Int) (s : Int)
theorem shf_div (c : Nat → Nat) (s i : Nat) : shf c s i = (c i : Rat) / (s : Rat) := by
  unfold shf
  rw [Rat.divInt_eq_div]
  rfl
theorem shf_RS {c : Nat → Nat} {s i : Nat} (h1 : c i ≤ 100) (h2 : 1 ≤ s) (h3 : s ≤ 1000) : RS (shf c s i) 1 := div_RS (by omega) (by omega) (by omega) (by omega)
theorem shf_pos {c : Nat → Nat} {s i : Nat} (h1 : 1 ≤ c i) (h2 : 1 ≤ s) : 0 < shf c s i := by
  rw [shf_div, Rat.div_def]
  exact Rat.mul_pos (by exact_mod_cast h1) (Rat.inv_pos.2 (by exact_mod_cast h2))
theorem shf_sum {c : Nat → Nat} {n : Nat} (h : 1 ≤ Stp.csum c n) : Bth.ps (shf c (Stp.csum c n)) n = 1 := by
  have e : Bth.ps (shf c (Stp.csum c n)) n = Bth.ps (fun i => ((Stp.csum c n : Nat) : Rat)⁻¹ * (c i : Rat)) n := Bth.ps_congr _ (fun i _ => by rw [shf_div, Rat.div_def, Rat.mul_comm])
  rw [e, Lin.ps_mul, Stp.csum_ps]
  exact Rat.inv_mul_cancel _ (by
    have : (0 : Rat) < ((Stp.csum c n : Nat) : Rat) := by exact_mod_cast h
    intro z
    rw [z] at this
    exact absurd this (by decide))
theorem shf_chk {c : Nat → Nat} {n : Nat} (hn : 1 ≤ n) (hn1 : n ≤ 100) (h1 : ∀ i, 1 ≤ c i) : chk (row (shf c (Stp.csum c n)) n) = 0 := by
  have hs : 1 ≤ Stp.csum c n := Stp.csum_pos (by omega) (fun i _ => h1 i)
  unfold chk
  have a : ¬ ((row (shf c (Stp.csum c n)) n).length < 1 ∨ 101 < (row (shf c (Stp.csum c n)) n).length) := by rw [row_length]; omega
  have b : ¬ ∃ j, j < (row (shf c (Stp.csum c n)) n).length ∧ ((row (shf c (Stp.csum c n)) n)[j]!).num < 0 := fun ⟨j, hj, h⟩ => by
    rw [row_length] at hj
    rw [row_get hj] at h
    have := Rat.num_nonneg.2 (Rat.le_of_lt (shf_pos (c := c) (i := j) (h1 j) hs))
    omega
  have d : qsum (row (shf c (Stp.csum c n)) n) (row (shf c (Stp.csum c n)) n).length = 1 := by
    rw [row_length, qsum_row _ _ n (Nat.le_refl _)]
    exact shf_sum hs
  rw [if_neg a, if_neg b, if_pos d]
theorem one_RS1 : RS (1 : Rat) 1 := ⟨by decide, by decide⟩
theorem pw_RS {x : Rat} (h : RS x 1) : ∀ k, RS (Stp.pw x k) (k + 1)
  | 0 => one_RS1
  | k + 1 => (pw_RS h k).mul h
theorem wpr_RS {x : Nat → Rat} {c : Nat → Nat} {n : Nat} (h : ∀ i, i < n → RS (x i) 1) (hc : ∀ i, c i ≤ 6) : ∀ i, i ≤ n → RS (Stp.wpr x c i) (1 + i * 7)
  | 0, _ => one_RS1
  | i + 1, hi => by
    have h1 := wpr_RS h hc i (by omega)
    have h2 := pw_RS (h i (by omega)) (c i)
    have h3 := hc i
    exact RS.mono (h1.mul h2) (by rw [Nat.succ_mul]; omega)
theorem wpr_congr {x y : Nat → Rat} {c : Nat → Nat} : ∀ {n : Nat}, (∀ i, i < n → x i = y i) → Stp.wpr x c n = Stp.wpr y c n
  | 0, _ => rfl
  | n + 1, h => by
    show Stp.wpr x c n * Stp.pw (x n) (c n) = Stp.wpr y c n * Stp.pw (y n) (c n)
    rw [wpr_congr (fun i hi => h i (by omega)), h n (by omega)]
theorem kelly_is {c b : Nat → Nat} {n : Nat} (hc : ∀ i, 1 ≤ c i) (hb : ∀ i, 1 ≤ b i) : Stp.wpr (shf b (Stp.csum b n)) c n ≤ Stp.wpr (shf c (Stp.csum c n)) c n := by
  rw [wpr_congr (y := fun i => (b i : Rat) / (Stp.csum b n : Rat)) (fun i _ => shf_div _ _ _), wpr_congr (x := shf c _) (y := fun i => (c i : Rat) / (Stp.csum c n : Rat)) (fun i _ => shf_div _ _ _)]
  exact Stp.kelly (fun i _ => hc i) (fun i _ => hb i)

end Go.Proofs.YtgpolilpgkhlkaaDoor
