/- Births and deaths, Erlang's numbers, and calls that share lines: the sums. -/
import Derived.WalkKit
namespace Go.Proofs.YtcelbgleajpenaaGreatDoor.Bth

theorem ne_of_pos {a : Rat} (h : 0 < a) : a ≠ 0 := fun e => by rw [e] at h; exact absurd h (by decide)
/-- The first numbers together. -/
def ps (f : Nat → Rat) : Nat → Rat
  | 0 => 0
  | k + 1 => ps f k + f k

theorem ps_mono {f : Nat → Rat} {N : Nat} (h : ∀ n, n < N → 0 ≤ f n) (j k : Nat) (hjk : j ≤ k) (hk : k ≤ N) : ps f j ≤ ps f k := by
  induction k with
  | zero => obtain rfl : j = 0 := by omega
            exact Rat.le_refl
  | succ k ih =>
    rcases Nat.lt_or_ge k j with h' | h'
    · obtain rfl : j = k + 1 := by omega
      exact Rat.le_refl
    · have a := ih h' (by omega)
      have b := h k (by omega)
      show ps f j ≤ ps f k + f k
      grind
theorem ps_ge {f : Nat → Rat} {N : Nat} (h0 : f 0 = 1) (h : ∀ n, n < N → 0 ≤ f n) (k : Nat) (hk : k + 1 ≤ N) : 1 ≤ ps f (k + 1) := by
  have a := ps_mono h 1 (k + 1) (by omega) hk
  have b : ps f 1 = 1 := by show (0 : Rat) + f 0 = 1; rw [h0, Rat.zero_add]
  rw [b] at a
  exact a
theorem one_pos {x : Rat} (h : 1 ≤ x) : 0 < x := by
  have : (0 : Rat) < 1 := by decide
  grind
theorem ps_congr {f g : Nat → Rat} (k : Nat) (h : ∀ j, j < k → f j = g j) : ps f k = ps g k := by
  induction k with
  | zero => rfl
  | succ k ih => show ps f k + f k = ps g k + g k; rw [ih (fun j hj => h j (by omega)), h k (by omega)]
/-! Erlang -/
end Go.Proofs.YtcelbgleajpenaaGreatDoor.Bth
/-! Kaufman and Roberts -/
namespace Go.Proofs.YtcelbgleajpenaaGreatDoor.Bth
end Go.Proofs.YtcelbgleajpenaaGreatDoor.Bth
