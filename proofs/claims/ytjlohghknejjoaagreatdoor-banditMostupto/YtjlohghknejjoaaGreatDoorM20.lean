/- Births and deaths, Erlang's numbers, and calls that share lines: the sums. -/
import Derived.WalkKit
namespace Go.Proofs.YtjlohghknejjoaaGreatDoor.Bth

/-- How likely each number is, for one another. -/
def pe (u d : Nat → Rat) : Nat → Rat
  | 0 => 1
  | n + 1 => pe u d n * u n / d n
/-- The first numbers together. -/
def ps (f : Nat → Rat) : Nat → Rat
  | 0 => 0
  | k + 1 => ps f k + f k

theorem ps_congr {f g : Nat → Rat} (k : Nat) (h : ∀ j, j < k → f j = g j) : ps f k = ps g k := by
  induction k with
  | zero => rfl
  | succ k ih => show ps f k + f k = ps g k + g k; rw [ih (fun j hj => h j (by omega)), h k (by omega)]
/-! Erlang -/
end Go.Proofs.YtjlohghknejjoaaGreatDoor.Bth
/-! Kaufman and Roberts -/
namespace Go.Proofs.YtjlohghknejjoaaGreatDoor.Bth
end Go.Proofs.YtjlohghknejjoaaGreatDoor.Bth
