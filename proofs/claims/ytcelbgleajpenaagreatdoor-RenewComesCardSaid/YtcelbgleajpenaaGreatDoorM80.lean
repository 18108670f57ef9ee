/- Renewals: how long a thing lasts, who comes, what is left, and what it costs: the sums. -/
import Derived.Test.YtcelbgleajpenaaGreatDoorM20
namespace Go.Proofs.YtcelbgleajpenaaGreatDoor.Rnw
open Bth

/-- How likely a thing lasts longer. -/
def sv (x : Nat → Rat) (n : Nat) : Rat := 1 - ps x (n + 1)
theorem ps_add (f g : Nat → Rat) (k : Nat) : ps (fun j => f j + g j) k = ps f k + ps g k := by
  induction k with
  | zero => show (0 : Rat) = 0 + 0; grind
  | succ k ih => show ps _ k + (f k + g k) = (ps f k + f k) + (ps g k + g k); rw [ih]; grind
theorem ps_cut (f : Nat → Rat) (n k : Nat) (hn : n ≤ k) (h : ∀ j, n ≤ j → j < k → f j = 0) : ps f k = ps f n := by
  induction k with
  | zero => obtain rfl : n = 0 := by omega
            rfl
  | succ k ih =>
    rcases Nat.lt_or_ge k n with h' | h'
    · obtain rfl : n = k + 1 := by omega
      rfl
    · show ps f k + f k = _
      rw [ih h' (fun j a b => h j a (by omega)), h k h' (by omega)]
      grind
theorem ps_front (f : Nat → Rat) (k : Nat) : ps f (k + 1) = f 0 + ps (fun j => f (j + 1)) k := by
  induction k with
  | zero => show (0 : Rat) + f 0 = f 0 + 0; grind
  | succ k ih =>
    show ps f (k + 1) + f (k + 1) = f 0 + (ps (fun j => f (j + 1)) k + f (k + 1))
    rw [ih]; grind
theorem ps_rev (f : Nat → Rat) (k : Nat) : ps f k = ps (fun j => f (k - 1 - j)) k := by
  induction k with
  | zero => rfl
  | succ k ih =>
    rw [ps_front (fun j => f (k + 1 - 1 - j)) k]
    show ps f k + f k = f (k + 1 - 1 - 0) + ps (fun j => f (k + 1 - 1 - (j + 1))) k
    rw [ih, show k + 1 - 1 - 0 = k by omega, ps_congr (g := fun j => f (k + 1 - 1 - (j + 1))) k (fun j hj => by show f (k - 1 - j) = f (k + 1 - 1 - (j + 1)); rw [show k + 1 - 1 - (j + 1) = k - 1 - j by omega])]
    grind

/-! What is left -/
/-- A law of ages: none fails at 0, none behind the last. -/
structure Age (x : Nat → Rat) (g : Nat) : Prop where
  z : x 0 = 0
  nn : ∀ j, 0 ≤ x j
  sum : ps x (g + 1) = 1
  out : ∀ j, g < j → x j = 0
theorem Age.upto {x : Nat → Rat} {g : Nat} (h : Age x g) {n : Nat} (hn : g + 1 ≤ n) : ps x n = 1 := by
  rw [ps_cut x (g + 1) n hn (fun j a _ => h.out j (by omega))]; exact h.sum
theorem Age.sv_nn {x : Nat → Rat} {g : Nat} (h : Age x g) (n : Nat) : 0 ≤ sv x n := by
  rcases Nat.lt_or_ge n (g + 1) with a | a
  · have b := ps_mono (N := g + 1) (fun j _ => h.nn j) (n + 1) (g + 1) (by omega) (Nat.le_refl _)
    rw [h.sum] at b
    unfold sv
    grind
  · unfold sv; rw [h.upto (by omega)]; grind
/-! What it costs -/
/-! Who comes -/
def ul (x : Nat → Rat) : Nat → List Rat
  | 0 => [1]
  | n + 1 => ul x n ++ [ps (fun p => (ul x n)[p]! * x (n + 1 - p)) (n + 1)]
theorem ul_len (x : Nat → Rat) : ∀ n, (ul x n).length = n + 1
  | 0 => rfl
  | n + 1 => by show (ul x n ++ _).length = _; rw [List.length_append, ul_len x n]; rfl
/-- How likely one fails at a time. -/
def u (x : Nat → Rat) (n : Nat) : Rat := (ul x n)[n]!
theorem ul_get (x : Nat → Rat) : ∀ n p, p ≤ n → (ul x n)[p]! = u x p
  | 0, p, h => by obtain rfl : p = 0 := by omega
                  rfl
  | n + 1, p, h => by
    rcases Nat.lt_or_ge p (n + 1) with a | a
    · rw [← ul_get x n p (by omega)]
      show (ul x n ++ _)[p]! = _
      rw [List.getElem!_eq_getElem?_getD, List.getElem!_eq_getElem?_getD, List.getElem?_append_left (by rw [ul_len]; omega)]
    · obtain rfl : p = n + 1 := by omega
      rfl
theorem u_step (x : Nat → Rat) (n : Nat) : u x (n + 1) = ps (fun p => u x p * x (n + 1 - p)) (n + 1) := by
  show (ul x n ++ [_])[n + 1]! = _
  rw [List.getElem!_eq_getElem?_getD, List.getElem?_append_right (by rw [ul_len]; omega), ul_len, Nat.sub_self]
  exact ps_congr _ (fun p hp => by show (ul x n)[p]! * _ = _; rw [ul_get x n p (by omega)])
/-- How many fail up to a time. -/
def mv (x : Nat → Rat) (n : Nat) : Rat := ps (fun i => u x (i + 1)) n
end Go.Proofs.YtcelbgleajpenaaGreatDoor.Rnw
