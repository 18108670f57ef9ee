/- Renewals: how long a thing lasts, who comes, what is left, and what it costs: the sums. -/
import Derived.Test.YtcelbgleajpenaaGreatDoorM20
namespace Go.Proofs.YtcelbgleajpenaaGreatDoor.Rnw
open Bth

/-- How likely a thing lasts longer. -/
def sv (x : Nat → Rat) (n : Nat) : Rat := 1 - ps x (n + 1)
theorem ps_cut (f : Nat → Rat) (n k : Nat) (hn : n ≤ k) (h : ∀ j, n ≤ j → j < k → f j = 0) : ps f k = ps f n := by
  induction k with
  | zero => obtain rfl : n = 0 := by omega
            rfl
  | succ k ih =>
    rcases Nat.lt_or_ge k n with h' | h'
    · obtain rfl : n = k + 1 := by omega
      rfl
    · show ps f k + f k = _
      rw [ih h' (fun j a b => h j a (by omega)), h k h' (by omega)]
      grind
/-! What is left -/
theorem sv_first (x : Nat → Rat) (N : Nat) : ps (sv x) N = ps (fun j => x j * ((j : Nat) : Int)) N + ((N : Nat) : Int) * (1 - ps x N) := by
  induction N with
  | zero => show (0 : Rat) = 0 + (((0 : Nat) : Int) : Rat) * (1 - 0); simp; grind
  | succ N ih =>
    show ps (sv x) N + (1 - (ps x N + x N)) = (ps _ N + x N * ((N : Nat) : Int)) + (((N + 1 : Nat) : Int) : Rat) * (1 - (ps x N + x N))
    rw [ih]
    have e : (((N + 1 : Nat) : Int) : Rat) = (((N : Nat) : Int) : Rat) + 1 := by push_cast; rfl
    rw [e]; grind
/-- A law of ages: none fails at 0, none behind the last. -/
structure Age (x : Nat → Rat) (g : Nat) : Prop where
  z : x 0 = 0
  nn : ∀ j, 0 ≤ x j
  sum : ps x (g + 1) = 1
  out : ∀ j, g < j → x j = 0
theorem Age.upto {x : Nat → Rat} {g : Nat} (h : Age x g) {n : Nat} (hn : g + 1 ≤ n) : ps x n = 1 := by
  rw [ps_cut x (g + 1) n hn (fun j a _ => h.out j (by omega))]; exact h.sum
theorem Age.sv_nn {x : Nat → Rat} {g : Nat} (h : Age x g) (n : Nat) : 0 ≤ sv x n := by
  rcases Nat.lt_or_ge n (g + 1) with a | a
  · have b := ps_mono (N := g + 1) (fun j _ => h.nn j) (n + 1) (g + 1) (by omega) (Nat.le_refl _)
    rw [h.sum] at b
    unfold sv
    grind
  · unfold sv; rw [h.upto (by omega)]; grind
theorem Age.sv0 {x : Nat → Rat} {g : Nat} (h : Age x g) : sv x 0 = 1 := by
  show 1 - (0 + x 0) = 1
  rw [h.z]; grind
theorem Age.g1 {x : Nat → Rat} {g : Nat} (h : Age x g) : 1 ≤ g := by
  rcases Nat.lt_or_ge 0 g with a | a
  · exact a
  · obtain rfl : g = 0 := by omega
    have := h.sum
    have e : ps x (0 + 1) = 0 := by show (0 : Rat) + x 0 = 0; rw [h.z]; grind
    rw [e] at this
    exact absurd this (by decide)
theorem Age.there {x : Nat → Rat} {g : Nat} (h : Age x g) {n : Nat} (hn : 1 ≤ n) : 1 ≤ ps (sv x) n := by
  obtain ⟨k, rfl⟩ : ∃ k, n = k + 1 := ⟨n - 1, by omega⟩
  exact ps_ge (N := k + 1) h.sv0 (fun j _ => h.sv_nn j) k (Nat.le_refl _)
theorem Age.ne {x : Nat → Rat} {g : Nat} (h : Age x g) {n : Nat} (hn : 1 ≤ n) : ps (sv x) n ≠ 0 := ne_of_pos (one_pos (h.there hn))
/-! What it costs -/
def cst (fa pl : Rat) (x : Nat → Rat) (n : Nat) : Rat := (fa * (1 - sv x n) + pl * sv x n) / ps (sv x) n
/-- The first age from 1 to n that costs the least. -/
def bst (f : Nat → Rat) : Nat → Nat
  | 0 => 0
  | n + 1 => if bst f n = 0 then n + 1 else if f (n + 1) < f (bst f n) then n + 1 else bst f n
theorem bst_le (f : Nat → Rat) : ∀ n, 1 ≤ n → 1 ≤ bst f n ∧ bst f n ≤ n ∧ ∀ j, 1 ≤ j → j ≤ n → f (bst f n) ≤ f j
  | 0, h => absurd h (by decide)
  | 1, _ => by
    have e : bst f 1 = 1 := by show (if (0 : Nat) = 0 then 1 else _) = 1; rw [if_pos rfl]
    rw [e]
    refine ⟨Nat.le_refl _, Nat.le_refl _, fun j a b => ?_⟩
    obtain rfl : j = 1 := by omega
    exact Rat.le_refl
  | n + 2, _ => by
    obtain ⟨a, b, c⟩ := bst_le f (n + 1) (by omega)
    have e : bst f (n + 2) = if f (n + 2) < f (bst f (n + 1)) then n + 2 else bst f (n + 1) := by
      show (if bst f (n + 1) = 0 then _ else _) = _
      rw [if_neg (by omega)]
    rw [e]
    by_cases hl : f (n + 2) < f (bst f (n + 1))
    · rw [if_pos hl]
      refine ⟨by omega, Nat.le_refl _, fun j h1 h2 => ?_⟩
      rcases Nat.lt_or_ge j (n + 2) with h3 | h3
      · have := c j h1 (by omega)
        grind
      · obtain rfl : j = n + 2 := by omega
        exact Rat.le_refl
    · rw [if_neg hl]
      refine ⟨a, by omega, fun j h1 h2 => ?_⟩
      rcases Nat.lt_or_ge j (n + 2) with h3 | h3
      · exact c j h1 (by omega)
      · obtain rfl : j = n + 2 := by omega
        grind
/-! Who comes -/
end Go.Proofs.YtcelbgleajpenaaGreatDoor.Rnw
