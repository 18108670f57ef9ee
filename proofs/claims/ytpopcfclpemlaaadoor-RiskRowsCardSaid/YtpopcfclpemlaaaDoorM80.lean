/- Renewals: how long a thing lasts, who comes, what is left, and what it costs: the sums. -/
import Derived.Test.YtpopcfclpemlaaaDoorM20
namespace Go.Proofs.YtpopcfclpemlaaaDoor.Rnw
open Bth

/-- How likely a thing lasts longer. -/
def sv (x : Nat → Rat) (n : Nat) : Rat := 1 - ps x (n + 1)
theorem ps_add (f g : Nat → Rat) (k : Nat) : ps (fun j => f j + g j) k = ps f k + ps g k := by
  induction k with
  | zero => show (0 : Rat) = 0 + 0; grind
  | succ k ih => show ps _ k + (f k + g k) = (ps f k + f k) + (ps g k + g k); rw [ih]; grind
theorem ps_mul (c : Rat) (f : Nat → Rat) (k : Nat) : ps (fun j => c * f j) k = c * ps f k := by
  induction k with
  | zero => show (0 : Rat) = c * 0; grind
  | succ k ih => show ps _ k + c * f k = c * (ps f k + f k); rw [ih]; grind
theorem ps_cut (f : Nat → Rat) (n k : Nat) (hn : n ≤ k) (h : ∀ j, n ≤ j → j < k → f j = 0) : ps f k = ps f n := by
  induction k with
  | zero => obtain rfl : n = 0 := by omega
            rfl
  | succ k ih =>
    rcases Nat.lt_or_ge k n with h' | h'
    · obtain rfl : n = k + 1 := by omega
      rfl
    · show ps f k + f k = _
      rw [ih h' (fun j a b => h j a (by omega)), h k h' (by omega)]
      grind
theorem ps_front (f : Nat → Rat) (k : Nat) : ps f (k + 1) = f 0 + ps (fun j => f (j + 1)) k := by
  induction k with
  | zero => show (0 : Rat) + f 0 = f 0 + 0; grind
  | succ k ih =>
    show ps f (k + 1) + f (k + 1) = f 0 + (ps (fun j => f (j + 1)) k + f (k + 1))
    rw [ih]; grind
theorem ps_rev (f : Nat → Rat) (k : Nat) : ps f k = ps (fun j => f (k - 1 - j)) k := by
  induction k with
  | zero => rfl
  | succ k ih =>
    rw [ps_front (fun j => f (k + 1 - 1 - j)) k]
    show ps f k + f k = f (k + 1 - 1 - 0) + ps (fun j => f (k + 1 - 1 - (j + 1))) k
    rw [ih, show k + 1 - 1 - 0 = k by omega, ps_congr (g := fun j => f (k + 1 - 1 - (j + 1))) k (fun j hj => by show f (k - 1 - j) = f (k + 1 - 1 - (j + 1)); rw [show k + 1 - 1 - (j + 1) = k - 1 - j by omega])]
    grind

/-! What is left -/
theorem sv_step (x : Nat → Rat) (n : Nat) : sv x (n + 1) = sv x n - x (n + 1) := by
  show 1 - (ps x (n + 1) + x (n + 1)) = 1 - ps x (n + 1) - x (n + 1)
  grind
theorem sv_first (x : Nat → Rat) (N : Nat) : ps (sv x) N = ps (fun j => x j * ((j : Nat) : Int)) N + ((N : Nat) : Int) * (1 - ps x N) := by
  induction N with
  | zero => show (0 : Rat) = 0 + (((0 : Nat) : Int) : Rat) * (1 - 0); simp; grind
  | succ N ih =>
    show ps (sv x) N + (1 - (ps x N + x N)) = (ps _ N + x N * ((N : Nat) : Int)) + (((N + 1 : Nat) : Int) : Rat) * (1 - (ps x N + x N))
    rw [ih]
    have e : (((N + 1 : Nat) : Int) : Rat) = (((N : Nat) : Int) : Rat) + 1 := by push_cast; rfl
    rw [e]; grind
theorem sv_second (x : Nat → Rat) (N : Nat) : 2 * ps (fun n => sv x n * ((n : Nat) : Int)) N = ps (fun j => x j * ((j ^ 2 : Nat) : Int)) N - ps (fun j => x j * ((j : Nat) : Int)) N + (((N : Nat) : Int) * ((N : Nat) : Int) - ((N : Nat) : Int)) * (1 - ps x N) := by
  induction N with
  | zero => show 2 * (0 : Rat) = 0 - 0 + ((((0 : Nat) : Int) : Rat) * (((0 : Nat) : Int) : Rat) - (((0 : Nat) : Int) : Rat)) * (1 - 0); simp; grind
  | succ N ih =>
    have E : ∀ (A B C : Rat), 2 * (ps (fun n => sv x n * ((n : Nat) : Int)) N) = A → 2 * (ps (fun n => sv x n * ((n : Nat) : Int)) N + B) = A + 2 * B := fun A B C h => by grind
    show 2 * (ps (fun n => sv x n * ((n : Nat) : Int)) N + (1 - (ps x N + x N)) * ((N : Nat) : Int)) = (ps (fun j => x j * ((j ^ 2 : Nat) : Int)) N + x N * ((N ^ 2 : Nat) : Int)) - (ps (fun j => x j * ((j : Nat) : Int)) N + x N * ((N : Nat) : Int)) + ((((N + 1 : Nat) : Int) : Rat) * (((N + 1 : Nat) : Int) : Rat) - (((N + 1 : Nat) : Int) : Rat)) * (1 - (ps x N + x N))
    rw [E _ _ 0 ih]
    have e : (((N + 1 : Nat) : Int) : Rat) = (((N : Nat) : Int) : Rat) + 1 := by push_cast; rfl
    have e2 : (((N ^ 2 : Nat) : Int) : Rat) = (((N : Nat) : Int) : Rat) * (((N : Nat) : Int) : Rat) := by
      rw [Nat.pow_two]; push_cast; rfl
    rw [e, e2]; grind
/-- A law of ages: none fails at 0, none behind the last. -/
structure Age (x : Nat → Rat) (g : Nat) : Prop where
  z : x 0 = 0
  nn : ∀ j, 0 ≤ x j
  sum : ps x (g + 1) = 1
  out : ∀ j, g < j → x j = 0
theorem Age.upto {x : Nat → Rat} {g : Nat} (h : Age x g) {n : Nat} (hn : g + 1 ≤ n) : ps x n = 1 := by
  rw [ps_cut x (g + 1) n hn (fun j a _ => h.out j (by omega))]; exact h.sum
theorem Age.sv_nn {x : Nat → Rat} {g : Nat} (h : Age x g) (n : Nat) : 0 ≤ sv x n := by
  rcases Nat.lt_or_ge n (g + 1) with a | a
  · have b := ps_mono (N := g + 1) (fun j _ => h.nn j) (n + 1) (g + 1) (by omega) (Nat.le_refl _)
    rw [h.sum] at b
    unfold sv
    grind
  · unfold sv; rw [h.upto (by omega)]; grind
theorem Age.sv_zero {x : Nat → Rat} {g : Nat} (h : Age x g) {n : Nat} (hn : g ≤ n) : sv x n = 0 := by
  unfold sv; rw [h.upto (by omega)]; grind
theorem Age.sv0 {x : Nat → Rat} {g : Nat} (h : Age x g) : sv x 0 = 1 := by
  show 1 - (0 + x 0) = 1
  rw [h.z]; grind
theorem Age.g1 {x : Nat → Rat} {g : Nat} (h : Age x g) : 1 ≤ g := by
  rcases Nat.lt_or_ge 0 g with a | a
  · exact a
  · obtain rfl : g = 0 := by omega
    have := h.sum
    have e : ps x (0 + 1) = 0 := by show (0 : Rat) + x 0 = 0; rw [h.z]; grind
    rw [e] at this
    exact absurd this (by decide)
theorem Age.mean {x : Nat → Rat} {g : Nat} (h : Age x g) : ps (sv x) g = ps (fun j => x j * ((j : Nat) : Int)) (g + 1) := by
  have a := sv_first x (g + 1)
  rw [h.sum] at a
  have b : ps (sv x) (g + 1) = ps (sv x) g + sv x g := rfl
  rw [h.sv_zero (Nat.le_refl _)] at b
  grind
theorem Age.there {x : Nat → Rat} {g : Nat} (h : Age x g) {n : Nat} (hn : 1 ≤ n) : 1 ≤ ps (sv x) n := by
  obtain ⟨k, rfl⟩ : ∃ k, n = k + 1 := ⟨n - 1, by omega⟩
  exact ps_ge (N := k + 1) h.sv0 (fun j _ => h.sv_nn j) k (Nat.le_refl _)
theorem Age.ne {x : Nat → Rat} {g : Nat} (h : Age x g) {n : Nat} (hn : 1 ≤ n) : ps (sv x) n ≠ 0 := ne_of_pos (one_pos (h.there hn))
theorem Age.share {x : Nat → Rat} {g : Nat} (h : Age x g) : ps (fun n => sv x n / ps (sv x) g) g = 1 := by
  rw [ps_div]
  exact div_self (h.ne h.g1)
theorem Age.share_nn {x : Nat → Rat} {g : Nat} (h : Age x g) (n : Nat) : 0 ≤ sv x n / ps (sv x) g := div_nn (h.sv_nn n) (one_pos (h.there h.g1))
/-- Twice the mean of what is left: the mean square by the mean, less one. -/
theorem Age.waits {x : Nat → Rat} {g : Nat} (h : Age x g) : ps (fun n => sv x n / ps (sv x) g * ((n : Nat) : Int)) g + ps (fun n => sv x n / ps (sv x) g * ((n : Nat) : Int)) g = ps (fun j => x j * ((j ^ 2 : Nat) : Int)) (g + 1) / ps (fun j => x j * ((j : Nat) : Int)) (g + 1) - 1 := by
  have a := sv_second x (g + 1)
  rw [h.sum] at a
  have b : ps (fun n => sv x n * ((n : Nat) : Int)) (g + 1) = ps (fun n => sv x n * ((n : Nat) : Int)) g + sv x g * ((g : Nat) : Int) := rfl
  rw [h.sv_zero (Nat.le_refl _)] at b
  have hm := h.mean
  have hne := h.ne h.g1
  rw [hm] at hne ⊢
  obtain ⟨m, e⟩ : ∃ m, ps (fun j => x j * ((j : Nat) : Int)) (g + 1) = m := ⟨_, rfl⟩
  rw [e] at hne a ⊢
  have c : ps (fun n => sv x n / m * ((n : Nat) : Int)) g = ps (fun n => sv x n * ((n : Nat) : Int)) g / m := by
    rw [← ps_div]
    exact ps_congr _ (fun j _ => by rw [Rat.div_def, Rat.div_def]; grind)
  have hi : m * m⁻¹ = 1 := Rat.mul_inv_cancel _ hne
  rw [c, Rat.div_def, Rat.div_def]
  grind

/-! What it costs -/
def cst (fa pl : Rat) (x : Nat → Rat) (n : Nat) : Rat := (fa * (1 - sv x n) + pl * sv x n) / ps (sv x) n
theorem Age.cst_out {x : Nat → Rat} {g : Nat} (h : Age x g) (fa pl : Rat) {n : Nat} (hn : g ≤ n) : cst fa pl x n = cst fa pl x g := by
  unfold cst
  rw [h.sv_zero hn, h.sv_zero (Nat.le_refl g), ps_cut (sv x) g n hn (fun j a _ => h.sv_zero a)]
/-- The first age from 1 to n that costs the least. -/
def bst (f : Nat → Rat) : Nat → Nat
  | 0 => 0
  | n + 1 => if bst f n = 0 then n + 1 else if f (n + 1) < f (bst f n) then n + 1 else bst f n
theorem bst_le (f : Nat → Rat) : ∀ n, 1 ≤ n → 1 ≤ bst f n ∧ bst f n ≤ n ∧ ∀ j, 1 ≤ j → j ≤ n → f (bst f n) ≤ f j
  | 0, h => absurd h (by decide)
  | 1, _ => by
    have e : bst f 1 = 1 := by show (if (0 : Nat) = 0 then 1 else _) = 1; rw [if_pos rfl]
    rw [e]
    refine ⟨Nat.le_refl _, Nat.le_refl _, fun j a b => ?_⟩
    obtain rfl : j = 1 := by omega
    exact Rat.le_refl
  | n + 2, _ => by
    obtain ⟨a, b, c⟩ := bst_le f (n + 1) (by omega)
    have e : bst f (n + 2) = if f (n + 2) < f (bst f (n + 1)) then n + 2 else bst f (n + 1) := by
      show (if bst f (n + 1) = 0 then _ else _) = _
      rw [if_neg (by omega)]
    rw [e]
    by_cases hl : f (n + 2) < f (bst f (n + 1))
    · rw [if_pos hl]
      refine ⟨by omega, Nat.le_refl _, fun j h1 h2 => ?_⟩
      rcases Nat.lt_or_ge j (n + 2) with h3 | h3
      · have := c j h1 (by omega)
        grind
      · obtain rfl : j = n + 2 := by omega
        exact Rat.le_refl
    · rw [if_neg hl]
      refine ⟨a, by omega, fun j h1 h2 => ?_⟩
      rcases Nat.lt_or_ge j (n + 2) with h3 | h3
      · exact c j h1 (by omega)
      · obtain rfl : j = n + 2 := by omega
        grind
theorem Age.best {x : Nat → Rat} {g : Nat} (h : Age x g) (fa pl : Rat) {n : Nat} (hn : 1 ≤ n) : cst fa pl x (bst (cst fa pl x) g) ≤ cst fa pl x n := by
  obtain ⟨_, _, c⟩ := bst_le (cst fa pl x) g h.g1
  rcases Nat.lt_or_ge n (g + 1) with a | a
  · exact c n hn (by omega)
  · rw [h.cst_out fa pl (show g ≤ n by omega)]
    exact c g h.g1 (Nat.le_refl _)

/-! Who comes -/
def ul (x : Nat → Rat) : Nat → List Rat
  | 0 => [1]
  | n + 1 => ul x n ++ [ps (fun p => (ul x n)[p]! * x (n + 1 - p)) (n + 1)]
theorem ul_len (x : Nat → Rat) : ∀ n, (ul x n).length = n + 1
  | 0 => rfl
  | n + 1 => by show (ul x n ++ _).length = _; rw [List.length_append, ul_len x n]; rfl
/-- How likely one fails at a time. -/
def u (x : Nat → Rat) (n : Nat) : Rat := (ul x n)[n]!
theorem ul_get (x : Nat → Rat) : ∀ n p, p ≤ n → (ul x n)[p]! = u x p
  | 0, p, h => by obtain rfl : p = 0 := by omega
                  rfl
  | n + 1, p, h => by
    rcases Nat.lt_or_ge p (n + 1) with a | a
    · rw [← ul_get x n p (by omega)]
      show (ul x n ++ _)[p]! = _
      rw [List.getElem!_eq_getElem?_getD, List.getElem!_eq_getElem?_getD, List.getElem?_append_left (by rw [ul_len]; omega)]
    · obtain rfl : p = n + 1 := by omega
      rfl
theorem u_zero (x : Nat → Rat) : u x 0 = 1 := rfl
theorem u_step (x : Nat → Rat) (n : Nat) : u x (n + 1) = ps (fun p => u x p * x (n + 1 - p)) (n + 1) := by
  show (ul x n ++ [_])[n + 1]! = _
  rw [List.getElem!_eq_getElem?_getD, List.getElem?_append_right (by rw [ul_len]; omega), ul_len, Nat.sub_self]
  exact ps_congr _ (fun p hp => by show (ul x n)[p]! * _ = _; rw [ul_get x n p (by omega)])
/-- How many fail up to a time. -/
def mv (x : Nat → Rat) (n : Nat) : Rat := ps (fun i => u x (i + 1)) n
def eqn (x : Nat → Rat) (t k : Nat) : Rat := ps (fun k => x (k + 1) * (1 + mv x (t - (k + 1)))) k
theorem renewal (x : Nat → Rat) : ∀ t, eqn x t t = mv x t
  | 0 => rfl
  | t + 1 => by
    have ih := renewal x t
    show ps (fun k => x (k + 1) * (1 + mv x (t + 1 - (k + 1)))) t + x (t + 1) * (1 + mv x (t + 1 - (t + 1))) = mv x t + u x (t + 1)
    have e1 : ps (fun k => x (k + 1) * (1 + mv x (t + 1 - (k + 1)))) t = eqn x t t + ps (fun k => x (k + 1) * u x (t - k)) t := by
      show _ = ps (fun k => x (k + 1) * (1 + mv x (t - (k + 1)))) t + _
      rw [← ps_add]
      refine ps_congr _ (fun k hk => ?_)
      obtain ⟨d, hd⟩ : ∃ d, t - k = d + 1 := ⟨t - k - 1, by omega⟩
      rw [show t + 1 - (k + 1) = d + 1 by omega, show t - (k + 1) = d by omega, hd]
      show x (k + 1) * (1 + (mv x d + u x (d + 1))) = _
      grind
    have e2 : u x (t + 1) = ps (fun k => x (k + 1) * u x (t - k)) t + x (t + 1) * 1 := by
      have e : ps (fun k => x (k + 1) * u x (t - k)) (t + 1) = ps (fun k => x (k + 1) * u x (t - k)) t + x (t + 1) * 1 := by
        show ps (fun k => x (k + 1) * u x (t - k)) t + x (t + 1) * u x (t - t) = _
        rw [Nat.sub_self]; rfl
      rw [u_step, ps_rev, ← e]
      refine ps_congr _ (fun k hk => ?_)
      show u x (t + 1 - 1 - k) * x (t + 1 - (t + 1 - 1 - k)) = _
      rw [show t + 1 - 1 - k = t - k by omega, show t + 1 - (t - k) = k + 1 by omega, Rat.mul_comm]
    have e3 : mv x (t + 1 - (t + 1)) = 0 := by rw [Nat.sub_self]; rfl
    rw [e1, e3, e2, ih]
    grind
end Go.Proofs.YtpopcfclpemlaaaDoor.Rnw
