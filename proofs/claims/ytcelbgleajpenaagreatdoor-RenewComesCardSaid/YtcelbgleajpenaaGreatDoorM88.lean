/- Renewals: how great the numbers are. -/
import Derived.Test.YtcelbgleajpenaaGreatDoorM80
import Derived.Test.YtcelbgleajpenaaGreatDoorM87
namespace Go.Proofs.YtcelbgleajpenaaGreatDoor.Rnw
open Go.Proofs.YtcelbgleajpenaaGreatDoor.Bth

/-- How likely the n-th one fails at a time; c is the last time at which one can fail. -/
def cna (x : Nat → Rat) (c : Nat) : Nat → Nat → Rat
  | 0, t => if t = 0 then 1 else 0
  | n + 1, t => ps (fun j => cna x c n (t - (j + 1)) * x (j + 1)) (min t c)
/-- What the first n rounds add up to. -/
def oca (x : Nat → Rat) (c : Nat) : Nat → Nat → Rat
  | 0, t => cna x c 0 t
  | n + 1, t => oca x c n t + cna x c (n + 1) t
theorem ps_congr' {f g : Nat → Rat} : ∀ k, (∀ j, j < k → f j = g j) → ps f k = ps g k
  | 0, _ => rfl
  | k + 1, h => by
    show ps f k + f k = ps g k + g k
    rw [ps_congr' k (fun j hj => h j (by omega)), h k (by omega)]
theorem cna_step {x : Nat → Rat} {c : Nat} (h : ∀ j, c < j → x j = 0) (n t : Nat) : cna x c (n + 1) t = ps (fun j => cna x c n (t - (j + 1)) * x (j + 1)) t := by
  show ps _ (min t c) = _
  refine (ps_cut _ (min t c) t (Nat.min_le_left _ _) (fun j h1 h2 => ?_)).symm
  rw [h (j + 1) (by omega)]; grind
theorem oca_step {x : Nat → Rat} {c : Nat} (h : ∀ j, c < j → x j = 0) (t : Nat) : ∀ n, oca x c (n + 1) t = cna x c 0 t + ps (fun j => oca x c n (t - (j + 1)) * x (j + 1)) t
  | 0 => by
    show cna x c 0 t + cna x c 1 t = _
    rw [cna_step h]; rfl
  | n + 1 => by
    show oca x c (n + 1) t + cna x c (n + 2) t = _
    rw [oca_step h t n, cna_step h (n + 1) t]
    have e : ps (fun j => oca x c (n + 1) (t - (j + 1)) * x (j + 1)) t = ps (fun j => oca x c n (t - (j + 1)) * x (j + 1)) t + ps (fun j => cna x c (n + 1) (t - (j + 1)) * x (j + 1)) t := by
      rw [← ps_add]
      refine ps_congr' _ (fun j _ => ?_)
      show (oca x c n _ + cna x c (n + 1) _) * _ = _
      grind
    rw [e]; grind
theorem oca_u {x : Nat → Rat} {c : Nat} (h : ∀ j, c < j → x j = 0) : ∀ t n, t ≤ n → oca x c n t = u x t := by
  intro t
  induction t using Nat.strongRecOn with
  | ind t ih =>
    intro n hn
    cases t with
    | zero =>
      cases n with
      | zero => rfl
      | succ n =>
        rw [oca_step h]
        show (1 : Rat) + 0 = 1
        grind
    | succ t =>
      obtain ⟨m, rfl⟩ : ∃ m, n = m + 1 := ⟨n - 1, by omega⟩
      rw [oca_step h, u_step, ps_rev (fun p => u x p * x (t + 1 - p))]
      show (0 : Rat) + _ = _
      have e : ps (fun j => oca x c m (t + 1 - (j + 1)) * x (j + 1)) (t + 1) = ps (fun j => u x (t + 1 - 1 - j) * x (t + 1 - (t + 1 - 1 - j))) (t + 1) := ps_congr' _ (fun j hj => by
        rw [ih (t + 1 - (j + 1)) (by omega) m (by omega), show t + 1 - (j + 1) = t + 1 - 1 - j by omega, show t + 1 - (t + 1 - 1 - j) = j + 1 by omega])
      rw [e]; grind
end Go.Proofs.YtcelbgleajpenaaGreatDoor.Rnw
namespace Go.Proofs.YtcelbgleajpenaaGreatDoor.Rnw
open Go.Proofs.YtcelbgleajpenaaGreatDoor.Bth Go.Proofs.YtcelbgleajpenaaGreatDoor.Rsk

/-- How long a thing lasts, but for never at once. -/
structure Lst (x : Nat → Rat) : Prop where
  nn : ∀ j, 0 ≤ x j
  one : ∀ k, ps (fun j => x (j + 1)) k ≤ 1
theorem ps_01 {x f : Nat → Rat} (h : Lst x) : ∀ k, (∀ j, j < k → 0 ≤ f j ∧ f j ≤ 1) → 0 ≤ ps (fun j => f j * x (j + 1)) k ∧ ps (fun j => f j * x (j + 1)) k ≤ ps (fun j => x (j + 1)) k
  | 0, _ => ⟨Rat.le_refl, Rat.le_refl⟩
  | k + 1, hf => by
    obtain ⟨a, b⟩ := ps_01 h k (fun j hj => hf j (by omega))
    obtain ⟨c, d⟩ := hf k (by omega)
    have e := h.nn (k + 1)
    have e1 := Rat.mul_nonneg c e
    have e2 := Rat.mul_nonneg (show 0 ≤ 1 - f k by grind) e
    show 0 ≤ ps _ k + f k * x (k + 1) ∧ ps _ k + f k * x (k + 1) ≤ ps _ k + x (k + 1)
    constructor <;> grind
theorem ps_le1 {x f : Nat → Rat} (h : Lst x) (k : Nat) (hf : ∀ j, j < k → 0 ≤ f j ∧ f j ≤ 1) : 0 ≤ ps (fun j => f j * x (j + 1)) k ∧ ps (fun j => f j * x (j + 1)) k ≤ 1 := by
  obtain ⟨a, b⟩ := ps_01 h k hf
  exact ⟨a, Rat.le_trans b (h.one k)⟩
theorem cna_01 {x : Nat → Rat} {c : Nat} (h : Lst x) : ∀ n t, 0 ≤ cna x c n t ∧ cna x c n t ≤ 1
  | 0, t => by
    show 0 ≤ (if t = 0 then (1 : Rat) else 0) ∧ (if t = 0 then (1 : Rat) else 0) ≤ 1
    split <;> constructor <;> decide
  | n + 1, t => ps_le1 (f := fun j => cna x c n (t - (j + 1))) h _ (fun j _ => cna_01 h n _)
theorem oca_01 {x : Nat → Rat} {c : Nat} (h : Lst x) (hc : ∀ j, c < j → x j = 0) : ∀ n t, 0 ≤ oca x c n t ∧ oca x c n t ≤ 1
  | 0, t => cna_01 h 0 t
  | n + 1, t => by
    rw [oca_step hc]
    cases t with
    | zero =>
      show 0 ≤ (1 : Rat) + 0 ∧ (1 : Rat) + 0 ≤ 1
      rw [show (1 : Rat) + 0 = 1 by grind]
      constructor <;> decide
    | succ t =>
      have := ps_le1 (f := fun j => oca x c n (t + 1 - (j + 1))) h (t + 1) (fun j _ => oca_01 h hc n _)
      show 0 ≤ (0 : Rat) + _ ∧ (0 : Rat) + _ ≤ 1
      constructor <;> grind
/-- The parts of such a sum. -/
theorem part_Iv {x f : Nat → Rat} {D t : Nat} (hx : ∀ j, Iv (x j) D) (hf : ∀ s, s < t → Iv (f s) (D ^ s)) : ∀ k, k ≤ t → Iv (ps (fun j => f (t - (j + 1)) * x (j + 1)) k) (D ^ t)
  | 0, _ => Iv.zero _
  | k + 1, h => by
    refine (part_Iv hx hf k (by omega)).add ?_
    have e := (hf (t - (k + 1)) (by omega)).mul (hx (k + 1))
    rw [← Nat.pow_succ] at e
    refine (e.more (D ^ k)).cast ?_
    rw [← Nat.pow_add]
    congr 1
    omega
theorem cna_Iv {x : Nat → Rat} {c D : Nat} (hx : ∀ j, Iv (x j) D) : ∀ n t, Iv (cna x c n t) (D ^ t)
  | 0, t => by
    show Iv (if t = 0 then (1 : Rat) else 0) _
    split
    · exact Iv.one _
    · exact Iv.zero _
  | n + 1, t => part_Iv (f := cna x c n) hx (fun s _ => cna_Iv hx n s) _ (Nat.min_le_left _ _)
theorem oca_Iv {x : Nat → Rat} {c D : Nat} (hx : ∀ j, Iv (x j) D) : ∀ n t, Iv (oca x c n t) (D ^ t)
  | 0, t => cna_Iv hx 0 t
  | n + 1, t => (oca_Iv hx n t).add (cna_Iv hx (n + 1) t)
/-- One number over which all are whole. -/
def dpr (x : Nat → Rat) : Nat → Nat
  | 0 => 1
  | k + 1 => dpr x k * (x k).den
theorem dpr_ne (x : Nat → Rat) : ∀ k, dpr x k ≠ 0
  | 0 => Nat.one_ne_zero
  | k + 1 => Nat.mul_ne_zero (dpr_ne x k) (x k).den_nz
theorem dpr_Iv {x : Nat → Rat} (hd : ∀ j, Iv (x j) (x j).den) : ∀ k j, j < k → Iv (x j) (dpr x k)
  | 0, j, h => absurd h (Nat.not_lt_zero _)
  | k + 1, j, h => by
    show Iv (x j) (dpr x k * (x k).den)
    by_cases e : j = k
    · rw [e]
      exact ((hd k).more (dpr x k)).cast (Nat.mul_comm _ _)
    · exact (dpr_Iv hd k j (by omega)).more _
end Go.Proofs.YtcelbgleajpenaaGreatDoor.Rnw
