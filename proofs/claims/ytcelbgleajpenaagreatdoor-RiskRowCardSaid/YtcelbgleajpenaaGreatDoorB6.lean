/- When to stop: Snell's envelope, the secretary, Kelly. -/
import Derived.Test.YtcelbgleajpenaaGreatDoorB5
import Derived.Test.YtcelbgleajpenaaGreatDoorA15
import Derived.Test.YtcelbgleajpenaaGreatDoorA12
import Derived.Test.YtcelbgleajpenaaGreatDoorB4
import Derived.Test.YtcelbgleajpenaaGreatDoorRows
import Derived.WalkKit
import Derived.WalkSpells
import Derived.WalkLawsBesides
import Derived.Test.YtcelbgleajpenaaGreatDoorA1
import Derived.Test.YtcelbgleajpenaaGreatDoorA7
import Derived.Test.YtcelbgleajpenaaGreatDoorA14
namespace Go.Proofs.YtcelbgleajpenaaGreatDoor.Stp
open Bth Lin

theorem ps_le' {f g : Nat → Rat} : ∀ (k : Nat), (∀ j, j < k → f j ≤ g j) → ps f k ≤ ps g k
  | 0, _ => Rat.le_refl
  | k + 1, h => by
    have h1 := ps_le' k (fun j hj => h j (by omega))
    have h2 := h k (by omega)
    show ps f k + f k ≤ ps g k + g k
    grind
theorem mul_le {a b c : Rat} (hc : 0 ≤ c) (h : a ≤ b) : c * a ≤ c * b := Rat.mul_le_mul_of_nonneg_left h hc
theorem mul_le' {a b c : Rat} (hc : 0 ≤ c) (h : a ≤ b) : a * c ≤ b * c := Rat.mul_le_mul_of_nonneg_right h hc
/-- A chain: how one goes on, what may be taken, what a step costs. -/
structure Ch where
  n : Nat
  p : Nat → Nat → Rat
  g : Nat → Rat
  c : Rat
/-- Going on by v. -/
def on (m : Ch) (v : Nat → Rat) (i : Nat) : Rat := ps (fun k => m.p i k * v k) m.n - m.c
/-- The greater one. -/
def mx (a b : Rat) : Rat := if a < b then b else a
theorem mx_l (a b : Rat) : a ≤ mx a b := by
  unfold mx; split
  · grind
  · exact Rat.le_refl
theorem mx_r (a b : Rat) : b ≤ mx a b := by
  unfold mx; split
  · exact Rat.le_refl
  · grind
theorem mx_le {a b x : Rat} (h1 : a ≤ x) (h2 : b ≤ x) : mx a b ≤ x := by
  unfold mx; split
  · exact h2
  · exact h1
/-- Snell's envelope, with t times to go. -/
def env (m : Ch) : Nat → Nat → Rat
  | 0, i => m.g i
  | t + 1, i => mx (m.g i) (on m (env m t) i)
/-- What a set of states brings. -/
def fol (m : Ch) (s : Nat → Bool) : Nat → Nat → Rat
  | 0, i => m.g i
  | t + 1, i => if s i = true then m.g i else on m (fol m s t) i
theorem on_mono {m : Ch} {v w : Nat → Rat} {i : Nat} (hp : ∀ k, k < m.n → 0 ≤ m.p i k) (h : ∀ k, k < m.n → v k ≤ w k) : on m v i ≤ on m w i := by
  have h1 := ps_le' (f := fun k => m.p i k * v k) (g := fun k => m.p i k * w k) m.n (fun k hk => mul_le (hp k hk) (h k hk))
  unfold on; grind
theorem env_take (m : Ch) (t i : Nat) : m.g i ≤ env m t i := by
  cases t with
  | zero => exact Rat.le_refl
  | succ t => exact mx_l _ _
theorem env_on (m : Ch) (t i : Nat) : on m (env m t) i ≤ env m (t + 1) i := mx_r _ _
/-- Snell: nothing that is nowhere below what may be taken nor below going on is less. -/
theorem snell {m : Ch} (hp : ∀ i k, i < m.n → k < m.n → 0 ≤ m.p i k) {u : Nat → Nat → Rat} : ∀ (t : Nat), (∀ s i, s ≤ t → i < m.n → m.g i ≤ u s i) → (∀ s i, s < t → i < m.n → on m (u s) i ≤ u (s + 1) i) → ∀ i, i < m.n → env m t i ≤ u t i
  | 0, h1, _, i, hi => h1 0 i (by omega) hi
  | t + 1, h1, h2, i, hi => by
    have ih := snell hp t (fun s i hs hi => h1 s i (by omega) hi) (fun s i hs hi => h2 s i (by omega) hi)
    exact mx_le (h1 (t + 1) i (by omega) hi) (Rat.le_trans (on_mono (fun k hk => hp i k hi hk) ih) (h2 t i (by omega) hi))
theorem fol_le {m : Ch} (hp : ∀ i k, i < m.n → k < m.n → 0 ≤ m.p i k) (s : Nat → Bool) : ∀ (t i : Nat), i < m.n → fol m s t i ≤ env m t i
  | 0, _, _ => Rat.le_refl
  | t + 1, i, hi => by
    show (if s i = true then m.g i else on m (fol m s t) i) ≤ mx (m.g i) (on m (env m t) i)
    split
    · exact mx_l _ _
    · exact Rat.le_trans (on_mono (fun k hk => hp i k hi hk) (fun k hk => fol_le hp s t k hk)) (mx_r _ _)
/-- With one time to go: the states in which one takes bring just the envelope. -/
theorem fol_one {m : Ch} {s : Nat → Bool} {i : Nat} (hs : s i = true ↔ ¬ m.g i < on m m.g i) : fol m s 1 i = env m 1 i := by
  show (if s i = true then m.g i else on m (fol m s 0) i) = mx (m.g i) (on m (env m 0) i)
  have e1 : on m (fol m s 0) i = on m m.g i := rfl
  have e2 : on m (env m 0) i = on m m.g i := rfl
  rw [e1, e2]
  unfold mx
  by_cases h : m.g i < on m m.g i
  · rw [if_pos h, if_neg (fun x => hs.1 x h)]
  · rw [if_neg h, if_pos (hs.2 h)]

/-- A power. -/
def pw (x : Rat) : Nat → Rat
  | 0 => 1
  | n + 1 => pw x n * x
theorem pw_nn {x : Rat} (h : 0 ≤ x) : ∀ n, 0 ≤ pw x n
  | 0 => (by decide : (0 : Rat) ≤ 1)
  | n + 1 => Rat.mul_nonneg (pw_nn h n) h
theorem pw_pos {x : Rat} (h : 0 < x) : ∀ n, 0 < pw x n
  | 0 => (by decide : (0 : Rat) < 1)
  | n + 1 => Rat.mul_pos (pw_pos h n) h
theorem pw_mul (a b : Rat) : ∀ n, pw (a * b) n = pw a n * pw b n
  | 0 => (Rat.mul_one 1).symm
  | n + 1 => by
    show pw (a * b) n * (a * b) = pw a n * a * (pw b n * b)
    rw [pw_mul a b n]; grind
/-- The inequality of two numbers behind that of the means. -/
theorem two_means {a b : Rat} (ha : 0 ≤ a) (hb : 0 ≤ b) : ∀ n : Nat, pw a n * (((n : Rat) + 1) * b - (n : Rat) * a) ≤ pw b (n + 1)
  | 0 => by
    show 1 * ((((0 : Nat) : Rat) + 1) * b - ((0 : Nat) : Rat) * a) ≤ 1 * b
    have : ((0 : Nat) : Rat) = 0 := rfl
    rw [this]; grind
  | n + 1 => by
    have ih := two_means ha hb n
    have h1 := mul_le' hb ih
    have e : (((n + 1 : Nat)) : Rat) = (n : Rat) + 1 := by exact_mod_cast rfl
    show pw a n * a * ((((n + 1 : Nat) : Rat) + 1) * b - ((n + 1 : Nat) : Rat) * a) ≤ pw b (n + 1) * b
    rw [e]
    have h2 : 0 ≤ pw a n * (((n : Rat) + 1) * ((b - a) * (b - a))) := by
      refine Rat.mul_nonneg (pw_nn ha n) (Rat.mul_nonneg ?_ ?_)
      · have : (0 : Rat) ≤ (n : Rat) := by exact_mod_cast Nat.zero_le n
        grind
      · by_cases c : a ≤ b
        · exact Rat.mul_nonneg (by grind) (by grind)
        · have := Rat.mul_nonneg (a := a - b) (b := a - b) (by grind) (by grind)
          grind
    grind
/-- One number more. -/
theorem mean_step {P S x : Rat} {N : Nat} (hS : 0 ≤ S) (hx : 0 ≤ x) (h : P * pw (N : Rat) N ≤ pw S N) : P * x * pw ((N + 1 : Nat) : Rat) (N + 1) ≤ pw (S + x) (N + 1) := by
  by_cases hN : N = 0
  · subst hN
    have h : P * 1 ≤ 1 := h
    show P * x * (1 * (((0 + 1 : Nat)) : Rat)) ≤ 1 * (S + x)
    have e : (((0 + 1 : Nat)) : Rat) = 1 := rfl
    rw [e]
    have := mul_le' hx h
    grind
  · have hn : (0 : Rat) < (N : Rat) := by exact_mod_cast Nat.pos_of_ne_zero hN
    have e1 : (((N + 1 : Nat)) : Rat) = (N : Rat) + 1 := by exact_mod_cast rfl
    obtain ⟨a, ha⟩ : ∃ a, S / (N : Rat) = a := ⟨_, rfl⟩
    have hSa : S = a * (N : Rat) := by rw [← ha, Rat.div_mul_cancel (by grind)]
    have ha0 : 0 ≤ a := by rw [← ha, Rat.div_def]; exact Rat.mul_nonneg hS (Rat.le_of_lt (Rat.inv_pos.2 hn))
    obtain ⟨b, hb⟩ : ∃ b, (S + x) / ((N : Rat) + 1) = b := ⟨_, rfl⟩
    have hn1 : (0 : Rat) < (N : Rat) + 1 := by grind
    have hSb : S + x = b * ((N : Rat) + 1) := by rw [← hb, Rat.div_mul_cancel (by grind)]
    have hb0 : 0 ≤ b := by rw [← hb, Rat.div_def]; exact Rat.mul_nonneg (by grind) (Rat.le_of_lt (Rat.inv_pos.2 hn1))
    have hPa : P ≤ pw a N := by
      rw [hSa, pw_mul] at h
      have hz := pw_pos hn N
      exact Rat.le_of_mul_le_mul_right h hz
    have h2 := two_means ha0 hb0 N
    have hx2 : ((N : Rat) + 1) * b - (N : Rat) * a = x := by grind
    rw [hx2] at h2
    have h3 := mul_le' hx hPa
    have h4 : P * x ≤ pw b (N + 1) := Rat.le_trans h3 h2
    rw [e1, hSb, pw_mul]
    exact mul_le' (pw_nn (Rat.le_of_lt hn1) _) h4
/-- k numbers more, all of them x. -/
theorem mean_more {P S x : Rat} {N : Nat} (hS : 0 ≤ S) (hx : 0 ≤ x) (h : P * pw (N : Rat) N ≤ pw S N) : ∀ k : Nat, P * pw x k * pw ((N + k : Nat) : Rat) (N + k) ≤ pw (S + (k : Rat) * x) (N + k)
  | 0 => by
    have e : S + ((0 : Nat) : Rat) * x = S := by
      have : ((0 : Nat) : Rat) = 0 := rfl
      rw [this]; grind
    rw [e]
    show P * 1 * pw (N : Rat) N ≤ pw S N
    rw [Rat.mul_one]; exact h
  | k + 1 => by
    have ih := mean_more hS hx h k
    have hk : (0 : Rat) ≤ (k : Rat) := by exact_mod_cast Nat.zero_le k
    have h1 := mean_step (P := P * pw x k) (S := S + (k : Rat) * x) (x := x) (N := N + k) (by have := Rat.mul_nonneg hk hx; grind) hx ih
    have e1 : (((k + 1 : Nat)) : Rat) = (k : Rat) + 1 := by exact_mod_cast rfl
    have e2 : S + ((k + 1 : Nat) : Rat) * x = S + (k : Rat) * x + x := by rw [e1]; grind
    have e3 : P * pw x (k + 1) = P * pw x k * x := by
      show P * (pw x k * x) = _
      grind
    rw [e2, e3]; exact h1
/-- The product of powers; the sum of the exponents. -/
def wpr (x : Nat → Rat) (c : Nat → Nat) : Nat → Rat
  | 0 => 1
  | i + 1 => wpr x c i * pw (x i) (c i)
def csum (c : Nat → Nat) : Nat → Nat
  | 0 => 0
  | i + 1 => csum c i + c i
theorem wpr_nn {x : Nat → Rat} {c : Nat → Nat} : ∀ {n : Nat}, (∀ i, i < n → 0 ≤ x i) → 0 ≤ wpr x c n
  | 0, _ => (by decide : (0 : Rat) ≤ 1)
  | n + 1, h => Rat.mul_nonneg (wpr_nn (fun i hi => h i (by omega))) (pw_nn (h n (by omega)) _)
theorem wpr_mul {x y z : Nat → Rat} {c : Nat → Nat} : ∀ {n : Nat}, (∀ i, i < n → z i = x i * y i) → wpr z c n = wpr x c n * wpr y c n
  | 0, _ => (Rat.mul_one 1).symm
  | n + 1, h => by
    show wpr z c n * pw (z n) (c n) = wpr x c n * pw (x n) (c n) * (wpr y c n * pw (y n) (c n))
    rw [wpr_mul (fun i hi => h i (by omega)), h n (by omega), pw_mul]; grind
theorem csum_ps (c : Nat → Nat) : ∀ n, ps (fun i => (c i : Rat)) n = (csum c n : Rat)
  | 0 => rfl
  | n + 1 => by
    show ps (fun i => (c i : Rat)) n + (c n : Rat) = ((csum c n + c n : Nat) : Rat)
    rw [csum_ps c n]; exact_mod_cast rfl
theorem csum_pos {c : Nat → Nat} {n : Nat} (hn : 0 < n) (h : ∀ i, i < n → 1 ≤ c i) : 1 ≤ csum c n := by
  cases n with
  | zero => omega
  | succ n =>
    show 1 ≤ csum c n + c n
    have := h n (by omega)
    omega
/-- The means, with weights. -/
theorem means {x : Nat → Rat} {c : Nat → Nat} : ∀ {n : Nat}, (∀ i, i < n → 0 ≤ x i) → wpr x c n * pw (csum c n : Rat) (csum c n) ≤ pw (ps (fun i => (c i : Rat) * x i) n) (csum c n)
  | 0, _ => by
    show (1 : Rat) * 1 ≤ 1
    rw [Rat.mul_one]; exact Rat.le_refl
  | n + 1, h => by
    have hS : 0 ≤ ps (fun i => (c i : Rat) * x i) n := ps_nn (N := n) (fun i hi => Rat.mul_nonneg (by exact_mod_cast Nat.zero_le (c i)) (h i (by omega))) n (Nat.le_refl _)
    exact mean_more hS (h n (by omega)) (means (fun i hi => h i (by omega))) (c n)
/-- Kelly: over races won as often as chances tell, no bets grow more than chances. -/
theorem kelly {c b : Nat → Nat} {n : Nat} (hc : ∀ i, i < n → 1 ≤ c i) (hb : ∀ i, i < n → 1 ≤ b i) : wpr (fun i => (b i : Rat) / (csum b n : Rat)) c n ≤ wpr (fun i => (c i : Rat) / (csum c n : Rat)) c n := by
  by_cases hn : n = 0
  · subst hn; exact Rat.le_refl
  have hC : (0 : Rat) < (csum c n : Rat) := by exact_mod_cast csum_pos (Nat.pos_of_ne_zero hn) hc
  have hB : (0 : Rat) < (csum b n : Rat) := by exact_mod_cast csum_pos (Nat.pos_of_ne_zero hn) hb
  have hsC := csum_ps b n
  obtain ⟨C, eC⟩ : ∃ C, (csum c n : Rat) = C := ⟨_, rfl⟩
  obtain ⟨B, eB⟩ : ∃ B, (csum b n : Rat) = B := ⟨_, rfl⟩
  rw [eB] at hsC hB
  rw [eC] at hC
  have hc' : ∀ i, i < n → (0 : Rat) < (c i : Rat) := fun i hi => by exact_mod_cast hc i hi
  have hb' : ∀ i, i < n → (0 : Rat) < (b i : Rat) := fun i hi => by exact_mod_cast hb i hi
  have hi0 : ∀ {a : Rat}, 0 < a → 0 ≤ a⁻¹ := fun h => Rat.le_of_lt (Rat.inv_pos.2 h)
  have ci : ∀ {a : Rat}, 0 < a → a * a⁻¹ = 1 := fun h => Rat.mul_inv_cancel _ (by grind)
  have hx0 : ∀ i, i < n → 0 ≤ C * B⁻¹ * (b i : Rat) * (c i : Rat)⁻¹ := fun i hi => Rat.mul_nonneg (Rat.mul_nonneg (Rat.mul_nonneg (Rat.le_of_lt hC) (hi0 hB)) (Rat.le_of_lt (hb' i hi))) (hi0 (hc' i hi))
  have hm := means (x := fun i => C * B⁻¹ * (b i : Rat) * (c i : Rat)⁻¹) (c := c) hx0
  have hs : ps (fun i => (c i : Rat) * (C * B⁻¹ * (b i : Rat) * (c i : Rat)⁻¹)) n = C := by
    have e : ps (fun i => (c i : Rat) * (C * B⁻¹ * (b i : Rat) * (c i : Rat)⁻¹)) n = ps (fun i => C * B⁻¹ * (b i : Rat)) n := ps_congr _ (fun i hi => by
      have := ci (hc' i hi)
      grind)
    rw [e, ps_mul, hsC]
    have := ci hB
    grind
  rw [hs, eC] at hm
  have hle : wpr (fun i => C * B⁻¹ * (b i : Rat) * (c i : Rat)⁻¹) c n ≤ 1 := by
    have hz := pw_pos hC (csum c n)
    exact Rat.le_of_mul_le_mul_right (by rw [Rat.one_mul]; exact hm) hz
  have hp0 : 0 ≤ wpr (fun i => (c i : Rat) / C) c n := wpr_nn (fun i hi => by rw [Rat.div_def]; exact Rat.mul_nonneg (Rat.le_of_lt (hc' i hi)) (hi0 hC))
  rw [eC, eB, wpr_mul (x := fun i => C * B⁻¹ * (b i : Rat) * (c i : Rat)⁻¹) (y := fun i => (c i : Rat) / C) (z := fun i => (b i : Rat) / B) (fun i hi => by
    rw [Rat.div_def, Rat.div_def]
    have h1 := ci (hc' i hi)
    have h2 := ci hC
    grind)]
  have := mul_le' hp0 hle
  rw [Rat.one_mul] at this
  exact this
/-- The chance of the best one, where r are let go. -/
def sec (n r : Nat) : Rat := if r = 0 then 1 / (n : Rat) else (r : Rat) / (n : Rat) * ps (fun j => 1 / ((r + j : Nat) : Rat)) (n - r)
def secAll : Nat → Bool
  | 0 => true
  | k + 1 => secAll k && decide (7 / 20 < sec (k + 1) ((k + 1) * 7 / 19))
theorem secAll_of : ∀ {m n : Nat}, secAll m = true → n < m → (7 / 20 : Rat) < sec (n + 1) ((n + 1) * 7 / 19)
  | 0, _, _, h => absurd h (Nat.not_lt_zero _)
  | m + 1, n, h, hn => by
    have h : (secAll m && decide ((7 / 20 : Rat) < sec (m + 1) ((m + 1) * 7 / 19))) = true := h
    rw [Bool.and_eq_true, decide_eq_true_eq] at h
    by_cases e : n = m
    · rw [e]; exact h.2
    · exact secAll_of h.1 (by omega)
theorem secretary {n : Nat} (h1 : 1 ≤ n) (h2 : n ≤ 60) : ∃ r, r < n ∧ (7 / 20 : Rat) < sec n r := by
  obtain ⟨k, rfl⟩ : ∃ k, n = k + 1 := ⟨n - 1, by omega⟩
  exact ⟨(k + 1) * 7 / 19, by omega, secAll_of (m := 60) (by decide +kernel) (by omega)⟩
end Go.Proofs.YtcelbgleajpenaaGreatDoor.Stp
/- Sizes of fractions: 1, differences, quotients. -/
namespace Go.Proofs.YtcelbgleajpenaaGreatDoor
open Go.RowKit Go.Sort Go.Shelf

theorem one_RS' : RS (1 : Rat) 1 := by
  refine ⟨?_, ?_⟩ <;> (show (1 : Int) < Wd.pw 1; decide)
theorem onei_RS : RS ((1 : Int) : Rat) 1 := by
  refine ⟨?_, ?_⟩ <;> (show (1 : Int) < Wd.pw 1; decide)
theorem sg_one (u : Rat) : Wd.sg (u.num * ((1 : Int) : Rat).den) (((1 : Int) : Rat).num * u.den) = Wd.sg u.num u.den := by
  have h1 : ((1 : Int) : Rat).den = 1 := rfl
  have h2 : ((1 : Int) : Rat).num = 1 := rfl
  rw [h1, h2]; simp
theorem sg_ge {a b : Int} (h : b ≤ a) : 0 ≤ Wd.sg a b ∧ Wd.sg a b ≤ 1 := by
  unfold Wd.sg
  rw [if_neg (by omega)]
  by_cases e : a = b
  · rw [if_pos e]; exact ⟨by decide, by decide⟩
  · rw [if_neg e]; exact ⟨by decide, by decide⟩
theorem RS.sub' {a b : Rat} {i j : Nat} (ha : RS a i) (hb : RS b j) : RS (a - b) (i + j + 1) := by
  rw [Rat.sub_eq_add_neg]; exact ha.add hb.neg
theorem RS.div' {a b : Rat} {i j : Nat} (ha : RS a i) (hb : RS b j) (hz : b.num ≠ 0) : RS (a / b) (i + j) := by
  rw [Rat.div_def]; exact ha.mul (hb.inv hz)

end Go.Proofs.YtcelbgleajpenaaGreatDoor
/- walk.divided; orders of two calls and one box. -/
namespace Go.Proofs.YtcelbgleajpenaaGreatDoor
open Go.RowKit Go.Sort Go.Shelf

theorem wpHold_listed {P : Program} {md : Region.Mode} {ops : Array Oper} {Q : Exit → Act → World → Prop} {C : World → Prop} {m n : Nat} {L L' : Array Bool} {a : Act} {w : World} (hn : m = n) (h : L = L') (H : wpHold P md ops Q C n L' a w) : wpHold P md ops Q C m L a w := by subst hn; subst h; exact H
theorem wpHold_name {P : Program} {md : Region.Mode} {ops : Array Oper} {Q : Exit → Act → World → Prop} {C : World → Prop} {n : Nat} {L : Array Bool} {a : Act} {w : World} (H : ∀ a0, a0 = a → wpHold P md ops Q C n L a0 w) : wpHold P md ops Q C n L a w := H a rfl

/-- Two calls, one behind the other, and one that makes memory, at any time. -/
theorem two_one_any {P : Program} {ops : Array Oper} {Q : Exit → Act → World → Prop} {C : World → Prop} {md : Region.Mode} (mk : Nat → Bool → Array Bool) (i1 i2 ia m : Nat) (I : Nat → Bool → Act → World → Prop)
    (hr : ∀ c l, c ≤ 2 → (Region.ready md ops (mk c l)).all (fun i => (i == i1 && c == 0) || (i == i2 && c == 1) || (i == ia && !l) || (c == 2 && l)) = true)
    (hne : ∀ c l, c ≤ 2 → (c == 2 && l) = false → (Region.ready md ops (mk c l)).isEmpty = false)
    (h1 : ∀ l, (mk 0 l).setIfInBounds i1 true = mk 1 l) (h2 : ∀ l, (mk 1 l).setIfInBounds i2 true = mk 2 l) (ha : ∀ c, (mk c false).setIfInBounds ia true = mk c true)
    (s1 : ∀ l a w, I 0 l a w → wpOp P ops Q i1 (fun a' w' => C w' ∧ I 1 l a' w') a w)
    (s2 : ∀ l a w, I 1 l a w → wpOp P ops Q i2 (fun a' w' => C w' ∧ I 2 l a' w') a w)
    (sa : ∀ c a w, I c false a w → wpOp P ops Q ia (fun a' w' => C w' ∧ I c true a' w') a w)
    (fin : ∀ a w, I 2 true a w → wpHold P md ops Q C m (mk 2 true) a w) :
    ∀ n c l, c ≤ 2 → (2 - c) + (1 - l.toNat) = n → ∀ a w, I c l a w → wpHold P md ops Q C (n + m) (mk c l) a w := by
  intro n
  induction n with
  | zero =>
    intro c l hc hn a w h
    obtain rfl : c = 2 := by omega
    cases l <;> simp at hn
    rw [Nat.zero_add]
    exact fin a w h
  | succ n ih =>
    intro c l hc hn a w h
    have hall := hr c l hc
    have hend : (c == 2 && l) = false := by
      cases l <;> simp at hn ⊢
      omega
    have hnn := hne c l hc hend
    rw [Nat.succ_add]
    refine ⟨fun e => (by rw [e] at hnn; cases hnn), fun i hi => ?_⟩
    have hk := List.all_eq_true.1 hall i hi
    rw [hend] at hk
    simp only [Bool.or_eq_true, Bool.and_eq_true, beq_iff_eq, Bool.not_eq_true', Bool.or_false] at hk
    rcases hk with (⟨rfl, rfl⟩ | ⟨rfl, rfl⟩) | ⟨rfl, rfl⟩
    · exact wpOp_mono (fun a' w' h' => ⟨h'.1, by rw [h1]; exact ih 1 l (by omega) (by omega) a' w' h'.2⟩) (s1 l a w h)
    · exact wpOp_mono (fun a' w' h' => ⟨h'.1, by rw [h2]; exact ih 2 l (by omega) (by omega) a' w' h'.2⟩) (s2 l a w h)
    · exact wpOp_mono (fun a' w' h' => ⟨h'.1, by rw [ha]; exact ih c true hc (by simp at hn ⊢; omega) a' w' h'.2⟩) (sa c a w h)

end Go.Proofs.YtcelbgleajpenaaGreatDoor
/- A region that draws its order: calls in a chain, a box at any time, the end when the last call is done. -/
namespace Go.Proofs.YtcelbgleajpenaaGreatDoor
open Go.RowKit Go.Sort Go.Shelf

theorem chain_fin {P : Program} {ops : Array Oper} {Q : Exit → Act → World → Prop} {C : World → Prop} {md : Region.Mode} (N : Nat) (mk : Nat → Bool → Array Bool) (ic : Nat → Nat) (ia m : Nat) (I : Nat → Bool → Act → World → Prop)
    (hr : ∀ c l, c < N → (Region.ready md ops (mk c l)).all (fun i => (i == ic c) || (i == ia && !l)) = true)
    (hne : ∀ c l, c < N → (Region.ready md ops (mk c l)).isEmpty = false)
    (h1 : ∀ c l, c < N → (mk c l).setIfInBounds (ic c) true = mk (c + 1) l) (ha : ∀ c, c < N → (mk c false).setIfInBounds ia true = mk c true)
    (s1 : ∀ c l a w, c < N → I c l a w → wpOp P ops Q (ic c) (fun a' w' => C w' ∧ I (c + 1) l a' w') a w)
    (sa : ∀ c a w, c < N → I c false a w → wpOp P ops Q ia (fun a' w' => C w' ∧ I c true a' w') a w)
    (fin : ∀ l a w, I N l a w → wpHold P md ops Q C (m + (1 - l.toNat)) (mk N l) a w) :
    ∀ n c l, c ≤ N → (N - c) + (1 - l.toNat) = n → ∀ a w, I c l a w → wpHold P md ops Q C (n + m) (mk c l) a w := by
  intro n
  induction n with
  | zero =>
    intro c l hc hn a w h
    obtain rfl : c = N := by omega
    cases l with
    | false => simp at hn
    | true => rw [Nat.zero_add]; exact fin true a w h
  | succ n ih =>
    intro c l hc hn a w h
    rcases Nat.lt_or_ge c N with hlt | hge
    · rw [show n + 1 + m = (n + m) + 1 by omega]
      have hn0 := hne c l hlt
      refine ⟨fun e' => (by rw [e'] at hn0; cases hn0), fun i hi => ?_⟩
      have hk := List.all_eq_true.1 (hr c l hlt) i hi
      by_cases hi1 : i = ic c
      · subst hi1
        exact wpOp_mono (fun a' w' h' => ⟨h'.1, by rw [h1 c l hlt]; exact ih (c + 1) l hlt (by omega) a' w' h'.2⟩) (s1 c l a w hlt h)
      · have hi2 : i = ia ∧ l = false := by
          simp only [Bool.or_eq_true, Bool.and_eq_true, beq_iff_eq, Bool.not_eq_true'] at hk
          rcases hk with hk | hk
          · exact absurd hk hi1
          · exact hk
        obtain ⟨rfl, rfl⟩ := hi2
        exact wpOp_mono (fun a' w' h' => ⟨h'.1, by rw [ha c hlt]; exact ih c true hc (by simp at hn ⊢; omega) a' w' h'.2⟩) (sa c a w hlt h)
    · obtain rfl : c = N := by omega
      cases l with
      | true => simp at hn
      | false =>
        have : n = 0 := by simp at hn; omega
        subst this
        have := fin false a w h
        rw [show 0 + 1 + m = m + (1 - Bool.toNat false) by simp; omega]
        exact this
end Go.Proofs.YtcelbgleajpenaaGreatDoor
/- package walk's whole numbers: how many rows of steps. -/
namespace Go.Proofs.YtcelbgleajpenaaGreatDoor
open Go.RowKit

/-- How many rows of n steps have k up: step by step. -/
def wv (n : Nat) : Nat → Nat
  | 0 => 1
  | k + 1 => wv n k * (n - k) / (k + 1)

theorem wv_small : ((List.range 61).all fun n => (List.range (n + 1)).all fun k => decide (wv n k * n < 9223372036854775807)) = true := by decide +kernel
theorem wv_lt {n k : Nat} (hn : n ≤ 60) (hk : k ≤ n) : wv n k * n < 9223372036854775807 := by
  have h1 := List.all_eq_true.1 wv_small n (List.mem_range.2 (by omega))
  have h2 := List.all_eq_true.1 h1 k (List.mem_range.2 (by omega))
  simpa using h2

def waysv (N : Nat) (to : Int) : Int := if to < -(N : Int) ∨ (N : Int) < to ∨ ((N : Int) + to) % 2 ≠ 0 then 0 else (wv N (((N : Int) + to) / 2).toNat : Int)
def abovev (N : Nat) (to : Int) : Int := if to < 0 ∨ (N : Int) < to then 0 else waysv N to - waysv N (to + 2)

theorem waysv_bd {N : Nat} (hN : N ≤ 60) (to : Int) : 0 ≤ waysv N to ∧ waysv N to < 9223372036854775807 := by
  unfold waysv
  split
  · exact ⟨by decide, by decide⟩
  · have hw := wv_lt hN (show (((N : Int) + to) / 2).toNat ≤ N by omega)
    have hKN : (((N : Int) + to) / 2).toNat ≤ N := by omega
    generalize (((N : Int) + to) / 2).toNat = K at *
    rcases Nat.eq_zero_or_pos N with h | h
    · have hK0 : K = 0 := by omega
      subst hK0
      exact ⟨by omega, by show ((1 : Nat) : Int) < _; decide⟩
    · have := Nat.le_mul_of_pos_right (wv N K) h
      omega

end Go.Proofs.YtcelbgleajpenaaGreatDoor
/- Loads taken first, where what writes their cells waits for what waits for them. -/
namespace Go.Proofs.YtcelbgleajpenaaGreatDoor
open Go.RowKit Go.Sort Go.Shelf

section
variable {P : Program} {ops : Array Oper} {Q : Exit → Act → World → Prop} {md : Region.Mode} {C : World → Prop} {st : Nat}

/-- All but number i, those that wait for it, and those of the list lie apart from it. -/
def freeB (md : Region.Mode) (ops : Array Oper) (listed : Array Bool) (Bl : List Nat) (i : Nat) : Bool := match ops[i]? with
  | none => false
  | some oi => (List.range ops.size).all fun j => match ops[j]? with
    | none => true
    | some oj => j == i || Bl.contains j || listed.getD j true || (oj.after.any fun e => Region.binds md e && e.on == i) || oi.apart ops oj

theorem wpTill_deep_first {i : Nat} {oi : Oper} {v : Value} {Bl : List Nat} (hi : ops[i]? = some oi) (hsel : ∀ (j : Nat) (o : Oper) cs b, ops[j]? = some o → o.op ≠ .select cs b)
    (hQ : ∀ c a w, Q (.panic c) (a.put oi.dst v) w → Q (.panic c) a w) (hB : ∀ b ∈ Bl, ∃ c, (c = i ∨ c ∈ Bl) ∧ waits md ops b c = true) (hst : st ∈ Bl) (hni : i ∉ Bl) :
    ∀ (fuel : Nat) (listed : Array Bool) (a : Act) (w : World),
      (∀ j oj, ops[j]? = some oj → j ≠ i → j ∉ Bl → listed.getD j true = false → (∀ e ∈ oj.after, Region.binds md e = true → e.on ≠ i) → oi.apart ops oj = true) →
      i ∈ Region.ready md ops listed → (∀ b ∈ Bl, listed.getD b true = false) → YieldsIf P ops C oi v a → C w →
      wpTill P md ops Q C st fuel (listed.setIfInBounds i true) (a.put oi.dst v) w → wpTill P md ops Q C st (fuel + 1) listed a w := by
  intro fuel
  induction fuel with
  | zero =>
    intro listed a w _ hr _ hy hC H
    refine ⟨fun h => (by rw [h] at hr; cases hr), fun j hj => ?_⟩
    rcases Decidable.em (j = i) with rfl | hji
    · exact hy.wpOp hi hC ⟨fun _ => hC, H⟩
    · have := ready_mono hj hji
      rw [H.1] at this
      cases this
  | succ fuel ih =>
    intro listed a w hfree hr hun hy hC H
    refine ⟨fun h => (by rw [h] at hr; cases hr), fun j hj => ?_⟩
    rcases Decidable.em (j = i) with rfl | hji
    · exact hy.wpOp hi hC ⟨fun _ => hC, H⟩
    · have hi0 := (mem_ready.1 hr).1
      have hjB : j ∉ Bl := fun e => by
        obtain ⟨c, hc, hw⟩ := hB j e
        rcases hc with rfl | hc
        · exact not_ready_st hw hi0 hj
        · exact not_ready_st hw (hun c hc) hj
      have hjst : j ≠ st := fun e => hjB (e ▸ hst)
      have hne : i ≠ st := fun e => hni (e ▸ hst)
      have h1 := H.2 j (ready_mono hj hji)
      obtain ⟨hjun, oj, hoj, hall⟩ := mem_ready.1 hj
      have hnot : ∀ e ∈ oj.after, Region.binds md e = true → e.on ≠ i := fun e he hb heq => by
        have h2 := hall e he hb
        rw [heq] at h2
        rcases Nat.lt_or_ge i listed.size with h' | h'
        · simp [h'] at hi0 h2; rw [hi0] at h2; cases h2
        · simp [Array.getElem?_eq_none h'] at h2
      have h2 := wpOp_putIf hoj (hfree j oj hoj hji hjB hjun hnot) (fun cs b => hsel i oi cs b hi) (fun cs b => hsel j oj cs b hoj) hQ hy h1
      have e1 : ∀ b ∈ Bl, (listed.setIfInBounds j true).getD b true = false := fun b hb => by
        have hjb : j ≠ b := fun e => hjB (by rw [e]; exact hb)
        rw [getD_set_ne true hjb]; exact hun b hb
      have e2 : ((listed.setIfInBounds i true).setIfInBounds j true).getD st true = false := by rw [getD_set_ne true hjst, getD_set_ne true hne]; exact hun st hst
      refine wpOp_mono (fun a' w' h3 => ?_) h2
      have hC' := h3.2.1 e2
      refine ⟨fun _ => hC', ih (listed.setIfInBounds j true) a' w' (fun k ok hk hki hkB hun' hno => ?_) (ready_mono hr (Ne.symm hji)) e1 h3.1 hC' ?_⟩
      · refine hfree k ok hk hki hkB ?_ hno
        rcases Decidable.em (j = k) with rfl | hjk
        · exact hjun
        · rw [getD_set_ne true hjk] at hun'; exact hun'
      · rw [Array.setIfInBounds_comm _ _ hji]
        exact h3.2.2

theorem wpTill_deep {i : Nat} {oi : Oper} {v : Value} {fuel : Nat} {listed : Array Bool} {a : Act} {w : World} (Bl : List Nat) (hi : ops[i]? = some oi)
    (hs : Region.noSelect ops = true) (hf : freeB md ops listed Bl i = true) (hr : (Region.ready md ops listed).contains i = true) (hB : (Bl.all fun b => (i :: Bl).any fun c => waits md ops b c) = true) (hst : Bl.contains st = true) (hni : Bl.contains i = false) (hun : (Bl.all fun b => listed.getD b true == false) = true)
    (hQ : ∀ c a w, Q (.panic c) (a.put oi.dst v) w → Q (.panic c) a w) (hy : YieldsIf P ops C oi v a) (hC : C w)
    (h : wpTill P md ops Q C st fuel (listed.setIfInBounds i true) (a.put oi.dst v) w) : wpTill P md ops Q C st (fuel + 1) listed a w := by
  refine wpTill_deep_first (Bl := Bl) hi (Region.noSelect_spec hs) hQ (fun b hb => ?_) (by simpa using hst) (by simpa using hni) fuel listed a w (fun j oj hj hji hjB hjl hno => ?_) (by simpa using hr) (fun b hb => ?_) hy hC h
  · have h1 := List.all_eq_true.1 hB b hb
    obtain ⟨c, hc, hw⟩ := List.any_eq_true.1 h1
    exact ⟨c, by simpa using hc, hw⟩
  · unfold freeB at hf
    rw [hi] at hf
    simp only at hf
    have hlt : j < ops.size := (Array.getElem?_eq_some_iff.1 hj).1
    have h1 := List.all_eq_true.1 hf j (List.mem_range.2 hlt)
    rw [hj] at h1
    simp only [Bool.or_eq_true] at h1
    rcases h1 with (((h1 | h1) | h1) | h1) | h1
    · exact absurd (by simpa using h1) hji
    · exact absurd (by simpa using h1) hjB
    · rw [hjl] at h1; cases h1
    · rw [Array.any_eq_true] at h1
      obtain ⟨k, hk, he⟩ := h1
      rw [Bool.and_eq_true, beq_iff_eq] at he
      exact absurd he.2 (hno _ (Array.getElem_mem hk) he.1)
    · exact h1
  · have := List.all_eq_true.1 hun b hb
    simpa using this
end
end Go.Proofs.YtcelbgleajpenaaGreatDoor
/- A half. -/
namespace Go.Proofs.YtcelbgleajpenaaGreatDoor
open Go.RowKit Go.Sort Go.Shelf Go.Dd

def hf : Rat := Rat.divInt 2 4
theorem hf_num : hf.num = 1 := by rfl
theorem hf_den : hf.den = 2 := by rfl
theorem hf2 : hf + hf = Rat.divInt 16 16 := Rat.divInt_add_divInt 2 2 (by decide) (by decide)
theorem hf2_num : (hf + hf).num = 1 := by rw [hf2]; rfl
theorem hf2_den : (hf + hf).den = 1 := by rw [hf2]; rfl
theorem dec1 (k : Nat) (h : k < 10) : Lib.decDigits k = [UInt8.ofNat (48 + k)] := by
  unfold Lib.decDigits
  rw [dif_pos h]
theorem hf_text : qtext hf = [49, 47, 50] := by
  simp [qtext, upperText, hf_num, hf_den, dec1]
theorem hf2_text : qtext (hf + hf) = [49] := by
  simp [qtext, upperText, hf2_num, hf2_den, dec1]
theorem hf_cmp : Wd.sg (hf.num * (hf + hf).den) ((hf + hf).num * hf.den) = -1 := by
  rw [hf_num, hf_den, hf2_num, hf2_den]; rfl

end Go.Proofs.YtcelbgleajpenaaGreatDoor
