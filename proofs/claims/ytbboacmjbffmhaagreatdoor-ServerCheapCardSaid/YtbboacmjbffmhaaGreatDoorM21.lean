/- One server, several classes: what is left, the squares, and Kleinrock's, Cobham's and the dearest first. -/
import Derived.Test.YtbboacmjbffmhaaGreatDoorM20
namespace Go.Proofs.YtbboacmjbffmhaaGreatDoor.Srv
open Bth

/-- What the first k classes leave. -/
def lf (r m : Nat → Rat) : Nat → Rat
  | 0 => 1
  | k + 1 => lf r m k - r k * m k
/-- Half the squares of the first k classes. -/
def hf (r s : Nat → Rat) : Nat → Rat
  | 0 => 0
  | k + 1 => hf r s k + r k * s k / 2

theorem lf_ps (r m : Nat → Rat) (k : Nat) : lf r m k = 1 - ps (fun i => r i * m i) k := by
  induction k with
  | zero => show (1 : Rat) = 1 - 0; grind
  | succ k ih => show lf r m k - r k * m k = 1 - (ps _ k + r k * m k); rw [ih]; grind
theorem hf_ps (r s : Nat → Rat) (k : Nat) : hf r s k = ps (fun i => r i * s i / 2) k := by
  induction k with
  | zero => rfl
  | succ k ih => show hf r s k + _ = ps _ k + _; rw [ih]
theorem lf_falls {r m : Nat → Rat} {n : Nat} (h : ∀ i, i < n → 0 ≤ r i * m i) {j k : Nat} (hjk : j ≤ k) (hk : k ≤ n) : lf r m k ≤ lf r m j := by
  rw [lf_ps, lf_ps]
  have := ps_mono h j k hjk hk
  grind
theorem lf_pos {r m : Nat → Rat} {n : Nat} (h : ∀ i, i < n → 0 ≤ r i * m i) (hp : 0 < lf r m n) {k : Nat} (hk : k ≤ n) : 0 < lf r m k := by
  have := lf_falls h hk (Nat.le_refl n)
  grind
theorem hf_nn {r s : Nat → Rat} {n : Nat} (h : ∀ i, i < n → 0 ≤ r i * s i) {k : Nat} (hk : k ≤ n) : 0 ≤ hf r s k := by
  rw [hf_ps]
  exact ps_nn (fun i hi => div_nn (h i hi) (by decide)) k hk

theorem inv_mul_inv {a b : Rat} (ha : a ≠ 0) (hb : b ≠ 0) : (a * b)⁻¹ = a⁻¹ * b⁻¹ := by
  have x := Rat.mul_inv_cancel a ha
  have y := Rat.mul_inv_cancel b hb
  have hab : a * b ≠ 0 := fun e => by
    rcases Rat.mul_eq_zero.1 e with h | h
    · exact ha h
    · exact hb h
  have z := Rat.mul_inv_cancel (a * b) hab
  have e : (a * b)⁻¹ = (a * b)⁻¹ * (a * a⁻¹) * (b * b⁻¹) := by rw [x, y]; grind
  have e2 : (a * b)⁻¹ * (a * a⁻¹) * (b * b⁻¹) = (a * b * (a * b)⁻¹) * (a⁻¹ * b⁻¹) := by grind
  rw [e, e2, z]
  grind

/-- KLEINROCK: loads times waits. -/
theorem conserves {r m : Nat → Rat} {n : Nat} (h : ∀ i, i < n → 0 ≤ r i * m i) (hp : 0 < lf r m n) (H : Rat) (k : Nat) (hk : k ≤ n) :
    ps (fun i => r i * m i * (H / (lf r m i * lf r m (i + 1)))) k = ps (fun i => r i * m i) k * (H / lf r m k) := by
  induction k with
  | zero => show (0 : Rat) = 0 * _; grind
  | succ k ih =>
    have ha := ne_of_pos (lf_pos h hp (k := k) (by omega))
    have hb := ne_of_pos (lf_pos h hp (k := k + 1) hk)
    show ps _ k + r k * m k * (H / (lf r m k * lf r m (k + 1))) = (ps (fun i => r i * m i) k + r k * m k) * (H / lf r m (k + 1))
    rw [ih (by omega), Rat.div_def, Rat.div_def, Rat.div_def, inv_mul_inv ha hb]
    have e1 := lf_ps r m k
    have e2 : lf r m (k + 1) = lf r m k - r k * m k := rfl
    have x := Rat.mul_inv_cancel _ ha
    have y := Rat.mul_inv_cancel _ hb
    generalize (lf r m k)⁻¹ = X at *
    generalize (lf r m (k + 1))⁻¹ = Y at *
    generalize lf r m k = a at *
    generalize lf r m (k + 1) = b at *
    generalize ps (fun i => r i * m i) k = P at *
    generalize r k * m k = R at *
    have eP : P = 1 - a := by grind
    have eR : R = a - b := by grind
    subst eP eR
    have f1 : a * X * Y = Y := by rw [x]; grind
    have f2 : b * X * Y = X := by rw [show b * X * Y = X * (b * Y) by grind, y]; grind
    grind

theorem ps_rev (f : Nat → Rat) (n : Nat) : ps (fun i => f (n - 1 - i)) n = ps f n := by
  have key : ∀ n (f : Nat → Rat), ps f (n + 1) = f 0 + ps (fun i => f (i + 1)) n := by
    intro n
    induction n with
    | zero => intro f; show (0 : Rat) + f 0 = f 0 + 0; grind
    | succ n ih => intro f; show ps f (n + 1) + f (n + 1) = f 0 + (ps _ n + f (n + 1)); rw [ih f]; grind
  induction n generalizing f with
  | zero => rfl
  | succ n ih =>
    rw [key n (fun i => f (n + 1 - 1 - i))]
    have e : ps (fun i => f (n + 1 - 1 - (i + 1))) n = ps (fun i => f (n - 1 - i)) n := ps_congr n fun j hj => by
      show f _ = f _
      rw [show n + 1 - 1 - (j + 1) = n - 1 - j by omega]
    rw [e, ih f]
    show f n + ps f n = ps f n + f n
    grind
theorem lf_rev (r m : Nat → Rat) (n : Nat) : lf (fun i => r (n - 1 - i)) (fun i => m (n - 1 - i)) n = lf r m n := by
  rw [lf_ps, lf_ps, ps_rev (fun i => r i * m i) n]
theorem hf_rev (r s : Nat → Rat) (n : Nat) : hf (fun i => r (n - 1 - i)) (fun i => s (n - 1 - i)) n = hf r s n := by
  rw [hf_ps, hf_ps, ps_rev (fun i => r i * s i / 2) n]

theorem div_le_div_left {H a b : Rat} (hH : 0 ≤ H) (hb : 0 < b) (hab : b ≤ a) : H / a ≤ H / b := by
  have ha : 0 < a := by grind
  refine le_of_mul (Rat.mul_pos ha hb) ?_
  have x := Rat.mul_inv_cancel _ (ne_of_pos ha)
  have y := Rat.mul_inv_cancel _ (ne_of_pos hb)
  have e1 : H / a * (a * b) = H * b := by rw [Rat.div_def, show H * a⁻¹ * (a * b) = H * b * (a * a⁻¹) by grind, x]; grind
  have e2 : H / b * (a * b) = H * a := by rw [Rat.div_def, show H * b⁻¹ * (a * b) = H * a * (b * b⁻¹) by grind, y]; grind
  rw [e1, e2]
  exact Rat.mul_le_mul_of_nonneg_left hab hH
/-- The first class waits least. -/
theorem first {r m : Nat → Rat} {n : Nat} (h : ∀ i, i < n → 0 ≤ r i * m i) (hp : 0 < lf r m n) {H : Rat} (hH : 0 ≤ H) {i : Nat} (hi : i < n) :
    H / (lf r m 0 * lf r m (0 + 1)) ≤ H / (lf r m i * lf r m (i + 1)) := by
  have a0 := lf_pos h hp (k := i) (by omega)
  have a1 := lf_pos h hp (k := i + 1) (by omega)
  have b0 := lf_pos h hp (k := 0) (by omega)
  have l0 := lf_falls h (j := 0) (k := i) (by omega) (by omega)
  have l1 := lf_falls h (j := 0 + 1) (k := i + 1) (by omega) (by omega)
  refine div_le_div_left hH (Rat.mul_pos a0 a1) ?_
  have s1 := Rat.mul_le_mul_of_nonneg_right l0 (Rat.le_of_lt a1)
  have s2 := Rat.mul_le_mul_of_nonneg_left l1 (Rat.le_of_lt b0)
  grind

/-- Two neighbours. -/
theorem neighbours {H L a b u v : Rat} (hH : 0 ≤ H) (ha : 0 ≤ a) (hb : 0 ≤ b) (hL : 0 < L - a - b) (huv : v ≤ u) :
    u * a * (H / (L * (L - a))) + v * b * (H / ((L - a) * (L - a - b))) ≤ v * b * (H / (L * (L - b))) + u * a * (H / ((L - b) * (L - b - a))) := by
  have p0 : 0 < L := by grind
  have p1 : 0 < L - a := by grind
  have p2 : 0 < L - b := by grind
  have e3 : L - b - a = L - a - b := by grind
  rw [e3]
  have i0 := Rat.inv_pos.2 p0
  have i1 := Rat.inv_pos.2 p1
  have i2 := Rat.inv_pos.2 p2
  have i3 := Rat.inv_pos.2 hL
  rw [Rat.div_def, Rat.div_def, Rat.div_def, Rat.div_def, inv_mul_inv (ne_of_pos p0) (ne_of_pos p1), inv_mul_inv (ne_of_pos p1) (ne_of_pos hL), inv_mul_inv (ne_of_pos p0) (ne_of_pos p2), inv_mul_inv (ne_of_pos p2) (ne_of_pos hL)]
  have x0 := Rat.mul_inv_cancel _ (ne_of_pos p0)
  have x1 := Rat.mul_inv_cancel _ (ne_of_pos p1)
  have x2 := Rat.mul_inv_cancel _ (ne_of_pos p2)
  have x3 := Rat.mul_inv_cancel _ (ne_of_pos hL)
  generalize L⁻¹ = A at *
  generalize (L - a)⁻¹ = B at *
  generalize (L - b)⁻¹ = C at *
  generalize (L - a - b)⁻¹ = D at *
  have t1 : a * (A * B) = B - A := by
    have f1 : L * A * B = B := by rw [x0]; grind
    have f2 : (L - a) * B * A = A := by rw [x1]; grind
    grind
  have t2 : b * (B * D) = D - B := by
    have f1 : (L - a) * B * D = D := by rw [x1]; grind
    have f2 : (L - a - b) * D * B = B := by rw [x3]; grind
    grind
  have t3 : b * (A * C) = C - A := by
    have f1 : L * A * C = C := by rw [x0]; grind
    have f2 : (L - b) * C * A = A := by rw [x2]; grind
    grind
  have t4 : a * (C * D) = D - C := by
    have f1 : (L - b) * C * D = D := by rw [x2]; grind
    have f2 : (L - a - b) * D * C = C := by rw [x3]; grind
    grind
  -- D - C - B + A is not below 0: a (C D - A B)
  have q1 : 0 ≤ B - A := by rw [← t1]; exact Rat.mul_nonneg ha (Rat.mul_nonneg (Rat.le_of_lt i0) (Rat.le_of_lt i1))
  have q3 : 0 ≤ C - A := by rw [← t3]; exact Rat.mul_nonneg hb (Rat.mul_nonneg (Rat.le_of_lt i0) (Rat.le_of_lt i2))
  have q2 : 0 ≤ D - B := by rw [← t2]; exact Rat.mul_nonneg hb (Rat.mul_nonneg (Rat.le_of_lt i1) (Rat.le_of_lt i3))
  have s1 : A * B ≤ C * B := Rat.mul_le_mul_of_nonneg_right (by grind) (Rat.le_of_lt i1)
  have s2 : C * B ≤ C * D := Rat.mul_le_mul_of_nonneg_left (by grind) (Rat.le_of_lt i2)
  have s3 : a * (A * B) ≤ a * (C * D) := Rat.mul_le_mul_of_nonneg_left (by grind) ha
  have X : 0 ≤ D - C - B + A := by grind
  have Y : 0 ≤ H * (D - C - B + A) * (u - v) := Rat.mul_nonneg (Rat.mul_nonneg hH X) (by grind)
  have g1 : u * a * (H * (A * B)) = u * H * (B - A) := by rw [← t1]; grind
  have g2 : v * b * (H * (B * D)) = v * H * (D - B) := by rw [← t2]; grind
  have g3 : v * b * (H * (A * C)) = v * H * (C - A) := by rw [← t3]; grind
  have g4 : u * a * (H * (C * D)) = u * H * (D - C) := by rw [← t4]; grind
  rw [g1, g2, g3, g4]
  grind

theorem ps_pair {f g : Nat → Rat} {n t : Nat} (ht : t + 1 < n) (he : ∀ i, i < n → i ≠ t → i ≠ t + 1 → f i = g i) (hp : f t + f (t + 1) ≤ g t + g (t + 1)) : ps f n ≤ ps g n := by
  have h0 : ∀ k, k ≤ t → ps f k = ps g k := fun k hk => ps_congr k fun j hj => he j (by omega) (by omega) (by omega)
  have h1 : ∀ d, t + 2 + d ≤ n → ps f (t + 2 + d) ≤ ps g (t + 2 + d) := by
    intro d
    induction d with
    | zero =>
      intro _
      show ps f t + f t + f (t + 1) ≤ ps g t + g t + g (t + 1)
      rw [h0 t (Nat.le_refl _)]
      grind
    | succ d ih =>
      intro hd
      have a := ih (by omega)
      show ps f (t + 2 + d) + f (t + 2 + d) ≤ ps g (t + 2 + d) + g (t + 2 + d)
      rw [he (t + 2 + d) (by omega) (by omega) (by omega)]
      grind
  have := h1 (n - t - 2) (by omega)
  rwa [show t + 2 + (n - t - 2) = n by omega] at this
/-- The place that changes with its neighbour. -/
def sw (t i : Nat) : Nat := if i = t then t + 1 else if i = t + 1 then t else i
theorem sw_t (t : Nat) : sw t t = t + 1 := by simp [sw]
theorem sw_s (t : Nat) : sw t (t + 1) = t := by simp [sw]
theorem sw_o {t i : Nat} (h : i ≠ t) (h' : i ≠ t + 1) : sw t i = i := by simp [sw, h, h']
theorem ps_sw (f : Nat → Rat) {t k : Nat} (hk : k ≠ t + 1) : ps (fun i => f (sw t i)) k = ps f k := by
  rcases Nat.lt_or_ge k (t + 1) with h | h
  · exact ps_congr k fun j hj => by show f (sw t j) = f j; rw [sw_o (by omega) (by omega)]
  · have h1 : ∀ d, ps (fun i => f (sw t i)) (t + 2 + d) = ps f (t + 2 + d) := by
      intro d
      induction d with
      | zero =>
        show ps (fun i => f (sw t i)) t + f (sw t t) + f (sw t (t + 1)) = ps f t + f t + f (t + 1)
        rw [sw_t, sw_s, ps_congr t (f := fun i => f (sw t i)) (g := f) (fun j hj => by show f (sw t j) = f j; rw [sw_o (by omega) (by omega)])]
        grind
      | succ d ih =>
        show ps (fun i => f (sw t i)) (t + 2 + d) + f (sw t (t + 2 + d)) = ps f (t + 2 + d) + f (t + 2 + d)
        rw [ih, sw_o (by omega) (by omega)]
    have := h1 (k - t - 2)
    rwa [show t + 2 + (k - t - 2) = k by omega] at this
/-- What the classes' waits cost together. -/
def cost (c r m : Nat → Rat) (H : Rat) (n : Nat) : Rat := ps (fun i => c i * r i * (H / (lf r m i * lf r m (i + 1)))) n
theorem lf_sw (r m : Nat → Rat) {t k : Nat} (hk : k ≠ t + 1) : lf (fun i => r (sw t i)) (fun i => m (sw t i)) k = lf r m k := by
  rw [lf_ps, lf_ps, ps_sw (fun i => r i * m i) hk]
theorem hf_sw (r s : Nat → Rat) {t k : Nat} (hk : k ≠ t + 1) : hf (fun i => r (sw t i)) (fun i => s (sw t i)) k = hf r s k := by
  rw [hf_ps, hf_ps, ps_sw (fun i => r i * s i / 2) hk]
/-- The dearest first: neighbours that change places make it no cheaper. -/
theorem cheap {c r m : Nat → Rat} {H : Rat} {n t : Nat} (h : ∀ i, i < n → 0 ≤ r i) (hm : ∀ i, i < n → 0 < m i) (hp : 0 < lf r m n) (hH : 0 ≤ H) (ht : t + 1 < n) (hd : c (t + 1) / m (t + 1) ≤ c t / m t) :
    cost c r m H n ≤ cost (fun i => c (sw t i)) (fun i => r (sw t i)) (fun i => m (sw t i)) H n := by
  have hr : ∀ i, i < n → 0 ≤ r i * m i := fun i hi => Rat.mul_nonneg (h i hi) (Rat.le_of_lt (hm i hi))
  refine ps_pair ht (fun i hi h1 h2 => ?_) ?_
  · show c i * r i * _ = c (sw t i) * r (sw t i) * (H / (lf _ _ i * lf _ _ (i + 1)))
    rw [sw_o h1 h2, lf_sw r m h2, lf_sw r m (show i + 1 ≠ t + 1 by omega)]
  · show c t * r t * (H / (lf r m t * lf r m (t + 1))) + c (t + 1) * r (t + 1) * (H / (lf r m (t + 1) * lf r m (t + 1 + 1))) ≤
      c (sw t t) * r (sw t t) * (H / (lf _ _ t * lf (fun i => r (sw t i)) (fun i => m (sw t i)) (t + 1))) + c (sw t (t + 1)) * r (sw t (t + 1)) * (H / (lf (fun i => r (sw t i)) (fun i => m (sw t i)) (t + 1) * lf _ _ (t + 1 + 1)))
    have e1 : lf (fun i => r (sw t i)) (fun i => m (sw t i)) (t + 1) = lf r m t - r (t + 1) * m (t + 1) := by
      show lf _ _ t - r (sw t t) * m (sw t t) = _
      rw [lf_sw r m (show t ≠ t + 1 by omega), sw_t]
    have e3 : lf r m t - r (t + 1) * m (t + 1) - r t * m t = lf r m (t + 1 + 1) := by
      show _ = lf r m t - r t * m t - r (t + 1) * m (t + 1)
      grind
    have g := lf_pos hr hp (k := t + 1 + 1) (by omega)
    rw [e1, lf_sw r m (show t ≠ t + 1 by omega), lf_sw r m (show t + 1 + 1 ≠ t + 1 by omega), sw_t, sw_s, ← e3]
    have e2 : lf r m (t + 1) = lf r m t - r t * m t := rfl
    rw [e2]
    have m1 := hm t (by omega)
    have m2 := hm (t + 1) (by omega)
    have c1 : c t * r t = c t / m t * (r t * m t) := by
      rw [Rat.div_def, show c t * (m t)⁻¹ * (r t * m t) = c t * r t * (m t * (m t)⁻¹) by grind, Rat.mul_inv_cancel _ (ne_of_pos m1)]
      grind
    have c2 : c (t + 1) * r (t + 1) = c (t + 1) / m (t + 1) * (r (t + 1) * m (t + 1)) := by
      rw [Rat.div_def, show c (t + 1) * (m (t + 1))⁻¹ * (r (t + 1) * m (t + 1)) = c (t + 1) * r (t + 1) * (m (t + 1) * (m (t + 1))⁻¹) by grind, Rat.mul_inv_cancel _ (ne_of_pos m2)]
      grind
    rw [c1, c2]
    have e4 : lf r m t - r (t + 1) * m (t + 1) - r t * m t = lf r m t - r t * m t - r (t + 1) * m (t + 1) := by grind
    have := neighbours (H := H) (L := lf r m t) (a := r t * m t) (b := r (t + 1) * m (t + 1)) (u := c t / m t) (v := c (t + 1) / m (t + 1)) hH (hr t (by omega)) (hr (t + 1) ht) (by rw [← e4, e3]; exact g) hd
    rw [← e4] at this
    exact this
end Go.Proofs.YtbboacmjbffmhaaGreatDoor.Srv
