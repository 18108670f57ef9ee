/- Long division and the greatest common divisor by upper words: plain mathematics, no program. -/
import Derived.Test.YtcelbgleajpenaaGreatDoorA3
namespace Wd

theorem guess_le {P B P3 B2 p q : Int} (hp : 0 < p) (hP : P < (P3 + 1) * p) (hB : B2 * p ≤ B) (hq0 : 0 ≤ q) (hq : q * B ≤ P) : q * B2 ≤ P3 := by
 have a : q * (B2 * p) ≤ q * B := Int.mul_le_mul_of_nonneg_left hB hq0
 have b : (q * B2) * p < (P3 + 1) * p := by rw [Int.mul_assoc]; omega
 have := Int.lt_of_mul_lt_mul_right b (by omega)
 omega

theorem guess_near {P B P3 B2 p t : Int} (hp : 0 < p) (hP : P3 * p ≤ P) (hB : B < (B2 + 1) * p) (ht0 : 0 ≤ t) (ht : t * B2 ≤ P3) (htW : t * p < B) : t * B < P + B := by
 have a : t * B ≤ t * ((B2 + 1) * p) := Int.mul_le_mul_of_nonneg_left (by omega) ht0
 have b : t * ((B2 + 1) * p) = t * B2 * p + t * p := by rw [Int.add_mul, Int.mul_add, Int.mul_assoc, Int.one_mul]
 have c : t * B2 * p ≤ P3 * p := Int.mul_le_mul_of_nonneg_right ht (by omega)
 omega

structure Gu (P1 P3 top B2 t r : Int) : Prop where
 t0 : 0 ≤ t
 t1 : t < 18446744073709551616
 r0 : 0 ≤ r
 eq : t * top + r = P1
 up : ∀ q, q < 18446744073709551616 → q * B2 ≤ P3 → q ≤ t

theorem Gu.test {P1 p0 top next t r : Int} (g : Gu P1 (P1 * 18446744073709551616 + p0) top (top * 18446744073709551616 + next) t r) :
  t * (top * 18446744073709551616 + next) ≤ P1 * 18446744073709551616 + p0 ↔ t * next ≤ r * 18446744073709551616 + p0 := by
 have e := g.eq
 have e2 : t * (top * 18446744073709551616 + next) = t * top * 18446744073709551616 + t * next := by rw [Int.mul_add, Int.mul_assoc]
 rw [e2]
 generalize t * top = x at *
 generalize t * next = y at *
 omega

theorem Gu.step {P1 p0 top next t r : Int} (g : Gu P1 (P1 * 18446744073709551616 + p0) top (top * 18446744073709551616 + next) t r) (htop : 0 < top) (hp : 0 ≤ p0)
  (h : ¬ t * next ≤ r * 18446744073709551616 + p0) : 1 ≤ t ∧ Gu P1 (P1 * 18446744073709551616 + p0) top (top * 18446744073709551616 + next) (t - 1) (r + top) := by
 have h1 : ¬ t * (top * 18446744073709551616 + next) ≤ P1 * 18446744073709551616 + p0 := fun h' => h (g.test.1 h')
 have t1 : 1 ≤ t := by
  rcases Int.lt_or_le t 1 with h' | h'
  ·have : t = 0 := by have := g.t0; omega
   subst this
   exact absurd (by have := g.r0; omega) h
  ·exact h'
 refine ⟨t1, by omega, by have := g.t1; omega, by have := g.r0; omega, ?_, fun q hq hh => ?_⟩
 ·have := g.eq; rw [Int.sub_mul]; omega
 ·have h2 := g.up q hq hh
  rcases Int.lt_or_le q t with h3 | h3
  ·omega
  ·have : q = t := by omega
   subst this
   exact absurd hh h1

theorem Gu.start_div {u1 u0 p0 top next : Int} (h0 : 0 ≤ u1) (h1 : u1 < top) (hu0 : 0 ≤ u0) (hu1 : u0 < 18446744073709551616) (hn : 0 ≤ next) (hp : p0 < 18446744073709551616) :
  Gu (u1 * 18446744073709551616 + u0) ((u1 * 18446744073709551616 + u0) * 18446744073709551616 + p0) top (top * 18446744073709551616 + next)
   ((u1 * 18446744073709551616 + u0) / top) ((u1 * 18446744073709551616 + u0) % top) := by
 have htop : 0 < top := by omega
 refine ⟨Int.ediv_nonneg (by omega) (by omega), ?_, Int.emod_nonneg _ (by omega), ?_, fun q _ hh => ?_⟩
 ·refine (Int.ediv_lt_iff_lt_mul htop).2 ?_
  omega
 ·have := Int.emod_add_mul_ediv (u1 * 18446744073709551616 + u0) top
  rw [Int.mul_comm]; omega
 ·refine (Int.le_ediv_iff_mul_le htop).2 ?_
  rcases Int.lt_or_le q 0 with h | h
  ·have : q * top ≤ 0 := Int.mul_nonpos_of_nonpos_of_nonneg (by omega) (by omega)
   omega
  ·have e2 : q * (top * 18446744073709551616 + next) = q * top * 18446744073709551616 + q * next := by rw [Int.mul_add, Int.mul_assoc]
   rw [e2] at hh
   have : 0 ≤ q * next := Int.mul_nonneg h hn
   generalize q * top = x at *
   generalize q * next = y at *
   omega

theorem Gu.start_max {u0 P3 top B2 : Int} (h0 : 0 ≤ top) (hu0 : 0 ≤ u0) :
  Gu (top * 18446744073709551616 + u0) P3 top B2 18446744073709551615 (u0 + top) :=
 ⟨by decide, by decide, by omega, by omega, fun q hq _ => by omega⟩

theorem Gu.fin {P B P1 p0 top next t r p : Int} (g : Gu P1 (P1 * 18446744073709551616 + p0) top (top * 18446744073709551616 + next) t r) (hp : 0 < p) (hB0 : 0 < B)
  (hP0 : (P1 * 18446744073709551616 + p0) * p ≤ P) (hP1 : P < (P1 * 18446744073709551616 + p0 + 1) * p)
  (hB1 : (top * 18446744073709551616 + next) * p ≤ B) (hB2 : B < (top * 18446744073709551616 + next + 1) * p) (hBp : p * 18446744073709551616 ≤ B)
  (hPB : P < B * 18446744073709551616) (h : t * next ≤ r * 18446744073709551616 + p0) : P / B ≤ t ∧ t ≤ P / B + 1 ∧ 0 ≤ P / B ∧ P / B < 18446744073709551616 := by
 have ht := g.test.2 h
 have hPp : 0 ≤ P := by
  have := g.eq; have := g.t0; have := g.r0
  rcases Int.lt_or_le P 0 with h' | h'
  ·exfalso
   have h5 : ¬ 0 ≤ P1 * 18446744073709551616 + p0 := fun h6 => by have := Int.mul_nonneg h6 (Int.le_of_lt hp); omega
   have h6 : 0 ≤ t * (top * 18446744073709551616 + next) := by
    refine Int.mul_nonneg g.t0 ?_
    rcases Int.lt_or_le (top * 18446744073709551616 + next) 0 with h7 | h7
    ·have : (top * 18446744073709551616 + next + 1) * p ≤ 0 := Int.mul_nonpos_of_nonpos_of_nonneg (by omega) (by omega)
     omega
    ·exact h7
   omega
  ·exact h'
 have q0 : 0 ≤ P / B := Int.ediv_nonneg hPp (by omega)
 have q1 : P / B < 18446744073709551616 := (Int.ediv_lt_iff_lt_mul hB0).2 (by rw [Int.mul_comm]; exact hPB)
 have q2 : P / B * B ≤ P := Int.ediv_mul_le P (by omega)
 refine ⟨g.up _ q1 (guess_le hp hP1 hB1 q0 q2), ?_, q0, q1⟩
 have ht1 : t * p < B := by
  have := g.t1
  have a : t * p ≤ 18446744073709551615 * p := Int.mul_le_mul_of_nonneg_right (by omega) (by omega)
  omega
 have := guess_near hp hP0 hB2 g.t0 ht ht1
 have h3 : (t - 1) * B ≤ P := by rw [Int.sub_mul]; omega
 have := (Int.le_ediv_iff_mul_le hB0).2 h3
 omega

theorem take_step {left low P B q p W A : Int} (hleft : left = low + p * P) (hl0 : 0 ≤ low) (hl1 : low < p) (hq : q = P / B) (hB : 0 < B) (hW : left + B * W = A) :
  low + p * (P - q * B) + B * (W + p * q) = A ∧ low + p * (P - q * B) < p * B ∧ 0 ≤ P - q * B ∧ P - q * B < B := by
 have e := Int.emod_add_mul_ediv P B
 have m0 := Int.emod_nonneg P (b := B) (by omega)
 have m1 := Int.emod_lt_of_pos P hB
 rw [← hq] at e
 have e1 : P - q * B = P % B := by rw [Int.mul_comm q B]; omega
 rw [e1]
 refine ⟨?_, ?_, m0, m1⟩
 ·rw [Int.mul_add]
  have e2 : B * (p * q) = p * (B * q) := by rw [← Int.mul_assoc, ← Int.mul_assoc, Int.mul_comm B p]
  rw [e2]
  have e3 : p * P = p * (P % B) + p * (B * q) := by rw [← Int.mul_add, e]
  omega
 ·have : p * (P % B + 1) ≤ p * B := Int.mul_le_mul_of_nonneg_left (by omega) (by omega)
  rw [Int.mul_add] at this
  omega

theorem div_scaled {A B S L W : Int} (hS : 0 < S) (hB : 0 < B) (h0 : 0 ≤ L) (h1 : L < B * S) (h : L + B * S * W = A * S) : W = A / B ∧ L / S = A % B := by
 have hd : S ∣ L := by
  have : L = S * (A - B * W) := by
   rw [Int.mul_sub, Int.mul_comm S A, ← Int.mul_assoc, Int.mul_comm S B]; omega
  exact ⟨_, this⟩
 obtain ⟨l, rfl⟩ := hd
 have e : l + B * W = A := by
  have : S * (l + B * W) = S * A := by rw [Int.mul_add, ← Int.mul_assoc, Int.mul_comm S B, Int.mul_comm S A]; exact h
  exact Int.eq_of_mul_eq_mul_left (by omega) this
 have l0 : 0 ≤ l := by
  rcases Int.lt_or_le l 0 with h' | h'
  ·have := Int.mul_neg_of_pos_of_neg hS h'; omega
  ·exact h'
 have l1 : l < B := by
  rw [Int.mul_comm B S] at h1
  exact Int.lt_of_mul_lt_mul_left h1 (by omega)
 rw [Int.mul_ediv_cancel_left _ (by omega)]
 subst e
 constructor
 ·rw [Int.add_mul_ediv_left _ _ (by omega), Int.ediv_eq_zero_of_lt l0 l1]; omega
 ·rw [Int.add_mul_emod_self_left, Int.emod_eq_of_lt l0 l1]

structure Co (s X Y x y a1 a2 b1 b2 : Int) : Prop where
 sg : s = 1 ∨ s = -1
 ex : s * (a1 * X - b1 * Y) = x
 ey : s * (b2 * Y - a2 * X) = y
 det : s * (a1 * b2 - a2 * b1) = 1
 a10 : 0 ≤ a1
 a20 : 0 ≤ a2
 b10 : 0 ≤ b1
 b20 : 1 ≤ b2
 y0 : 0 ≤ y
 yx : y ≤ x
 le2 : a2 ≤ b2

theorem Co.start {X Y : Int} (h0 : 0 ≤ Y) (h : Y ≤ X) : Co 1 X Y X Y 1 0 0 1 :=
 ⟨Or.inl rfl, by omega, by omega, by omega, by omega, by omega, by omega, by omega, h0, h, by omega⟩

theorem Co.sumX {s X Y x y a1 a2 b1 b2 : Int} (c : Co s X Y x y a1 a2 b1 b2) : x * b2 + y * b1 = X := by
 obtain ⟨sg, ex, ey, det, _, _, _, _, _, _, _⟩ := c
 rcases sg with rfl | rfl <;> grind
theorem le_mul_of_one_le {a b : Int} (h : 1 ≤ a) (hb : 0 ≤ b) : b ≤ a * b := by
 have := Int.mul_le_mul_of_nonneg_right h hb
 omega

theorem Co.bound {s X Y x y a1 a2 b1 b2 : Int} (c : Co s X Y x y a1 a2 b1 b2) (hx : 1 ≤ x) : b2 ≤ X := by
 have h := c.sumX
 have h1 := le_mul_of_one_le hx (show 0 ≤ b2 by have := c.b20; omega)
 have h2 : 0 ≤ y * b1 := Int.mul_nonneg c.y0 c.b10
 omega
theorem Co.bound2 {s X Y x y a1 a2 b1 b2 : Int} (c : Co s X Y x y a1 a2 b1 b2) (hy : 1 ≤ y) : b1 + b2 ≤ X := by
 have h := c.sumX
 have := c.yx
 have h1 := le_mul_of_one_le (show 1 ≤ x by omega) (show 0 ≤ b2 by have := c.b20; omega)
 have h2 := le_mul_of_one_le hy c.b10
 omega

theorem Co.step {s X Y x y a1 a2 b1 b2 : Int} (c : Co s X Y x y a1 a2 b1 b2) (hy : 1 ≤ y) (hab : a1 ≤ b1 ∨ a1 = 1 ∧ a2 = 0) :
  Co (-s) X Y y (x % y) a2 (a1 + x / y * a2) b2 (b1 + x / y * b2) := by
 have e := Int.emod_add_mul_ediv x y
 have m0 := Int.emod_nonneg x (b := y) (by omega)
 have m1 := Int.emod_lt_of_pos x (show 0 < y by omega)
 have t1 : 1 ≤ x / y := (Int.le_ediv_iff_mul_le (by omega)).2 (by have := c.yx; omega)
 obtain ⟨sg, ex, ey, det, h1, h2, h3, h4, h5, h6, h7⟩ := c
 generalize x / y = t at *
 generalize x % y = r at *
 have f1 : t * a2 ≤ t * b2 := Int.mul_le_mul_of_nonneg_left h7 (by omega)
 have f2 : 0 ≤ t * a2 := Int.mul_nonneg (by omega) h2
 have f3 : b2 ≤ t * b2 := le_mul_of_one_le t1 (by omega)
 refine ⟨by omega, ?_, ?_, ?_, h2, by omega, by omega, by omega, m0, by omega, ?_⟩
 ·rcases sg with rfl | rfl <;> grind
 ·rcases sg with rfl | rfl <;> grind
 ·rcases sg with rfl | rfl <;> grind
 ·rcases hab with h | ⟨rfl, rfl⟩ <;> omega

structure Sure (s X Y a0 a1 b0 b1 : Int) : Prop where
 sg : s = 1 ∨ s = -1
 det : s * (a0 * b1 - a1 * b0) = 1
 a00 : 0 ≤ a0
 a11 : 1 ≤ a1
 le0 : a0 ≤ b0
 le1 : a1 ≤ b1
 c1 : b1 ≤ s * (b1 * Y - a1 * X)
 c2 : b0 + b1 ≤ s * (a0 * X - b0 * Y) - s * (b1 * Y - a1 * X)
 b1X : b1 ≤ X
 b0X : b0 ≤ X

theorem Co.sure {s X Y x y a1 a2 b1 b2 : Int} (c : Co s X Y x y a1 a2 b1 b2) (h1 : b2 ≤ y) (h2 : b1 + b2 ≤ x - y) (hle : a1 ≤ b1) (ha : 1 ≤ a2) : Sure s X Y a1 a2 b1 b2 :=
 ⟨c.sg, c.det, c.a10, ha, hle, c.le2, by rw [c.ey]; exact h1, by rw [c.ex, c.ey]; exact h2, by have := c.b20; have := c.yx; exact c.bound (by omega), by have := c.b20; have := c.bound2 (by omega); omega⟩

theorem Sure.back {s X Y a0 a1 b0 b1 A B A' B' : Int} (c : Sure s X Y a0 a1 b0 b1) (hA : s * (a0 * A - b0 * B) = A') (hB : s * (b1 * B - a1 * A) = B') :
  A = b1 * A' + b0 * B' ∧ B = a1 * A' + a0 * B' := by
 have d := c.det
 rcases c.sg with rfl | rfl <;> subst hA hB <;> constructor <;> grind

theorem Sure.less {s X Y a0 a1 b0 b1 A B K al be A' B' : Int} (c : Sure s X Y a0 a1 b0 b1) (hK : 0 < K) (eA : A = K * X + al) (eB : B = K * Y + be) (ha0 : 0 ≤ al) (ha1 : al < K) (hb0 : 0 ≤ be) (hb1 : be < K)
  (hA : s * (a0 * A - b0 * B) = A') (hB : s * (b1 * B - a1 * A) = B') : 0 ≤ B' ∧ B' < A' ∧ A' ≤ B := by
 have bk := c.back hA hB
 have h0 := c.a00
 have h1 := c.a11
 have le0 := c.le0
 have le1 := c.le1
 have c1 := c.c1
 have c2 := c.c2
 have g1 : K * b1 ≤ K * (s * (b1 * Y - a1 * X)) := Int.mul_le_mul_of_nonneg_left c1 (by omega)
 have g2 : K * (b0 + b1) ≤ K * (s * (a0 * X - b0 * Y) - s * (b1 * Y - a1 * X)) := Int.mul_le_mul_of_nonneg_left c2 (by omega)
 have u1 : 0 ≤ b1 * be := Int.mul_nonneg (by omega) hb0
 have u2 : 0 ≤ a1 * al := Int.mul_nonneg (by omega) ha0
 have v1 : a1 * al ≤ a1 * K := Int.mul_le_mul_of_nonneg_left (by omega) (by omega)
 have v2 : b1 * be ≤ b1 * K := Int.mul_le_mul_of_nonneg_left (by omega) (by omega)
 have v3 : a1 * K ≤ b1 * K := Int.mul_le_mul_of_nonneg_right le1 (by omega)
 have u3 : 0 ≤ (a0 + a1) * al := Int.mul_nonneg (by omega) ha0
 have u4 : 0 ≤ (b0 + b1) * be := Int.mul_nonneg (by omega) hb0
 have w1 : (a0 + a1) * (al + 1) ≤ (a0 + a1) * K := Int.mul_le_mul_of_nonneg_left (by omega) (by omega)
 have w2 : (b0 + b1) * (be + 1) ≤ (b0 + b1) * K := Int.mul_le_mul_of_nonneg_left (by omega) (by omega)
 have w3 : (a0 + a1) * K ≤ (b0 + b1) * K := Int.mul_le_mul_of_nonneg_right (by omega) (by omega)
 have B0 : 0 ≤ B' := by
  subst hB eA eB
  rcases c.sg with rfl | rfl
  ·have : 1 * (b1 * (K * Y + be) - a1 * (K * X + al)) = K * (1 * (b1 * Y - a1 * X)) + b1 * be - a1 * al := by grind
   rw [this, Int.mul_comm K b1] at *; omega
  ·have : -1 * (b1 * (K * Y + be) - a1 * (K * X + al)) = K * (-1 * (b1 * Y - a1 * X)) + a1 * al - b1 * be := by grind
   rw [this, Int.mul_comm K b1] at *; omega
 have AB : B' < A' := by
  subst hB hA eA eB
  rw [Int.mul_comm K (b0 + b1)] at g2
  rw [Int.mul_add] at w1 w2
  rcases c.sg with rfl | rfl
  ·have : 1 * (a0 * (K * X + al) - b0 * (K * Y + be)) - 1 * (b1 * (K * Y + be) - a1 * (K * X + al)) = K * (1 * (a0 * X - b0 * Y) - 1 * (b1 * Y - a1 * X)) + (a0 + a1) * al - (b0 + b1) * be := by grind
   omega
  ·have : -1 * (a0 * (K * X + al) - b0 * (K * Y + be)) - -1 * (b1 * (K * Y + be) - a1 * (K * X + al)) = K * (-1 * (a0 * X - b0 * Y) - -1 * (b1 * Y - a1 * X)) + (b0 + b1) * be - (a0 + a1) * al := by grind
   omega
 refine ⟨B0, AB, ?_⟩
 have p1 := le_mul_of_one_le h1 (show 0 ≤ A' by omega)
 have p2 : 0 ≤ a0 * B' := Int.mul_nonneg h0 B0
 omega

theorem Sure.gcd {s X Y a0 a1 b0 b1 A B A' B' : Int} (c : Sure s X Y a0 a1 b0 b1) (hA : s * (a0 * A - b0 * B) = A') (hB : s * (b1 * B - a1 * A) = B') : Int.gcd A' B' = Int.gcd A B := by
 obtain ⟨eA, eB⟩ := c.back hA hB
 refine Nat.dvd_antisymm (Int.natCast_dvd_natCast.1 (Int.dvd_coe_gcd ?_ ?_)) (Int.natCast_dvd_natCast.1 (Int.dvd_coe_gcd ?_ ?_))
 ·rw [eA]; exact Int.dvd_add (Int.dvd_mul_of_dvd_right (Int.gcd_dvd_left ..)) (Int.dvd_mul_of_dvd_right (Int.gcd_dvd_right ..))
 ·rw [eB]; exact Int.dvd_add (Int.dvd_mul_of_dvd_right (Int.gcd_dvd_left ..)) (Int.dvd_mul_of_dvd_right (Int.gcd_dvd_right ..))
 ·rw [← hA]; exact Int.dvd_mul_of_dvd_right (Int.dvd_sub (Int.dvd_mul_of_dvd_right (Int.gcd_dvd_left ..)) (Int.dvd_mul_of_dvd_right (Int.gcd_dvd_right ..)))
 ·rw [← hB]; exact Int.dvd_mul_of_dvd_right (Int.dvd_sub (Int.dvd_mul_of_dvd_right (Int.gcd_dvd_right ..)) (Int.dvd_mul_of_dvd_right (Int.gcd_dvd_left ..)))

structure Lh (s X Y x y a0 a1 a2 b0 b1 b2 : Int) : Prop where
 co : Co s X Y x y a1 a2 b1 b2
 st : (a1 = 1 ∧ a2 = 0 ∧ b1 = 0) ∨ (a1 ≤ b1 ∧ 1 ≤ a2)
 pr : b0 = 0 ∨ Sure (-s) X Y a0 a1 b0 b1

theorem Lh.start {X Y : Int} (h0 : 0 ≤ Y) (h : Y ≤ X) : Lh 1 X Y X Y 0 1 0 0 0 1 := ⟨Co.start h0 h, Or.inl ⟨rfl, rfl, rfl⟩, Or.inl rfl⟩

theorem Lh.step {s X Y x y a0 a1 a2 b0 b1 b2 : Int} (c : Lh s X Y x y a0 a1 a2 b0 b1 b2) (h1 : b2 ≤ y) (h2 : b1 + b2 ≤ x - y) :
  Lh (-s) X Y y (x % y) a1 a2 (a1 + x / y * a2) b1 b2 (b1 + x / y * b2) ∧ 1 ≤ x / y ∧ 0 ≤ x / y * a2 ∧ a1 + x / y * a2 ≤ X ∧ 0 ≤ x / y * b2 ∧ b1 + x / y * b2 ≤ X := by
 have b2p := c.co.b20
 have hy : 1 ≤ y := by omega
 have st : Co (-s) X Y y (x % y) a2 (a1 + x / y * a2) b2 (b1 + x / y * b2) := c.co.step hy (by rcases c.st with ⟨h, h', _⟩ | ⟨h, _⟩; exact Or.inr ⟨h, h'⟩; exact Or.inl h)
 have t1 : 1 ≤ x / y := (Int.le_ediv_iff_mul_le (by omega)).2 (by have := c.co.yx; omega)
 have f2 : 0 ≤ x / y * a2 := Int.mul_nonneg (by omega) c.co.a20
 have f3 : 0 ≤ x / y * b2 := Int.mul_nonneg (by omega) (by omega)
 have bb := st.bound hy
 have aa := st.le2
 refine ⟨⟨st, Or.inr ⟨c.co.le2, ?_⟩, ?_⟩, t1, f2, by omega, f3, bb⟩
 ·rcases c.st with ⟨h, h', _⟩ | ⟨h, h'⟩
  ·omega
  ·have := le_mul_of_one_le t1 c.co.a20
   have := c.co.a10
   omega
 ·rcases c.st with ⟨_, _, h⟩ | ⟨h, h'⟩
  ·exact Or.inl h
  ·refine Or.inr ?_
   rw [Int.neg_neg]
   exact c.co.sure h1 h2 h h'

theorem Lh.bds {s X Y x y a0 a1 a2 b0 b1 b2 : Int} (c : Lh s X Y x y a0 a1 a2 b0 b1 b2) : 0 ≤ y ∧ y ≤ x ∧ x ≤ X ∧ 0 ≤ a1 ∧ 0 ≤ a2 ∧ 0 ≤ b1 ∧ 1 ≤ b2 ∧ (b2 ≤ y → b1 + b2 ≤ X) := by
 have h := c.co.sumX
 have b2p := c.co.b20
 have y0 := c.co.y0
 have yx := c.co.yx
 have h1 : x * 1 ≤ x * b2 := Int.mul_le_mul_of_nonneg_left b2p (by omega)
 have h2 : 0 ≤ y * b1 := Int.mul_nonneg y0 c.co.b10
 exact ⟨y0, yx, by omega, c.co.a10, c.co.a20, c.co.b10, b2p, fun hy => c.co.bound2 (by omega)⟩

theorem top_approx {A L p u1 u0 S R : Int} (h : A = L + p * (u1 * 18446744073709551616 + u0)) (h0 : 0 ≤ L) (h1 : L < p) (hSR : S * R = 18446744073709551616) (hR : 0 < R) :
  ∃ al, A = p * R * (u1 * S + u0 / R) + al ∧ 0 ≤ al ∧ al < p * R := by
 have e := Int.emod_add_mul_ediv u0 R
 have m0 := Int.emod_nonneg u0 (b := R) (by omega)
 have m1 := Int.emod_lt_of_pos u0 hR
 refine ⟨L + p * (u0 % R), ?_, ?_, ?_⟩
 ·generalize u0 % R = r at *
  generalize u0 / R = q at *
  subst e
  rw [h, ← hSR]
  grind
 ·have := Int.mul_nonneg (show 0 ≤ p by omega) m0; omega
 ·have : p * (u0 % R + 1) ≤ p * R := Int.mul_le_mul_of_nonneg_left (by omega) (by omega)
  rw [Int.mul_add] at this; omega

def Less (A B A' B' : Int) : Prop := 0 ≤ B' ∧ B' < A' ∧ A' ≤ B ∧ Int.gcd A' B' = Int.gcd A B

theorem Lh.fin {s X Y x y a0 a1 a2 b0 b1 b2 A B K al be : Int} (c : Lh s X Y x y a0 a1 a2 b0 b1 b2) (hb : b0 ≠ 0) (hK : 0 < K) (eA : A = K * X + al) (eB : B = K * Y + be) (ha0 : 0 ≤ al) (ha1 : al < K) (hb0 : 0 ≤ be) (hb1 : be < K) (hX : X < 18446744073709551616) :
  (s = 1 → Less A B (b0 * B - a0 * A) (a1 * A - b1 * B)) ∧ (s = -1 → Less A B (a0 * A - b0 * B) (b1 * B - a1 * A)) ∧
   (0 ≤ a0 ∧ a0 < 18446744073709551616) ∧ (0 ≤ b0 ∧ b0 < 18446744073709551616) ∧ (0 ≤ a1 ∧ a1 < 18446744073709551616) ∧ (0 ≤ b1 ∧ b1 < 18446744073709551616) := by
 have S : Sure (-s) X Y a0 a1 b0 b1 := by
  rcases c.pr with h | h
  ·exact absurd h hb
  ·exact h
 have h1 := S.a00
 have h2 := S.a11
 have h3 := S.le0
 have h4 := S.le1
 have h5 := S.b1X
 have h6 := S.b0X
 refine ⟨fun hs => ?_, fun hs => ?_, ⟨by omega, by omega⟩, ⟨by omega, by omega⟩, ⟨by omega, by omega⟩, ⟨by omega, by omega⟩⟩
 ·subst hs
  have e1 : -1 * (a0 * A - b0 * B) = b0 * B - a0 * A := by omega
  have e2 : -1 * (b1 * B - a1 * A) = a1 * A - b1 * B := by omega
  have L := S.less hK eA eB ha0 ha1 hb0 hb1 e1 e2
  exact ⟨L.1, L.2.1, L.2.2, S.gcd e1 e2⟩
 ·subst hs
  have S' : Sure 1 X Y a0 a1 b0 b1 := S
  have e1 : 1 * (a0 * A - b0 * B) = a0 * A - b0 * B := by omega
  have e2 : 1 * (b1 * B - a1 * A) = b1 * B - a1 * A := by omega
  have L := S'.less hK eA eB ha0 ha1 hb0 hb1 e1 e2
  exact ⟨L.1, L.2.1, L.2.2, S'.gcd e1 e2⟩
end Wd
/- Numbers shifted: times a power of 2, and back, word by word. -/
namespace Go.Proofs.YtcelbgleajpenaaGreatDoor
open Go.RowKit Go.Sort Go.Shelf

theorem shl_join (x cr : Int) (s : Nat) (hs : s ≤ 63) (hx : Wd.W64 x) (h0 : 0 ≤ cr) (h1 : cr < 2 ^ s) :
  bits .or .u64 (IntKind.u64.wrap (x * 2 ^ s)) cr = x * 2 ^ s % 18446744073709551616 + cr ∧ 0 ≤ x / 2 ^ (64 - s) ∧ x / 2 ^ (64 - s) < 2 ^ s ∧
   x * 2 ^ s = x / 2 ^ (64 - s) * 18446744073709551616 + x * 2 ^ s % 18446744073709551616 ∧ Wd.W64 (x * 2 ^ s % 18446744073709551616 + cr) := by
 obtain ⟨hx0, hx1⟩ := hx
 have hS := pow_pos2 s
 have hR := pow_pos2 (64 - s)
 have hSR := pow_split s (by omega)
 have hG0 : 0 ≤ x / 2 ^ (64 - s) := Int.ediv_nonneg hx0 (by omega)
 have hG : x / 2 ^ (64 - s) < 2 ^ s := (Int.ediv_lt_iff_lt_mul hR).2 (by rw [hSR]; exact hx1)
 have hdiv : x * 2 ^ s / 18446744073709551616 = x / 2 ^ (64 - s) := by
  rw [← hSR, Int.mul_comm x, Int.mul_ediv_mul_of_pos _ _ hS]
 have hd := Int.emod_add_mul_ediv (x * 2 ^ s) 18446744073709551616
 have hdv : (x * 2 ^ s % 18446744073709551616) % 2 ^ s = 0 := by
  have : x * 2 ^ s % 18446744073709551616 = 2 ^ s * (x % 2 ^ (64 - s)) := by
   rw [← hSR, Int.mul_comm x, Int.mul_emod_mul_of_pos _ _ hS]
  rw [this, Int.mul_emod_right]
 have hlt : x * 2 ^ s % 18446744073709551616 + 2 ^ s ≤ 18446744073709551616 := by
  have e : x * 2 ^ s % 18446744073709551616 = 2 ^ s * (x % 2 ^ (64 - s)) := by
   rw [← hSR, Int.mul_comm x, Int.mul_emod_mul_of_pos _ _ hS]
  have m1 := Int.emod_lt_of_pos x hR
  have : 2 ^ s * (x % 2 ^ (64 - s) + 1) ≤ 2 ^ s * 2 ^ (64 - s) := Int.mul_le_mul_of_nonneg_left (by omega) (by omega)
  rw [Int.mul_add, Int.mul_one, hSR, ← e] at this
  exact this
 have hm0 : 0 ≤ x * 2 ^ s % 18446744073709551616 := by omega
 refine ⟨?_, hG0, hG, by rw [hdiv] at hd; omega, by omega, by omega⟩
 rw [IntKind.wrap_u64]
 exact bits_join .u64 64 (by decide) (fun n h1 h2 => by rw [IntKind.wrap_u64]; omega) s _ _ hm0 hdv (by omega) h0 h1 (by omega)

theorem shl_val {dk : Array Int} {g : Nat → Int} {i : Nat} {x cr S q r : Int} (hi : i < dk.size) (hx : g i = x) (hq : x * S = q * 18446744073709551616 + r)
  (hv : Wd.vl (fun j => dk[j]!) i + Wd.pw i * cr = Wd.vl g i * S) :
  Wd.vl (fun j => (dk.setIfInBounds i (r + cr))[j]!) (i + 1) + Wd.pw (i + 1) * q = Wd.vl g (i + 1) * S := by
 rw [vl_set dk i _ hi, Wd.vl_succ, hx, Wd.pw_succ]
 have e : (Wd.vl g i + Wd.pw i * x) * S = Wd.vl g i * S + Wd.pw i * (x * S) := by rw [Int.add_mul, Int.mul_assoc]
 rw [e, hq, ← hv]
 generalize Wd.pw i = p
 grind

set_option maxHeartbeats 1000000 in
set_option maxRecDepth 100000 in
theorem shifted_any (a : Option Addr) (n c : Nat) (A : Int) (s : Nat) (w : World) (hl : Wd.Len A n) (hr : RowIs w a n c (Wd.dig A)) (hA : Sm A) (hs : s ≤ 63) :
  Calls Tryz.prog 168 #[.slice a n c, .int .u64 (s : Int)] w fun e w' => e = .returned (.slice (some ⟨w.heap.size, 0, none⟩) (n + 1 : Nat) (n + 1 : Nat)) ∧
   ∃ d : Array Int, d.size = n + 1 ∧ OwnRow w' w.heap.size d ∧ (∀ j, j < n + 1 → Wd.W64 d[j]!) ∧ Wd.vl (fun j => d[j]!) (n + 1) = A * 2 ^ s ∧ d[n]! < 2 ^ s ∧ Below w.heap.size w w' ∧ w'.heap.size = w.heap.size + 1 := by
 have hn := hA.len hl
 have hmk := make_row ((n : Int) + 1) (by omega) (by omega)
 have en : ((n : Int) + 1).toNat = n + 1 := by omega
 rw [en] at hmk
 obtain ⟨W, hW⟩ : ∃ W, w.alloc (.cells (zrow (n + 1)) 134) = W := ⟨_, rfl⟩
 have hown : OwnRow W w.heap.size (zs (n + 1)) := by rw [← hW]; exact own_made w (n + 1)
 have hbW : Below w.heap.size w W := by rw [← hW]; exact (Below.refl _ _).alloc (Nat.le_refl _) _
 have hsz : W.heap.size = w.heap.size + 1 := by rw [← hW]; simp
 have hnc := hr.1
 have hcc := hr.2.1
 have hS := pow_pos2 s
 have HA := hide hr
 have HW := hide hW
 have HL := hide hl
 have HSZ := hide hsz
 clear hr hW hl hA hsz
 go_enter Tryz.func168, Tryz.ntmps168
 go_wp2
 rw [unhide HW]
 go_loopw [6, 15] (fun vc vi wr => ∃ (i : Nat) (cr : Int) (dk : Array Int), vc = .int .u64 cr ∧ vi = .int .i64 i ∧ 0 ≤ cr ∧ cr < 2 ^ s ∧ i ≤ n ∧ dk.size = n + 1 ∧ wr = putRow enc W w.heap.size 0 dk ∧
   (∀ j, j < n + 1 → Wd.W64 dk[j]!) ∧ Wd.vl (fun j => dk[j]!) i + Wd.pw i * cr = Wd.vl (Wd.dig A) i * 2 ^ s) (fun _ vi _ => n - (intOf vi).toNat)
 case atStart => exact ⟨0, 0, zs (n + 1), rfl, rfl, by decide, hS, Nat.zero_le _, zs_size _, (putRow_self _ _ _ _ _ hown.holds).symm, fun j _ => by rw [zs_get]; exact ⟨by decide, by decide⟩, by simp [Wd.vl]⟩
 case round =>
  obtain ⟨i, cr, dk, rfl, rfl, hc0, hc1, hi, hs', hwr, hw, hv⟩ := hrel
  have hown' : OwnRow wr w.heap.size dk := by rw [hwr]; exact hown.put (by rw [zs_size]; exact hs')
  have hbr : Below w.heap.size w wr := by rw [hwr]; exact hbW.trans (below_putRow dk (Nat.le_refl _))
  have hszr : wr.heap.size = w.heap.size + 1 := by rw [hwr, ← unhide HSZ]; simp [putRow, mapBlock]
  by_cases hlt : i < n
  ·obtain ⟨x, hx⟩ : ∃ x, Wd.dig A i = x := ⟨_, rfl⟩
   have hxw := Wd.dig_w A i
   rw [hx] at hxw
   have hfa : wr.frozen? ⟨w.heap.size, i, none⟩ = false := by simpa using (hown'.holds i (by omega)).2
   have hce : ∃ u, wr.cell? ⟨w.heap.size, i, none⟩ = some u := ⟨_, by simpa using (hown'.holds i (by omega)).1⟩
   obtain ⟨u, hce⟩ := hce
   obtain ⟨b, o, hae, hblt, hca⟩ := row_at (unhide HA) hbr hlt
   rw [hx] at hca
   subst hae
   obtain ⟨j1, j2, j3, j4, j5⟩ := shl_join x cr s hs hxw hc0 hc1
   have FIN : Hid (∃ (i' : Nat) (cr' : Int) (dk' : Array Int), Value.int .u64 (x / 2 ^ (64 - s)) = .int .u64 cr' ∧ Value.int .i64 ((i : Int) + 1) = .int .i64 i' ∧ 0 ≤ cr' ∧ cr' < 2 ^ s ∧ i' ≤ n ∧ dk'.size = n + 1 ∧
     wr.setCell ⟨w.heap.size, i, none⟩ (.int .u64 (bits .or .u64 (IntKind.u64.wrap (x * 2 ^ s)) cr)) = putRow enc W w.heap.size 0 dk' ∧
     (∀ j, j < n + 1 → Wd.W64 dk'[j]!) ∧ Wd.vl (fun j => dk'[j]!) i' + Wd.pw i' * cr' = Wd.vl (Wd.dig A) i' * 2 ^ s) := by
    rw [j1]
    refine ⟨i + 1, _, dk.setIfInBounds i (x * 2 ^ s % 18446744073709551616 + cr), rfl, by go_num, j2, j3, hlt, by simpa using hs', ?_, words_set hw j5 (by omega), shl_val (by omega) hx j4 hv⟩
    rw [hwr]; simpa using putRow_set enc W w.heap.size 0 dk i (x * 2 ^ s % 18446744073709551616 + cr) (by omega)
   obtain ⟨hx0, hx1⟩ := hxw
   clear hv hw hx hwr hown hown' hs' j1 j2 j3 j4 j5 HA hbr HL hbW
   go_wp2
   exact ⟨unhide FIN, by simp [intOf]; omega⟩
  ·obtain rfl : i = n := by omega
   have hfa : wr.frozen? ⟨w.heap.size, i, none⟩ = false := by simpa using (hown'.holds i (by omega)).2
   have hce : ∃ u, wr.cell? ⟨w.heap.size, i, none⟩ = some u := ⟨_, by simpa using (hown'.holds i (by omega)).1⟩
   obtain ⟨u, hce⟩ := hce
   have hlw : cr < 18446744073709551616 := by
    have := pow_split s (by omega)
    have h3 := pow_pos2 (64 - s)
    have h4 : (2 : Int) ^ s * 1 ≤ 2 ^ s * 2 ^ (64 - s) := Int.mul_le_mul_of_nonneg_left (by omega) (by omega)
    omega
   have FIN : Hid (∃ d : Array Int, d.size = i + 1 ∧ OwnRow (wr.setCell ⟨w.heap.size, i, none⟩ (.int .u64 cr)) w.heap.size d ∧ (∀ j, j < i + 1 → Wd.W64 d[j]!) ∧ Wd.vl (fun j => d[j]!) (i + 1) = A * 2 ^ s ∧ d[i]! < 2 ^ s ∧ Below w.heap.size w (wr.setCell ⟨w.heap.size, i, none⟩ (.int .u64 cr)) ∧ (wr.setCell ⟨w.heap.size, i, none⟩ (.int .u64 cr)).heap.size = w.heap.size + 1) := by
    have e : wr.setCell ⟨w.heap.size, i, none⟩ (.int .u64 cr) = putRow enc W w.heap.size 0 (dk.setIfInBounds i cr) := by
     rw [hwr]; simpa using putRow_set enc W w.heap.size 0 dk i cr (by omega)
    rw [e]
    refine ⟨dk.setIfInBounds i cr, by simpa using hs', hown.put (by rw [zs_size]; simpa using hs'), words_set hw ⟨hc0, hlw⟩ (by omega), ?_, ?_, hbW.trans (below_putRow _ (Nat.le_refl _)), ?_⟩
    ·rw [vl_set dk i cr (by omega), hv, Wd.vl_dig_all (unhide HL).1 (unhide HL).2.1]
    ·rw [getElem!_set_same dk i cr (by omega)]; exact hc1
    ·rw [← unhide HSZ]; simp [putRow, mapBlock]
   clear hv hw hown hown' HL hwr HA hbr hbW hs'
   go_wp2
   go_ret
   exact ⟨rfl, unhide FIN⟩

theorem or_comm64 (x y : Int) : bits .or .u64 x y = bits .or .u64 y x := by
 simp only [bits, BitVec.or_comm]

theorem shr_join (x r : Int) (s : Nat) (hs : s ≤ 63) (hx : Wd.W64 x) (h0 : 0 ≤ r) (h1 : r < 2 ^ s) :
  bits .or .u64 (x / 2 ^ s) (r * 2 ^ (64 - s)) = (r * 18446744073709551616 + x) / 2 ^ s ∧ IntKind.u64.wrap (x * 2 ^ (64 - s)) = (r * 18446744073709551616 + x) % 2 ^ s * 2 ^ (64 - s) ∧
   r * 2 ^ (64 - s) < 18446744073709551616 ∧ 0 ≤ r * 2 ^ (64 - s) := by
 obtain ⟨hx0, hx1⟩ := hx
 have hS := pow_pos2 s
 have hR := pow_pos2 (64 - s)
 have hSR := pow_split s (by omega)
 have e0 : r * 18446744073709551616 + x = x + 2 ^ s * (r * 2 ^ (64 - s)) := by rw [← hSR]; grind
 have q0 : 0 ≤ x / 2 ^ s := Int.ediv_nonneg hx0 (by omega)
 have q1 : x / 2 ^ s < 2 ^ (64 - s) := (Int.ediv_lt_iff_lt_mul hS).2 (by rw [Int.mul_comm, hSR]; exact hx1)
 have r0 : 0 ≤ r * 2 ^ (64 - s) := Int.mul_nonneg h0 (by omega)
 have r1 : r * 2 ^ (64 - s) + 2 ^ (64 - s) ≤ 18446744073709551616 := by
  have : (r + 1) * 2 ^ (64 - s) ≤ 2 ^ s * 2 ^ (64 - s) := Int.mul_le_mul_of_nonneg_right (by omega) (by omega)
  rw [hSR, Int.add_mul, Int.one_mul] at this; exact this
 refine ⟨?_, ?_, by omega, r0⟩
 ·rw [e0, Int.add_mul_ediv_left _ _ (by omega), Int.add_comm (x / 2 ^ s)]
  rw [show bits .or .u64 (x / 2 ^ s) (r * 2 ^ (64 - s)) = bits .or .u64 (r * 2 ^ (64 - s)) (x / 2 ^ s) from or_comm64 _ _]
  exact bits_join .u64 64 (by decide) (fun n h1 h2 => by rw [IntKind.wrap_u64]; omega) (64 - s) _ _ r0 (Int.mul_emod_left _ _) (by omega) q0 q1 (by omega)
 ·rw [IntKind.wrap_u64, e0, Int.add_mul_emod_self_left, Int.mul_comm _ ((2 : Int) ^ (64 - s)), Int.mul_comm _ ((2 : Int) ^ (64 - s))]
  have : (18446744073709551616 : Int) = 2 ^ (64 - s) * 2 ^ s := by rw [Int.mul_comm, hSR]
  rw [this, Int.mul_emod_mul_of_pos _ _ hR]

set_option maxHeartbeats 1000000 in
set_option maxRecDepth 100000 in
theorem unshift_any (g o c : Nat) (d : Array Int) (n s : Nat) (w : World) (hn : d.size = n) (hH : Holds enc w g o d) (hd : ∀ j, j < n → Wd.W64 d[j]!) (hnc : n ≤ 9223372036854775807) (hs : s ≤ 63) :
  Calls Tryz.prog 170 #[.slice (some ⟨g, o, none⟩) n c, .int .u64 (s : Int)] w fun e w' => e = .returned (.tuple #[]) ∧
   ∃ (d' : Array Int) (k : Nat), d'.size = n ∧ w' = (putRow enc w g o d').drewN k ∧ (∀ j, j < n → Wd.W64 d'[j]!) ∧ Wd.vl (fun j => d'[j]!) n = Wd.vl (fun j => d[j]!) n / 2 ^ s := by
 have hb0 := pow_pos2 s
 go_enter Tryz.func170, Tryz.ntmps170
 go_wp2
 go_loopw [4, 5] (fun vr vi wr => ∃ (m : Nat) (rest : Int) (dk : Array Int) (k : Nat), vr = .int .u64 (rest * 2 ^ (64 - s)) ∧ vi = .int .i64 ((m : Int) - 1) ∧ m ≤ n ∧ 0 ≤ rest ∧ rest < 2 ^ s ∧ dk.size = n ∧ wr = (putRow enc w g o dk).drewN k ∧
   (∀ j, j < n → Wd.W64 dk[j]!) ∧ (∀ j, j < m → dk[j]! = d[j]!) ∧ Wd.vl (fun j => d[m + j]!) (n - m) = Wd.vl (fun j => dk[m + j]!) (n - m) * 2 ^ s + rest) (fun _ vi _ => (intOf vi + 1).toNat)
 case atStart => exact ⟨n, 0, d, 0, by rw [Int.zero_mul], rfl, Nat.le_refl _, by decide, hb0, hn, (putRow_self _ _ _ _ _ hH).symm, hd, fun _ _ => rfl, by simp [Wd.vl]⟩
 case round =>
  obtain ⟨m, rest, dk, k, rfl, rfl, hm, hr0, hr1, hs', hwr, hw, hrest, hv⟩ := hrel
  by_cases hm0 : m = 0
  ·subst hm0
   have e1 : Wd.vl (fun j => d[0 + j]!) (n - 0) = Wd.vl (fun j => d[j]!) n := by simp
   have e2 : Wd.vl (fun j => dk[0 + j]!) (n - 0) = Wd.vl (fun j => dk[j]!) n := by simp
   rw [e1, e2] at hv
   have f2 : Wd.vl (fun j => dk[j]!) n = Wd.vl (fun j => d[j]!) n / 2 ^ s := by rw [hv, Int.add_comm, Int.add_mul_ediv_right _ _ (by omega), Int.ediv_eq_zero_of_lt hr0 hr1]; omega
   have F2 := hide f2
   have HW := hide hw
   have HWR := hide hwr
   clear hv e1 e2 f2 hw hrest hd hH hwr
   go_wp2
   go_end0
   exact ⟨rfl, dk, k, hs', unhide HWR, unhide HW, unhide F2⟩
  ·obtain ⟨i, rfl⟩ : ∃ i, m = i + 1 := ⟨m - 1, by omega⟩
   obtain ⟨x, hx⟩ : ∃ x, d[i]! = x := ⟨_, rfl⟩
   have hxw := hd i (by omega)
   rw [hx] at hxw
   have hdx : dk[i]! = x := by rw [hrest i (by omega), hx]
   have hca : wr.cell? ⟨g, o + i, none⟩ = some (.int .u64 x) := by rw [hwr, ← hdx]; exact cell?_putRow _ _ _ _ d dk hH (by omega) i (by omega)
   have hfa : wr.frozen? ⟨g, o + i, none⟩ = false := by rw [hwr, World.frozen?_drewN, frozen?_putRow]; exact (hH i (by omega)).2
   have ei : ((i : Int) + 1 - 1).toNat = i := by omega
   have en : ((i + 1 : Nat) : Int) - 1 = (i : Int) := by omega
   obtain ⟨j1, j2, j3, j4⟩ := shr_join x rest s hs hxw hr0 hr1
   have FIN : Hid (∀ k2, ∃ (m' : Nat) (rest' : Int) (dk' : Array Int) (k' : Nat), Value.int .u64 (IntKind.u64.wrap (x * 2 ^ (64 - s))) = .int .u64 (rest' * 2 ^ (64 - s)) ∧ Value.int .i64 ((i : Int) - 1) = .int .i64 ((m' : Int) - 1) ∧ m' ≤ n ∧ 0 ≤ rest' ∧ rest' < 2 ^ s ∧ dk'.size = n ∧
     (wr.drewN k2).setCell ⟨g, o + i, none⟩ (.int .u64 (bits .or .u64 (x / 2 ^ s) (rest * 2 ^ (64 - s)))) = (putRow enc w g o dk').drewN k' ∧
     (∀ j, j < n → Wd.W64 dk'[j]!) ∧ (∀ j, j < m' → dk'[j]! = d[j]!) ∧ Wd.vl (fun j => d[m' + j]!) (n - m') = Wd.vl (fun j => dk'[m' + j]!) (n - m') * 2 ^ s + rest') := by
    intro k2
    rw [j1, j2]
    refine ⟨i, _, dk.setIfInBounds i ((rest * 18446744073709551616 + x) / 2 ^ s), k + k2, rfl, rfl, by omega, Int.emod_nonneg _ (by omega), Int.emod_lt_of_pos _ hb0, by simpa using hs', ?_, words_set hw (div_word hr0 hr1 hxw) (by omega), fun j hj => ?_, divInto_val (by omega) hs' hx hv⟩
    ·rw [hwr]; exact put_drewN w g o k dk i _ (by omega) k2
    ·rw [getElem!_set_other dk i j _ (by omega)]; exact hrest j (by omega)
   obtain ⟨hx0, hx1⟩ := hxw
   rw [en]
   generalize rest * 2 ^ (64 - s) = cr at *
   clear hv hw hrest hd hH hwr hx hdx en hm0 j1 j2
   go_wp2
   exact ⟨unhide FIN 0, by simp [intOf]⟩
end Go.Proofs.YtcelbgleajpenaaGreatDoor
/- One digit of a long division: guessed by the upper words, taken away, put right. -/
namespace Go.Proofs.YtcelbgleajpenaaGreatDoor
open Go.RowKit Go.Sort Go.Shelf

theorem mul64 (x y : Int) (hx : Wd.W64 x) (hy : Wd.W64 y) (w : World) :
  Calls Tryz.prog 171 #[.int .u64 x, .int .u64 y] w fun e w' => e = .returned (.tuple #[.int .u64 (x * y / 18446744073709551616), .int .u64 (x * y % 18446744073709551616)]) ∧ w' = w := by
 obtain ⟨hx0, hx1⟩ := hx
 obtain ⟨hy0, hy1⟩ := hy
 obtain ⟨X, rfl⟩ := Int.eq_ofNat_of_zero_le hx0
 obtain ⟨Y, rfl⟩ := Int.eq_ofNat_of_zero_le hy0
 have hM := Tryz.bits_Mul64 X Y (by omega) (by omega) w
 have e1 : ((X * Y / 18446744073709551616 : Nat) : Int) = (X : Int) * Y / 18446744073709551616 := by simp
 have e2 : ((X * Y % 18446744073709551616 : Nat) : Int) = (X : Int) * Y % 18446744073709551616 := by simp
 rw [e1, e2] at hM
 exact hM

theorem mul_word_lt {x y : Int} (hx : Wd.W64 x) (hy : Wd.W64 y) : 0 ≤ x * y ∧ x * y < 18446744073709551616 * 18446744073709551615 := by
 obtain ⟨hx0, hx1⟩ := hx
 obtain ⟨hy0, hy1⟩ := hy
 refine ⟨Int.mul_nonneg hx0 hy0, ?_⟩
 have : x * y ≤ 18446744073709551615 * 18446744073709551615 := Int.mul_le_mul (by omega) (by omega) (by omega) (by omega)
 omega

theorem Gu_over {P1 p0 top next t r : Int} (g : Wd.Gu P1 (P1 * 18446744073709551616 + p0) top (top * 18446744073709551616 + next) t r) (hn : Wd.W64 next) (hp : 0 ≤ p0) (h : 18446744073709551616 ≤ r) : t * next ≤ r * 18446744073709551616 + p0 := by
 have := (mul_word_lt ⟨g.t0, g.t1⟩ hn).2
 omega

set_option maxHeartbeats 2000000 in
set_option maxRecDepth 100000 in
theorem guess_any (a a' : Option Addr) (c c' k : Nat) (f h : Nat → Int) (w : World) (hra : RowIs w a (k + 3) c f) (hrb : RowIs w a' (k + 2) c' h) (hf : ∀ j, j < k + 3 → Wd.W64 (f j)) (hh : ∀ j, j < k + 2 → Wd.W64 (h j))
  (htop : 0 < h (k + 1)) (hle : f (k + 2) ≤ h (k + 1)) :
  Calls Tryz.prog 192 #[.slice a (k + 3 : Nat) c, .slice a' (k + 2 : Nat) c'] w fun e w' => ∃ t r, e = .returned (.int .u64 t) ∧
   Wd.Gu (f (k + 2) * 18446744073709551616 + f (k + 1)) ((f (k + 2) * 18446744073709551616 + f (k + 1)) * 18446744073709551616 + f k) (h (k + 1)) (h (k + 1) * 18446744073709551616 + h k) t r ∧
   t * h k ≤ r * 18446744073709551616 + f k ∧ ∃ z, w' = w.drewN z := by
 obtain ⟨h1, h2, h3⟩ := hra
 obtain ⟨h1', h2', h3'⟩ := hrb
 obtain ⟨b, o, rfl, hlt, hc⟩ := h3 (by omega)
 obtain ⟨b', o', rfl, hlt', hc'⟩ := h3' (by omega)
 have ca0 := hc k (by omega)
 have ca1 := hc (k + 1) (by omega)
 have ca2 := hc (k + 2) (by omega)
 have cb0 := hc' k (by omega)
 have cb1 := hc' (k + 1) (by omega)
 have wp0 := hf k (by omega)
 have wu0 := hf (k + 1) (by omega)
 have wu1 := hf (k + 2) (by omega)
 have wn := hh k (by omega)
 have wt := hh (k + 1) (by omega)
 clear hc hc' h3 h3' hf hh
 generalize f k = p0 at *
 generalize f (k + 1) = u0 at *
 generalize f (k + 2) = u1 at *
 generalize h k = next at *
 generalize h (k + 1) = top at *
 have WN := hide wn
 obtain ⟨hp0, hp1⟩ := wp0
 obtain ⟨hu00, hu01⟩ := wu0
 obtain ⟨hu10, hu11⟩ := wu1
 obtain ⟨hn0, hn1⟩ := wn
 obtain ⟨ht0, ht1⟩ := wt
 have START : Hid (∀ t r, (u1 < top → t = (u1 * 18446744073709551616 + u0) / top ∧ r = (u1 * 18446744073709551616 + u0) % top) → (u1 = top → t = 18446744073709551615 ∧ r = u0 + top) →
   Wd.Gu (u1 * 18446744073709551616 + u0) ((u1 * 18446744073709551616 + u0) * 18446744073709551616 + p0) top (top * 18446744073709551616 + next) t r) := by
  intro t r hA hB
  rcases Int.lt_or_le u1 top with h | h
  ·obtain ⟨rfl, rfl⟩ := hA h
   exact Wd.Gu.start_div hu10 h hu00 hu01 hn0 hp1
  ·have : u1 = top := by omega
   subst this
   obtain ⟨rfl, rfl⟩ := hB rfl
   exact Wd.Gu.start_max ht0 hu00
 obtain ⟨P1, hP1⟩ : ∃ P, u1 * 18446744073709551616 + u0 = P := ⟨_, rfl⟩
 rw [hP1] at START ⊢
 have k0 : (0 : Int) ≤ 0 := by omega
 have k1 : (0 : Int) ≤ 1 := by omega
 have sA := fun (x : Int) (hx : 0 ≤ x) => add64 x top 0 hx ht0 k0 k1
 simp only [Int.add_zero] at sA
 have i1 : ((k : Int) + 2 - 1).toNat = k + 1 := by omega
 have i2 : ((k : Int) + 2 - 2).toNat = k := by omega
 have i3 : ((k : Int) + 2).toNat = k + 2 := by omega
 have l1 : (0 : Int) ≤ (k : Int) + 2 - 1 := by omega
 have l2 : (0 : Int) ≤ (k : Int) + 2 - 2 := by omega
 have l3 : (0 : Int) ≤ (k : Int) + 2 := by omega
 have m1 : (k : Int) + 2 - 1 < (k : Int) + 2 := by omega
 have m2 : (k : Int) + 2 - 2 < (k : Int) + 2 := by omega
 have m3 : (k : Int) + 2 < (k : Int) + 3 := by omega
 have m4 : (k : Int) + 2 - 1 < (k : Int) + 3 := by omega
 have m5 : (k : Int) + 2 - 2 < (k : Int) + 3 := by omega
 have w1 : IntKind.i64.wrap ((k : Int) + 2 - 1) = (k : Int) + 2 - 1 := by rw [IntKind.wrap_i64]; omega
 rcases Int.lt_or_le u1 top with hcs | hcs
 ·have HDV := hide (fun w => div64_any u1 u0 top hu10 hcs ⟨hu00, hu01⟩ ht1 w)
  have ST := hide (unhide START _ _ (fun _ => ⟨rfl, rfl⟩) (fun h => absurd h (by omega)))
  have hST : (P1 % top) < 18446744073709551616 := by have := Int.emod_lt_of_pos P1 htop; omega
  have hST0 : 0 ≤ P1 % top := Int.emod_nonneg _ (by omega)
  rw [hP1] at HDV
  clear START hP1
  go_enter Tryz.func192, Tryz.ntmps192
  go_wp2_with fail
  go_quiet (fail)
  go_wp2_with fail
  go_quiet ((go_at_call 157; refine (unhide HDV _).mono ?_; rintro e w' ⟨rfl, m, rfl⟩; exact ⟨rfl, _, by rw [World.drewN_drewN, Nat.add_assoc]⟩))
  go_wp2_with fail
  rw [World.drewN_drewN]
  go_loop [8, 9, 10] (fun vt vr vo => ∃ t r, vt = .int .u64 t ∧ vr = .int .u64 (r % 18446744073709551616) ∧ vo = .int .u64 (r / 18446744073709551616) ∧ r < 36893488147419103232 ∧
   Wd.Gu P1 (P1 * 18446744073709551616 + p0) top (top * 18446744073709551616 + next) t r) (fun vt _ _ => (intOf vt).toNat)
  case atStart => exact ⟨_, _, rfl, by rw [Int.emod_eq_of_lt (unhide ST).r0 hST], by rw [Int.ediv_eq_zero_of_lt (unhide ST).r0 hST], by omega, unhide ST⟩
  case round =>
   obtain ⟨t, r, rfl, rfl, rfl, hr2, G⟩ := hrel
   have HG := hide G
   have hr0 := G.r0
   have tt0 := G.t0
   have tt1 := G.t1
   rcases Int.lt_or_le r 18446744073709551616 with hr | hr
   ·have er : r % 18446744073709551616 = r := by omega
    have eo : r / 18446744073709551616 = 0 := by omega
    rw [er, eo]
    have HM := hide (fun w => mul64 t next ⟨tt0, tt1⟩ (unhide WN) w)
    obtain ⟨hi, hhi⟩ : ∃ x, t * next / 18446744073709551616 = x := ⟨_, rfl⟩
    obtain ⟨lo, hlo⟩ : ∃ x, t * next % 18446744073709551616 = x := ⟨_, rfl⟩
    have tn := mul_word_lt ⟨tt0, tt1⟩ (unhide WN)
    rw [hhi, hlo] at HM
    have hhi0 : 0 ≤ hi := by omega
    have hhi1 : hi < 18446744073709551616 := by omega
    have hlo0 : 0 ≤ lo := by omega
    have hlo1 : lo < 18446744073709551616 := by omega
    have FIN := hide (fun (h : t * next ≤ r * 18446744073709551616 + p0) => (⟨t, r, rfl, unhide HG, h⟩ : ∃ t' r', Ending.returned (Value.int .u64 t) = .returned (.int .u64 t') ∧ Wd.Gu P1 (P1 * 18446744073709551616 + p0) top (top * 18446744073709551616 + next) t' r' ∧ t' * next ≤ r' * 18446744073709551616 + p0))
    have STEP := hide (fun h => (unhide HG).step htop hp0 h)
    have sB := sA r hr0
    clear G sA
    rcases Int.lt_or_le hi r with hq | hq
    ·have OK := unhide FIN (by omega)
     have HOK := hide OK
     clear OK FIN STEP tn hhi hlo HG
     go_wp2_with (go_at_call 171; refine (unhide HM _).mono ?_; rintro e w' ⟨rfl, rfl⟩)
     go_ret
     exact by obtain ⟨t', r', h1, h2, h3⟩ := unhide HOK; exact ⟨t', r', h1, h2, h3, _, rfl⟩
    ·rcases Int.lt_or_le r hi with hq2 | hq2
     ·have ST2 := unhide STEP (by omega)
      have ht1' := ST2.1
      have HST := hide ST2.2
      have hne : (hi == r) = false := by rw [beq_eq_false_iff_ne]; omega
      clear ST2 FIN STEP tn hhi hlo HG
      go_wp2_with (go_at_call 171; refine (unhide HM _).mono ?_; rintro e w' ⟨rfl, rfl⟩)
      exact ⟨⟨t - 1, r + top, rfl, rfl, rfl, by omega, unhide HST⟩, by simp [intOf]; omega⟩
     ·obtain rfl : hi = r := by omega
      rcases Int.lt_or_le p0 lo with hq3 | hq3
      ·have ST2 := unhide STEP (by omega)
       have ht1' := ST2.1
       have HST := hide ST2.2
       clear ST2 FIN STEP tn hhi hlo HG
       go_wp2_with (go_at_call 171; refine (unhide HM _).mono ?_; rintro e w' ⟨rfl, rfl⟩)
       exact ⟨⟨t - 1, hi + top, rfl, rfl, rfl, by omega, unhide HST⟩, by simp [intOf]; omega⟩
      ·have OK := unhide FIN (by omega)
       have HOK := hide OK
       clear OK FIN STEP tn hhi hlo HG
       go_wp2_with (go_at_call 171; refine (unhide HM _).mono ?_; rintro e w' ⟨rfl, rfl⟩)
       go_ret
       exact by obtain ⟨t', r', h1, h2, h3⟩ := unhide HOK; exact ⟨t', r', h1, h2, h3, _, rfl⟩
   ·have hov : r / 18446744073709551616 = 1 := by omega
    rw [hov]
    have HOK := hide (⟨t, r, rfl, unhide HG, Gu_over (unhide HG) (unhide WN) hp0 hr⟩ : ∃ t' r', Ending.returned (Value.int .u64 t) = .returned (.int .u64 t') ∧ Wd.Gu P1 (P1 * 18446744073709551616 + p0) top (top * 18446744073709551616 + next) t' r' ∧ t' * next ≤ r' * 18446744073709551616 + p0)
    clear G sA HG
    go_wp2
    go_ret
    obtain ⟨t', r', h1, h2, h3⟩ := unhide HOK
    exact ⟨t', h1, r', h2, h3, _, rfl⟩
 ·have ST := hide (unhide START _ _ (fun h => absurd h (by omega)) (fun _ => ⟨rfl, rfl⟩))
  clear START hP1
  go_enter Tryz.func192, Tryz.ntmps192
  go_wp2_with fail
  go_quiet (fail)
  go_wp2_with (simp only [sA u0 hu00])
  go_loop [8, 9, 10] (fun vt vr vo => ∃ t r, vt = .int .u64 t ∧ vr = .int .u64 (r % 18446744073709551616) ∧ vo = .int .u64 (r / 18446744073709551616) ∧ r < 36893488147419103232 ∧
   Wd.Gu P1 (P1 * 18446744073709551616 + p0) top (top * 18446744073709551616 + next) t r) (fun vt _ _ => (intOf vt).toNat)
  case atStart => exact ⟨_, _, rfl, rfl, rfl, by omega, unhide ST⟩
  case round =>
   obtain ⟨t, r, rfl, rfl, rfl, hr2, G⟩ := hrel
   have HG := hide G
   have hr0 := G.r0
   have tt0 := G.t0
   have tt1 := G.t1
   rcases Int.lt_or_le r 18446744073709551616 with hr | hr
   ·have er : r % 18446744073709551616 = r := by omega
    have eo : r / 18446744073709551616 = 0 := by omega
    rw [er, eo]
    have HM := hide (fun w => mul64 t next ⟨tt0, tt1⟩ (unhide WN) w)
    obtain ⟨hi, hhi⟩ : ∃ x, t * next / 18446744073709551616 = x := ⟨_, rfl⟩
    obtain ⟨lo, hlo⟩ : ∃ x, t * next % 18446744073709551616 = x := ⟨_, rfl⟩
    have tn := mul_word_lt ⟨tt0, tt1⟩ (unhide WN)
    rw [hhi, hlo] at HM
    have hhi0 : 0 ≤ hi := by omega
    have hhi1 : hi < 18446744073709551616 := by omega
    have hlo0 : 0 ≤ lo := by omega
    have hlo1 : lo < 18446744073709551616 := by omega
    have FIN := hide (fun (h : t * next ≤ r * 18446744073709551616 + p0) => (⟨t, r, rfl, unhide HG, h⟩ : ∃ t' r', Ending.returned (Value.int .u64 t) = .returned (.int .u64 t') ∧ Wd.Gu P1 (P1 * 18446744073709551616 + p0) top (top * 18446744073709551616 + next) t' r' ∧ t' * next ≤ r' * 18446744073709551616 + p0))
    have STEP := hide (fun h => (unhide HG).step htop hp0 h)
    have sB := sA r hr0
    clear G sA
    rcases Int.lt_or_le hi r with hq | hq
    ·have OK := unhide FIN (by omega)
     have HOK := hide OK
     clear OK FIN STEP tn hhi hlo HG
     go_wp2_with (go_at_call 171; refine (unhide HM _).mono ?_; rintro e w' ⟨rfl, rfl⟩)
     go_ret
     exact by obtain ⟨t', r', h1, h2, h3⟩ := unhide HOK; exact ⟨t', r', h1, h2, h3, _, rfl⟩
    ·rcases Int.lt_or_le r hi with hq2 | hq2
     ·have ST2 := unhide STEP (by omega)
      have ht1' := ST2.1
      have HST := hide ST2.2
      have hne : (hi == r) = false := by rw [beq_eq_false_iff_ne]; omega
      clear ST2 FIN STEP tn hhi hlo HG
      go_wp2_with (go_at_call 171; refine (unhide HM _).mono ?_; rintro e w' ⟨rfl, rfl⟩)
      exact ⟨⟨t - 1, r + top, rfl, rfl, rfl, by omega, unhide HST⟩, by simp [intOf]; omega⟩
     ·obtain rfl : hi = r := by omega
      rcases Int.lt_or_le p0 lo with hq3 | hq3
      ·have ST2 := unhide STEP (by omega)
       have ht1' := ST2.1
       have HST := hide ST2.2
       clear ST2 FIN STEP tn hhi hlo HG
       go_wp2_with (go_at_call 171; refine (unhide HM _).mono ?_; rintro e w' ⟨rfl, rfl⟩)
       exact ⟨⟨t - 1, hi + top, rfl, rfl, rfl, by omega, unhide HST⟩, by simp [intOf]; omega⟩
      ·have OK := unhide FIN (by omega)
       have HOK := hide OK
       clear OK FIN STEP tn hhi hlo HG
       go_wp2_with (go_at_call 171; refine (unhide HM _).mono ?_; rintro e w' ⟨rfl, rfl⟩)
       go_ret
       exact by obtain ⟨t', r', h1, h2, h3⟩ := unhide HOK; exact ⟨t', r', h1, h2, h3, _, rfl⟩
   ·have hov : r / 18446744073709551616 = 1 := by omega
    rw [hov]
    have HOK := hide (⟨t, r, rfl, unhide HG, Gu_over (unhide HG) (unhide WN) hp0 hr⟩ : ∃ t' r', Ending.returned (Value.int .u64 t) = .returned (.int .u64 t') ∧ Wd.Gu P1 (P1 * 18446744073709551616 + p0) top (top * 18446744073709551616 + next) t' r' ∧ t' * next ≤ r' * 18446744073709551616 + p0)
    clear G sA HG
    go_wp2
    go_ret
    obtain ⟨t', r', h1, h2, h3⟩ := unhide HOK
    exact ⟨t', h1, r', h2, h3, _, rfl⟩
end Go.Proofs.YtcelbgleajpenaaGreatDoor
/- A digit's multiple taken away, and put right where it was one too many. -/
namespace Go.Proofs.YtcelbgleajpenaaGreatDoor
open Go.RowKit Go.Sort Go.Shelf

theorem take_val {d dk : Array Int} {h : Nat → Int} {i : Nat} {x y t cr bo s : Int} (hi : i < dk.size) (hx : h i = x) (hy : dk[i]! = y) (hr : dk[i]! = d[i]!) (hs : x * t + cr = s)
  (hy0 : 0 ≤ y) (hy1 : y < 18446744073709551616) (hb0 : 0 ≤ bo) (hb1 : bo ≤ 1)
  (hv : Wd.vl (fun j => dk[j]!) i + t * Wd.vl h i = Wd.vl (fun j => d[j]!) i + Wd.pw i * (cr + bo)) :
  Wd.vl (fun j => (dk.setIfInBounds i ((y - s % 18446744073709551616 - bo) % 18446744073709551616))[j]!) (i + 1) + t * Wd.vl h (i + 1) =
   Wd.vl (fun j => d[j]!) (i + 1) + Wd.pw (i + 1) * (s / 18446744073709551616 + bor y (s % 18446744073709551616 + bo)) := by
 rw [vl_set dk i _ hi, Wd.vl_succ, Wd.vl_succ, hx, ← hr, hy, Wd.pw_succ]
 have e := bor_eq y (s % 18446744073709551616 + bo) hy0 hy1 (by omega) (by omega)
 have e2 : y - s % 18446744073709551616 - bo = y - (s % 18446744073709551616 + bo) := by omega
 rw [e2, e]
 have e3 := Int.emod_add_mul_ediv s 18446744073709551616
 generalize bor y (s % 18446744073709551616 + bo) = z at *
 generalize s % 18446744073709551616 = lo at *
 generalize s / 18446744073709551616 = hi' at *
 generalize Wd.pw i = p at *
 generalize Wd.vl h i = H at *
 generalize Wd.vl (fun j => dk[j]!) i = D at *
 generalize Wd.vl (fun j => d[j]!) i = E at *
 grind

theorem take_end {d dk : Array Int} {n : Nat} {y t cr bo H : Int} (hi : n < dk.size) (hy : dk[n]! = y) (hr : dk[n]! = d[n]!)
  (hy0 : 0 ≤ y) (hy1 : y < 18446744073709551616) (hb0 : 0 ≤ bo) (hb1 : bo ≤ 1) (hc0 : 0 ≤ cr) (hc1 : cr < 18446744073709551616)
  (hv : Wd.vl (fun j => dk[j]!) n + t * H = Wd.vl (fun j => d[j]!) n + Wd.pw n * (cr + bo)) :
  Wd.vl (fun j => (dk.setIfInBounds n ((y - cr - bo) % 18446744073709551616))[j]!) (n + 1) + t * H = Wd.vl (fun j => d[j]!) (n + 1) + Wd.pw (n + 1) * bor y (cr + bo) := by
 rw [vl_set dk n _ hi, Wd.vl_succ, ← hr, hy, Wd.pw_succ]
 have e := bor_eq y (cr + bo) hy0 hy1 (by omega) (by omega)
 have e2 : y - cr - bo = y - (cr + bo) := by omega
 rw [e2, e]
 generalize bor y (cr + bo) = z at *
 generalize Wd.pw n = p at *
 generalize Wd.vl (fun j => dk[j]!) n = D at *
 generalize Wd.vl (fun j => d[j]!) n = E at *
 grind

set_option maxHeartbeats 2000000 in
set_option maxRecDepth 100000 in
theorem takeTimes_any (g o c : Nat) (d : Array Int) (n : Nat) (a' : Option Addr) (c' : Nat) (h : Nat → Int) (t : Int) (w : World) (hn : d.size = n + 1) (hH : Holds enc w g o d) (hd : ∀ j, j < n + 1 → Wd.W64 d[j]!) (hnc : n + 1 ≤ 9223372036854775807)
  (hg : RowIs w a' n c' h) (hh : ∀ j, j < n → Wd.W64 (h j)) (hne : 0 < n → ∀ b' o', a' = some ⟨b', o', none⟩ → b' ≠ g) (ht : Wd.W64 t) :
  Calls Tryz.prog 193 #[.slice (some ⟨g, o, none⟩) (n + 1 : Nat) c, .slice a' n c', .int .u64 t] w fun e w' => ∃ (bo : Int) (d' : Array Int), (bo = 0 ∨ bo = 1) ∧ e = .returned (.bool (bo != 0)) ∧ d'.size = n + 1 ∧ w' = putRow enc w g o d' ∧
   (∀ j, j < n + 1 → Wd.W64 d'[j]!) ∧ Wd.vl (fun j => d'[j]!) (n + 1) + t * Wd.vl h n = Wd.vl (fun j => d[j]!) (n + 1) + Wd.pw (n + 1) * bo := by
 obtain ⟨h1, h2, h3⟩ := hg
 have H3 := hide h3
 have HN := hide hne
 have HT := hide ht
 have HD := hide hd
 have HHW := hide hh
 have HH := hide hH
 obtain ⟨ht0, ht1⟩ := ht
 clear h3 hne hd hh
 go_enter Tryz.func193, Tryz.ntmps193
 go_wp2
 go_loopw [7, 8, 14] (fun vc vb vi wr => ∃ (i : Nat) (cr bo : Int) (dk : Array Int), vc = .int .u64 cr ∧ vb = .int .u64 bo ∧ vi = .int .i64 i ∧ 0 ≤ cr ∧ cr < 18446744073709551616 ∧ 0 ≤ bo ∧ bo ≤ 1 ∧ i ≤ n ∧ dk.size = n + 1 ∧ wr = putRow enc w g o dk ∧
   (∀ j, j < n + 1 → Wd.W64 dk[j]!) ∧ (∀ j, i ≤ j → dk[j]! = d[j]!) ∧ Wd.vl (fun j => dk[j]!) i + t * Wd.vl h i = Wd.vl (fun j => d[j]!) i + Wd.pw i * (cr + bo)) (fun _ _ vi _ => n - (intOf vi).toNat)
 case atStart => exact ⟨0, 0, 0, d, rfl, rfl, rfl, by decide, by decide, by decide, by decide, Nat.zero_le _, hn, (putRow_self _ _ _ _ _ hH).symm, unhide HD, fun _ _ => rfl, by simp [Wd.vl]⟩
 case round =>
  obtain ⟨i, cr, bo, dk, rfl, rfl, rfl, hc0, hc1, hb0, hb1, hi, hs, hwr, hw, hr, hv⟩ := hrel
  obtain ⟨y, hy⟩ : ∃ y, dk[i]! = y := ⟨_, rfl⟩
  have hyw := hw i (by omega)
  rw [hy] at hyw
  obtain ⟨hy0, hy1⟩ := hyw
  have hca : wr.cell? ⟨g, o + i, none⟩ = some (.int .u64 y) := by rw [hwr, ← hy]; exact cell?_putRow _ _ _ _ d dk (unhide HH) (by omega) i (by omega)
  have hfa : wr.frozen? ⟨g, o + i, none⟩ = false := by rw [hwr, frozen?_putRow]; exact (unhide HH i (by omega)).2
  by_cases hlt : i < n
  ·obtain ⟨b', o', ha', hlt', hc'⟩ := unhide H3 (by omega)
   have hbb := unhide HN (by omega) b' o' ha'
   obtain ⟨x, hx⟩ : ∃ x, h i = x := ⟨_, rfl⟩
   have hcb := hc' i hlt
   rw [hx, ← cell?_putRow_other enc w g o dk ⟨b', o' + i, none⟩ (Or.inl hbb), ← hwr] at hcb
   have hxw := unhide HHW i hlt
   rw [hx] at hxw
   have HMA := hide (mulAdd_any x t 0 cr hxw (unhide HT) ⟨by decide, by decide⟩ ⟨hc0, hc1⟩ wr)
   have mb := mul_word_lt hxw (unhide HT)
   obtain ⟨s, hs'⟩ : ∃ s, x * t + cr = s := ⟨_, rfl⟩
   have e0 : x * t + 0 + cr = s := by omega
   rw [e0] at HMA
   have hs0 : 0 ≤ s / 18446744073709551616 := by omega
   have hs1 : s / 18446744073709551616 < 18446744073709551616 := by omega
   have FIN : Hid (∃ (i' : Nat) (cr' bo' : Int) (dk' : Array Int), Value.int .u64 (s / 18446744073709551616) = .int .u64 cr' ∧ Value.int .u64 (bor y (s % 18446744073709551616 + bo)) = .int .u64 bo' ∧ Value.int .i64 ((i : Int) + 1) = .int .i64 i' ∧ 0 ≤ cr' ∧ cr' < 18446744073709551616 ∧ 0 ≤ bo' ∧ bo' ≤ 1 ∧ i' ≤ n ∧ dk'.size = n + 1 ∧
     wr.setCell ⟨g, o + i, none⟩ (.int .u64 ((y - s % 18446744073709551616 - bo) % 18446744073709551616)) = putRow enc w g o dk' ∧
     (∀ j, j < n + 1 → Wd.W64 dk'[j]!) ∧ (∀ j, i' ≤ j → dk'[j]! = d[j]!) ∧ Wd.vl (fun j => dk'[j]!) i' + t * Wd.vl h i' = Wd.vl (fun j => d[j]!) i' + Wd.pw i' * (cr' + bo')) := by
    refine ⟨i + 1, _, _, dk.setIfInBounds i ((y - s % 18446744073709551616 - bo) % 18446744073709551616), rfl, rfl, by go_num, hs0, hs1, (bor_bd _ _).1, (bor_bd _ _).2, hlt, by simpa using hs, ?_, words_set hw (mod_w _) (by omega), fun j hj => ?_, take_val (by omega) hx hy (hr i (Nat.le_refl _)) hs' hy0 hy1 hb0 hb1 hv⟩
    ·rw [hwr]; exact putRow_set enc w g o dk i _ (by omega)
    ·rw [getElem!_set_other dk i j _ (by omega)]; exact hr j (by omega)
   subst ha'
   have sS := sub64 y (s % 18446744073709551616) bo hy0 (by omega) (by omega) hb0 hb1
   clear hv hr hw hx hy hwr hc' H3 HN HD HHW HH hH HT hxw mb hs' e0
   go_wp2_with (first | (go_at_call 143; refine (unhide HMA).mono ?_; rintro e w' ⟨rfl, rfl⟩) | fail)
   exact ⟨unhide FIN, by simp [intOf]; omega⟩
  ·obtain rfl : i = n := by omega
   have FIN : Hid (∃ (d' : Array Int), d'.size = i + 1 ∧ wr.setCell ⟨g, o + i, none⟩ (.int .u64 ((y - cr - bo) % 18446744073709551616)) = putRow enc w g o d' ∧
     (∀ j, j < i + 1 → Wd.W64 d'[j]!) ∧ Wd.vl (fun j => d'[j]!) (i + 1) + t * Wd.vl h i = Wd.vl (fun j => d[j]!) (i + 1) + Wd.pw (i + 1) * bor y (cr + bo)) := by
    refine ⟨dk.setIfInBounds i ((y - cr - bo) % 18446744073709551616), by simpa using hs, ?_, words_set hw (mod_w _) (by omega), take_end (by omega) hy (hr i (Nat.le_refl _)) hy0 hy1 hb0 hb1 hc0 hc1 hv⟩
    rw [hwr]; exact putRow_set enc w g o dk i _ (by omega)
   have sS := sub64 y cr bo hy0 hc0 hc1 hb0 hb1
   have hbz : bor y (cr + bo) = 0 ∨ bor y (cr + bo) = 1 := by have := bor_bd y (cr + bo); omega
   generalize bor y (cr + bo) = z at *
   clear hv hr hw hy hwr H3 HN HD HHW HH hH HT
   go_wp2
   go_ret
   obtain ⟨d', f1, f2, f3, f4⟩ := unhide FIN
   exact ⟨z, d', hbz, rfl, f1, f2, f3, f4⟩
end Go.Proofs.YtcelbgleajpenaaGreatDoor
/- One digit of a long division, whole. -/
namespace Go.Proofs.YtcelbgleajpenaaGreatDoor
open Go.RowKit Go.Sort Go.Shelf

theorem vl_top3 (f : Nat → Int) (k : Nat) : Wd.vl f (k + 3) = Wd.vl f k + Wd.pw k * ((f (k + 2) * 18446744073709551616 + f (k + 1)) * 18446744073709551616 + f k) := by
 rw [Wd.vl_succ, Wd.vl_succ, Wd.vl_succ, Wd.pw_succ (k + 1), Wd.pw_succ k]; generalize Wd.pw k = p; grind
theorem vl_top2 (f : Nat → Int) (k : Nat) : Wd.vl f (k + 2) = Wd.vl f k + Wd.pw k * (f (k + 1) * 18446744073709551616 + f k) := by
 rw [Wd.vl_succ, Wd.vl_succ, Wd.pw_succ k]; generalize Wd.pw k = p; grind
theorem part_bd {L p X P : Int} (h : P = L + p * X) (h0 : 0 ≤ L) (h1 : L < p) : X * p ≤ P ∧ P < (X + 1) * p := by
 constructor
 ·rw [Int.mul_comm]; omega
 ·rw [Int.add_mul, Int.one_mul, Int.mul_comm]; omega

theorem holds_row {w : World} {g o c : Nat} {d : Array Int} (h : Holds enc w g o d) (h1 : d.size ≤ c) (h2 : c ≤ 9223372036854775807) : RowIs w (some ⟨g, o, none⟩) d.size c (fun j => d[j]!) :=
 ⟨h1, h2, fun hp => ⟨g, o, rfl, by
  have := (h 0 hp).1
  obtain ⟨cc, e, fr, hb, _⟩ := cells_of_cell? this
  exact (Array.getElem?_eq_some_iff.1 hb).1, fun j hj => (h j hj).1⟩⟩

theorem digit_fin {P B t V V2 p bo cr : Int} (hB : 0 < B) (hq1 : P / B ≤ t) (hq2 : t ≤ P / B + 1) (hV0 : 0 ≤ V) (hV1 : V < p) (hv : V + t * B = P + p * bo) (hb : bo = 0 ∨ bo = 1)
  (_ : B ≤ p) (_ : 0 ≤ V2) (hV21 : V2 < p) (hc0 : 0 ≤ cr) (hc1 : cr ≤ 1) (hv2 : bo = 1 → V2 + p * cr = V + B) : (bo = 0 → t = P / B ∧ V = P % B) ∧ (bo = 1 → t - 1 = P / B ∧ V2 = P % B) := by
 have e := Int.emod_add_mul_ediv P B
 have m0 := Int.emod_nonneg P (b := B) (by omega)
 have m1 := Int.emod_lt_of_pos P hB
 have ht : t = P / B ∨ t = P / B + 1 := by omega
 generalize P / B = q at *
 generalize P % B = r at *
 refine ⟨fun h => ?_, fun h => ?_⟩
 ·subst h
  rcases ht with rfl | rfl
  ·rw [Int.mul_comm t B] at hv
   exact ⟨rfl, by omega⟩
  ·exfalso
   rw [Int.add_mul, Int.mul_comm q B] at hv
   omega
 ·subst h
  have hv3 := hv2 rfl
  rcases ht with rfl | rfl
  ·exfalso
   rw [Int.mul_comm t B] at hv
   omega
  ·rw [Int.add_mul, Int.mul_comm q B] at hv
   refine ⟨by omega, ?_⟩
   have : cr = 0 ∨ cr = 1 := by omega
   rcases this with rfl | rfl <;> omega

set_option maxHeartbeats 2000000 in
set_option maxRecDepth 100000 in
theorem takeAway_any (g o c : Nat) (d : Array Int) (k : Nat) (a' : Option Addr) (c' : Nat) (B : Int) (w : World) (hn : d.size = k + 3) (hH : Holds enc w g o d) (hd : ∀ j, j < k + 3 → Wd.W64 d[j]!) (hc : k + 3 ≤ c) (hcc : c ≤ 9223372036854775807)
  (hl : Wd.Len B (k + 2)) (hg : RowIs w a' (k + 2) c' (Wd.dig B)) (hne : ∀ b' o', a' = some ⟨b', o', none⟩ → b' ≠ g) (hP : Wd.vl (fun j => d[j]!) (k + 3) < B * 18446744073709551616) :
  Calls Tryz.prog 169 #[.slice (some ⟨g, o, none⟩) (k + 3 : Nat) c, .slice a' (k + 2 : Nat) c'] w fun e w' => e = .returned (.int .u64 (Wd.vl (fun j => d[j]!) (k + 3) / B)) ∧
   ∃ (d' : Array Int) (z : Nat), d'.size = k + 3 ∧ w' = (putRow enc w g o d').drewN z ∧ (∀ j, j < k + 3 → Wd.W64 d'[j]!) ∧ Wd.vl (fun j => d'[j]!) (k + 3) = Wd.vl (fun j => d[j]!) (k + 3) % B := by
 have hvB : Wd.vl (Wd.dig B) (k + 2) = B := Wd.vl_dig_all hl.1 hl.2.1
 have hvB3 : Wd.vl (Wd.dig B) (k + 3) = B := Wd.vl_dig_all hl.1 (Int.lt_of_lt_of_le hl.2.1 (Wd.pw_mono (by omega)))
 have hB2 := hl.2.1
 have hB1 : Wd.pw (k + 1) ≤ B := by
  rcases hl.2.2 with h | h
  ·omega
  ·exact h
 have hp := Wd.pw_pos k
 have hp1 := Wd.pw_succ k
 have hp2 := Wd.pw_succ (k + 1)
 have hp3 := Wd.pw_succ (k + 2)
 have hBb := Wd.vl_bd (f := Wd.dig B) (n := k) (fun j _ => Wd.dig_w B j)
 have hDb := Wd.vl_bd (f := fun j => d[j]!) (n := k) (fun j hj => hd j (by omega))
 have hD3 := Wd.vl_bd (f := fun j => d[j]!) (n := k + 3) hd
 have tB := vl_top2 (Wd.dig B) k
 have tP := vl_top3 (fun j => d[j]!) k
 rw [hvB] at tB
 have hB0 : 0 < B := by omega
 have wt := Wd.dig_w B (k + 1)
 have wn := Wd.dig_w B k
 have w0 := hd k (by omega)
 have w1 := hd (k + 1) (by omega)
 have w2 := hd (k + 2) (by omega)
 have htop : 0 < Wd.dig B (k + 1) := by
  have := Wd.dig_top (n := k + 1) hB2 hB1
  have := wt.1; omega
 have hle : d[k + 2]! ≤ Wd.dig B (k + 1) := by
  rcases Int.lt_or_le (Wd.dig B (k + 1)) d[k + 2]! with h | h
  ·exfalso
   have a1 : Wd.pw k * (18446744073709551616 * (18446744073709551616 * (Wd.dig B (k + 1) + 1))) ≤ Wd.pw k * (18446744073709551616 * (18446744073709551616 * d[k + 2]!)) := Int.mul_le_mul_of_nonneg_left (by omega) (by omega)
   have a2 : Wd.pw k * (18446744073709551616 * (18446744073709551616 * d[k + 2]!)) ≤ Wd.pw k * ((d[k + 2]! * 18446744073709551616 + d[k + 1]!) * 18446744073709551616 + d[k]!) := Int.mul_le_mul_of_nonneg_left (by have := w0.1; have := w1.1; omega) (by omega)
   have a3 : Wd.pw k * (18446744073709551616 * (Wd.dig B (k + 1) * 18446744073709551616 + Wd.dig B k + 1)) ≤ Wd.pw k * (18446744073709551616 * (18446744073709551616 * (Wd.dig B (k + 1) + 1))) := Int.mul_le_mul_of_nonneg_left (by have := wn.2; omega) (by omega)
   have a4 : Wd.pw k * (18446744073709551616 * (Wd.dig B (k + 1) * 18446744073709551616 + Wd.dig B k + 1)) = 18446744073709551616 * (Wd.pw k * (Wd.dig B (k + 1) * 18446744073709551616 + Wd.dig B k)) + 18446744073709551616 * Wd.pw k := by grind
   omega
  ·exact h
 have hrow := holds_row hH (c := c) (by omega) hcc
 rw [hn] at hrow
 have HG := hide (guess_any (some ⟨g, o, none⟩) a' c c' k (fun j => d[j]!) (Wd.dig B) w hrow hg hd (fun j _ => Wd.dig_w B j) htop hle)
 have HTK := hide (fun (t : Int) (ht : Wd.W64 t) (z : Nat) => takeTimes_any g o c d (k + 2) a' c' (Wd.dig B) t (w.drewN z) hn hH hd (by omega) hg (fun j _ => Wd.dig_w B j) (fun _ => hne) ht)
 have HAD := hide (fun (d' : Array Int) (hs : d'.size = k + 3) (hw : ∀ j, j < k + 3 → Wd.W64 d'[j]!) (z : Nat) => (by
  have h := addInto_any g o c d' a' (k + 2) c' (Wd.dig B) (putRow enc (w.drewN z) g o d') (holds_putRow enc (w.drewN z) g o d d' hH (by omega)) (by rw [hs]; exact hw) (by omega)
   ⟨hg.1, hg.2.1, fun hp => by
    obtain ⟨b, o1, e, hlt, hcell⟩ := hg.2.2 hp
    refine ⟨b, o1, e, by simpa [putRow, mapBlock] using hlt, fun j hj => ?_⟩
    rw [cell?_putRow_other _ _ _ _ _ _ (Or.inl (hne b o1 e))]
    exact hcell j hj⟩ (fun j => Wd.dig_w B j) (dig_zero_above hl) (fun _ => hne)
  rw [hs, hvB3] at h
  exact h :
   Calls Tryz.prog 173 #[.slice (some ⟨g, o, none⟩) (k + 3 : Nat) c, .slice a' (k + 2 : Nat) c'] (putRow enc (w.drewN z) g o d') fun e w' => e = .returned (.tuple #[]) ∧
   ∃ d'' : Array Int, d''.size = k + 3 ∧ w' = putRow enc (putRow enc (w.drewN z) g o d') g o d'' ∧ (∀ j, j < k + 3 → Wd.W64 d''[j]!) ∧
    ∃ cr : Int, 0 ≤ cr ∧ cr ≤ 1 ∧ Wd.vl (fun j => d''[j]!) (k + 3) + Wd.pw (k + 3) * cr = Wd.vl (fun j => d'[j]!) (k + 3) + B))
 have HGF := hide (fun (t r : Int) (G : Wd.Gu (d[k + 2]! * 18446744073709551616 + d[k + 1]!) ((d[k + 2]! * 18446744073709551616 + d[k + 1]!) * 18446744073709551616 + d[k]!) (Wd.dig B (k + 1)) (Wd.dig B (k + 1) * 18446744073709551616 + Wd.dig B k) t r)
   (h : t * Wd.dig B k ≤ r * 18446744073709551616 + d[k]!) => (⟨(G.fin (P := Wd.vl (fun j => d[j]!) (k + 3)) (B := B) hp hB0 (part_bd tP hDb.1 hDb.2).1 (part_bd tP hDb.1 hDb.2).2 (part_bd tB hBb.1 hBb.2).1 (part_bd tB hBb.1 hBb.2).2 (by omega) hP h), ⟨G.t0, G.t1⟩⟩ :
    (Wd.vl (fun j => d[j]!) (k + 3) / B ≤ t ∧ t ≤ Wd.vl (fun j => d[j]!) (k + 3) / B + 1 ∧ 0 ≤ Wd.vl (fun j => d[j]!) (k + 3) / B ∧ Wd.vl (fun j => d[j]!) (k + 3) / B < 18446744073709551616) ∧ Wd.W64 t))
 have hBp3 : B ≤ Wd.pw (k + 3) := Int.le_of_lt (Int.lt_of_lt_of_le hB2 (Wd.pw_mono (by omega)))
 have HvB := hide hvB
 clear hvB hvB3 hB2 hB1 hp hp1 hp2 hp3 hBb hDb tB tP wt wn w0 w1 w2 htop hle hrow hd hH hl hg hne hP hcc hc hD3
 generalize Wd.vl (fun j => d[j]!) (k + 3) = P at *
 go_enter Tryz.func169, Tryz.ntmps169
 go_wp2_with fail
 refine (unhide HG).mono ?_
 rintro e w1 ⟨t, r, rfl, G, hG, z, rfl⟩
 obtain ⟨⟨q1, q2, q3, q4⟩, ht⟩ := unhide HGF t r G hG
 have HTT := hide (unhide HTK t ht z)
 have ⟨ht0, ht1⟩ := ht
 clear HG HTK HGF G hG ht
 go_wp2_with fail
 refine (unhide HTT).mono ?_
 rintro e w2 ⟨bo, d', hbo, rfl, hs', rfl, hw', hv'⟩
 have hV := Wd.vl_bd (f := fun j => d'[j]!) (n := k + 3) hw'
 have hv2 : Wd.vl (fun j => d'[j]!) (k + 3) + t * B = P + Wd.pw (k + 3) * bo := by rw [unhide HvB] at hv'; exact hv'
 have HW' := hide hw'
 have HAD' := hide (unhide HAD d' hs' hw' z)
 clear HTT HAD hv' hw'
 rcases hbo with rfl | rfl
 ·have F := hide ((digit_fin (V2 := 0) (cr := 0) hB0 q1 q2 hV.1 hV.2 hv2 (Or.inl rfl) hBp3 (by decide) (by omega) (by decide) (by decide) (fun h => by omega)).1 rfl)
  clear hv2 hV HAD'
  go_wp2_with fail
  go_ret
  refine ⟨by rw [(unhide F).1]; rfl, d', z, hs', rfl, unhide HW', (unhide F).2⟩
 ·go_wp2_with fail
  refine (unhide HAD').mono ?_
  rintro e w3 ⟨rfl, d2, hs2, rfl, hw2, cr, hc0, hc1, hv3⟩
  have hV2 := Wd.vl_bd (f := fun j => d2[j]!) (n := k + 3) hw2
  have F := hide ((digit_fin hB0 q1 q2 hV.1 hV.2 hv2 (Or.inr rfl) hBp3 hV2.1 hV2.2 hc0 hc1 (fun _ => hv3)).2 rfl)
  have HW2 := hide hw2
  have F1 := (unhide F).1
  clear hv2 hV HAD' hV2 hw2 hv3
  go_wp2
  go_ret
  refine ⟨by rw [← F1]; rfl, d2, z, hs2, ?_, unhide HW2, (unhide F).2⟩
  rw [putRow_putRow _ _ _ _ _ _ (by omega)]
  rfl
end Go.Proofs.YtcelbgleajpenaaGreatDoor
/- A window into a row of words, and numbers in rows of the call's own. -/
namespace Go.Proofs.YtcelbgleajpenaaGreatDoor
open Go.RowKit Go.Sort Go.Shelf

def win (d : Array Int) (i k : Nat) : Array Int := Array.ofFn (n := k) (fun j => d[i + j.1]!)
def spl (d dw : Array Int) (i : Nat) : Array Int := Array.ofFn (n := d.size) (fun j => if i ≤ j.1 ∧ j.1 < i + dw.size then dw[j.1 - i]! else d[j.1]!)
theorem win_size (d : Array Int) (i k : Nat) : (win d i k).size = k := by simp [win]
theorem spl_size (d dw : Array Int) (i : Nat) : (spl d dw i).size = d.size := by simp [spl]
theorem win_get (d : Array Int) (i k j : Nat) (h : j < k) : (win d i k)[j]! = d[i + j]! := by
 rw [getElem!_pos (win d i k) j (by rw [win_size]; exact h)]; simp [win]
theorem spl_get (d dw : Array Int) (i j : Nat) (h : j < d.size) : (spl d dw i)[j]! = if i ≤ j ∧ j < i + dw.size then dw[j - i]! else d[j]! := by
 rw [getElem!_pos (spl d dw i) j (by rw [spl_size]; exact h)]; simp only [spl, Array.getElem_ofFn]

theorem own_win {w : World} {g : Nat} {d : Array Int} (h : OwnRow w g d) {i k : Nat} (hi : i + k ≤ d.size) : Holds enc w g i (win d i k) := fun j hj => by
 rw [win_size] at hj
 rw [win_get d i k j hj]
 have := h.holds (i + j) (by omega)
 rw [Nat.zero_add] at this
 exact this

theorem own_spl {w : World} {g : Nat} {d dw : Array Int} {i : Nat} (h : OwnRow w g d) : OwnRow (putRow enc w g i dw) g (spl d dw i) := by
 unfold OwnRow at *
 simp only [putRow, mapBlock, Array.getElem?_modify, h, if_true, Option.map_some, onCells]
 congr 2
 apply Array.ext_getElem?
 intro k
 simp only [putCells, Array.getElem?_mapIdx, Array.getElem?_map]
 by_cases hk : k < d.size
 ·rw [Array.getElem?_eq_getElem hk, Array.getElem?_eq_getElem (by rw [spl_size]; exact hk)]
  have e := spl_get d dw i k hk
  rw [getElem!_pos (spl d dw i) k (by rw [spl_size]; exact hk)] at e
  simp only [Option.map_some, e]
  split
  ·rfl
  ·rw [getElem!_pos d k hk]
 ·rw [Array.getElem?_eq_none (by omega : d.size ≤ k), Array.getElem?_eq_none (by rw [spl_size]; omega)]; rfl

theorem own_other {w : World} {g g' i : Nat} {d dw : Array Int} (h : OwnRow w g d) (hne : g ≠ g') : OwnRow (putRow enc w g' i dw) g d := by
 unfold OwnRow at *
 simp only [putRow, mapBlock, Array.getElem?_modify]
 rw [if_neg (Ne.symm hne)]
 exact h
theorem OwnRow.drewN {w : World} {g : Nat} {d : Array Int} (h : OwnRow w g d) (z : Nat) : OwnRow (w.drewN z) g d := h
theorem own_set {w : World} {g : Nat} {d : Array Int} {i : Nat} {x : Int} (h : OwnRow w g d) (hi : i < d.size) : OwnRow (w.setCell ⟨g, i, none⟩ (.int .u64 x)) g (d.setIfInBounds i x) := by
 have e : w.setCell ⟨g, i, none⟩ (.int .u64 x) = putRow enc w g 0 (d.setIfInBounds i x) := by
  have := putRow_set enc w g 0 d i x hi
  rw [putRow_self _ _ _ _ _ h.holds, Nat.zero_add] at this
  exact this
 rw [e]
 exact h.put (by simp)
theorem own_set_other {w : World} {g g' i : Nat} {d : Array Int} {x : Value} (h : OwnRow w g d) (hne : g ≠ g') : OwnRow (w.setCell ⟨g', i, none⟩ x) g d := by
 rw [setCell_eq]
 unfold OwnRow at *
 simp only [mapBlock, Array.getElem?_modify]
 rw [if_neg (Ne.symm hne)]
 exact h
theorem below_setCell {B g i : Nat} {w : World} {x : Value} (h : B ≤ g) : Below B w (w.setCell ⟨g, i, none⟩ x) := by
 rw [setCell_eq]
 refine ⟨rfl, rfl, rfl, by simp [mapBlock], fun k hk => ?_⟩
 simp only [mapBlock, Array.getElem?_modify]
 rw [if_neg (by omega)]
theorem size_setCell (w : World) (g i : Nat) (x : Value) : (w.setCell ⟨g, i, none⟩ x).heap.size = w.heap.size := by
 rw [setCell_eq]; simp [mapBlock]
theorem size_putRow (w : World) (g i : Nat) (d : Array Int) : (putRow enc w g i d).heap.size = w.heap.size := by simp [putRow, mapBlock]

theorem vl_three (f : Nat → Int) (i k r : Nat) : Wd.vl f (i + (k + r)) = Wd.vl f i + Wd.pw i * Wd.vl (fun j => f (i + j)) k + Wd.pw i * Wd.pw k * Wd.vl (fun j => f (i + (k + j))) r := by
 rw [Wd.vl_split, Wd.vl_split (fun j => f (i + j)), Int.mul_add]
 rw [Int.mul_assoc (Wd.pw i)]; omega

theorem vl_win (d : Array Int) (i k : Nat) : Wd.vl (fun j => (win d i k)[j]!) k = Wd.vl (fun j => d[i + j]!) k := Wd.vl_congr (fun j hj => win_get d i k j hj)

theorem vl_spl (d dw : Array Int) (i r : Nat) (hs : d.size = i + (dw.size + r)) :
  Wd.vl (fun j => (spl d dw i)[j]!) (i + (dw.size + r)) = Wd.vl (fun j => d[j]!) i + Wd.pw i * Wd.vl (fun j => dw[j]!) dw.size + Wd.pw i * Wd.pw dw.size * Wd.vl (fun j => d[i + (dw.size + j)]!) r := by
 rw [vl_three]
 have e1 : Wd.vl (fun j => (spl d dw i)[j]!) i = Wd.vl (fun j => d[j]!) i := Wd.vl_congr (fun j hj => by rw [spl_get d dw i j (by omega), if_neg (by omega)])
 have e2 : Wd.vl (fun j => (spl d dw i)[i + j]!) dw.size = Wd.vl (fun j => dw[j]!) dw.size := Wd.vl_congr (fun j hj => by rw [spl_get d dw i _ (by omega), if_pos (by omega), Nat.add_sub_cancel_left])
 have e3 : Wd.vl (fun j => (spl d dw i)[i + (dw.size + j)]!) r = Wd.vl (fun j => d[i + (dw.size + j)]!) r := Wd.vl_congr (fun j hj => by rw [spl_get d dw i _ (by omega), if_neg (by omega)])
 rw [e1, e2, e3]

theorem spl_words {d dw : Array Int} {i : Nat} (h : ∀ j, j < d.size → Wd.W64 d[j]!) (h' : ∀ j, j < dw.size → Wd.W64 dw[j]!) : ∀ j, j < d.size → Wd.W64 (spl d dw i)[j]! := fun j hj => by
 rw [spl_get d dw i j hj]
 split
 ·exact h' _ (by omega)
 ·exact h j hj

def OwnNat (base : Nat) (w : World) (v : Value) (N : Int) : Prop := ∃ (g m : Nat) (d : Array Int), v = .slice (some ⟨g, 0, none⟩) m d.size ∧ base ≤ g ∧ OwnRow w g d ∧ m ≤ d.size ∧ d.size ≤ 2199023255552 ∧ (∀ j, j < d.size → Wd.W64 d[j]!) ∧ Wd.Len N m ∧ Wd.vl (fun j => d[j]!) m = N

theorem OwnNat.natIs {base : Nat} {w : World} {v : Value} {N : Int} (h : OwnNat base w v N) : NatIs w v N := by
 obtain ⟨g, m, d, rfl, hb, ho, hm, hd, hw, hl, hv⟩ := h
 refine ⟨_, m, d.size, rfl, hl, hm, by omega, fun hp => ⟨g, 0, rfl, ho.lt, fun j hj => ?_⟩⟩
 rw [(ho.holds j (by omega)).1, ← hv, Wd.dig_vl (fun j hj => hw j (by omega)) hj]

theorem ownNat_trim {base : Nat} {w : World} {g m : Nat} {d : Array Int} (hb : base ≤ g) (ho : OwnRow w g d) (hs : d.size ≤ 2199023255552) (hw : ∀ j, j < d.size → Wd.W64 d[j]!) (hm : m ≤ d.size) {k : Nat} (hk : k ≤ d.size) (hmk : m ≤ k) (hl : Wd.Len (Wd.vl (fun j => d[j]!) k) m) :
  OwnNat base w (.slice (some ⟨g, 0, none⟩) m d.size) (Wd.vl (fun j => d[j]!) k) := by
 refine ⟨g, m, d, rfl, hb, ho, hm, hs, hw, hl, ?_⟩
 have e : Wd.vl (fun j => d[j]!) m = Wd.vl (Wd.dig (Wd.vl (fun j => d[j]!) k)) m := Wd.vl_congr (fun j hj => by rw [Wd.dig_vl (fun j hj => hw j (by omega)) (by omega)])
 rw [e]
 exact Wd.vl_dig_all hl.1 hl.2.1

theorem div_round {n i k : Nat} {d dw : Array Int} {B A W q : Int} (hn : d.size = n) (hk : dw.size = k + 3) (hi : i + (k + 3) ≤ n) (hd : ∀ j, j < n → Wd.W64 d[j]!) (hB : Wd.Len B (k + 2)) (hlt : Wd.vl (fun j => d[j]!) n < B * Wd.pw (i + 1)) (heq : Wd.vl (fun j => d[j]!) n + B * W = A)
  (hq : q = Wd.vl (fun j => (win d i (k + 3))[j]!) (k + 3) / B) (hr : Wd.vl (fun j => dw[j]!) (k + 3) = Wd.vl (fun j => (win d i (k + 3))[j]!) (k + 3) % B) :
  Wd.vl (fun j => (spl d dw i)[j]!) n + B * (W + Wd.pw i * q) = A ∧ Wd.vl (fun j => (spl d dw i)[j]!) n < B * Wd.pw i := by
 obtain ⟨r, rfl⟩ : ∃ r, n = i + (k + 3 + r) := ⟨n - i - (k + 3), by omega⟩
 have e1 := vl_three (fun j => d[j]!) i (k + 3) r
 have e2 := vl_spl d dw i r (by rw [hk]; exact hn)
 rw [hk] at e2
 rw [vl_win] at hq hr
 have b1 := Wd.vl_bd (f := fun j => d[j]!) (n := i) (fun j hj => hd j (by omega))
 have b2 := Wd.vl_bd (f := fun j => d[i + j]!) (n := k + 3) (fun j hj => hd _ (by omega))
 have b3 := Wd.vl_bd (f := fun j => d[i + (k + 3 + j)]!) (n := r) (fun j hj => hd _ (by omega))
 have hp := Wd.pw_pos i
 have hpk := Wd.pw_pos (k + 3)
 have hB0 : 0 < B := Wd.Len.pos hB (by omega)
 have hz : Wd.vl (fun j => d[i + (k + 3 + j)]!) r = 0 := by
  rcases Int.lt_or_le 0 (Wd.vl (fun j => d[i + (k + 3 + j)]!) r) with h | h
  ·exfalso
   have c1 : Wd.pw i * Wd.pw (k + 3) * 1 ≤ Wd.pw i * Wd.pw (k + 3) * Wd.vl (fun j => d[i + (k + 3 + j)]!) r := Int.mul_le_mul_of_nonneg_left (by omega) (Int.mul_nonneg (by omega) (by omega))
   have c2 : B * Wd.pw (i + 1) ≤ Wd.pw (k + 2) * Wd.pw (i + 1) := Int.mul_le_mul_of_nonneg_right (Int.le_of_lt hB.2.1) (Int.le_of_lt (Wd.pw_pos _))
   have c3 : Wd.pw (k + 2) * Wd.pw (i + 1) = Wd.pw i * Wd.pw (k + 3) := by rw [← Wd.pw_add, ← Wd.pw_add]; congr 1; omega
   have c4 : 0 ≤ Wd.pw i * Wd.vl (fun j => d[i + j]!) (k + 3) := Int.mul_nonneg (by omega) b2.1
   omega
  ·omega
 rw [hz, Int.mul_zero, Int.add_zero] at e1 e2
 have st := Wd.take_step e1 b1.1 b1.2 hq hB0 heq
 have e3 : Wd.vl (fun j => d[i + j]!) (k + 3) - q * B = Wd.vl (fun j => dw[j]!) (k + 3) := by
  have := Int.emod_add_mul_ediv (Wd.vl (fun j => d[i + j]!) (k + 3)) B
  rw [hr, hq, Int.mul_comm _ B]; omega
 rw [e3] at st
 rw [e2, Int.mul_comm B (Wd.pw i)]
 exact ⟨st.1, st.2.1⟩

theorem win_less {n i k : Nat} {d : Array Int} {B : Int} (hi : i + k ≤ n) (hd : ∀ j, j < n → Wd.W64 d[j]!) (hlt : Wd.vl (fun j => d[j]!) n < B * Wd.pw (i + 1)) : Wd.vl (fun j => (win d i k)[j]!) k < B * 18446744073709551616 := by
 obtain ⟨r, rfl⟩ : ∃ r, n = i + (k + r) := ⟨n - i - k, by omega⟩
 have e1 := vl_three (fun j => d[j]!) i k r
 rw [vl_win]
 have b1 := Wd.vl_bd (f := fun j => d[j]!) (n := i) (fun j hj => hd j (by omega))
 have b3 := Wd.vl_bd (f := fun j => d[i + (k + j)]!) (n := r) (fun j hj => hd _ (by omega))
 have hp := Wd.pw_pos i
 have h3 : 0 ≤ Wd.pw i * Wd.pw k * Wd.vl (fun j => d[i + (k + j)]!) r := Int.mul_nonneg (Int.mul_nonneg (by omega) (Int.le_of_lt (Wd.pw_pos k))) b3.1
 have h4 : Wd.pw i * Wd.vl (fun j => d[i + j]!) k < Wd.pw i * (B * 18446744073709551616) := by
  have : B * Wd.pw (i + 1) = Wd.pw i * (B * 18446744073709551616) := by rw [Wd.pw_succ]; grind
  omega
 exact Int.lt_of_mul_lt_mul_left h4 (by omega)
end Go.Proofs.YtcelbgleajpenaaGreatDoor
