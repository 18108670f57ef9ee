/- Long division and the greatest common divisor by upper words: plain mathematics, no program. -/
namespace Wd

theorem guess_le {P B P3 B2 p q : Int} (hp : 0 < p) (hP : P < (P3 + 1) * p) (hB : B2 * p ≤ B) (hq0 : 0 ≤ q) (hq : q * B ≤ P) : q * B2 ≤ P3 := by
  have a : q * (B2 * p) ≤ q * B := Int.mul_le_mul_of_nonneg_left hB hq0
  have b : (q * B2) * p < (P3 + 1) * p := by rw [Int.mul_assoc]; omega
  have := Int.lt_of_mul_lt_mul_right b (by omega)
  omega

theorem guess_near {P B P3 B2 p t : Int} (hp : 0 < p) (hP : P3 * p ≤ P) (hB : B < (B2 + 1) * p) (ht0 : 0 ≤ t) (ht : t * B2 ≤ P3) (htW : t * p < B) : t * B < P + B := by
  have a : t * B ≤ t * ((B2 + 1) * p) := Int.mul_le_mul_of_nonneg_left (by omega) ht0
  have b : t * ((B2 + 1) * p) = t * B2 * p + t * p := by rw [Int.add_mul, Int.mul_add, Int.mul_assoc, Int.one_mul]
  have c : t * B2 * p ≤ P3 * p := Int.mul_le_mul_of_nonneg_right ht (by omega)
  omega

/-- What the guess keeps: t is no less than any digit that may be, and r is what is left of the two upper words. -/
structure Gu (P1 P3 top B2 t r : Int) : Prop where
  t0 : 0 ≤ t
  t1 : t < 18446744073709551616
  r0 : 0 ≤ r
  eq : t * top + r = P1
  up : ∀ q, q < 18446744073709551616 → q * B2 ≤ P3 → q ≤ t

theorem Gu.test {P1 p0 top next t r : Int} (g : Gu P1 (P1 * 18446744073709551616 + p0) top (top * 18446744073709551616 + next) t r) :
    t * (top * 18446744073709551616 + next) ≤ P1 * 18446744073709551616 + p0 ↔ t * next ≤ r * 18446744073709551616 + p0 := by
  have e := g.eq
  have e2 : t * (top * 18446744073709551616 + next) = t * top * 18446744073709551616 + t * next := by rw [Int.mul_add, Int.mul_assoc]
  rw [e2]
  generalize t * top = x at *
  generalize t * next = y at *
  omega

theorem Gu.step {P1 p0 top next t r : Int} (g : Gu P1 (P1 * 18446744073709551616 + p0) top (top * 18446744073709551616 + next) t r) (htop : 0 < top) (hp : 0 ≤ p0)
    (h : ¬ t * next ≤ r * 18446744073709551616 + p0) : 1 ≤ t ∧ Gu P1 (P1 * 18446744073709551616 + p0) top (top * 18446744073709551616 + next) (t - 1) (r + top) := by
  have h1 : ¬ t * (top * 18446744073709551616 + next) ≤ P1 * 18446744073709551616 + p0 := fun h' => h (g.test.1 h')
  have t1 : 1 ≤ t := by
    rcases Int.lt_or_le t 1 with h' | h'
    · have : t = 0 := by have := g.t0; omega
      subst this
      exact absurd (by have := g.r0; omega) h
    · exact h'
  refine ⟨t1, by omega, by have := g.t1; omega, by have := g.r0; omega, ?_, fun q hq hh => ?_⟩
  · have := g.eq; rw [Int.sub_mul]; omega
  · have h2 := g.up q hq hh
    rcases Int.lt_or_le q t with h3 | h3
    · omega
    · have : q = t := by omega
      subst this
      exact absurd hh h1

theorem Gu.start_div {u1 u0 p0 top next : Int} (h0 : 0 ≤ u1) (h1 : u1 < top) (hu0 : 0 ≤ u0) (hu1 : u0 < 18446744073709551616) (hn : 0 ≤ next) (hp : p0 < 18446744073709551616) :
    Gu (u1 * 18446744073709551616 + u0) ((u1 * 18446744073709551616 + u0) * 18446744073709551616 + p0) top (top * 18446744073709551616 + next)
      ((u1 * 18446744073709551616 + u0) / top) ((u1 * 18446744073709551616 + u0) % top) := by
  have htop : 0 < top := by omega
  refine ⟨Int.ediv_nonneg (by omega) (by omega), ?_, Int.emod_nonneg _ (by omega), ?_, fun q _ hh => ?_⟩
  · refine (Int.ediv_lt_iff_lt_mul htop).2 ?_
    omega
  · have := Int.emod_add_mul_ediv (u1 * 18446744073709551616 + u0) top
    rw [Int.mul_comm]; omega
  · refine (Int.le_ediv_iff_mul_le htop).2 ?_
    rcases Int.lt_or_le q 0 with h | h
    · have : q * top ≤ 0 := Int.mul_nonpos_of_nonpos_of_nonneg (by omega) (by omega)
      omega
    · have e2 : q * (top * 18446744073709551616 + next) = q * top * 18446744073709551616 + q * next := by rw [Int.mul_add, Int.mul_assoc]
      rw [e2] at hh
      have : 0 ≤ q * next := Int.mul_nonneg h hn
      generalize q * top = x at *
      generalize q * next = y at *
      omega

theorem Gu.start_max {u0 P3 top B2 : Int} (h0 : 0 ≤ top) (hu0 : 0 ≤ u0) :
    Gu (top * 18446744073709551616 + u0) P3 top B2 18446744073709551615 (u0 + top) :=
  ⟨by decide, by decide, by omega, by omega, fun q hq _ => by omega⟩

/-- The digit that comes of it is right, or one too great. -/
theorem Gu.fin {P B P1 p0 top next t r p : Int} (g : Gu P1 (P1 * 18446744073709551616 + p0) top (top * 18446744073709551616 + next) t r) (hp : 0 < p) (hB0 : 0 < B)
    (hP0 : (P1 * 18446744073709551616 + p0) * p ≤ P) (hP1 : P < (P1 * 18446744073709551616 + p0 + 1) * p)
    (hB1 : (top * 18446744073709551616 + next) * p ≤ B) (hB2 : B < (top * 18446744073709551616 + next + 1) * p) (hBp : p * 18446744073709551616 ≤ B)
    (hPB : P < B * 18446744073709551616) (h : t * next ≤ r * 18446744073709551616 + p0) : P / B ≤ t ∧ t ≤ P / B + 1 ∧ 0 ≤ P / B ∧ P / B < 18446744073709551616 := by
  have ht := g.test.2 h
  have hPp : 0 ≤ P := by
    have := g.eq; have := g.t0; have := g.r0
    rcases Int.lt_or_le P 0 with h' | h'
    · exfalso
      have h5 : ¬ 0 ≤ P1 * 18446744073709551616 + p0 := fun h6 => by have := Int.mul_nonneg h6 (Int.le_of_lt hp); omega
      have h6 : 0 ≤ t * (top * 18446744073709551616 + next) := by
        refine Int.mul_nonneg g.t0 ?_
        rcases Int.lt_or_le (top * 18446744073709551616 + next) 0 with h7 | h7
        · have : (top * 18446744073709551616 + next + 1) * p ≤ 0 := Int.mul_nonpos_of_nonpos_of_nonneg (by omega) (by omega)
          omega
        · exact h7
      omega
    · exact h'
  have q0 : 0 ≤ P / B := Int.ediv_nonneg hPp (by omega)
  have q1 : P / B < 18446744073709551616 := (Int.ediv_lt_iff_lt_mul hB0).2 (by rw [Int.mul_comm]; exact hPB)
  have q2 : P / B * B ≤ P := Int.ediv_mul_le P (by omega)
  refine ⟨g.up _ q1 (guess_le hp hP1 hB1 q0 q2), ?_, q0, q1⟩
  have ht1 : t * p < B := by
    have := g.t1
    have a : t * p ≤ 18446744073709551615 * p := Int.mul_le_mul_of_nonneg_right (by omega) (by omega)
    omega
  have := guess_near hp hP0 hB2 g.t0 ht ht1
  have h3 : (t - 1) * B ≤ P := by rw [Int.sub_mul]; omega
  have := (Int.le_ediv_iff_mul_le hB0).2 h3
  omega

/-- One digit taken away. -/
theorem take_step {left low P B q p W A : Int} (hleft : left = low + p * P) (hl0 : 0 ≤ low) (hl1 : low < p) (hq : q = P / B) (hB : 0 < B) (hW : left + B * W = A) :
    low + p * (P - q * B) + B * (W + p * q) = A ∧ low + p * (P - q * B) < p * B ∧ 0 ≤ P - q * B ∧ P - q * B < B := by
  have e := Int.emod_add_mul_ediv P B
  have m0 := Int.emod_nonneg P (b := B) (by omega)
  have m1 := Int.emod_lt_of_pos P hB
  rw [← hq] at e
  have e1 : P - q * B = P % B := by rw [Int.mul_comm q B]; omega
  rw [e1]
  refine ⟨?_, ?_, m0, m1⟩
  · rw [Int.mul_add]
    have e2 : B * (p * q) = p * (B * q) := by rw [← Int.mul_assoc, ← Int.mul_assoc, Int.mul_comm B p]
    rw [e2]
    have e3 : p * P = p * (P % B) + p * (B * q) := by rw [← Int.mul_add, e]
    omega
  · have : p * (P % B + 1) ≤ p * B := Int.mul_le_mul_of_nonneg_left (by omega) (by omega)
    rw [Int.mul_add] at this
    omega

/-- Division of both by a power changes the quotient not. -/
theorem div_scaled {A B S L W : Int} (hS : 0 < S) (hB : 0 < B) (h0 : 0 ≤ L) (h1 : L < B * S) (h : L + B * S * W = A * S) : W = A / B ∧ L / S = A % B := by
  have hd : S ∣ L := by
    have : L = S * (A - B * W) := by
      rw [Int.mul_sub, Int.mul_comm S A, ← Int.mul_assoc, Int.mul_comm S B]; omega
    exact ⟨_, this⟩
  obtain ⟨l, rfl⟩ := hd
  have e : l + B * W = A := by
    have : S * (l + B * W) = S * A := by rw [Int.mul_add, ← Int.mul_assoc, Int.mul_comm S B, Int.mul_comm S A]; exact h
    exact Int.eq_of_mul_eq_mul_left (by omega) this
  have l0 : 0 ≤ l := by
    rcases Int.lt_or_le l 0 with h' | h'
    · have := Int.mul_neg_of_pos_of_neg hS h'; omega
    · exact h'
  have l1 : l < B := by
    rw [Int.mul_comm B S] at h1
    exact Int.lt_of_mul_lt_mul_left h1 (by omega)
  rw [Int.mul_ediv_cancel_left _ (by omega)]
  subst e
  constructor
  · rw [Int.add_mul_ediv_left _ _ (by omega), Int.ediv_eq_zero_of_lt l0 l1]; omega
  · rw [Int.add_mul_emod_self_left, Int.emod_eq_of_lt l0 l1]

/-- Euclid's steps on X and Y, and what they come to: s is 1 or -1 by turns. -/
structure Co (s X Y x y a1 a2 b1 b2 : Int) : Prop where
  sg : s = 1 ∨ s = -1
  ex : s * (a1 * X - b1 * Y) = x
  ey : s * (b2 * Y - a2 * X) = y
  det : s * (a1 * b2 - a2 * b1) = 1
  a10 : 0 ≤ a1
  a20 : 0 ≤ a2
  b10 : 0 ≤ b1
  b20 : 1 ≤ b2
  y0 : 0 ≤ y
  yx : y ≤ x
  le2 : a2 ≤ b2

theorem Co.start {X Y : Int} (h0 : 0 ≤ Y) (h : Y ≤ X) : Co 1 X Y X Y 1 0 0 1 :=
  ⟨Or.inl rfl, by omega, by omega, by omega, by omega, by omega, by omega, by omega, h0, h, by omega⟩

theorem Co.sumX {s X Y x y a1 a2 b1 b2 : Int} (c : Co s X Y x y a1 a2 b1 b2) : x * b2 + y * b1 = X := by
  obtain ⟨sg, ex, ey, det, _, _, _, _, _, _, _⟩ := c
  rcases sg with rfl | rfl <;> grind
theorem Co.sumY {s X Y x y a1 a2 b1 b2 : Int} (c : Co s X Y x y a1 a2 b1 b2) : x * a2 + y * a1 = Y := by
  obtain ⟨sg, ex, ey, det, _, _, _, _, _, _, _⟩ := c
  rcases sg with rfl | rfl <;> grind

theorem le_mul_of_one_le {a b : Int} (h : 1 ≤ a) (hb : 0 ≤ b) : b ≤ a * b := by
  have := Int.mul_le_mul_of_nonneg_right h hb
  omega

theorem Co.bound {s X Y x y a1 a2 b1 b2 : Int} (c : Co s X Y x y a1 a2 b1 b2) (hx : 1 ≤ x) : b2 ≤ X := by
  have h := c.sumX
  have h1 := le_mul_of_one_le hx (show 0 ≤ b2 by have := c.b20; omega)
  have h2 : 0 ≤ y * b1 := Int.mul_nonneg c.y0 c.b10
  omega
theorem Co.bound2 {s X Y x y a1 a2 b1 b2 : Int} (c : Co s X Y x y a1 a2 b1 b2) (hy : 1 ≤ y) : b1 + b2 ≤ X := by
  have h := c.sumX
  have := c.yx
  have h1 := le_mul_of_one_le (show 1 ≤ x by omega) (show 0 ≤ b2 by have := c.b20; omega)
  have h2 := le_mul_of_one_le hy c.b10
  omega

theorem Co.step {s X Y x y a1 a2 b1 b2 : Int} (c : Co s X Y x y a1 a2 b1 b2) (hy : 1 ≤ y) (hab : a1 ≤ b1 ∨ a1 = 1 ∧ a2 = 0) :
    Co (-s) X Y y (x % y) a2 (a1 + x / y * a2) b2 (b1 + x / y * b2) := by
  have e := Int.emod_add_mul_ediv x y
  have m0 := Int.emod_nonneg x (b := y) (by omega)
  have m1 := Int.emod_lt_of_pos x (show 0 < y by omega)
  have t1 : 1 ≤ x / y := (Int.le_ediv_iff_mul_le (by omega)).2 (by have := c.yx; omega)
  obtain ⟨sg, ex, ey, det, h1, h2, h3, h4, h5, h6, h7⟩ := c
  generalize x / y = t at *
  generalize x % y = r at *
  have f1 : t * a2 ≤ t * b2 := Int.mul_le_mul_of_nonneg_left h7 (by omega)
  have f2 : 0 ≤ t * a2 := Int.mul_nonneg (by omega) h2
  have f3 : b2 ≤ t * b2 := le_mul_of_one_le t1 (by omega)
  refine ⟨by omega, ?_, ?_, ?_, h2, by omega, by omega, by omega, m0, by omega, ?_⟩
  · rcases sg with rfl | rfl <;> grind
  · rcases sg with rfl | rfl <;> grind
  · rcases sg with rfl | rfl <;> grind
  · rcases hab with h | ⟨rfl, rfl⟩ <;> omega

/-- Steps that are sure: by them comes of A and B what is not below 0, and less. -/
structure Sure (s X Y a0 a1 b0 b1 : Int) : Prop where
  sg : s = 1 ∨ s = -1
  det : s * (a0 * b1 - a1 * b0) = 1
  a00 : 0 ≤ a0
  a11 : 1 ≤ a1
  le0 : a0 ≤ b0
  le1 : a1 ≤ b1
  c1 : b1 ≤ s * (b1 * Y - a1 * X)
  c2 : b0 + b1 ≤ s * (a0 * X - b0 * Y) - s * (b1 * Y - a1 * X)
  b1X : b1 ≤ X
  b0X : b0 ≤ X

/-- Behind a step that the test let by. -/
theorem Co.sure {s X Y x y a1 a2 b1 b2 : Int} (c : Co s X Y x y a1 a2 b1 b2) (h1 : b2 ≤ y) (h2 : b1 + b2 ≤ x - y) (hle : a1 ≤ b1) (ha : 1 ≤ a2) : Sure s X Y a1 a2 b1 b2 :=
  ⟨c.sg, c.det, c.a10, ha, hle, c.le2, by rw [c.ey]; exact h1, by rw [c.ex, c.ey]; exact h2, by have := c.b20; have := c.yx; exact c.bound (by omega), by have := c.b20; have := c.bound2 (by omega); omega⟩

theorem Sure.back {s X Y a0 a1 b0 b1 A B A' B' : Int} (c : Sure s X Y a0 a1 b0 b1) (hA : s * (a0 * A - b0 * B) = A') (hB : s * (b1 * B - a1 * A) = B') :
    A = b1 * A' + b0 * B' ∧ B = a1 * A' + a0 * B' := by
  have d := c.det
  rcases c.sg with rfl | rfl <;> subst hA hB <;> constructor <;> grind

theorem Sure.less {s X Y a0 a1 b0 b1 A B K al be A' B' : Int} (c : Sure s X Y a0 a1 b0 b1) (hK : 0 < K) (eA : A = K * X + al) (eB : B = K * Y + be) (ha0 : 0 ≤ al) (ha1 : al < K) (hb0 : 0 ≤ be) (hb1 : be < K)
    (hA : s * (a0 * A - b0 * B) = A') (hB : s * (b1 * B - a1 * A) = B') : 0 ≤ B' ∧ B' < A' ∧ A' ≤ B := by
  have bk := c.back hA hB
  have h0 := c.a00
  have h1 := c.a11
  have le0 := c.le0
  have le1 := c.le1
  have c1 := c.c1
  have c2 := c.c2
  have g1 : K * b1 ≤ K * (s * (b1 * Y - a1 * X)) := Int.mul_le_mul_of_nonneg_left c1 (by omega)
  have g2 : K * (b0 + b1) ≤ K * (s * (a0 * X - b0 * Y) - s * (b1 * Y - a1 * X)) := Int.mul_le_mul_of_nonneg_left c2 (by omega)
  have u1 : 0 ≤ b1 * be := Int.mul_nonneg (by omega) hb0
  have u2 : 0 ≤ a1 * al := Int.mul_nonneg (by omega) ha0
  have v1 : a1 * al ≤ a1 * K := Int.mul_le_mul_of_nonneg_left (by omega) (by omega)
  have v2 : b1 * be ≤ b1 * K := Int.mul_le_mul_of_nonneg_left (by omega) (by omega)
  have v3 : a1 * K ≤ b1 * K := Int.mul_le_mul_of_nonneg_right le1 (by omega)
  have u3 : 0 ≤ (a0 + a1) * al := Int.mul_nonneg (by omega) ha0
  have u4 : 0 ≤ (b0 + b1) * be := Int.mul_nonneg (by omega) hb0
  have w1 : (a0 + a1) * (al + 1) ≤ (a0 + a1) * K := Int.mul_le_mul_of_nonneg_left (by omega) (by omega)
  have w2 : (b0 + b1) * (be + 1) ≤ (b0 + b1) * K := Int.mul_le_mul_of_nonneg_left (by omega) (by omega)
  have w3 : (a0 + a1) * K ≤ (b0 + b1) * K := Int.mul_le_mul_of_nonneg_right (by omega) (by omega)
  have B0 : 0 ≤ B' := by
    subst hB eA eB
    rcases c.sg with rfl | rfl
    · have : 1 * (b1 * (K * Y + be) - a1 * (K * X + al)) = K * (1 * (b1 * Y - a1 * X)) + b1 * be - a1 * al := by grind
      rw [this, Int.mul_comm K b1] at *; omega
    · have : -1 * (b1 * (K * Y + be) - a1 * (K * X + al)) = K * (-1 * (b1 * Y - a1 * X)) + a1 * al - b1 * be := by grind
      rw [this, Int.mul_comm K b1] at *; omega
  have AB : B' < A' := by
    subst hB hA eA eB
    rw [Int.mul_comm K (b0 + b1)] at g2
    rw [Int.mul_add] at w1 w2
    rcases c.sg with rfl | rfl
    · have : 1 * (a0 * (K * X + al) - b0 * (K * Y + be)) - 1 * (b1 * (K * Y + be) - a1 * (K * X + al)) = K * (1 * (a0 * X - b0 * Y) - 1 * (b1 * Y - a1 * X)) + (a0 + a1) * al - (b0 + b1) * be := by grind
      omega
    · have : -1 * (a0 * (K * X + al) - b0 * (K * Y + be)) - -1 * (b1 * (K * Y + be) - a1 * (K * X + al)) = K * (-1 * (a0 * X - b0 * Y) - -1 * (b1 * Y - a1 * X)) + (b0 + b1) * be - (a0 + a1) * al := by grind
      omega
  refine ⟨B0, AB, ?_⟩
  have p1 := le_mul_of_one_le h1 (show 0 ≤ A' by omega)
  have p2 : 0 ≤ a0 * B' := Int.mul_nonneg h0 B0
  omega

theorem Sure.gcd {s X Y a0 a1 b0 b1 A B A' B' : Int} (c : Sure s X Y a0 a1 b0 b1) (hA : s * (a0 * A - b0 * B) = A') (hB : s * (b1 * B - a1 * A) = B') : Int.gcd A' B' = Int.gcd A B := by
  obtain ⟨eA, eB⟩ := c.back hA hB
  refine Nat.dvd_antisymm (Int.natCast_dvd_natCast.1 (Int.dvd_coe_gcd ?_ ?_)) (Int.natCast_dvd_natCast.1 (Int.dvd_coe_gcd ?_ ?_))
  · rw [eA]; exact Int.dvd_add (Int.dvd_mul_of_dvd_right (Int.gcd_dvd_left ..)) (Int.dvd_mul_of_dvd_right (Int.gcd_dvd_right ..))
  · rw [eB]; exact Int.dvd_add (Int.dvd_mul_of_dvd_right (Int.gcd_dvd_left ..)) (Int.dvd_mul_of_dvd_right (Int.gcd_dvd_right ..))
  · rw [← hA]; exact Int.dvd_mul_of_dvd_right (Int.dvd_sub (Int.dvd_mul_of_dvd_right (Int.gcd_dvd_left ..)) (Int.dvd_mul_of_dvd_right (Int.gcd_dvd_right ..)))
  · rw [← hB]; exact Int.dvd_mul_of_dvd_right (Int.dvd_sub (Int.dvd_mul_of_dvd_right (Int.gcd_dvd_right ..)) (Int.dvd_mul_of_dvd_right (Int.gcd_dvd_left ..)))

/-- What the search for steps that are sure keeps. -/
structure Lh (s X Y x y a0 a1 a2 b0 b1 b2 : Int) : Prop where
  co : Co s X Y x y a1 a2 b1 b2
  st : (a1 = 1 ∧ a2 = 0 ∧ b1 = 0) ∨ (a1 ≤ b1 ∧ 1 ≤ a2)
  pr : b0 = 0 ∨ Sure (-s) X Y a0 a1 b0 b1

theorem Lh.start {X Y : Int} (h0 : 0 ≤ Y) (h : Y ≤ X) : Lh 1 X Y X Y 0 1 0 0 0 1 := ⟨Co.start h0 h, Or.inl ⟨rfl, rfl, rfl⟩, Or.inl rfl⟩

theorem Lh.step {s X Y x y a0 a1 a2 b0 b1 b2 : Int} (c : Lh s X Y x y a0 a1 a2 b0 b1 b2) (h1 : b2 ≤ y) (h2 : b1 + b2 ≤ x - y) :
    Lh (-s) X Y y (x % y) a1 a2 (a1 + x / y * a2) b1 b2 (b1 + x / y * b2) ∧ 1 ≤ x / y ∧ 0 ≤ x / y * a2 ∧ a1 + x / y * a2 ≤ X ∧ 0 ≤ x / y * b2 ∧ b1 + x / y * b2 ≤ X := by
  have b2p := c.co.b20
  have hy : 1 ≤ y := by omega
  have st : Co (-s) X Y y (x % y) a2 (a1 + x / y * a2) b2 (b1 + x / y * b2) := c.co.step hy (by rcases c.st with ⟨h, h', _⟩ | ⟨h, _⟩; exact Or.inr ⟨h, h'⟩; exact Or.inl h)
  have t1 : 1 ≤ x / y := (Int.le_ediv_iff_mul_le (by omega)).2 (by have := c.co.yx; omega)
  have f2 : 0 ≤ x / y * a2 := Int.mul_nonneg (by omega) c.co.a20
  have f3 : 0 ≤ x / y * b2 := Int.mul_nonneg (by omega) (by omega)
  have bb := st.bound hy
  have aa := st.le2
  refine ⟨⟨st, Or.inr ⟨c.co.le2, ?_⟩, ?_⟩, t1, f2, by omega, f3, bb⟩
  · rcases c.st with ⟨h, h', _⟩ | ⟨h, h'⟩
    · omega
    · have := le_mul_of_one_le t1 c.co.a20
      have := c.co.a10
      omega
  · rcases c.st with ⟨_, _, h⟩ | ⟨h, h'⟩
    · exact Or.inl h
    · refine Or.inr ?_
      rw [Int.neg_neg]
      exact c.co.sure h1 h2 h h'

theorem Lh.bds {s X Y x y a0 a1 a2 b0 b1 b2 : Int} (c : Lh s X Y x y a0 a1 a2 b0 b1 b2) : 0 ≤ y ∧ y ≤ x ∧ x ≤ X ∧ 0 ≤ a1 ∧ 0 ≤ a2 ∧ 0 ≤ b1 ∧ 1 ≤ b2 ∧ (b2 ≤ y → b1 + b2 ≤ X) := by
  have h := c.co.sumX
  have b2p := c.co.b20
  have y0 := c.co.y0
  have yx := c.co.yx
  have h1 : x * 1 ≤ x * b2 := Int.mul_le_mul_of_nonneg_left b2p (by omega)
  have h2 : 0 ≤ y * b1 := Int.mul_nonneg y0 c.co.b10
  exact ⟨y0, yx, by omega, c.co.a10, c.co.a20, c.co.b10, b2p, fun hy => c.co.bound2 (by omega)⟩

/-- The upper bits of a number. -/
theorem top_approx {A L p u1 u0 S R : Int} (h : A = L + p * (u1 * 18446744073709551616 + u0)) (h0 : 0 ≤ L) (h1 : L < p) (hSR : S * R = 18446744073709551616) (hR : 0 < R) :
    ∃ al, A = p * R * (u1 * S + u0 / R) + al ∧ 0 ≤ al ∧ al < p * R := by
  have e := Int.emod_add_mul_ediv u0 R
  have m0 := Int.emod_nonneg u0 (b := R) (by omega)
  have m1 := Int.emod_lt_of_pos u0 hR
  refine ⟨L + p * (u0 % R), ?_, ?_, ?_⟩
  · generalize u0 % R = r at *
    generalize u0 / R = q at *
    subst e
    rw [h, ← hSR]
    grind
  · have := Int.mul_nonneg (show 0 ≤ p by omega) m0; omega
  · have : p * (u0 % R + 1) ≤ p * R := Int.mul_le_mul_of_nonneg_left (by omega) (by omega)
    rw [Int.mul_add] at this; omega

/-- What the steps come to: two numbers with the same gcd, less. -/
def Less (A B A' B' : Int) : Prop := 0 ≤ B' ∧ B' < A' ∧ A' ≤ B ∧ Int.gcd A' B' = Int.gcd A B

theorem Lh.fin {s X Y x y a0 a1 a2 b0 b1 b2 A B K al be : Int} (c : Lh s X Y x y a0 a1 a2 b0 b1 b2) (hb : b0 ≠ 0) (hK : 0 < K) (eA : A = K * X + al) (eB : B = K * Y + be) (ha0 : 0 ≤ al) (ha1 : al < K) (hb0 : 0 ≤ be) (hb1 : be < K) (hX : X < 18446744073709551616) :
    (s = 1 → Less A B (b0 * B - a0 * A) (a1 * A - b1 * B)) ∧ (s = -1 → Less A B (a0 * A - b0 * B) (b1 * B - a1 * A)) ∧
      (0 ≤ a0 ∧ a0 < 18446744073709551616) ∧ (0 ≤ b0 ∧ b0 < 18446744073709551616) ∧ (0 ≤ a1 ∧ a1 < 18446744073709551616) ∧ (0 ≤ b1 ∧ b1 < 18446744073709551616) := by
  have S : Sure (-s) X Y a0 a1 b0 b1 := by
    rcases c.pr with h | h
    · exact absurd h hb
    · exact h
  have h1 := S.a00
  have h2 := S.a11
  have h3 := S.le0
  have h4 := S.le1
  have h5 := S.b1X
  have h6 := S.b0X
  refine ⟨fun hs => ?_, fun hs => ?_, ⟨by omega, by omega⟩, ⟨by omega, by omega⟩, ⟨by omega, by omega⟩, ⟨by omega, by omega⟩⟩
  · subst hs
    have e1 : -1 * (a0 * A - b0 * B) = b0 * B - a0 * A := by omega
    have e2 : -1 * (b1 * B - a1 * A) = a1 * A - b1 * B := by omega
    have L := S.less hK eA eB ha0 ha1 hb0 hb1 e1 e2
    exact ⟨L.1, L.2.1, L.2.2, S.gcd e1 e2⟩
  · subst hs
    have S' : Sure 1 X Y a0 a1 b0 b1 := S
    have e1 : 1 * (a0 * A - b0 * B) = a0 * A - b0 * B := by omega
    have e2 : 1 * (b1 * B - a1 * A) = b1 * B - a1 * A := by omega
    have L := S'.less hK eA eB ha0 ha1 hb0 hb1 e1 e2
    exact ⟨L.1, L.2.1, L.2.2, S'.gcd e1 e2⟩
end Wd
