/- Long division by words of 32 bits: plain mathematics, no program. -/
import Derived.Test.YtcelbgleajpenaaGreatDoorM11
namespace Wh

theorem guess_le {P B P3 B2 p q : Int} (hp : 0 < p) (hP : P < (P3 + 1) * p) (hB : B2 * p ≤ B) (hq0 : 0 ≤ q) (hq : q * B ≤ P) : q * B2 ≤ P3 := by
 have a : q * (B2 * p) ≤ q * B := Int.mul_le_mul_of_nonneg_left hB hq0
 have b : (q * B2) * p < (P3 + 1) * p := by rw [Int.mul_assoc]; omega
 have := Int.lt_of_mul_lt_mul_right b (by omega)
 omega

theorem guess_near {P B P3 B2 p t : Int} (hp : 0 < p) (hP : P3 * p ≤ P) (hB : B < (B2 + 1) * p) (ht0 : 0 ≤ t) (ht : t * B2 ≤ P3) (htW : t * p < B) : t * B < P + B := by
 have a : t * B ≤ t * ((B2 + 1) * p) := Int.mul_le_mul_of_nonneg_left (by omega) ht0
 have b : t * ((B2 + 1) * p) = t * B2 * p + t * p := by rw [Int.add_mul, Int.mul_add, Int.mul_assoc, Int.one_mul]
 have c : t * B2 * p ≤ P3 * p := Int.mul_le_mul_of_nonneg_right ht (by omega)
 omega

structure Gu (P1 P3 top B2 t r : Int) : Prop where
 t0 : 0 ≤ t
 t1 : t < 4294967296
 r0 : 0 ≤ r
 eq : t * top + r = P1
 up : ∀ q, q < 4294967296 → q * B2 ≤ P3 → q ≤ t

theorem Gu.test {P1 p0 top next t r : Int} (g : Gu P1 (P1 * 4294967296 + p0) top (top * 4294967296 + next) t r) :
  t * (top * 4294967296 + next) ≤ P1 * 4294967296 + p0 ↔ t * next ≤ r * 4294967296 + p0 := by
 have e := g.eq
 have e2 : t * (top * 4294967296 + next) = t * top * 4294967296 + t * next := by rw [Int.mul_add, Int.mul_assoc]
 rw [e2]
 generalize t * top = x at *
 generalize t * next = y at *
 omega

theorem Gu.step {P1 p0 top next t r : Int} (g : Gu P1 (P1 * 4294967296 + p0) top (top * 4294967296 + next) t r) (htop : 0 < top) (hp : 0 ≤ p0)
  (h : ¬ t * next ≤ r * 4294967296 + p0) : 1 ≤ t ∧ Gu P1 (P1 * 4294967296 + p0) top (top * 4294967296 + next) (t - 1) (r + top) := by
 have h1 : ¬ t * (top * 4294967296 + next) ≤ P1 * 4294967296 + p0 := fun h' => h (g.test.1 h')
 have t1 : 1 ≤ t := by
  rcases Int.lt_or_le t 1 with h' | h'
  ·have : t = 0 := by have := g.t0; omega
   subst this
   exact absurd (by have := g.r0; omega) h
  ·exact h'
 refine ⟨t1, by omega, by have := g.t1; omega, by have := g.r0; omega, ?_, fun q hq hh => ?_⟩
 ·have := g.eq; rw [Int.sub_mul]; omega
 ·have h2 := g.up q hq hh
  rcases Int.lt_or_le q t with h3 | h3
  ·omega
  ·have : q = t := by omega
   subst this
   exact absurd hh h1

theorem Gu.fin {P B P1 p0 top next t r p : Int} (g : Gu P1 (P1 * 4294967296 + p0) top (top * 4294967296 + next) t r) (hp : 0 < p) (hB0 : 0 < B)
  (hP0 : (P1 * 4294967296 + p0) * p ≤ P) (hP1 : P < (P1 * 4294967296 + p0 + 1) * p)
  (hB1 : (top * 4294967296 + next) * p ≤ B) (hB2 : B < (top * 4294967296 + next + 1) * p) (hBp : p * 4294967296 ≤ B)
  (hPB : P < B * 4294967296) (h : t * next ≤ r * 4294967296 + p0) : P / B ≤ t ∧ t ≤ P / B + 1 ∧ 0 ≤ P / B ∧ P / B < 4294967296 := by
 have ht := g.test.2 h
 have hPp : 0 ≤ P := by
  have := g.eq; have := g.t0; have := g.r0
  rcases Int.lt_or_le P 0 with h' | h'
  ·exfalso
   have h5 : ¬ 0 ≤ P1 * 4294967296 + p0 := fun h6 => by have := Int.mul_nonneg h6 (Int.le_of_lt hp); omega
   have h6 : 0 ≤ t * (top * 4294967296 + next) := by
    refine Int.mul_nonneg g.t0 ?_
    rcases Int.lt_or_le (top * 4294967296 + next) 0 with h7 | h7
    ·have : (top * 4294967296 + next + 1) * p ≤ 0 := Int.mul_nonpos_of_nonpos_of_nonneg (by omega) (by omega)
     omega
    ·exact h7
   omega
  ·exact h'
 have q0 : 0 ≤ P / B := Int.ediv_nonneg hPp (by omega)
 have q1 : P / B < 4294967296 := (Int.ediv_lt_iff_lt_mul hB0).2 (by rw [Int.mul_comm]; exact hPB)
 have q2 : P / B * B ≤ P := Int.ediv_mul_le P (by omega)
 refine ⟨g.up _ q1 (guess_le hp hP1 hB1 q0 q2), ?_, q0, q1⟩
 have ht1 : t * p < B := by
  have := g.t1
  have a : t * p ≤ 4294967295 * p := Int.mul_le_mul_of_nonneg_right (by omega) (by omega)
  omega
 have := guess_near hp hP0 hB2 g.t0 ht ht1
 have h3 : (t - 1) * B ≤ P := by rw [Int.sub_mul]; omega
 have := (Int.le_ediv_iff_mul_le hB0).2 h3
 omega

theorem take_step {left low P B q p W A : Int} (hleft : left = low + p * P) (hl0 : 0 ≤ low) (hl1 : low < p) (hq : q = P / B) (hB : 0 < B) (hW : left + B * W = A) :
  low + p * (P - q * B) + B * (W + p * q) = A ∧ low + p * (P - q * B) < p * B ∧ 0 ≤ P - q * B ∧ P - q * B < B := by
 have e := Int.emod_add_mul_ediv P B
 have m0 := Int.emod_nonneg P (b := B) (by omega)
 have m1 := Int.emod_lt_of_pos P hB
 rw [← hq] at e
 have e1 : P - q * B = P % B := by rw [Int.mul_comm q B]; omega
 rw [e1]
 refine ⟨?_, ?_, m0, m1⟩
 ·rw [Int.mul_add]
  have e2 : B * (p * q) = p * (B * q) := by rw [← Int.mul_assoc, ← Int.mul_assoc, Int.mul_comm B p]
  rw [e2]
  have e3 : p * P = p * (P % B) + p * (B * q) := by rw [← Int.mul_add, e]
  omega
 ·have : p * (P % B + 1) ≤ p * B := Int.mul_le_mul_of_nonneg_left (by omega) (by omega)
  rw [Int.mul_add] at this
  omega

theorem div_scaled {A B S L W : Int} (hS : 0 < S) (hB : 0 < B) (h0 : 0 ≤ L) (h1 : L < B * S) (h : L + B * S * W = A * S) : W = A / B ∧ L / S = A % B := by
 have hd : S ∣ L := by
  have : L = S * (A - B * W) := by
   rw [Int.mul_sub, Int.mul_comm S A, ← Int.mul_assoc, Int.mul_comm S B]; omega
  exact ⟨_, this⟩
 obtain ⟨l, rfl⟩ := hd
 have e : l + B * W = A := by
  have : S * (l + B * W) = S * A := by rw [Int.mul_add, ← Int.mul_assoc, Int.mul_comm S B, Int.mul_comm S A]; exact h
  exact Int.eq_of_mul_eq_mul_left (by omega) this
 have l0 : 0 ≤ l := by
  rcases Int.lt_or_le l 0 with h' | h'
  ·have := Int.mul_neg_of_pos_of_neg hS h'; omega
  ·exact h'
 have l1 : l < B := by
  rw [Int.mul_comm B S] at h1
  exact Int.lt_of_mul_lt_mul_left h1 (by omega)
 rw [Int.mul_ediv_cancel_left _ (by omega)]
 subst e
 constructor
 ·rw [Int.add_mul_ediv_left _ _ (by omega), Int.ediv_eq_zero_of_lt l0 l1]; omega
 ·rw [Int.add_mul_emod_self_left, Int.emod_eq_of_lt l0 l1]

structure Gx (P1 P3 top B2 t r : Int) : Prop where
 t0 : 0 ≤ t
 r0 : 0 ≤ r
 eq : t * top + r = P1
 up : ∀ q, q < 4294967296 → q * B2 ≤ P3 → q ≤ t
theorem Gx.gu {P1 P3 top B2 t r : Int} (g : Gx P1 P3 top B2 t r) (h : t < 4294967296) : Gu P1 P3 top B2 t r := ⟨g.t0, h, g.r0, g.eq, g.up⟩
theorem Gu.gx {P1 P3 top B2 t r : Int} (g : Gu P1 P3 top B2 t r) : Gx P1 P3 top B2 t r := ⟨g.t0, g.r0, g.eq, g.up⟩
theorem Gx.start {P1 p0 top next : Int} (htop : 0 < top) (hP : 0 ≤ P1) (hn : 0 ≤ next) (hp : p0 < 4294967296) :
  Gx P1 (P1 * 4294967296 + p0) top (top * 4294967296 + next) (P1 / top) (P1 % top) := by
 refine ⟨Int.ediv_nonneg hP (by omega), Int.emod_nonneg _ (by omega), ?_, fun q _ hh => ?_⟩
 ·have := Int.emod_add_mul_ediv P1 top
  rw [Int.mul_comm]; omega
 ·refine (Int.le_ediv_iff_mul_le htop).2 ?_
  rcases Int.lt_or_le q 0 with h | h
  ·have : q * top ≤ 0 := Int.mul_nonpos_of_nonpos_of_nonneg (by omega) (by omega)
   omega
  ·have e2 : q * (top * 4294967296 + next) = q * top * 4294967296 + q * next := by rw [Int.mul_add, Int.mul_assoc]
   rw [e2] at hh
   have : 0 ≤ q * next := Int.mul_nonneg h hn
   generalize q * top = x at *
   generalize q * next = y at *
   omega
theorem Gx.big {P1 P3 top B2 t r : Int} (g : Gx P1 P3 top B2 t r) (htop : 0 < top) (h : ¬ t < 4294967296) : Gx P1 P3 top B2 (t - 1) (r + top) :=
 ⟨by omega, by have := g.r0; omega, by have := g.eq; rw [Int.sub_mul]; omega, fun q hq _ => by omega⟩
theorem Gx.less {P1 p0 top next t r : Int} (g : Gx P1 (P1 * 4294967296 + p0) top (top * 4294967296 + next) t r) (htop : 0 < top) (hp : 0 ≤ p0) (h1 : t < 4294967296)
  (h : ¬ t * next ≤ r * 4294967296 + p0) : 1 ≤ t ∧ Gx P1 (P1 * 4294967296 + p0) top (top * 4294967296 + next) (t - 1) (r + top) := by
 obtain ⟨a, b⟩ := (g.gu h1).step htop hp h
 exact ⟨a, b.gx⟩
theorem Gx.over {P1 P3 top B2 next p0 t r : Int} (g : Gx P1 P3 top B2 t r) (htop : 0 < top) (hP : P1 < top * 4294967296 + 4294967296) (hr : 4294967296 ≤ r) (hn0 : 0 ≤ next) (hn : next < 4294967296) (hp : 0 ≤ p0) :
  t < 4294967296 ∧ t * next ≤ r * 4294967296 + p0 := by
 have e := g.eq
 have t1 : t < 4294967296 := by
  rcases Int.lt_or_le t 4294967296 with h | h
  ·exact h
  ·have : 4294967296 * top ≤ t * top := Int.mul_le_mul_of_nonneg_right h (by omega)
   omega
 refine ⟨t1, ?_⟩
 have a : t * next ≤ 4294967296 * next := Int.mul_le_mul_of_nonneg_right (by omega) hn0
 omega
theorem ms_step {S X V c d g x y p : Int} (h : S = X - g * V + p * (c + d)) :
  S + p * ((x - (c + g * y) % 4294967296 - d) % 4294967296) = X + p * x - g * (V + p * y) + 4294967296 * p * ((c + g * y) / 4294967296 + -((x - (c + g * y) % 4294967296 - d) / 4294967296)) := by
 have e1 := Int.mul_ediv_add_emod (c + g * y) 4294967296
 generalize hl : (c + g * y) % 4294967296 = l at *
 generalize hk : (c + g * y) / 4294967296 = k at *
 have e2 := Int.mul_ediv_add_emod (x - l - d) 4294967296
 generalize (x - l - d) % 4294967296 = u at *
 generalize (x - l - d) / 4294967296 = v at *
 have eu : u = x - l - d - 4294967296 * v := by omega
 have el : l = c + g * y - 4294967296 * k := by omega
 rw [h, eu, el]
 grind
theorem ms_fit {c d g x y : Int} (hc : W32 c) (hd : 0 ≤ d ∧ d ≤ 1) (hg : W32 g) (hx : W32 x) (hy : W32 y) : 0 ≤ c + g * y ∧ c + g * y < 18446744073709551616 ∧ W32 ((c + g * y) / 4294967296) ∧ -4294967296 ≤ x - (c + g * y) % 4294967296 - d ∧ x - (c + g * y) % 4294967296 - d < 4294967296 := by
 obtain ⟨c0, c1⟩ := hc
 obtain ⟨g0, g1⟩ := hg
 obtain ⟨x0, x1⟩ := hx
 obtain ⟨y0, y1⟩ := hy
 have h1 : 0 ≤ g * y := Int.mul_nonneg g0 y0
 have h2 : g * y ≤ 4294967295 * 4294967295 := Int.mul_le_mul (by omega) (by omega) y0 (by omega)
 refine ⟨by omega, by omega, ⟨by omega, by omega⟩, by omega, by omega⟩
theorem ms_top {S P B g pn q z : Int} (hS0 : 0 ≤ S) (hS1 : S < pn) (hz : S + pn * z = P - g * B) (hq : q = P / B) (hB : 0 < B) (hBp : B ≤ pn) (h1 : q ≤ g) (h2 : g ≤ q + 1) : (z = 0 ∧ g = q ∧ S = P - q * B) ∨ (z = -1 ∧ g = q + 1 ∧ S + B - pn = P - q * B) := by
 have e := Int.emod_add_mul_ediv P B
 have m0 := Int.emod_nonneg P (b := B) (by omega)
 have m1 := Int.emod_lt_of_pos P hB
 rw [← hq] at e
 have er : P - q * B = P % B := by rw [Int.mul_comm q B]; omega
 have hg : g = q ∨ g = q + 1 := by omega
 rcases hg with rfl | rfl
 ·left
  have z0 : z = 0 := by
   rcases Int.lt_or_le z 0 with h | h
   ·have : pn * z ≤ pn * (-1) := Int.mul_le_mul_of_nonneg_left (by omega) (by omega)
    omega
   ·rcases Int.lt_or_le 0 z with h' | h'
    ·have : pn * 1 ≤ pn * z := Int.mul_le_mul_of_nonneg_left (by omega) (by omega)
     omega
    ·omega
  subst z0
  exact ⟨rfl, rfl, by omega⟩
 ·right
  have e3 : P - (q + 1) * B = P % B - B := by rw [Int.add_mul, Int.one_mul]; omega
  rw [e3] at hz
  have z1 : z = -1 := by
   rcases Int.lt_or_le z (-1) with h | h
   ·have : pn * z ≤ pn * (-2) := Int.mul_le_mul_of_nonneg_left (by omega) (by omega)
    omega
   ·rcases Int.lt_or_le (-1) z with h' | h'
    ·have : pn * 0 ≤ pn * z := Int.mul_le_mul_of_nonneg_left (by omega) (by omega)
     omega
    ·omega
  subst z1
  exact ⟨rfl, rfl, by omega⟩
theorem ab_top {S T B c pn R : Int} (hT1 : T < pn) (h : T + pn * c = S + B) (hS : S + B - pn = R) (hR0 : 0 ≤ R) (hc : 0 ≤ c ∧ c ≤ 1) : c = 1 ∧ T = R := by
 have : c = 0 ∨ c = 1 := by omega
 rcases this with rfl | rfl
 ·exfalso; omega
 ·exact ⟨rfl, by omega⟩

end Wh
/- One round of long division by words of 32 bits, over a window of a row: plain mathematics, no program. -/
namespace Wh

theorem vl_three (f : Nat → Int) (j m r : Nat) : vl f (j + (m + r)) = vl f j + pw j * vl (fun t => f (j + t)) m + pw j * (pw m * vl (fun t => f (j + (m + t))) r) := by
 rw [vl_split, vl_split, Int.mul_add]
 omega
theorem vl_top3 (f : Nat → Int) (k : Nat) : vl f (k + 3) = vl f k + pw k * ((f (k + 2) * 4294967296 + f (k + 1)) * 4294967296 + f k) := by
 rw [vl_succ, vl_succ, vl_succ]; simp only [pw_succ]; grind
theorem vl_top2 (f : Nat → Int) (k : Nat) : vl f (k + 2) = vl f k + pw k * (f (k + 1) * 4294967296 + f k) := by
 rw [vl_succ, vl_succ, pw_succ]; grind
theorem part_bd {L p X P : Int} (h : P = L + p * X) (h0 : 0 ≤ L) (h1 : L < p) : X * p ≤ P ∧ P < (X + 1) * p := by
 subst h
 rw [Int.add_mul, Int.one_mul, Int.mul_comm X p]
 omega
def win (u : Nat → Int) (j m : Nat) : Int := vl (fun t => u (j + t)) m
theorem win_bd {u : Nat → Int} {K j m : Nat} (hu : ∀ k, k < K → W32 (u k)) (hK : j + m ≤ K) : 0 ≤ win u j m ∧ win u j m < pw m := vl_bd (fun t ht => hu (j + t) (by omega))
theorem win_rest {u : Nat → Int} {K j m : Nat} {B : Int} (hu : ∀ k, k < K → W32 (u k)) (hK : j + m < K) (hB : B < pw m) (hlt : vl u K < B * pw (j + 1)) :
  vl u K = vl u j + pw j * win u j (m + 1) ∧ vl (fun t => u (j + (m + 1 + t))) (K - (j + (m + 1))) = 0 := by
 obtain ⟨r, rfl⟩ : ∃ r, K = j + (m + 1 + r) := ⟨K - (j + (m + 1)), by omega⟩
 have e : j + (m + 1 + r) - (j + (m + 1)) = r := by omega
 rw [e]
 have h := vl_three u j (m + 1) r
 have R0 := vl_bd (f := fun t => u (j + (m + 1 + t))) (n := r) (fun t ht => hu _ (by omega))
 have L0 := vl_bd (f := u) (n := j) (fun t ht => hu _ (by omega))
 have W0 := win_bd (j := j) (m := m + 1) hu (by omega)
 have z : vl (fun t => u (j + (m + 1 + t))) r = 0 := by
  rcases Int.lt_or_le 0 (vl (fun t => u (j + (m + 1 + t))) r) with h1 | h1
  ·exfalso
   have p1 := pw_pos j
   have p2 := pw_pos (m + 1)
   have a : pw (m + 1) * 1 ≤ pw (m + 1) * vl (fun t => u (j + (m + 1 + t))) r := Int.mul_le_mul_of_nonneg_left (by omega) (by omega)
   have b : pw j * (pw (m + 1) * 1) ≤ pw j * (pw (m + 1) * vl (fun t => u (j + (m + 1 + t))) r) := Int.mul_le_mul_of_nonneg_left a (by omega)
   have c : 0 ≤ pw j * win u j (m + 1) := Int.mul_nonneg (by omega) W0.1
   have d : B * pw (j + 1) ≤ pw m * pw (j + 1) := Int.mul_le_mul_of_nonneg_right (by omega) (by have := pw_pos (j + 1); omega)
   have e2 : pw m * pw (j + 1) = pw j * (pw (m + 1) * 1) := by rw [pw_succ, pw_succ]; grind
   unfold win at c
   omega
  ·omega
 refine ⟨?_, z⟩
 rw [h, z]
 unfold win
 simp
theorem win_less {u : Nat → Int} {K j m : Nat} {B : Int} (hu : ∀ k, k < K → W32 (u k)) (hK : j + m < K) (hB : B < pw m) (hlt : vl u K < B * pw (j + 1)) : win u j (m + 1) < B * 4294967296 := by
 have ⟨h, _⟩ := win_rest hu hK hB hlt
 have L0 := vl_bd (f := u) (n := j) (fun t ht => hu _ (by omega))
 have p1 := pw_pos j
 have e : B * pw (j + 1) = pw j * (B * 4294967296) := by rw [pw_succ]; grind
 have : pw j * win u j (m + 1) < pw j * (B * 4294967296) := by omega
 exact Int.lt_of_mul_lt_mul_left this (by omega)
theorem win_next {u x : Nat → Int} {K j m : Nat} {A B W q : Int} (hu : ∀ k, k < K → W32 (u k)) (hK : j + m < K) (hB0 : 0 < B) (hB : B < pw m) (hlt : vl u K < B * pw (j + 1)) (heq : vl u K + B * W = A)
  (hlo : ∀ k, k < j → x k = u k) (hhi : ∀ k, j + m < k → k < K → x k = u k) (htop : x (j + m) = 0) (hq : q = win u j (m + 1) / B) (hval : win x j m = win u j (m + 1) - q * B) :
  vl x K + B * (W + pw j * q) = A ∧ vl x K < B * pw j := by
 have ⟨h, hz⟩ := win_rest hu hK hB hlt
 have L0 := vl_bd (f := u) (n := j) (fun t ht => hu _ (by omega))
 obtain ⟨r, rfl⟩ : ∃ r, K = j + (m + 1 + r) := ⟨K - (j + (m + 1)), by omega⟩
 have e : j + (m + 1 + r) - (j + (m + 1)) = r := by omega
 rw [e] at hz
 have hx := vl_three x j (m + 1) r
 rw [vl_congr (f := fun t => x (j + (m + 1 + t))) (g := fun t => u (j + (m + 1 + t))) (fun t ht => hhi _ (by omega) (by omega)), hz, vl_congr (f := x) (g := u) (n := j) hlo, vl_succ, htop] at hx
 have hx2 : vl x (j + (m + 1 + r)) = vl u j + pw j * win x j m := by rw [hx]; unfold win; simp
 rw [hx2, hval]
 have st := take_step (left := vl u (j + (m + 1 + r))) (low := vl u j) (P := win u j (m + 1)) (B := B) (q := q) (p := pw j) (W := W) (A := A) h L0.1 L0.2 hq hB0 heq
 exact ⟨st.1, by rw [Int.mul_comm B]; exact st.2.1⟩
theorem top_of {B : Int} {k : Nat} (h0 : 0 ≤ B) (h : B < pw (k + 2)) : (dig B (k + 1) * 4294967296 + dig B k) * pw k ≤ B ∧ B < (dig B (k + 1) * 4294967296 + dig B k + 1) * pw k := by
 have e := vl_dig_all h0 h
 rw [vl_top2] at e
 have bd := vl_bd (f := dig B) (n := k) (fun j _ => dig_w B j)
 exact part_bd e.symm bd.1 bd.2
theorem top_two {u : Nat → Int} {K j k : Nat} (hu : ∀ i, i < K → W32 (u i)) (hK : j + (k + 2) < K) :
  ((u (j + (k + 2)) * 4294967296 + u (j + (k + 1))) * 4294967296 + u (j + k)) * pw k ≤ win u j (k + 3) ∧ win u j (k + 3) < ((u (j + (k + 2)) * 4294967296 + u (j + (k + 1))) * 4294967296 + u (j + k) + 1) * pw k := by
 have e := vl_top3 (fun t => u (j + t)) k
 have bd := vl_bd (f := fun t => u (j + t)) (n := k) (fun t _ => hu _ (by omega))
 exact part_bd e bd.1 bd.2
theorem p1_lt {u : Nat → Int} {K j k : Nat} {B : Int} (hu : ∀ i, i < K → W32 (u i)) (hK : j + (k + 2) < K) (hB0 : 0 ≤ B) (hB : B < pw (k + 2)) (hlt : vl u K < B * pw (j + 1)) :
  u (j + (k + 2)) * 4294967296 + u (j + (k + 1)) < dig B (k + 1) * 4294967296 + 4294967296 := by
 have h1 : win u j (k + 3) < B * 4294967296 := win_less hu hK hB hlt
 have ⟨h2, _⟩ := top_two hu hK
 have ⟨_, h3⟩ := top_of hB0 hB
 have w0 := hu (j + k) (by omega)
 have d0 := dig_w B k
 have p := pw_pos k
 generalize u (j + (k + 2)) * 4294967296 + u (j + (k + 1)) = P1 at *
 have h4 : (P1 * 4294967296 + u (j + k)) * pw k < ((dig B (k + 1) * 4294967296 + dig B k + 1) * 4294967296) * pw k := by
  have e : (dig B (k + 1) * 4294967296 + dig B k + 1) * 4294967296 * pw k = (dig B (k + 1) * 4294967296 + dig B k + 1) * pw k * 4294967296 := by grind
  rw [e]
  omega
 have h5 := Int.lt_of_mul_lt_mul_right h4 (by omega)
 have := w0.1
 have := d0.2
 omega
theorem digit_of {u : Nat → Int} {K j k : Nat} {B g r : Int} (hu : ∀ i, i < K → W32 (u i)) (hK : j + (k + 2) < K) (hB : B < pw (k + 2)) (hbig : pw (k + 1) ≤ B) (hlt : vl u K < B * pw (j + 1))
  (hG : Gu (u (j + (k + 2)) * 4294967296 + u (j + (k + 1))) ((u (j + (k + 2)) * 4294967296 + u (j + (k + 1))) * 4294967296 + u (j + k)) (dig B (k + 1)) (dig B (k + 1) * 4294967296 + dig B k) g r)
  (ht : g * dig B k ≤ r * 4294967296 + u (j + k)) : win u j (k + 3) / B ≤ g ∧ g ≤ win u j (k + 3) / B + 1 ∧ 0 ≤ win u j (k + 3) / B ∧ win u j (k + 3) / B < 4294967296 := by
 have p := pw_pos k
 have hB0 : 0 < B := by have := pw_pos (k + 1); omega
 have h1 := win_less hu hK hB hlt
 have ⟨h2, h3⟩ := top_two hu hK
 have ⟨h4, h5⟩ := top_of (Int.le_of_lt hB0) hB
 exact hG.fin p hB0 h2 h3 h4 h5 (by rw [Int.mul_comm, ← pw_succ]; exact hbig) h1 ht
end Wh
