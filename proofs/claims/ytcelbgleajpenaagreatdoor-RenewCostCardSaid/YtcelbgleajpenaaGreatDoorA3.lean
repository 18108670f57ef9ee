/- Two words divided by one. -/
import Derived.Test.YtcelbgleajpenaaGreatDoorA2
import Derived.Lib.ItoaNum
import Derived.Laws.MathBits
namespace Go.Proofs.YtcelbgleajpenaaGreatDoor
open Go.RowKit Go.Sort Go.Shelf

set_option maxRecDepth 100000 in
theorem lz_bounds (y : Int) (h0 : 0 < y) (h1 : y < 18446744073709551616) : ∃ s : Nat, s ≤ 63 ∧ 64 - (Lib.bitLen y.toNat : Int) = (s : Int) ∧ 9223372036854775808 ≤ y * 2 ^ s ∧ y * 2 ^ s < 18446744073709551616 := by
 have b := Lib.bitLenAux_bounds 64 y.toNat (by omega) (by omega)
 have hle : Lib.bitLen y.toNat ≤ 64 := Lib.bitLen_le _ 64 (by omega) (by omega)
 have e : Lib.bitLen y.toNat = Lib.bitLenAux 64 y.toNat := rfl
 rw [← e] at b
 obtain ⟨b1, b2, b3⟩ := b
 generalize hL : Lib.bitLen y.toNat = L at *
 refine ⟨64 - L, by omega, by omega, ?_, ?_⟩
 ·obtain ⟨Y, rfl⟩ := Int.eq_ofNat_of_zero_le (Int.le_of_lt h0)
  rw [Int.toNat_natCast] at b2
  have : 2 ^ (L - 1) * 2 ^ (64 - L) ≤ Y * 2 ^ (64 - L) := Nat.mul_le_mul_right _ b2
  rw [← Nat.pow_add, show L - 1 + (64 - L) = 63 by omega] at this
  have h2 : ((9223372036854775808 : Nat) : Int) ≤ ((Y * 2 ^ (64 - L) : Nat) : Int) := Int.ofNat_le.2 this
  rw [Int.natCast_mul, Int.natCast_pow] at h2
  exact h2
 ·obtain ⟨Y, rfl⟩ := Int.eq_ofNat_of_zero_le (Int.le_of_lt h0)
  rw [Int.toNat_natCast] at b3
  have : Y * 2 ^ (64 - L) < 2 ^ L * 2 ^ (64 - L) := Nat.mul_lt_mul_of_pos_right b3 (Nat.pow_pos (by decide))
  rw [← Nat.pow_add, show L + (64 - L) = 64 by omega] at this
  have h2 : ((Y * 2 ^ (64 - L) : Nat) : Int) < ((18446744073709551616 : Nat) : Int) := Int.ofNat_lt.2 this
  rw [Int.natCast_mul, Int.natCast_pow] at h2
  exact h2

theorem pow_pos2 (s : Nat) : (0 : Int) < 2 ^ s := Int.pow_pos (by decide)
theorem pow_split (s : Nat) (h : s ≤ 64) : (2 : Int) ^ s * 2 ^ (64 - s) = 18446744073709551616 := by
 rw [← Int.pow_add, show s + (64 - s) = 64 by omega]; rfl

theorem shift_join (hi lo y : Int) (s : Nat) (hs : s ≤ 63) (h0 : 0 ≤ hi) (hh : hi < y) (hl0 : 0 ≤ lo) (hl1 : lo < 18446744073709551616) (hy : y * 2 ^ s < 18446744073709551616) :
  IntKind.u64.wrap (hi * 2 ^ s) = hi * 2 ^ s ∧ 0 ≤ lo / 2 ^ (64 - s) ∧ bits .or .u64 (hi * 2 ^ s) (lo / 2 ^ (64 - s)) = hi * 2 ^ s + lo / 2 ^ (64 - s) ∧
   lo * 2 ^ s = lo / 2 ^ (64 - s) * 18446744073709551616 + lo * 2 ^ s % 18446744073709551616 ∧ hi * 2 ^ s + lo / 2 ^ (64 - s) < y * 2 ^ s := by
 have hS := pow_pos2 s
 have hR := pow_pos2 (64 - s)
 have hSR := pow_split s (by omega)
 have hlt : hi * 2 ^ s + 2 ^ s ≤ y * 2 ^ s := by
  have : (hi + 1) * 2 ^ s ≤ y * 2 ^ s := Int.mul_le_mul_of_nonneg_right (by omega) (by omega)
  rw [Int.add_mul, Int.one_mul] at this; exact this
 have hH : 0 ≤ hi * 2 ^ s := Int.mul_nonneg h0 (by omega)
 have hG0 : 0 ≤ lo / 2 ^ (64 - s) := Int.ediv_nonneg hl0 (by omega)
 have hG : lo / 2 ^ (64 - s) < 2 ^ s := (Int.ediv_lt_iff_lt_mul hR).2 (by rw [hSR]; exact hl1)
 have hdiv : lo * 2 ^ s / 18446744073709551616 = lo / 2 ^ (64 - s) := by
  rw [← hSR, Int.mul_comm lo, Int.mul_ediv_mul_of_pos _ _ hS]
 refine ⟨?_, hG0, ?_, ?_, by omega⟩
 ·rw [IntKind.wrap_u64]; omega
 ·refine bits_join .u64 64 (by decide) (fun n h1 h2 => by rw [IntKind.wrap_u64]; omega) s _ _ hH (Int.mul_emod_left _ _) (by omega) hG0 hG (by omega)
 ·have := Int.emod_add_mul_ediv (lo * 2 ^ s) 18446744073709551616
  rw [hdiv] at this; omega

/-! ### One digit of 32 bits, by a guess that is put right -/
structure Gs (Y y1 y0 U u1 q r : Int) : Prop where
 q0 : 0 ≤ q
 r0 : 0 ≤ r
 eq : q * y1 + r = U
 up : U * 4294967296 + u1 < q * Y + Y

structure Dv (Y y1 y0 U u1 : Int) : Prop where
 eY : Y = y1 * 4294967296 + y0
 y1l : 2147483648 ≤ y1
 y1u : y1 < 4294967296
 y0l : 0 ≤ y0
 y0u : y0 < 4294967296
 U0 : 0 ≤ U
 UY : U < Y
 u1l : 0 ≤ u1
 u1u : u1 < 4294967296

theorem mulY (q y1 y0 : Int) : q * (y1 * 4294967296 + y0) = q * y1 * 4294967296 + q * y0 := by rw [Int.mul_add, Int.mul_assoc]

theorem Gs.start {Y y1 y0 U u1 : Int} (d : Dv Y y1 y0 U u1) : Gs Y y1 y0 U u1 (U / y1) (U % y1) ∧ U / y1 ≤ 4294967297 ∧ U % y1 < 4294967296 := by
 obtain ⟨rfl, h1, h2, h3, h4, h5, h6, h7, h8⟩ := d
 have e := Int.mul_ediv_add_emod U y1
 have r0 := Int.emod_nonneg U (b := y1) (by omega)
 have r1 := Int.emod_lt_of_pos U (b := y1) (by omega)
 have q0 := Int.ediv_nonneg h5 (show 0 ≤ y1 by omega)
 have qb : U / y1 < 4294967298 := (Int.ediv_lt_iff_lt_mul (by omega)).2 (by omega)
 generalize U / y1 = q at *
 generalize U % y1 = r at *
 rw [Int.mul_comm] at e
 refine ⟨⟨q0, r0, e, ?_⟩, by omega, by omega⟩
 rw [mulY]
 have : 0 ≤ q * y0 := Int.mul_nonneg q0 h3
 omega

theorem Gs.step {Y y1 y0 U u1 q r : Int} (d : Dv Y y1 y0 U u1) (g : Gs Y y1 y0 U u1 q r) (h : 4294967296 ≤ q ∨ 4294967296 * r + u1 < q * y0) : 1 ≤ q ∧ Gs Y y1 y0 U u1 (q - 1) (r + y1) := by
 obtain ⟨rfl, h1, h2, h3, h4, h5, h6, h7, h8⟩ := d
 obtain ⟨q0, r0, e, up⟩ := g
 have q1 : 1 ≤ q := by
  rcases h with h | h
  ·omega
  ·rcases Int.lt_or_le q 1 with h' | h'
   ·have : q = 0 := by omega
    subst this
    rw [Int.zero_mul] at h; omega
   ·exact h'
 refine ⟨q1, by omega, by omega, by rw [Int.sub_mul]; omega, ?_⟩
 rw [Int.sub_mul]
 have : U * 4294967296 + u1 < q * (y1 * 4294967296 + y0) := by
  rcases h with h | h
  ·have : 4294967296 * (y1 * 4294967296 + y0) ≤ q * (y1 * 4294967296 + y0) := Int.mul_le_mul_of_nonneg_right h (by omega)
   omega
  ·rw [mulY]; omega
 omega

theorem Gs.done {Y y1 y0 U u1 q r : Int} (d : Dv Y y1 y0 U u1) (g : Gs Y y1 y0 U u1 q r) (h : (q < 4294967296 ∧ q * y0 ≤ 4294967296 * r + u1) ∨ 4294967296 ≤ r) :
  q < 4294967296 ∧ 0 ≤ U * 4294967296 + u1 - q * Y ∧ U * 4294967296 + u1 - q * Y < Y := by
 obtain ⟨rfl, h1, h2, h3, h4, h5, h6, h7, h8⟩ := d
 obtain ⟨q0, r0, e, up⟩ := g
 have hq : q < 4294967296 := by
  rcases h with h | h
  ·exact h.1
  ·rcases Int.lt_or_le q 4294967296 with h' | h'
   ·exact h'
   ·have : 4294967296 * y1 ≤ q * y1 := Int.mul_le_mul_of_nonneg_right h' (by omega)
    omega
 refine ⟨hq, ?_, by omega⟩
 rw [mulY]
 rcases h with h | h
 ·omega
 ·have : q * y0 ≤ 4294967295 * 4294967295 := Int.mul_le_mul (by omega) (by omega) h3 (by omega)
  omega

theorem Gs.bd {Y y1 y0 U u1 q r : Int} (d : Dv Y y1 y0 U u1) (g : Gs Y y1 y0 U u1 q r) (hq : q ≤ 4294967297) : 0 ≤ q * y0 ∧ q * y0 ≤ 18446744073709551615 :=
 ⟨Int.mul_nonneg g.q0 d.y0l, by have := Int.mul_le_mul (a := q) (b := y0) (c := 4294967297) (d := 4294967295) hq (by have := d.y0u; omega) d.y0l (by omega); omega⟩

theorem div_fin {N y S Y q2 Q R : Int} (hS : 0 < S) (hY : y * S = Y) (hR0 : 0 ≤ R) (hR1 : R < Y) (h : N * S = (Q * 4294967296 + q2) * Y + R) : N / y = Q * 4294967296 + q2 ∧ N % y = R / S := by
 generalize Q * 4294967296 + q2 = k at *
 subst hY
 have e : (N - k * y) * S = R := by rw [Int.sub_mul, h, Int.mul_assoc]; omega
 obtain ⟨d, hd⟩ : ∃ d, N - k * y = d := ⟨_, rfl⟩
 rw [hd] at e
 subst e
 have d0 : 0 ≤ d := by
  rcases Int.lt_or_le d 0 with h' | h'
  ·have := Int.mul_neg_of_neg_of_pos h' hS; omega
  ·exact h'
 have d1 : d < y := Int.lt_of_mul_lt_mul_right hR1 (by omega)
 have eN : N = d + k * y := by omega
 rw [Int.mul_ediv_cancel _ (by omega), eN, Int.add_mul_ediv_right _ _ (by omega), Int.add_mul_emod_self_right, Int.ediv_eq_zero_of_lt d0 d1, Int.emod_eq_of_lt d0 d1]
 omega

theorem div_sum {N S U t u1 u0 Y Q q2 v R : Int} (hN : N * S = U * 18446744073709551616 + t) (ht : t = u1 * 4294967296 + u0) (hv : U * 4294967296 + u1 - Q * Y = v) (hR : v * 4294967296 + u0 - q2 * Y = R) : N * S = (Q * 4294967296 + q2) * Y + R := by
 rw [hN, ht, ← hR, ← hv, Int.add_mul, Int.sub_mul, Int.add_mul, Int.mul_assoc U, Int.mul_right_comm Q]; omega

theorem wrap3 (a u b v : Int) (hv : a * 4294967296 + u - b = v) (h0 : 0 ≤ v) (h1 : v < 18446744073709551616) : IntKind.u64.wrap (IntKind.u64.wrap (IntKind.u64.wrap (a * 4294967296) + u) - IntKind.u64.wrap b) = v := by
 rw [IntKind.wrap_u64, IntKind.wrap_u64, IntKind.wrap_u64, IntKind.wrap_u64]; omega

set_option maxHeartbeats 1000000 in
theorem div64_easy (lo y : Int) (hl : Wd.W64 lo) (h0 : 0 < y) (hy : y < 18446744073709551616) (w : World) :
  Calls Tryz.prog 157 #[.int .u64 0, .int .u64 lo, .int .u64 y] w fun e w' => e = .returned (.tuple #[.int .u64 (lo / y), .int .u64 (lo % y)]) ∧ ∃ k, w' = w.drewN k := by
 obtain ⟨hl0, hl1⟩ := hl
 have z : (y == 0) = false := by rw [beq_eq_false_iff_ne]; omega
 have q0 : 0 ≤ lo / y := Int.ediv_nonneg hl0 (by omega)
 have q1 : lo / y ≤ lo := Int.ediv_le_self y hl0
 have r0 : 0 ≤ lo % y := Int.emod_nonneg _ (by omega)
 have r1 : lo % y < y := Int.emod_lt_of_pos _ h0
 go_enter Tryz.func157, Tryz.ntmps157
 go_wp2_with fail
 go_quiet (fail)
 go_wp2
 go_ret2
 exact ⟨rfl, _, rfl⟩

set_option maxHeartbeats 4000000 in
set_option maxRecDepth 100000 in
theorem div64_hard (hi lo y : Int) (h0 : 0 < hi) (hh : hi < y) (hl : Wd.W64 lo) (hy : y < 18446744073709551616) (w : World) :
  Calls Tryz.prog 157 #[.int .u64 hi, .int .u64 lo, .int .u64 y] w fun e w' => e = .returned (.tuple #[.int .u64 ((hi * 18446744073709551616 + lo) / y), .int .u64 ((hi * 18446744073709551616 + lo) % y)]) ∧ w' = w := by
 obtain ⟨hl0, hl1⟩ := hl
 obtain ⟨s, hs, es, hs1, hs2⟩ := lz_bounds y (by omega) hy
 have hLZ := Tryz.bits_LeadingZeros64 y w (by omega) (by omega)
 rw [es] at hLZ
 have HLZ := hide hLZ
 have z1 : (y == 0) = false := by rw [beq_eq_false_iff_ne]; omega
 have z2 : (hi == 0) = false := by rw [beq_eq_false_iff_ne]; omega
 obtain ⟨e1, g0, e3, e4, e5⟩ := shift_join hi lo y s hs (by omega) hh hl0 hl1 hs2
 obtain ⟨Y, hY⟩ : ∃ Y, y * 2 ^ s = Y := ⟨_, rfl⟩
 rw [hY] at hs1 hs2 e5
 have eY : IntKind.u64.wrap (y * 2 ^ s) = Y := by rw [hY, IntKind.wrap_u64]; omega
 obtain ⟨U, hU⟩ : ∃ U, hi * 2 ^ s + lo / 2 ^ (64 - s) = U := ⟨_, rfl⟩
 have hU0 : 0 ≤ U := by have : 0 ≤ hi * 2 ^ s := Int.mul_nonneg (by omega) (by have := pow_pos2 s; omega); omega
 have eU : bits .or .u64 (IntKind.u64.wrap (hi * 2 ^ s)) (lo / 2 ^ (64 - s)) = U := by rw [e1, e3, hU]
 obtain ⟨t, ht⟩ : ∃ t, lo * 2 ^ s % 18446744073709551616 = t := ⟨_, rfl⟩
 have et : IntKind.u64.wrap (lo * 2 ^ s) = t := by rw [← ht, IntKind.wrap_u64]
 have ht0 : 0 ≤ t := by omega
 have ht1 : t < 18446744073709551616 := by omega
 have hN : (hi * 18446744073709551616 + lo) * 2 ^ s = U * 18446744073709551616 + t := by
  rw [Int.add_mul, ← hU, Int.add_mul, Int.mul_right_comm]; omega
 obtain ⟨y1, ey1⟩ : ∃ y1, Y / 4294967296 = y1 := ⟨_, rfl⟩
 obtain ⟨y0, ey0⟩ : ∃ y0, Y % 4294967296 = y0 := ⟨_, rfl⟩
 have ea : bits .and .u64 Y 4294967295 = y0 := by rw [and_low32 Y (by omega) hs2, ey0]
 obtain ⟨u1, eu1⟩ : ∃ u1, t / 4294967296 = u1 := ⟨_, rfl⟩
 obtain ⟨u0, eu0⟩ : ∃ u0, t % 4294967296 = u0 := ⟨_, rfl⟩
 have eb : bits .and .u64 t 4294967295 = u0 := by rw [and_low32 t (by omega) ht1, eu0]
 have D1 : Hid (Dv Y y1 y0 U u1) := ⟨by omega, by omega, by omega, by omega, by omega, hU0, by omega, by omega, by omega⟩
 have hy1 : 0 < y1 := by omega
 have hy1' : y1 < 4294967296 := by omega
 have hy0 : 0 ≤ y0 := by omega
 have hy0' : y0 < 4294967296 := by omega
 have hu1 : 0 ≤ u1 := by omega
 have hu1' : u1 < 4294967296 := by omega
 have hu0 : 0 ≤ u0 := by omega
 have hu0' : u0 < 4294967296 := by omega
 have hUY : U < 18446744073709551616 := by omega
 have z4 : decide (y ≤ hi) = false := decide_eq_false (by omega)
 have z3 : (y1 == 0) = false := by rw [beq_eq_false_iff_ne]; omega
 have S1 := Gs.start (unhide D1)
 obtain ⟨S1, hq, hr⟩ := S1
 have HS1 := hide S1
 have hq0 := S1.q0
 have hqe := S1.eq
 have hr0 := S1.r0
 have hqy : 0 ≤ U / y1 * y1 := Int.mul_nonneg hq0 (by omega)
 have hqy' : U / y1 * y1 ≤ U := by omega
 have er : U - U / y1 * y1 = U % y1 := by omega
 have HT := hide (show t = u1 * 4294967296 + u0 by omega)
 have HN := hide hN
 have HY := hide hY
 clear hLZ es hN hY hU e1 e3 e4 e5 g0 ht S1 hqe
 go_enter Tryz.func157, Tryz.ntmps157
 go_wp2_with (go_at_call 167; refine (unhide HLZ).mono ?_; rintro e w ⟨rfl, rfl⟩)
 clear HLZ eY eU et ey1 ey0 ea eu1 eu0 eb hqy hqy' er z1 z2 hs1 ht0 ht1
 go_loop [15, 16] (fun vq vr => ∃ q r, vq = .int .u64 q ∧ vr = .int .u64 r ∧ Gs Y y1 y0 U u1 q r ∧ q ≤ 4294967297 ∧ r < 4294967296) (fun vq _ => (intOf vq).toNat)
 case atStart => exact ⟨_, _, rfl, rfl, unhide HS1, hq, hr⟩
 case round =>
  obtain ⟨q, r, rfl, rfl, G, hq, hr⟩ := hrel
  have ⟨b1, b2⟩ := Gs.bd (unhide D1) G hq
  have hq0 := G.q0
  have hr0 := G.r0
  clear HS1
  by_cases hC : 4294967296 ≤ q ∨ 4294967296 * r + u1 < q * y0
  ·have ⟨hq1, G1⟩ := Gs.step (unhide D1) G hC
   have HG1 := hide G1
   clear G G1
   by_cases hx : r + y1 < 4294967296
   ·rcases hC with hC | hC
    ·go_wp2
     exact ⟨⟨_, _, rfl, rfl, unhide HG1, by omega, hx⟩, by simp [intOf]; omega⟩
    ·by_cases hC' : 4294967296 ≤ q
     ·go_wp2
      exact ⟨⟨_, _, rfl, rfl, unhide HG1, by omega, hx⟩, by simp [intOf]; omega⟩
     ·go_wp2
      exact ⟨⟨_, _, rfl, rfl, unhide HG1, by omega, hx⟩, by simp [intOf]; omega⟩
   ·have hx' : 4294967296 ≤ r + y1 := by omega
    by_cases hC' : 4294967296 ≤ q
    ·skip
     have ⟨hQ1, hv0, hv1⟩ := Gs.done (unhide D1) (unhide HG1) (Or.inr hx')
     obtain ⟨v, hv⟩ : ∃ v, U * 4294967296 + u1 - (q - 1) * Y = v := ⟨_, rfl⟩
     rw [hv] at hv0 hv1
     have hv2 : v < 18446744073709551616 := by omega
     have ev := wrap3 U u1 ((q - 1) * Y) v hv hv0 hv2
     have D2 : Hid (Dv Y y1 y0 v u0) := hide ⟨(unhide D1).eY, (unhide D1).y1l, hy1', hy0, hy0', hv0, hv1, hu0, hu0'⟩
     have S2 := Gs.start (unhide D2)
     obtain ⟨S2, hk, hm⟩ := S2
     have HS2 := hide S2
     have hk0 := S2.q0
     have hke := S2.eq
     have hm0 := S2.r0
     have hky : 0 ≤ v / y1 * y1 := Int.mul_nonneg hk0 (by omega)
     have hky' : v / y1 * y1 ≤ v := by omega
     have em : v - v / y1 * y1 = v % y1 := by omega
     have HV := hide hv
     clear hv S2 hke hC HG1
     go_wp2
     clear ev hky hky' em
     go_loop [18, 16] (fun vq vr => ∃ q r, vq = .int .u64 q ∧ vr = .int .u64 r ∧ Gs Y y1 y0 v u0 q r ∧ q ≤ 4294967297 ∧ r < 4294967296) (fun vq _ => (intOf vq).toNat)
     case atStart => exact ⟨_, _, rfl, rfl, unhide HS2, hk, hm⟩
     case round =>
      obtain ⟨k, m, rfl, rfl, G2, hk, hm⟩ := hrel
      have ⟨c1, c2⟩ := Gs.bd (unhide D2) G2 hk
      have hk0 := G2.q0
      have hm0 := G2.r0
      clear HS2
      by_cases hE : 4294967296 ≤ k ∨ 4294967296 * m + u0 < k * y0
      ·have ⟨hk1, G3⟩ := Gs.step (unhide D2) G2 hE
       have HG3 := hide G3
       clear G2 G3
       by_cases hx : m + y1 < 4294967296
       ·rcases hE with hE | hE
        ·go_wp2
         exact ⟨⟨_, _, rfl, rfl, unhide HG3, by omega, hx⟩, by simp [intOf]; omega⟩
        ·by_cases hE' : 4294967296 ≤ k
         ·go_wp2
          exact ⟨⟨_, _, rfl, rfl, unhide HG3, by omega, hx⟩, by simp [intOf]; omega⟩
         ·go_wp2
          exact ⟨⟨_, _, rfl, rfl, unhide HG3, by omega, hx⟩, by simp [intOf]; omega⟩
       ·have hx' : 4294967296 ≤ m + y1 := by omega
        by_cases hE' : 4294967296 ≤ k
        ·have ⟨hP1, hw0, hw1⟩ := Gs.done (unhide D2) (unhide HG3) (Or.inr hx')
         obtain ⟨x, hx2⟩ : ∃ x, v * 4294967296 + u0 - (k - 1) * Y = x := ⟨_, rfl⟩
         rw [hx2] at hw0 hw1
         have ex := wrap3 v u0 ((k - 1) * Y) x hx2 hw0 (by omega)
         have FF := div_fin (pow_pos2 s) (unhide HY) hw0 hw1 (div_sum (unhide HN) (unhide HT) (unhide HV) hx2)
         have HFF := hide FF
         clear FF hx2
         clear hE HG3
         go_wp2
         go_ret2
         rw [(unhide HFF).1, (unhide HFF).2]
         exact ⟨rfl, rfl⟩
        ·have hE3 : 4294967296 * m + u0 < k * y0 := by omega
         have ⟨hP1, hw0, hw1⟩ := Gs.done (unhide D2) (unhide HG3) (Or.inr hx')
         obtain ⟨x, hx2⟩ : ∃ x, v * 4294967296 + u0 - (k - 1) * Y = x := ⟨_, rfl⟩
         rw [hx2] at hw0 hw1
         have ex := wrap3 v u0 ((k - 1) * Y) x hx2 hw0 (by omega)
         have FF := div_fin (pow_pos2 s) (unhide HY) hw0 hw1 (div_sum (unhide HN) (unhide HT) (unhide HV) hx2)
         have HFF := hide FF
         clear FF hx2
         clear hE HG3
         go_wp2
         go_ret2
         rw [(unhide HFF).1, (unhide HFF).2]
         exact ⟨rfl, rfl⟩
      ·have hE1 : k < 4294967296 := by omega
       have hE2 : k * y0 ≤ 4294967296 * m + u0 := by omega
       have ⟨hP1, hw0, hw1⟩ := Gs.done (unhide D2) G2 (Or.inl ⟨hE1, hE2⟩)
       obtain ⟨x, hx2⟩ : ∃ x, v * 4294967296 + u0 - k * Y = x := ⟨_, rfl⟩
       rw [hx2] at hw0 hw1
       have ex := wrap3 v u0 (k * Y) x hx2 hw0 (by omega)
       have FF := div_fin (pow_pos2 s) (unhide HY) hw0 hw1 (div_sum (unhide HN) (unhide HT) (unhide HV) hx2)
       have HFF := hide FF
       clear FF hx2
       clear hE G2
       go_wp2
       go_ret2
       rw [(unhide HFF).1, (unhide HFF).2]
       exact ⟨rfl, rfl⟩
    ·have hC3 : 4294967296 * r + u1 < q * y0 := by omega
     have ⟨hQ1, hv0, hv1⟩ := Gs.done (unhide D1) (unhide HG1) (Or.inr hx')
     obtain ⟨v, hv⟩ : ∃ v, U * 4294967296 + u1 - (q - 1) * Y = v := ⟨_, rfl⟩
     rw [hv] at hv0 hv1
     have hv2 : v < 18446744073709551616 := by omega
     have ev := wrap3 U u1 ((q - 1) * Y) v hv hv0 hv2
     have D2 : Hid (Dv Y y1 y0 v u0) := hide ⟨(unhide D1).eY, (unhide D1).y1l, hy1', hy0, hy0', hv0, hv1, hu0, hu0'⟩
     have S2 := Gs.start (unhide D2)
     obtain ⟨S2, hk, hm⟩ := S2
     have HS2 := hide S2
     have hk0 := S2.q0
     have hke := S2.eq
     have hm0 := S2.r0
     have hky : 0 ≤ v / y1 * y1 := Int.mul_nonneg hk0 (by omega)
     have hky' : v / y1 * y1 ≤ v := by omega
     have em : v - v / y1 * y1 = v % y1 := by omega
     have HV := hide hv
     clear hv S2 hke hC HG1
     go_wp2
     clear ev hky hky' em
     go_loop [18, 16] (fun vq vr => ∃ q r, vq = .int .u64 q ∧ vr = .int .u64 r ∧ Gs Y y1 y0 v u0 q r ∧ q ≤ 4294967297 ∧ r < 4294967296) (fun vq _ => (intOf vq).toNat)
     case atStart => exact ⟨_, _, rfl, rfl, unhide HS2, hk, hm⟩
     case round =>
      obtain ⟨k, m, rfl, rfl, G2, hk, hm⟩ := hrel
      have ⟨c1, c2⟩ := Gs.bd (unhide D2) G2 hk
      have hk0 := G2.q0
      have hm0 := G2.r0
      clear HS2
      by_cases hE : 4294967296 ≤ k ∨ 4294967296 * m + u0 < k * y0
      ·have ⟨hk1, G3⟩ := Gs.step (unhide D2) G2 hE
       have HG3 := hide G3
       clear G2 G3
       by_cases hx : m + y1 < 4294967296
       ·rcases hE with hE | hE
        ·go_wp2
         exact ⟨⟨_, _, rfl, rfl, unhide HG3, by omega, hx⟩, by simp [intOf]; omega⟩
        ·by_cases hE' : 4294967296 ≤ k
         ·go_wp2
          exact ⟨⟨_, _, rfl, rfl, unhide HG3, by omega, hx⟩, by simp [intOf]; omega⟩
         ·go_wp2
          exact ⟨⟨_, _, rfl, rfl, unhide HG3, by omega, hx⟩, by simp [intOf]; omega⟩
       ·have hx' : 4294967296 ≤ m + y1 := by omega
        by_cases hE' : 4294967296 ≤ k
        ·have ⟨hP1, hw0, hw1⟩ := Gs.done (unhide D2) (unhide HG3) (Or.inr hx')
         obtain ⟨x, hx2⟩ : ∃ x, v * 4294967296 + u0 - (k - 1) * Y = x := ⟨_, rfl⟩
         rw [hx2] at hw0 hw1
         have ex := wrap3 v u0 ((k - 1) * Y) x hx2 hw0 (by omega)
         have FF := div_fin (pow_pos2 s) (unhide HY) hw0 hw1 (div_sum (unhide HN) (unhide HT) (unhide HV) hx2)
         have HFF := hide FF
         clear FF hx2
         clear hE HG3
         go_wp2
         go_ret2
         rw [(unhide HFF).1, (unhide HFF).2]
         exact ⟨rfl, rfl⟩
        ·have hE3 : 4294967296 * m + u0 < k * y0 := by omega
         have ⟨hP1, hw0, hw1⟩ := Gs.done (unhide D2) (unhide HG3) (Or.inr hx')
         obtain ⟨x, hx2⟩ : ∃ x, v * 4294967296 + u0 - (k - 1) * Y = x := ⟨_, rfl⟩
         rw [hx2] at hw0 hw1
         have ex := wrap3 v u0 ((k - 1) * Y) x hx2 hw0 (by omega)
         have FF := div_fin (pow_pos2 s) (unhide HY) hw0 hw1 (div_sum (unhide HN) (unhide HT) (unhide HV) hx2)
         have HFF := hide FF
         clear FF hx2
         clear hE HG3
         go_wp2
         go_ret2
         rw [(unhide HFF).1, (unhide HFF).2]
         exact ⟨rfl, rfl⟩
      ·have hE1 : k < 4294967296 := by omega
       have hE2 : k * y0 ≤ 4294967296 * m + u0 := by omega
       have ⟨hP1, hw0, hw1⟩ := Gs.done (unhide D2) G2 (Or.inl ⟨hE1, hE2⟩)
       obtain ⟨x, hx2⟩ : ∃ x, v * 4294967296 + u0 - k * Y = x := ⟨_, rfl⟩
       rw [hx2] at hw0 hw1
       have ex := wrap3 v u0 (k * Y) x hx2 hw0 (by omega)
       have FF := div_fin (pow_pos2 s) (unhide HY) hw0 hw1 (div_sum (unhide HN) (unhide HT) (unhide HV) hx2)
       have HFF := hide FF
       clear FF hx2
       clear hE G2
       go_wp2
       go_ret2
       rw [(unhide HFF).1, (unhide HFF).2]
       exact ⟨rfl, rfl⟩
  ·have hC1 : q < 4294967296 := by omega
   have hC2 : q * y0 ≤ 4294967296 * r + u1 := by omega
   have ⟨hQ1, hv0, hv1⟩ := Gs.done (unhide D1) G (Or.inl ⟨hC1, hC2⟩)
   obtain ⟨v, hv⟩ : ∃ v, U * 4294967296 + u1 - q * Y = v := ⟨_, rfl⟩
   rw [hv] at hv0 hv1
   have hv2 : v < 18446744073709551616 := by omega
   have ev := wrap3 U u1 (q * Y) v hv hv0 hv2
   have D2 : Hid (Dv Y y1 y0 v u0) := hide ⟨(unhide D1).eY, (unhide D1).y1l, hy1', hy0, hy0', hv0, hv1, hu0, hu0'⟩
   have S2 := Gs.start (unhide D2)
   obtain ⟨S2, hk, hm⟩ := S2
   have HS2 := hide S2
   have hk0 := S2.q0
   have hke := S2.eq
   have hm0 := S2.r0
   have hky : 0 ≤ v / y1 * y1 := Int.mul_nonneg hk0 (by omega)
   have hky' : v / y1 * y1 ≤ v := by omega
   have em : v - v / y1 * y1 = v % y1 := by omega
   have HV := hide hv
   clear hv S2 hke hC G
   go_wp2
   clear ev hky hky' em
   go_loop [18, 16] (fun vq vr => ∃ q r, vq = .int .u64 q ∧ vr = .int .u64 r ∧ Gs Y y1 y0 v u0 q r ∧ q ≤ 4294967297 ∧ r < 4294967296) (fun vq _ => (intOf vq).toNat)
   case atStart => exact ⟨_, _, rfl, rfl, unhide HS2, hk, hm⟩
   case round =>
    obtain ⟨k, m, rfl, rfl, G2, hk, hm⟩ := hrel
    have ⟨c1, c2⟩ := Gs.bd (unhide D2) G2 hk
    have hk0 := G2.q0
    have hm0 := G2.r0
    clear HS2
    by_cases hE : 4294967296 ≤ k ∨ 4294967296 * m + u0 < k * y0
    ·have ⟨hk1, G3⟩ := Gs.step (unhide D2) G2 hE
     have HG3 := hide G3
     clear G2 G3
     by_cases hx : m + y1 < 4294967296
     ·rcases hE with hE | hE
      ·go_wp2
       exact ⟨⟨_, _, rfl, rfl, unhide HG3, by omega, hx⟩, by simp [intOf]; omega⟩
      ·by_cases hE' : 4294967296 ≤ k
       ·go_wp2
        exact ⟨⟨_, _, rfl, rfl, unhide HG3, by omega, hx⟩, by simp [intOf]; omega⟩
       ·go_wp2
        exact ⟨⟨_, _, rfl, rfl, unhide HG3, by omega, hx⟩, by simp [intOf]; omega⟩
     ·have hx' : 4294967296 ≤ m + y1 := by omega
      by_cases hE' : 4294967296 ≤ k
      ·have ⟨hP1, hw0, hw1⟩ := Gs.done (unhide D2) (unhide HG3) (Or.inr hx')
       obtain ⟨x, hx2⟩ : ∃ x, v * 4294967296 + u0 - (k - 1) * Y = x := ⟨_, rfl⟩
       rw [hx2] at hw0 hw1
       have ex := wrap3 v u0 ((k - 1) * Y) x hx2 hw0 (by omega)
       have FF := div_fin (pow_pos2 s) (unhide HY) hw0 hw1 (div_sum (unhide HN) (unhide HT) (unhide HV) hx2)
       have HFF := hide FF
       clear FF hx2
       clear hE HG3
       go_wp2
       go_ret2
       rw [(unhide HFF).1, (unhide HFF).2]
       exact ⟨rfl, rfl⟩
      ·have hE3 : 4294967296 * m + u0 < k * y0 := by omega
       have ⟨hP1, hw0, hw1⟩ := Gs.done (unhide D2) (unhide HG3) (Or.inr hx')
       obtain ⟨x, hx2⟩ : ∃ x, v * 4294967296 + u0 - (k - 1) * Y = x := ⟨_, rfl⟩
       rw [hx2] at hw0 hw1
       have ex := wrap3 v u0 ((k - 1) * Y) x hx2 hw0 (by omega)
       have FF := div_fin (pow_pos2 s) (unhide HY) hw0 hw1 (div_sum (unhide HN) (unhide HT) (unhide HV) hx2)
       have HFF := hide FF
       clear FF hx2
       clear hE HG3
       go_wp2
       go_ret2
       rw [(unhide HFF).1, (unhide HFF).2]
       exact ⟨rfl, rfl⟩
    ·have hE1 : k < 4294967296 := by omega
     have hE2 : k * y0 ≤ 4294967296 * m + u0 := by omega
     have ⟨hP1, hw0, hw1⟩ := Gs.done (unhide D2) G2 (Or.inl ⟨hE1, hE2⟩)
     obtain ⟨x, hx2⟩ : ∃ x, v * 4294967296 + u0 - k * Y = x := ⟨_, rfl⟩
     rw [hx2] at hw0 hw1
     have ex := wrap3 v u0 (k * Y) x hx2 hw0 (by omega)
     have FF := div_fin (pow_pos2 s) (unhide HY) hw0 hw1 (div_sum (unhide HN) (unhide HT) (unhide HV) hx2)
     have HFF := hide FF
     clear FF hx2
     clear hE G2
     go_wp2
     go_ret2
     rw [(unhide HFF).1, (unhide HFF).2]
     exact ⟨rfl, rfl⟩
end Go.Proofs.YtcelbgleajpenaaGreatDoor
/- Numbers divided by a word. -/
namespace Go.Proofs.YtcelbgleajpenaaGreatDoor
open Go.RowKit Go.Sort Go.Shelf

theorem div64_any (hi lo y : Int) (h0 : 0 ≤ hi) (hh : hi < y) (hl : Wd.W64 lo) (hy : y < 18446744073709551616) (w : World) :
  Calls Tryz.prog 157 #[.int .u64 hi, .int .u64 lo, .int .u64 y] w fun e w' => e = .returned (.tuple #[.int .u64 ((hi * 18446744073709551616 + lo) / y), .int .u64 ((hi * 18446744073709551616 + lo) % y)]) ∧ ∃ k, w' = w.drewN k := by
 rcases Int.lt_or_le 0 hi with h | h
 ·refine (div64_hard hi lo y h hh hl hy w).mono ?_
  rintro e w' ⟨rfl, hw⟩
  exact ⟨rfl, 0, hw⟩
 ·have : hi = 0 := by omega
  subst this
  rw [Int.zero_mul, Int.zero_add]
  exact div64_easy lo y hl hh hy w

theorem vl_cons (f : Nat → Int) (k : Nat) : Wd.vl f (k + 1) = f 0 + 18446744073709551616 * Wd.vl (fun j => f (1 + j)) k := by
 rw [Nat.add_comm, Wd.vl_split, Wd.vl_one, Wd.pw_one]

theorem divInto_val {d dk : Array Int} {n m : Nat} {b rest x : Int} (hm : m < n) (hs : dk.size = n) (hx : d[m]! = x)
  (hv : Wd.vl (fun j => d[m + 1 + j]!) (n - (m + 1)) = Wd.vl (fun j => dk[m + 1 + j]!) (n - (m + 1)) * b + rest) :
  Wd.vl (fun j => d[m + j]!) (n - m) = Wd.vl (fun j => (dk.setIfInBounds m ((rest * 18446744073709551616 + x) / b))[m + j]!) (n - m) * b + (rest * 18446744073709551616 + x) % b := by
 obtain ⟨k, hk⟩ : ∃ k, n - m = k + 1 := ⟨n - m - 1, by omega⟩
 have hk' : n - (m + 1) = k := by omega
 rw [hk'] at hv
 rw [hk, vl_cons, vl_cons, Nat.add_zero, getElem!_set_same dk m _ (by omega), hx]
 have e1 : Wd.vl (fun j => d[m + (1 + j)]!) k = Wd.vl (fun j => d[m + 1 + j]!) k := Wd.vl_congr (fun j _ => by rw [Nat.add_assoc])
 have e2 : Wd.vl (fun j => (dk.setIfInBounds m ((rest * 18446744073709551616 + x) / b))[m + (1 + j)]!) k = Wd.vl (fun j => dk[m + 1 + j]!) k := Wd.vl_congr (fun j _ => by rw [getElem!_set_other dk m _ _ (by omega), Nat.add_assoc])
 rw [e1, e2, hv]
 have e3 := Int.mul_ediv_add_emod (rest * 18446744073709551616 + x) b
 generalize (rest * 18446744073709551616 + x) / b = q at *
 generalize (rest * 18446744073709551616 + x) % b = r at *
 rw [Int.add_mul, Int.mul_add, ← Int.mul_assoc 18446744073709551616, Int.mul_comm q b]
 omega

theorem div_word {rest x b : Int} (h0 : 0 ≤ rest) (h1 : rest < b) (hx : Wd.W64 x) : Wd.W64 ((rest * 18446744073709551616 + x) / b) := by
 obtain ⟨hx0, hx1⟩ := hx
 refine ⟨Int.ediv_nonneg (by omega) (by omega), (Int.ediv_lt_iff_lt_mul (by omega)).2 ?_⟩
 omega

theorem put_drewN (w : World) (g o k : Nat) (d : Array Int) (i : Nat) (x : Int) (hi : i < d.size) (k2 : Nat) :
  (((putRow enc w g o d).drewN k).drewN k2).setCell ⟨g, o + i, none⟩ (.int .u64 x) = (putRow enc w g o (d.setIfInBounds i x)).drewN (k + k2) := by
 rw [← putRow_set enc w g o d i x hi, World.drewN_drewN]
 rfl

set_option maxHeartbeats 1000000 in
set_option maxRecDepth 100000 in
theorem divideInto_any (g o c : Nat) (d : Array Int) (n : Nat) (b : Int) (w : World) (hn : d.size = n) (hH : Holds enc w g o d) (hd : ∀ j, j < n → Wd.W64 d[j]!) (hnc : n ≤ 9223372036854775807) (hb0 : 0 < b) (hb1 : b < 18446744073709551616) :
  Calls Tryz.prog 128 #[.slice (some ⟨g, o, none⟩) n c, .int .u64 b] w fun e w' => e = .returned (.int .u64 (Wd.vl (fun j => d[j]!) n % b)) ∧
   ∃ (d' : Array Int) (k : Nat), d'.size = n ∧ w' = (putRow enc w g o d').drewN k ∧ (∀ j, j < n → Wd.W64 d'[j]!) ∧ Wd.vl (fun j => d'[j]!) n = Wd.vl (fun j => d[j]!) n / b := by
 go_enter Tryz.func128, Tryz.ntmps128
 go_wp2
 go_loopw [5, 6] (fun vr vi wr => ∃ (m : Nat) (rest : Int) (dk : Array Int) (k : Nat), vr = .int .u64 rest ∧ vi = .int .i64 ((m : Int) - 1) ∧ m ≤ n ∧ 0 ≤ rest ∧ rest < b ∧ dk.size = n ∧ wr = (putRow enc w g o dk).drewN k ∧
   (∀ j, j < n → Wd.W64 dk[j]!) ∧ (∀ j, j < m → dk[j]! = d[j]!) ∧ Wd.vl (fun j => d[m + j]!) (n - m) = Wd.vl (fun j => dk[m + j]!) (n - m) * b + rest) (fun _ vi _ => (intOf vi + 1).toNat)
 case atStart => exact ⟨n, 0, d, 0, rfl, rfl, Nat.le_refl _, by decide, hb0, hn, (putRow_self _ _ _ _ _ hH).symm, hd, fun _ _ => rfl, by simp [Wd.vl]⟩
 case round =>
  obtain ⟨m, rest, dk, k, rfl, rfl, hm, hr0, hr1, hs, hwr, hw, hrest, hv⟩ := hrel
  by_cases hm0 : m = 0
  ·subst hm0
   have e1 : Wd.vl (fun j => d[0 + j]!) (n - 0) = Wd.vl (fun j => d[j]!) n := by simp
   have e2 : Wd.vl (fun j => dk[0 + j]!) (n - 0) = Wd.vl (fun j => dk[j]!) n := by simp
   rw [e1, e2] at hv
   have f1 : Wd.vl (fun j => d[j]!) n % b = rest := by rw [hv, Int.add_comm, Int.add_mul_emod_self_right, Int.emod_eq_of_lt hr0 hr1]
   have f2 : Wd.vl (fun j => dk[j]!) n = Wd.vl (fun j => d[j]!) n / b := by rw [hv, Int.add_comm, Int.add_mul_ediv_right _ _ (by omega), Int.ediv_eq_zero_of_lt hr0 hr1]; omega
   have F1 := hide f1
   have F2 := hide f2
   have HW := hide hw
   have HWR := hide hwr
   clear hv e1 e2 f1 f2 hw hrest hd hH hwr
   go_wp2
   go_ret
   exact ⟨by rw [unhide F1]; rfl, dk, k, hs, unhide HWR, unhide HW, unhide F2⟩
  ·obtain ⟨i, rfl⟩ : ∃ i, m = i + 1 := ⟨m - 1, by omega⟩
   obtain ⟨x, hx⟩ : ∃ x, d[i]! = x := ⟨_, rfl⟩
   have hxw := hd i (by omega)
   rw [hx] at hxw
   have hdx : dk[i]! = x := by rw [hrest i (by omega), hx]
   have hca : wr.cell? ⟨g, o + i, none⟩ = some (.int .u64 x) := by rw [hwr, ← hdx]; exact cell?_putRow _ _ _ _ d dk hH (by omega) i (by omega)
   have hfa : wr.frozen? ⟨g, o + i, none⟩ = false := by rw [hwr, World.frozen?_drewN, frozen?_putRow]; exact (hH i (by omega)).2
   have ei : ((i : Int) + 1 - 1).toNat = i := by omega
   have en : ((i + 1 : Nat) : Int) - 1 = (i : Int) := by omega
   have FIN : Hid (∀ k2, ∃ (m' : Nat) (rest' : Int) (dk' : Array Int) (k' : Nat), Value.int .u64 ((rest * 18446744073709551616 + x) % b) = .int .u64 rest' ∧ Value.int .i64 ((i : Int) - 1) = .int .i64 ((m' : Int) - 1) ∧ m' ≤ n ∧ 0 ≤ rest' ∧ rest' < b ∧ dk'.size = n ∧
     (wr.drewN k2).setCell ⟨g, o + i, none⟩ (.int .u64 ((rest * 18446744073709551616 + x) / b)) = (putRow enc w g o dk').drewN k' ∧
     (∀ j, j < n → Wd.W64 dk'[j]!) ∧ (∀ j, j < m' → dk'[j]! = d[j]!) ∧ Wd.vl (fun j => d[m' + j]!) (n - m') = Wd.vl (fun j => dk'[m' + j]!) (n - m') * b + rest') := by
    intro k2
    refine ⟨i, _, dk.setIfInBounds i ((rest * 18446744073709551616 + x) / b), k + k2, rfl, rfl, by omega, Int.emod_nonneg _ (by omega), Int.emod_lt_of_pos _ hb0, by simpa using hs, ?_, words_set hw (div_word hr0 hr1 hxw) (by omega), fun j hj => ?_, divInto_val (by omega) hs hx hv⟩
    ·rw [hwr]; exact put_drewN w g o k dk i _ (by omega) k2
    ·rw [getElem!_set_other dk i j _ (by omega)]; exact hrest j (by omega)
   have HDV := hide (div64_any rest x b hr0 hr1 hxw hb1 wr)
   rw [en]
   clear hv hw hrest hd hH hwr hx hxw hdx en hm0
   go_wp2_with (go_at_call 157; refine (unhide HDV).mono ?_; rintro e w' ⟨rfl, k2, hw2⟩; subst hw2)
   exact ⟨unhide FIN k2, by simp [intOf]⟩

theorem divideInto_own {w W : World} {A b : Int} {n : Nat} (hl : Wd.Len A n) (hown : OwnRow W w.heap.size (dgs A n)) (hb : Below w.heap.size w W) (hn : n ≤ 1099511627776) (hb0 : 0 < b) (hb1 : b < 18446744073709551616) :
  Calls Tryz.prog 128 #[.slice (some ⟨w.heap.size, 0, none⟩) n n, .int .u64 b] W fun e w2 => e = .returned (.int .u64 (A % b)) ∧
   ∃ f : Nat → Int, RowIs w2 (some ⟨w.heap.size, 0, none⟩) n n f ∧ (∀ j, j < n → Wd.W64 (f j)) ∧ Wd.vl f n = A / b ∧ Below w.heap.size w w2 := by
 have h := divideInto_any w.heap.size 0 n (dgs A n) n b W (dgs_size A n) hown.holds (dgs_w A n) (by omega) hb0 hb1
 rw [dgs_vl, Wd.vl_dig_all hl.1 hl.2.1] at h
 refine h.mono ?_
 rintro e w2 ⟨rfl, d', k, hs, rfl, hd, hv⟩
 have ho := hown.put (d' := d') (by rw [dgs_size]; exact hs)
 have hr := ho.rowIs (c := n) (by omega) (by omega)
 rw [hs] at hr
 exact ⟨rfl, _, hr, hd, hv, (hb.trans (below_putRow d' (Nat.le_refl _))).trans ⟨rfl, rfl, rfl, Nat.le_refl _, fun _ _ => rfl⟩⟩

set_option maxHeartbeats 1000000 in
set_option maxRecDepth 100000 in
theorem divideWord_any (va : Value) (A b : Int) (w : World) (ha : NatIs w va A) (hA : Sm A) (hb0 : 0 < b) (hb1 : b < 18446744073709551616) :
  Calls Tryz.prog 140 #[va, .int .u64 b] w fun e w' => ∃ v, e = .returned (.tuple #[v, .int .u64 (A % b)]) ∧ NatIs w' v (A / b) ∧ Below w.heap.size w w' := by
 obtain ⟨a, n, c, rfl, hl, hra⟩ := ha
 have hn := hA.len hl
 have hmk := make_row (n : Int) (by omega) (by omega)
 simp only [Int.toNat_natCast] at hmk
 obtain ⟨W, hcp, hown, hbW⟩ := copy_run w (k := n) (Nat.le_refl _) hl hra
 have HC := hide (divideInto_own hl hown hbW hn hb0 hb1)
 have hnc := hra.1
 have hcc := hra.2.1
 clear hown hbW hl hra hA
 go_enter Tryz.func140, Tryz.ntmps140
 go_wp2_with (go_at_call 128; refine (unhide HC).mono ?_; rintro e w2 ⟨rfl, f, hr, hf, hv, hb⟩; have HR := hide hr; have HF := hide hf; have HV := hide hv; clear hr hf hv hcp hmk)
 go_wp2_with (go_at_call 129; refine (trimmed_any _ _ _ _ _ (unhide HR) (unhide HF)).mono ?_; rintro e w3 ⟨m, rfl, hm, hlm, rfl⟩)
 go_ret2
 refine ⟨_, rfl, ?_, hb⟩
 rw [← unhide HV]
 exact natIs_trim (unhide HR) (unhide HF) hm hlm

theorem gcd_emod (x y : Int) : Int.gcd y (x % y) = Int.gcd x y := by
 have e := Int.emod_add_mul_ediv x y
 rw [Int.gcd_comm x y]
 conv => rhs; rw [← e]
 rw [Int.gcd_add_mul_left_right]

theorem gcd_word {x y : Int} (hx : Wd.W64 x) (hy : Wd.W64 y) : Wd.W64 (Int.gcd x y : Int) := by
 refine ⟨by omega, ?_⟩
 obtain ⟨x0, x1⟩ := hx
 obtain ⟨y0, y1⟩ := hy
 rcases Int.lt_or_le 0 x with h | h
 ·have : Int.gcd x y ≤ x.natAbs := Nat.le_of_dvd (by omega) (Int.gcd_dvd_natAbs_left x y)
  omega
 ·have : x = 0 := by omega
  subst this
  rw [Int.gcd_zero_left]; omega

set_option maxHeartbeats 1000000 in
theorem gcdWord_any (a b : Int) (ha : Wd.W64 a) (hb : Wd.W64 b) (w : World) :
  Calls Tryz.prog 141 #[.int .u64 a, .int .u64 b] w fun e w' => e = .returned (.int .u64 (Int.gcd a b)) ∧ ∃ k, w' = w.drewN k := by
 go_enter Tryz.func141, Tryz.ntmps141
 go_wp2
 go_loopw [0, 1] (fun va vb wr => ∃ x y k, va = .int .u64 x ∧ vb = .int .u64 y ∧ Wd.W64 x ∧ Wd.W64 y ∧ Int.gcd x y = Int.gcd a b ∧ wr = w.drewN k) (fun _ vb _ => (intOf vb).toNat)
 case atStart => exact ⟨a, b, 0, rfl, rfl, ha, hb, rfl, rfl⟩
 case round =>
  obtain ⟨x, y, k, rfl, rfl, ⟨hx0, hx1⟩, ⟨hy0, hy1⟩, hg, rfl⟩ := hrel
  have HG := hide hg
  clear hg
  by_cases h0 : y = 0
  ·subst h0
   go_wp2
   go_ret
   refine ⟨?_, k, rfl⟩
   rw [← unhide HG, Int.gcd_zero_right]
   have : x = (x.natAbs : Int) := by omega
   rw [← this]; rfl
  ·have hz : (y == 0) = false := by rw [beq_eq_false_iff_ne]; exact h0
   have hz' : (y != 0) = true := by rw [bne_iff_ne]; exact h0
   have r0 : 0 ≤ x % y := Int.emod_nonneg _ h0
   have r1 : x % y < y := Int.emod_lt_of_pos _ (by omega)
   go_wp2_with fail
   go_quiet (fail)
   go_wp2
   refine ⟨⟨y, x % y, k + nq, rfl, rfl, ⟨hy0, hy1⟩, ⟨r0, by omega⟩, ?_, World.drewN_drewN _ _ _⟩, by simp [intOf]; omega⟩
   rw [gcd_emod, unhide HG]

theorem natIs_word {w : World} {a : Option Addr} {n c : Nat} {N : Int} (hl : Wd.Len N n) (hr : RowIs w a n c (Wd.dig N)) (h0 : 0 < N) (h1 : N < 18446744073709551616) :
  n = 1 ∧ ∃ b o, a = some ⟨b, o, none⟩ ∧ b < w.heap.size ∧ w.cell? ⟨b, o, none⟩ = some (.int .u64 N) := by
 have hn : n = 1 := Wd.Len.uniq hl ⟨hl.1, by rw [Wd.pw_one]; exact h1, Or.inr (by simp [Wd.pw]; omega)⟩
 subst hn
 obtain ⟨_, _, h3⟩ := hr
 obtain ⟨b, o, e, hlt, hc⟩ := h3 (by decide)
 refine ⟨rfl, b, o, e, hlt, ?_⟩
 have := hc 0 (by decide)
 rw [show Wd.dig N 0 = N by unfold Wd.dig; simp [Wd.pw]; omega] at this
 simpa using this
end Go.Proofs.YtcelbgleajpenaaGreatDoor
