/- Whole numbers by words of 64 bits, the least first: plain mathematics, no program. -/
import Derived.Test.YtcelbgleajpenaaGreatDoorRows
import Derived.WalkKit
import Derived.WalkSpells
import Derived.WalkLawsBesides
import Derived.BigQuiet
import Derived.Deep.QuietTactic
import Derived.Deep.Draws
namespace Wd

def pw : Nat → Int
 | 0 => 1
 | n + 1 => 18446744073709551616 * pw n

def vl (f : Nat → Int) : Nat → Int
 | 0 => 0
 | n + 1 => vl f n + pw n * f n

def dig (N : Int) (j : Nat) : Int := N / pw j % 18446744073709551616

def W64 (x : Int) : Prop := 0 ≤ x ∧ x < 18446744073709551616

theorem pw_zero : pw 0 = 1 := rfl
theorem pw_one : pw 1 = 18446744073709551616 := rfl
theorem pw_succ (n : Nat) : pw (n + 1) = 18446744073709551616 * pw n := rfl
theorem pw_pos (n : Nat) : 0 < pw n := by
 induction n with
 | zero => decide
 | succ n ih => rw [pw_succ]; omega
theorem pw_add (m n : Nat) : pw (m + n) = pw m * pw n := by
 induction m with
 | zero => simp [pw]
 | succ m ih => rw [Nat.succ_add, pw_succ, ih, pw_succ, Int.mul_assoc]
theorem pw_mono {m n : Nat} (h : m ≤ n) : pw m ≤ pw n := by
 obtain ⟨k, rfl⟩ := Nat.exists_eq_add_of_le h
 induction k with
 | zero => exact Int.le_refl _
 | succ k ih => have := ih (by omega); have := pw_pos (m + k); rw [← Nat.add_assoc, pw_succ]; omega
theorem pw_lt_of {m n : Nat} (h : pw m < pw n) : m < n := by
 rcases Nat.lt_or_ge m n with h' | h'
 ·exact h'
 ·have := pw_mono h'; omega

theorem vl_succ (f : Nat → Int) (n : Nat) : vl f (n + 1) = vl f n + pw n * f n := rfl
theorem vl_one (f : Nat → Int) : vl f 1 = f 0 := by simp [vl, pw]
theorem vl_congr {f g : Nat → Int} {n : Nat} (h : ∀ j, j < n → f j = g j) : vl f n = vl g n := by
 induction n with
 | zero => rfl
 | succ n ih => rw [vl_succ, vl_succ, ih (fun j hj => h j (by omega)), h n (by omega)]

theorem vl_bd {f : Nat → Int} {n : Nat} (h : ∀ j, j < n → W64 (f j)) : 0 ≤ vl f n ∧ vl f n < pw n := by
 induction n with
 | zero => simp [vl, pw]
 | succ n ih =>
  have ⟨h1, h2⟩ := ih (fun j hj => h j (by omega))
  have ⟨h3, h4⟩ := h n (by omega)
  have hp := pw_pos n
  have a : pw n * (f n + 1) ≤ pw n * 18446744073709551616 := Int.mul_le_mul_of_nonneg_left (by omega) (by omega)
  have b : 0 ≤ pw n * f n := Int.mul_nonneg (by omega) h3
  rw [Int.mul_add] at a
  rw [vl_succ, pw_succ]
  omega

theorem vl_split (f : Nat → Int) (m n : Nat) : vl f (m + n) = vl f m + pw m * vl (fun j => f (m + j)) n := by
 induction n with
 | zero => simp [vl]
 | succ n ih => rw [← Nat.add_assoc, vl_succ, ih, vl_succ, Int.mul_add, pw_add, Int.mul_assoc, Int.add_assoc]

theorem vl_zeros (f : Nat → Int) (n : Nat) (h : ∀ j, j < n → f j = 0) : vl f n = 0 := by
 induction n with
 | zero => rfl
 | succ n ih => rw [vl_succ, ih (fun j hj => h j (by omega)), h n (by omega)]; omega

theorem vl_ext (f : Nat → Int) {m n : Nat} (hmn : m ≤ n) (h : ∀ j, m ≤ j → j < n → f j = 0) : vl f n = vl f m := by
 obtain ⟨k, rfl⟩ := Nat.exists_eq_add_of_le hmn
 rw [vl_split, vl_zeros _ _ (fun j hj => h (m + j) (by omega) (by omega))]; omega

theorem dig_w (N : Int) (j : Nat) : W64 (dig N j) := ⟨by unfold dig; omega, by unfold dig; omega⟩

theorem vl_dig (N : Int) (n : Nat) : vl (dig N) n = N % pw n := by
 induction n with
 | zero => simp [vl, pw, Int.emod_one]
 | succ n ih =>
  rw [vl_succ, ih, pw_succ]
  unfold dig
  have hp := pw_pos n
  have e1 := Int.emod_add_mul_ediv N (pw n)
  have e2 := Int.emod_add_mul_ediv (N / pw n) 18446744073709551616
  have e3 := Int.emod_add_mul_ediv N (18446744073709551616 * pw n)
  have e4 : N / (18446744073709551616 * pw n) = N / pw n / 18446744073709551616 := by
   rw [Int.mul_comm, Int.ediv_ediv_of_nonneg (by omega)]
  rw [e4] at e3
  generalize N / pw n = q at *
  generalize hr : q % 18446744073709551616 = r at *
  generalize q / 18446744073709551616 = s at *
  have e5 : pw n * q = pw n * r + 18446744073709551616 * pw n * s := by
   rw [← e2, Int.mul_add, ← Int.mul_assoc, Int.mul_comm (pw n) 18446744073709551616]
  omega

theorem vl_dig_all {N : Int} {n : Nat} (h0 : 0 ≤ N) (h : N < pw n) : vl (dig N) n = N := by
 rw [vl_dig, Int.emod_eq_of_lt h0 h]

theorem dig_zero_of {N : Int} {j : Nat} (h0 : 0 ≤ N) (h : N < pw j) : dig N j = 0 := by
 unfold dig; rw [Int.ediv_eq_zero_of_lt h0 h]; rfl

theorem dig_vl {f : Nat → Int} {n : Nat} (h : ∀ j, j < n → W64 (f j)) {j : Nat} (hj : j < n) : dig (vl f n) j = f j := by
 obtain ⟨k, rfl⟩ : ∃ k, n = j + (k + 1) := ⟨n - j - 1, by omega⟩
 rw [vl_split]
 have b1 := vl_bd (f := f) (n := j) (fun i hi => h i (by omega))
 have hp := pw_pos j
 unfold dig
 rw [Int.add_mul_ediv_left _ _ (by omega), Int.ediv_eq_zero_of_lt b1.1 b1.2, Int.zero_add]
 have e : vl (fun i => f (j + i)) (k + 1) = f j + 18446744073709551616 * vl (fun i => f (j + 1 + i)) k := by
  rw [Nat.add_comm k 1, vl_split, vl_one, pw_one]
  simp [Nat.add_assoc]
 rw [e]
 have := h j (by omega)
 unfold W64 at this
 omega

theorem dig_top {N : Int} {n : Nat} (h : N < pw (n + 1)) (h1 : pw n ≤ N) : dig N n ≠ 0 := by
 have hp := pw_pos n
 unfold dig
 have a : 1 ≤ N / pw n := (Int.le_ediv_iff_mul_le hp).2 (by omega)
 have b : N / pw n < 18446744073709551616 := (Int.ediv_lt_iff_lt_mul hp).2 (by rw [pw_succ] at h; omega)
 omega

theorem le_of_top {f : Nat → Int} {n : Nat} (h : ∀ j, j < n + 1 → W64 (f j)) (h0 : f n ≠ 0) : pw n ≤ vl f (n + 1) := by
 have b1 := vl_bd (f := f) (n := n) (fun i hi => h i (by omega))
 have := h n (by omega)
 unfold W64 at this
 have hp := pw_pos n
 have a : pw n * 1 ≤ pw n * f n := Int.mul_le_mul_of_nonneg_left (by omega) (by omega)
 rw [vl_succ]; omega

def Len (N : Int) (n : Nat) : Prop := 0 ≤ N ∧ N < pw n ∧ (n = 0 ∨ pw (n - 1) ≤ N)

theorem Len.uniq {N : Int} {m n : Nat} (h : Len N m) (k : Len N n) : m = n := by
 obtain ⟨h0, h1, h2⟩ := h
 obtain ⟨k0, k1, k2⟩ := k
 rcases Nat.lt_trichotomy m n with h' | h' | h'
 ·rcases k2 with k2 | k2
  ·omega
  ·have := pw_mono (m := m) (n := n - 1) (by omega); omega
 ·exact h'
 ·rcases h2 with h2 | h2
  ·omega
  ·have := pw_mono (m := n) (n := m - 1) (by omega); omega

theorem Len.lt {M N : Int} {m n : Nat} (h : Len M m) (k : Len N n) (hl : m < n) : M < N := by
 obtain ⟨h0, h1, h2⟩ := h
 obtain ⟨k0, k1, k2⟩ := k
 rcases k2 with k2 | k2
 ·omega
 ·have := pw_mono (m := m) (n := n - 1) (by omega); omega

theorem Len.zero {N : Int} (h : Len N 0) : N = 0 := by
 have := h.1; have := h.2.1; rw [pw_zero] at this; omega
theorem Len.of_zero {n : Nat} (h : Len 0 n) : n = 0 := by
 rcases h.2.2 with h | h
 ·exact h
 ·have := pw_pos (n - 1); omega
theorem Len.pos {N : Int} {n : Nat} (h : Len N n) (hn : 0 < n) : 0 < N := by
 rcases h.2.2 with h' | h'
 ·omega
 ·have := pw_pos (n - 1); omega

theorem vl_lt_of_word {f g : Nat → Int} {n i : Nat} (hf : ∀ j, j < n → W64 (f j)) (hg : ∀ j, j < n → W64 (g j)) (hi : i < n)
  (hd : ∀ j, i < j → j < n → f j = g j) (h : f i < g i) : vl f n < vl g n := by
 obtain ⟨k, rfl⟩ : ∃ k, n = (i + 1) + k := ⟨n - i - 1, by omega⟩
 rw [vl_split, vl_split g]
 have e : vl (fun j => f (i + 1 + j)) k = vl (fun j => g (i + 1 + j)) k := vl_congr (fun j hj => hd _ (by omega) (by omega))
 rw [e, vl_succ, vl_succ]
 have b1 := vl_bd (f := f) (n := i) (fun j hj => hf j (by omega))
 have b2 := vl_bd (f := g) (n := i) (fun j hj => hg j (by omega))
 have hp := pw_pos i
 have c : pw i * (f i + 1) ≤ pw i * g i := Int.mul_le_mul_of_nonneg_left (by omega) (by omega)
 rw [Int.mul_add] at c
 omega

def sg (x y : Int) : Int := if x < y then -1 else if x = y then 0 else 1
theorem sg_lt {x y : Int} (h : x < y) : sg x y = -1 := by simp [sg, h]
theorem sg_gt {x y : Int} (h : y < x) : sg x y = 1 := by unfold sg; rw [if_neg (by omega), if_neg (by omega)]
theorem sg_eq {x y : Int} (h : x = y) : sg x y = 0 := by unfold sg; rw [if_neg (by omega), if_pos h]

end Wd
/- The smallest functions on numbers by words: a word, one, how far a number is from 0, whether it is 1, without noughts at the upper end, compared. -/
namespace Go.Proofs.YtcelbgleajpenaaGreatDoor
open Go.RowKit

def RowIs (w : World) (a : Option Addr) (n c : Nat) (f : Nat → Int) : Prop :=
 n ≤ c ∧ c ≤ 9223372036854775807 ∧ (0 < n → ∃ b o, a = some ⟨b, o, none⟩ ∧ b < w.heap.size ∧ ∀ j, j < n → w.cell? ⟨b, o + j, none⟩ = some (.int .u64 (f j)))

def NatIs (w : World) (v : Value) (N : Int) : Prop := ∃ a n c, v = .slice a n c ∧ Wd.Len N n ∧ RowIs w a n c (Wd.dig N)

theorem hide {p : Prop} (h : p) : Hid p := h
theorem unhide {p : Prop} (h : Hid p) : p := h

def lenOf : Value → Nat | .slice _ n _ => n | _ => 0

theorem RowIs.below {w w' : World} {a : Option Addr} {n c : Nat} {f : Nat → Int} (h : RowIs w a n c f) (hb : Below w.heap.size w w') : RowIs w' a n c f := by
 obtain ⟨h1, h2, h3⟩ := h
 refine ⟨h1, h2, fun hn => ?_⟩
 obtain ⟨b, o, e, hlt, hc⟩ := h3 hn
 refine ⟨b, o, e, Nat.lt_of_lt_of_le hlt hb.size, fun j hj => ?_⟩
 rw [hb.cell (p := ⟨b, o + j, none⟩) hlt]
 exact hc j hj

theorem NatIs.below {w w' : World} {v : Value} {N : Int} (h : NatIs w v N) (hb : Below w.heap.size w w') : NatIs w' v N := by
 obtain ⟨a, n, c, e, hl, hr⟩ := h
 exact ⟨a, n, c, e, hl, hr.below hb⟩

theorem NatIs.nn {w : World} {v : Value} {N : Int} (h : NatIs w v N) : 0 ≤ N := by
 obtain ⟨a, n, c, e, hl, hr⟩ := h
 exact hl.1

theorem below_drewN (w : World) (k : Nat) : Below w.heap.size w (w.drewN k) := ⟨rfl, rfl, rfl, Nat.le_refl _, fun _ _ => rfl⟩

theorem natIs_one_word {w : World} {b : Nat} {x : Int} (h0 : 0 < x) (h1 : x < 18446744073709551616) (hb : b < w.heap.size) (hc : w.cell? ⟨b, 0, none⟩ = some (.int .u64 x)) : NatIs w (.slice (some ⟨b, 0, none⟩) 1 1) x := by
 refine ⟨_, 1, 1, rfl, ⟨by omega, by rw [Wd.pw_one]; exact h1, Or.inr (by simp [Wd.pw]; omega)⟩, ⟨by decide, by decide, fun _ => ⟨b, 0, rfl, hb, fun j hj => ?_⟩⟩⟩
 have : j = 0 := by omega
 subst this
 rw [hc]
 congr 2
 unfold Wd.dig
 simp [Wd.pw]
 omega

theorem natIs_zero (w : World) (a : Option Addr) (c : Nat) (hc : c ≤ 9223372036854775807) : NatIs w (.slice a 0 c) 0 :=
 ⟨a, 0, c, rfl, ⟨by decide, by decide, Or.inl rfl⟩, ⟨by omega, hc, fun h => by omega⟩⟩

set_option maxHeartbeats 400000 in
theorem word_any (x : Int) (hx : Wd.W64 x) (w : World) :
  Calls Tryz.prog 96 #[.int .u64 x] w fun e w' => ∃ v, e = .returned v ∧ NatIs w' v x ∧ Below w.heap.size w w' := by
 obtain ⟨h0, h1⟩ := hx
 by_cases hz : x = 0
 ·subst hz
  go_enter Tryz.func96, Tryz.ntmps96
  go_wp2
  go_ret
  exact ⟨_, rfl, natIs_zero _ _ _ (by decide), Below.refl _ _⟩
 ·have hb : (x == 0) = false := by simpa using hz
  go_enter Tryz.func96, Tryz.ntmps96
  go_wp2
  go_ret
  exact ⟨_, rfl, natIs_one_word (by omega) h1 (by simp) (by simp), (Below.refl _ _).alloc (Nat.le_refl _) _⟩

theorem one_any (w : World) :
  Calls Tryz.prog 98 #[] w fun e w' => ∃ v, e = .returned v ∧ NatIs w' v 1 ∧ Below w.heap.size w w' := by
 go_enter Tryz.func98, Tryz.ntmps98
 go_wp2
 go_ret
 exact ⟨_, rfl, natIs_one_word (by omega) (by omega) (by simp) (by simp), (Below.refl _ _).alloc (Nat.le_refl _) _⟩

set_option maxHeartbeats 400000 in
theorem size_any (x : Int) (h0 : -9223372036854775808 ≤ x) (h1 : x ≤ 9223372036854775807) (w : World) :
  Calls Tryz.prog 97 #[.int .i64 x] w fun e w' => e = .returned (.int .u64 (x.natAbs : Int)) ∧ w' = w := by
 by_cases hz : x < 0
 ·go_enter Tryz.func97, Tryz.ntmps97
  go_wp2
  go_ret
  refine ⟨?_, rfl⟩
  have e : IntKind.u64.wrap (-IntKind.u64.wrap x) = (x.natAbs : Int) := by rw [IntKind.wrap_u64, IntKind.wrap_u64]; omega
  rw [← e]; rfl
 ·go_enter Tryz.func97, Tryz.ntmps97
  go_wp2
  go_ret
  refine ⟨?_, rfl⟩
  have e : x = (x.natAbs : Int) := by omega
  rw [← e]; rfl

set_option maxHeartbeats 400000 in
theorem isOne_any (v : Value) (N : Int) (w : World) (h : NatIs w v N) :
  Calls Tryz.prog 137 #[v] w fun e w' => e = .returned (.bool (N == 1)) ∧ w' = w := by
 obtain ⟨a, n, c, rfl, hl, h1, h2, h3⟩ := h
 by_cases hn : n = 1
 ·subst hn
  obtain ⟨b, o, rfl, hlt, hc⟩ := h3 (by decide)
  have hc0 := hc 0 (by decide)
  have hd : Wd.dig N 0 = N := by unfold Wd.dig; have := hl.1; have := hl.2.1; rw [Wd.pw_one] at this; simp [Wd.pw]; omega
  rw [hd] at hc0
  clear hc h3 hd
  simp at hc0
  go_enter Tryz.func137, Tryz.ntmps137
  go_wp2
  go_ret
  exact ⟨rfl, rfl⟩
 ·have hb : ((n : Int) == 1) = false := by rw [beq_eq_false_iff_ne]; omega
  have hN : (N == 1) = false := by
   rw [beq_eq_false_iff_ne]
   intro e
   subst e
   exact hn (Wd.Len.uniq hl ⟨by decide, by decide, Or.inr (by decide)⟩)
  rw [hN]
  clear hN h3
  go_enter Tryz.func137, Tryz.ntmps137
  go_wp2
  go_ret
  exact ⟨rfl, rfl⟩

theorem trim_len {f : Nat → Int} {n m : Nat} (hf : ∀ j, j < n → Wd.W64 (f j)) (hm : m ≤ n) (hz : ∀ j, m ≤ j → j < n → f j = 0) (ht : m = 0 ∨ f (m - 1) ≠ 0) : Wd.Len (Wd.vl f n) m := by
 rw [Wd.vl_ext f hm hz]
 have b := Wd.vl_bd (f := f) (n := m) (fun j hj => hf j (by omega))
 refine ⟨b.1, b.2, ?_⟩
 rcases Nat.eq_zero_or_pos m with h | h
 ·exact Or.inl h
 ·obtain ⟨k, rfl⟩ : ∃ k, m = k + 1 := ⟨m - 1, by omega⟩
  rcases ht with ht | ht
  ·omega
  ·exact Or.inr (Wd.le_of_top (fun j hj => hf j (by omega)) ht)

set_option maxHeartbeats 400000 in
theorem trimmed_any (a : Option Addr) (n c : Nat) (f : Nat → Int) (w : World) (h : RowIs w a n c f) (hf : ∀ j, j < n → Wd.W64 (f j)) :
  Calls Tryz.prog 129 #[.slice a n c] w fun e w' => ∃ m, e = .returned (.slice a m c) ∧ m ≤ n ∧ Wd.Len (Wd.vl f n) m ∧ w' = w := by
 obtain ⟨h1, h2, h3⟩ := h
 go_enter Tryz.func129, Tryz.ntmps129
 go_wp2
 go_loop [0] (fun v => ∃ m, v = .slice a m c ∧ m ≤ n ∧ (∀ j, m ≤ j → j < n → f j = 0)) (fun v => lenOf v)
 case atStart => exact ⟨n, rfl, Nat.le_refl _, fun j h1 h2 => absurd h1 (Nat.not_le.2 h2)⟩
 case round =>
  obtain ⟨m, rfl, hm, hz⟩ := hrel
  by_cases hm0 : m = 0
  ·subst hm0
   go_wp2
   go_ret
   exact ⟨0, rfl, hm, trim_len hf hm hz (Or.inl rfl), rfl⟩
  ·have hp : 0 < m := Nat.pos_of_ne_zero hm0
   have hpn : 0 < n := Nat.lt_of_lt_of_le hp hm
   have hmn : m - 1 < n := by omega
   obtain ⟨b, o, rfl, hlt, hc⟩ := h3 hpn
   obtain ⟨x, hx⟩ : ∃ x, f (m - 1) = x := ⟨_, rfl⟩
   have hcm := hc (m - 1) hmn
   rw [hx] at hcm
   have HZ : Hid (∀ j, m ≤ j → j < n → f j = 0) := hz
   have HX : Hid (f (m - 1) = x) := hx
   clear hc hz h3 hx
   by_cases hx0 : x = 0
   ·subst hx0
    go_wp2
    go_round
    case rel => exact ⟨m - 1, rfl, by omega, fun j h1 h2 => by
     rcases Nat.lt_or_ge j m with h | h
     ·rw [show j = m - 1 by omega]; exact HX.out
     ·exact HZ.out j h h2⟩
    case measure => simp [lenOf]; omega
   ·have hxb : (x == 0) = false := by simpa using hx0
    go_wp2
    go_ret
    exact ⟨m, rfl, hm, trim_len hf hm HZ.out (Or.inr (by rw [HX.out]; exact hx0)), rfl⟩

theorem natIs_trim {w : World} {a : Option Addr} {n c m : Nat} {f : Nat → Int} (h : RowIs w a n c f) (hf : ∀ j, j < n → Wd.W64 (f j)) (hm : m ≤ n) (hl : Wd.Len (Wd.vl f n) m) : NatIs w (.slice a m c) (Wd.vl f n) := by
 obtain ⟨h1, h2, h3⟩ := h
 refine ⟨a, m, c, rfl, hl, by omega, h2, fun hp => ?_⟩
 obtain ⟨b, o, e, hlt, hc⟩ := h3 (by omega)
 exact ⟨b, o, e, hlt, fun j hj => by rw [hc j (by omega), Wd.dig_vl hf (by omega)]⟩

theorem drew3 (w : World) (a b c : Nat) : ∃ k, ((w.drewN a).drewN b).drewN c = w.drewN k := ⟨a + b + c, by simp⟩

set_option maxHeartbeats 1000000 in
theorem cmp_any (va vb : Value) (A B : Int) (w : World) (ha : NatIs w va A) (hb : NatIs w vb B) :
  Calls Tryz.prog 114 #[va, vb] w fun e w' => e = .returned (.int .i64 (Wd.sg A B)) ∧ ∃ k, w' = w.drewN k := by
 obtain ⟨a, n, c, rfl, hl, h1, h2, h3⟩ := ha
 obtain ⟨a', n', c', rfl, hl', h1', h2', h3'⟩ := hb
 by_cases hlt : n < n'
 ·have hs : Wd.sg A B = -1 := Wd.sg_lt (Wd.Len.lt hl hl' hlt)
  rw [hs]
  clear hs h3 h3'
  have hne : ((n : Int) != (n' : Int)) = true := by rw [bne_iff_ne]; omega
  go_enter Tryz.func114, Tryz.ntmps114
  go_wp2
  go_ret
  exact ⟨rfl, 0, rfl⟩
 by_cases hgt : n' < n
 ·have hs : Wd.sg A B = 1 := Wd.sg_gt (Wd.Len.lt hl' hl hgt)
  rw [hs]
  clear hs h3 h3'
  have hne : ((n : Int) != (n' : Int)) = true := by rw [bne_iff_ne]; omega
  go_enter Tryz.func114, Tryz.ntmps114
  go_wp2
  go_ret
  exact ⟨rfl, 0, rfl⟩
 obtain rfl : n = n' := by omega
 have hA : Wd.vl (Wd.dig A) n = A := Wd.vl_dig_all hl.1 hl.2.1
 have hB : Wd.vl (Wd.dig B) n = B := Wd.vl_dig_all hl'.1 hl'.2.1
 have HS : Hid (∀ i, i < n → (∀ j, i < j → j < n → Wd.dig A j = Wd.dig B j) → (Wd.dig A i < Wd.dig B i → Wd.sg A B = -1) ∧ (Wd.dig B i < Wd.dig A i → Wd.sg A B = 1)) := by
  intro i hi he
  refine ⟨fun h => Wd.sg_lt ?_, fun h => Wd.sg_gt ?_⟩
  ·rw [← hA, ← hB]; exact Wd.vl_lt_of_word (fun j _ => Wd.dig_w _ _) (fun j _ => Wd.dig_w _ _) hi he h
  ·rw [← hA, ← hB]; exact Wd.vl_lt_of_word (fun j _ => Wd.dig_w _ _) (fun j _ => Wd.dig_w _ _) hi (fun j h1 h2 => (he j h1 h2).symm) h
 have HE : Hid ((∀ j, j < n → Wd.dig A j = Wd.dig B j) → Wd.sg A B = 0) := fun h => Wd.sg_eq (by rw [← hA, ← hB]; exact Wd.vl_congr h)
 generalize Wd.sg A B = s at *
 have H3 := hide h3
 have H3' := hide h3'
 clear hA hB hl hl' hlt hgt h3 h3'
 go_enter Tryz.func114, Tryz.ntmps114
 go_wp2
 go_loopw [5] (fun v wr => ∃ m k : Nat, v = .int .i64 ((m : Int) - 1) ∧ m ≤ n ∧ wr = w.drewN k ∧ (∀ j, m ≤ j → j < n → Wd.dig A j = Wd.dig B j)) (fun v _ => (intOf v + 1).toNat)
 case atStart => exact ⟨n, 0, rfl, Nat.le_refl _, rfl, fun j h1 h2 => absurd h1 (Nat.not_le.2 h2)⟩
 case round =>
  obtain ⟨m, k, rfl, hm, rfl, hz⟩ := hrel
  by_cases hm0 : m = 0
  ·subst hm0
   go_wp2
   go_ret
   have := HE.out (fun j h => hz j (Nat.zero_le _) h)
   exact ⟨by rw [this]; rfl, k, rfl⟩
  ·have hp : 0 < m := Nat.pos_of_ne_zero hm0
   have hpn : 0 < n := Nat.lt_of_lt_of_le hp hm
   have hmn : m - 1 < n := by omega
   have hgt : ∀ j, m - 1 < j → j < n → Wd.dig A j = Wd.dig B j := fun j h1 h2 => hz j (by omega) h2
   have HS1 : Hid ((Wd.dig A (m - 1) < Wd.dig B (m - 1) → s = -1) ∧ (Wd.dig B (m - 1) < Wd.dig A (m - 1) → s = 1)) := HS.out (m - 1) hmn hgt
   obtain ⟨b, o, rfl, hlt, hc⟩ := unhide H3 hpn
   obtain ⟨b', o', rfl, hlt', hc'⟩ := unhide H3' hpn
   have HZ : Hid (∀ j, m ≤ j → j < n → Wd.dig A j = Wd.dig B j) := hz
   obtain ⟨x, hx⟩ : ∃ x, Wd.dig A (m - 1) = x := ⟨_, rfl⟩
   obtain ⟨y, hy⟩ : ∃ y, Wd.dig B (m - 1) = y := ⟨_, rfl⟩
   have hcm := hc (m - 1) hmn
   have hcm' := hc' (m - 1) hmn
   have HX : Hid (Wd.dig A (m - 1) = x) := hx
   have HY : Hid (Wd.dig B (m - 1) = y) := hy
   rw [hx] at hcm
   rw [hy] at hcm'
   have e1 : ((m : Int) - 1).toNat = m - 1 := by omega
   have e2 : (0 : Int) ≤ (m : Int) - 1 := by omega
   have e3 : (m : Int) - 1 < (n : Int) := by omega
   clear hc hc' hz H3 H3' hx hy HS HE hgt
   by_cases hxy : x = y
   ·subst hxy
    go_wp2_with fail
    go_quiet (fail)
    go_wp2
    refine ⟨⟨m - 1, k + nq, ?_, by omega, rfl, fun j h1 h2 => ?_⟩, ?_⟩
    ·congr 1; omega
    ·rcases Nat.lt_or_ge j m with h | h
     ·rw [show j = m - 1 by omega, HX.out, HY.out]
     ·exact HZ.out j h h2
    ·simp [intOf]; omega
   ·have hxb : (x != y) = true := by rw [bne_iff_ne]; exact hxy
    by_cases hl : x < y
    ·go_wp2_with fail
     go_quiet (fail)
     go_wp2
     go_quiet (fail)
     go_wp2
     go_ret
     have := HS1.out.1 (by rw [HX.out, HY.out]; exact hl)
     exact ⟨by rw [this]; rfl, drew3 _ _ _ _⟩
    ·have hgt : y < x := by omega
     go_wp2_with fail
     go_quiet (fail)
     go_wp2
     go_quiet (fail)
     go_wp2
     go_ret
     have := HS1.out.2 (by rw [HX.out, HY.out]; exact hgt)
     exact ⟨by rw [this]; rfl, drew3 _ _ _ _⟩
end Go.Proofs.YtcelbgleajpenaaGreatDoor
