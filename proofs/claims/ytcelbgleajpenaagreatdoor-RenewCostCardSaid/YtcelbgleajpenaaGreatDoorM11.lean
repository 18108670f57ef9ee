/- Whole numbers by words of 32 bits, the least first: plain mathematics, no program. -/
namespace Wh

/-- 2^32 to a power. -/
def pw : Nat → Int
 | 0 => 1
 | n + 1 => 4294967296 * pw n

def vl (f : Nat → Int) : Nat → Int
 | 0 => 0
 | n + 1 => vl f n + pw n * f n

def dig (N : Int) (j : Nat) : Int := N / pw j % 4294967296

def W32 (x : Int) : Prop := 0 ≤ x ∧ x < 4294967296

theorem pw_zero : pw 0 = 1 := rfl
theorem pw_one : pw 1 = 4294967296 := rfl
theorem pw_succ (n : Nat) : pw (n + 1) = 4294967296 * pw n := rfl
theorem pw_pos (n : Nat) : 0 < pw n := by
 induction n with
 | zero => decide
 | succ n ih => rw [pw_succ]; omega
theorem pw_add (m n : Nat) : pw (m + n) = pw m * pw n := by
 induction m with
 | zero => simp [pw]
 | succ m ih => rw [Nat.succ_add, pw_succ, ih, pw_succ, Int.mul_assoc]
theorem pw_mono {m n : Nat} (h : m ≤ n) : pw m ≤ pw n := by
 obtain ⟨k, rfl⟩ := Nat.exists_eq_add_of_le h
 induction k with
 | zero => exact Int.le_refl _
 | succ k ih => have := ih (by omega); have := pw_pos (m + k); rw [← Nat.add_assoc, pw_succ]; omega
theorem vl_succ (f : Nat → Int) (n : Nat) : vl f (n + 1) = vl f n + pw n * f n := rfl
theorem vl_one (f : Nat → Int) : vl f 1 = f 0 := by simp [vl, pw]
theorem vl_congr {f g : Nat → Int} {n : Nat} (h : ∀ j, j < n → f j = g j) : vl f n = vl g n := by
 induction n with
 | zero => rfl
 | succ n ih => rw [vl_succ, vl_succ, ih (fun j hj => h j (by omega)), h n (by omega)]

theorem vl_bd {f : Nat → Int} {n : Nat} (h : ∀ j, j < n → W32 (f j)) : 0 ≤ vl f n ∧ vl f n < pw n := by
 induction n with
 | zero => simp [vl, pw]
 | succ n ih =>
  have ⟨h1, h2⟩ := ih (fun j hj => h j (by omega))
  have ⟨h3, h4⟩ := h n (by omega)
  have hp := pw_pos n
  have a : pw n * (f n + 1) ≤ pw n * 4294967296 := Int.mul_le_mul_of_nonneg_left (by omega) (by omega)
  have b : 0 ≤ pw n * f n := Int.mul_nonneg (by omega) h3
  rw [Int.mul_add] at a
  rw [vl_succ, pw_succ]
  omega

theorem vl_split (f : Nat → Int) (m n : Nat) : vl f (m + n) = vl f m + pw m * vl (fun j => f (m + j)) n := by
 induction n with
 | zero => simp [vl]
 | succ n ih => rw [← Nat.add_assoc, vl_succ, ih, vl_succ, Int.mul_add, pw_add, Int.mul_assoc, Int.add_assoc]

theorem vl_zeros (f : Nat → Int) (n : Nat) (h : ∀ j, j < n → f j = 0) : vl f n = 0 := by
 induction n with
 | zero => rfl
 | succ n ih => rw [vl_succ, ih (fun j hj => h j (by omega)), h n (by omega)]; omega

theorem vl_ext (f : Nat → Int) {m n : Nat} (hmn : m ≤ n) (h : ∀ j, m ≤ j → j < n → f j = 0) : vl f n = vl f m := by
 obtain ⟨k, rfl⟩ := Nat.exists_eq_add_of_le hmn
 rw [vl_split, vl_zeros _ _ (fun j hj => h (m + j) (by omega) (by omega))]; omega

theorem dig_w (N : Int) (j : Nat) : W32 (dig N j) := ⟨by unfold dig; omega, by unfold dig; omega⟩

theorem dig_lt (N : Int) (j : Nat) : dig N j < 4294967296 := (dig_w N j).2

theorem vl_dig (N : Int) (n : Nat) : vl (dig N) n = N % pw n := by
 induction n with
 | zero => simp [vl, pw, Int.emod_one]
 | succ n ih =>
  rw [vl_succ, ih, pw_succ]
  unfold dig
  have hp := pw_pos n
  have e1 := Int.emod_add_mul_ediv N (pw n)
  have e2 := Int.emod_add_mul_ediv (N / pw n) 4294967296
  have e3 := Int.emod_add_mul_ediv N (4294967296 * pw n)
  have e4 : N / (4294967296 * pw n) = N / pw n / 4294967296 := by
   rw [Int.mul_comm, Int.ediv_ediv_of_nonneg (by omega)]
  rw [e4] at e3
  generalize N / pw n = q at *
  generalize hr : q % 4294967296 = r at *
  generalize q / 4294967296 = s at *
  have e5 : pw n * q = pw n * r + 4294967296 * pw n * s := by
   rw [← e2, Int.mul_add, ← Int.mul_assoc, Int.mul_comm (pw n) 4294967296]
  omega

theorem vl_dig_all {N : Int} {n : Nat} (h0 : 0 ≤ N) (h : N < pw n) : vl (dig N) n = N := by
 rw [vl_dig, Int.emod_eq_of_lt h0 h]

theorem dig_zero_of {N : Int} {j : Nat} (h0 : 0 ≤ N) (h : N < pw j) : dig N j = 0 := by
 unfold dig; rw [Int.ediv_eq_zero_of_lt h0 h]; rfl

theorem dig_vl {f : Nat → Int} {n : Nat} (h : ∀ j, j < n → W32 (f j)) {j : Nat} (hj : j < n) : dig (vl f n) j = f j := by
 obtain ⟨k, rfl⟩ : ∃ k, n = j + (k + 1) := ⟨n - j - 1, by omega⟩
 rw [vl_split]
 have b1 := vl_bd (f := f) (n := j) (fun i hi => h i (by omega))
 have hp := pw_pos j
 unfold dig
 rw [Int.add_mul_ediv_left _ _ (by omega), Int.ediv_eq_zero_of_lt b1.1 b1.2, Int.zero_add]
 have e : vl (fun i => f (j + i)) (k + 1) = f j + 4294967296 * vl (fun i => f (j + 1 + i)) k := by
  rw [Nat.add_comm k 1, vl_split, vl_one, pw_one]
  simp [Nat.add_assoc]
 rw [e]
 have := h j (by omega)
 unfold W32 at this
 omega

theorem dig_top {N : Int} {n : Nat} (h : N < pw (n + 1)) (h1 : pw n ≤ N) : dig N n ≠ 0 := by
 have hp := pw_pos n
 unfold dig
 have a : 1 ≤ N / pw n := (Int.le_ediv_iff_mul_le hp).2 (by omega)
 have b : N / pw n < 4294967296 := (Int.ediv_lt_iff_lt_mul hp).2 (by rw [pw_succ] at h; omega)
 omega

theorem le_of_top {f : Nat → Int} {n : Nat} (h : ∀ j, j < n + 1 → W32 (f j)) (h0 : f n ≠ 0) : pw n ≤ vl f (n + 1) := by
 have b1 := vl_bd (f := f) (n := n) (fun i hi => h i (by omega))
 have := h n (by omega)
 unfold W32 at this
 have hp := pw_pos n
 have a : pw n * 1 ≤ pw n * f n := Int.mul_le_mul_of_nonneg_left (by omega) (by omega)
 rw [vl_succ]; omega

def Len (N : Int) (n : Nat) : Prop := 0 ≤ N ∧ N < pw n ∧ (n = 0 ∨ pw (n - 1) ≤ N)

theorem Len.uniq {N : Int} {m n : Nat} (h : Len N m) (k : Len N n) : m = n := by
 obtain ⟨h0, h1, h2⟩ := h
 obtain ⟨k0, k1, k2⟩ := k
 rcases Nat.lt_trichotomy m n with h' | h' | h'
 ·rcases k2 with k2 | k2
  ·omega
  ·have := pw_mono (m := m) (n := n - 1) (by omega); omega
 ·exact h'
 ·rcases h2 with h2 | h2
  ·omega
  ·have := pw_mono (m := n) (n := m - 1) (by omega); omega

theorem Len.lt {M N : Int} {m n : Nat} (h : Len M m) (k : Len N n) (hl : m < n) : M < N := by
 obtain ⟨h0, h1, h2⟩ := h
 obtain ⟨k0, k1, k2⟩ := k
 rcases k2 with k2 | k2
 ·omega
 ·have := pw_mono (m := m) (n := n - 1) (by omega); omega

theorem Len.zero {N : Int} (h : Len N 0) : N = 0 := by
 have := h.1; have := h.2.1; rw [pw_zero] at this; omega
theorem Len.of_zero {n : Nat} (h : Len 0 n) : n = 0 := by
 rcases h.2.2 with h | h
 ·exact h
 ·have := pw_pos (n - 1); omega
theorem Len.pos {N : Int} {n : Nat} (h : Len N n) (hn : 0 < n) : 0 < N := by
 rcases h.2.2 with h' | h'
 ·omega
 ·have := pw_pos (n - 1); omega

theorem vl_lt_of_word {f g : Nat → Int} {n i : Nat} (hf : ∀ j, j < n → W32 (f j)) (hg : ∀ j, j < n → W32 (g j)) (hi : i < n)
  (hd : ∀ j, i < j → j < n → f j = g j) (h : f i < g i) : vl f n < vl g n := by
 obtain ⟨k, rfl⟩ : ∃ k, n = (i + 1) + k := ⟨n - i - 1, by omega⟩
 rw [vl_split, vl_split g]
 have e : vl (fun j => f (i + 1 + j)) k = vl (fun j => g (i + 1 + j)) k := vl_congr (fun j hj => hd _ (by omega) (by omega))
 rw [e, vl_succ, vl_succ]
 have b1 := vl_bd (f := f) (n := i) (fun j hj => hf j (by omega))
 have b2 := vl_bd (f := g) (n := i) (fun j hj => hg j (by omega))
 have hp := pw_pos i
 have c : pw i * (f i + 1) ≤ pw i * g i := Int.mul_le_mul_of_nonneg_left (by omega) (by omega)
 rw [Int.mul_add] at c
 omega

def sg (x y : Int) : Int := if x < y then -1 else if x = y then 0 else 1
theorem sg_lt {x y : Int} (h : x < y) : sg x y = -1 := by simp [sg, h]
theorem sg_gt {x y : Int} (h : y < x) : sg x y = 1 := by unfold sg; rw [if_neg (by omega), if_neg (by omega)]
theorem sg_eq {x y : Int} (h : x = y) : sg x y = 0 := by unfold sg; rw [if_neg (by omega), if_pos h]

end Wh
