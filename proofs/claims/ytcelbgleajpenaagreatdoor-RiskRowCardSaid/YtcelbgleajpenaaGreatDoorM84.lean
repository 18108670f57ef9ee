/- Parts in a row, by where the last part works that some work ahead of. -/
import Derived.WalkKit
namespace Go.Proofs.YtcelbgleajpenaaGreatDoor.Rsk

end Go.Proofs.YtcelbgleajpenaaGreatDoor.Rsk
/- Things of gates: what works by which parts; the least sets by which it does, and without which it does not. -/
namespace Go.Proofs.YtcelbgleajpenaaGreatDoor.Rsk

/-! The least sets -/
end Go.Proofs.YtcelbgleajpenaaGreatDoor.Rsk
/- Parts in a row: as likely as the gates that say so (numbers as polynomials of the one chance). -/
namespace Go.Proofs.YtcelbgleajpenaaGreatDoor.Rsk

/-- A number times itself. -/
def pwr (a : Rat) : Nat → Rat
  | 0 => 1
  | n + 1 => pwr a n * a
/-- The rows of parts, one behind the other. -/
def rwl (q f : Rat) (b : Nat) : Nat → List Rat
  | 0 => []
  | m + 1 => rwl q f b m ++ [if m < b then 1 else if m = b then 1 - f else (rwl q f b m)[m - 1]! - (rwl q f b m)[m - b - 1]! * q * f]
theorem rwl_len (q f : Rat) (b : Nat) : ∀ m, (rwl q f b m).length = m
  | 0 => rfl
  | m + 1 => by show (rwl q f b m ++ [_]).length = _; rw [List.length_append, rwl_len q f b m]; rfl
def rwv (q f : Rat) (b m : Nat) : Rat := (rwl q f b (m + 1))[m]!
theorem rwl_get (q f : Rat) (b : Nat) : ∀ n m, m < n → (rwl q f b n)[m]! = rwv q f b m
  | 0, m, h => absurd h (Nat.not_lt_zero _)
  | n + 1, m, h => by
    rcases Nat.lt_or_ge m n with a | a
    · rw [← rwl_get q f b n m a]
      show (rwl q f b n ++ [_])[m]! = _
      rw [List.getElem!_eq_getElem?_getD, List.getElem?_append_left (by rw [rwl_len]; exact a), ← List.getElem!_eq_getElem?_getD]
    · obtain rfl : m = n := by omega
      rfl
theorem rwv_step (q f : Rat) (b m : Nat) : rwv q f b m = if m < b then 1 else if m = b then 1 - f else rwv q f b (m - 1) - rwv q f b (m - b - 1) * q * f := by
  unfold rwv
  show (rwl q f b m ++ [_])[m]! = _
  rw [List.getElem!_eq_getElem?_getD, List.getElem?_append_right (by rw [rwl_len]; omega), rwl_len, Nat.sub_self]
  show (if m < b then 1 else if m = b then 1 - f else (rwl q f b m)[m - 1]! - (rwl q f b m)[m - b - 1]! * q * f) = _
  by_cases h1 : m < b
  · rw [if_pos h1, if_pos h1]
  · rw [if_neg h1, if_neg h1]
    by_cases h2 : m = b
    · rw [if_pos h2, if_pos h2]
    · rw [if_neg h2, if_neg h2, rwl_get q f b m (m - 1) (by omega), rwl_get q f b m (m - b - 1) (by omega)]; rfl
end Go.Proofs.YtcelbgleajpenaaGreatDoor.Rsk
namespace Go.Proofs.YtcelbgleajpenaaGreatDoor.Rsk

/-- What the last i parts' failing adds, i below k. -/
def rrs (p q : Rat) (w : Nat → Rat) (m : Nat) : Nat → Rat
  | 0 => 0
  | i + 1 => rrs p q w m i + pwr q i * p * w (m - i - 1)
/-- A row of such sums. -/
def rrl (p q : Rat) (b : Nat) : Nat → List Rat
  | 0 => [1]
  | k + 1 => rrl p q b k ++ [rrs p q (fun j => (rrl p q b k)[j]!) (k + 1) (min b (k + 1)) + if k + 1 < b then pwr q (k + 1) else 0]
theorem rrl_len (p q : Rat) (b : Nat) : ∀ k, (rrl p q b k).length = k + 1
  | 0 => rfl
  | k + 1 => by show (rrl p q b k ++ [_]).length = _; rw [List.length_append, rrl_len p q b k]; rfl
def rrv (p q : Rat) (b k : Nat) : Rat := (rrl p q b k)[k]!
theorem rrl_get (p q : Rat) (b : Nat) : ∀ k j, j ≤ k → (rrl p q b k)[j]! = rrv p q b j
  | 0, j, h => by
    obtain rfl : j = 0 := by omega
    rfl
  | k + 1, j, h => by
    rcases Nat.lt_or_ge j (k + 1) with a | a
    · rw [← rrl_get p q b k j (by omega)]
      show (rrl p q b k ++ [_])[j]! = _
      rw [List.getElem!_eq_getElem?_getD, List.getElem?_append_left (by rw [rrl_len]; exact a), ← List.getElem!_eq_getElem?_getD]
    · obtain rfl : j = k + 1 := by omega
      rfl
theorem rrs_congr {p q : Rat} {w v : Nat → Rat} {m : Nat} : ∀ i, i ≤ m → (∀ j, j < m → w j = v j) → rrs p q w m i = rrs p q v m i
  | 0, _, _ => rfl
  | i + 1, h, e => by
    show rrs p q w m i + pwr q i * p * w (m - i - 1) = _
    rw [rrs_congr i (by omega) e, e (m - i - 1) (by omega)]; rfl
theorem rrv_zero (p q : Rat) (b : Nat) : rrv p q b 0 = 1 := rfl
theorem rrv_step (p q : Rat) (b k : Nat) : rrv p q b (k + 1) = rrs p q (rrv p q b) (k + 1) (min b (k + 1)) + if k + 1 < b then pwr q (k + 1) else 0 := by
  unfold rrv
  show (rrl p q b k ++ [_])[k + 1]! = _
  rw [List.getElem!_eq_getElem?_getD, List.getElem?_append_right (by rw [rrl_len]; exact Nat.le_refl _), rrl_len, Nat.sub_self]
  show rrs p q (fun j => (rrl p q b k)[j]!) (k + 1) (min b (k + 1)) + _ = _
  rw [rrs_congr (v := fun k => (rrl p q b k)[k]!) _ (Nat.min_le_right _ _) (fun j hj => rrl_get p q b k j (by omega))]
/-- Ones alone: the geometric sum. -/
theorem rrs_ones {p q : Rat} (h : p = 1 - q) {w : Nat → Rat} {m : Nat} : ∀ i, i ≤ m → (∀ j, j < m → w j = 1) → rrs p q w m i = 1 - pwr q i
  | 0, _, _ => by show (0 : Rat) = 1 - 1; grind
  | i + 1, hi, e => by
    show rrs p q w m i + pwr q i * p * w (m - i - 1) = 1 - pwr q i * q
    rw [rrs_ones h i (by omega) e, e (m - i - 1) (by omega), h]; grind
/-- A sum one further: the first part apart. -/
theorem rrs_next (p q : Rat) (w : Nat → Rat) (m : Nat) : ∀ i, rrs p q w (m + 1) (i + 1) = p * w m + q * rrs p q w m i
  | 0 => by
    show 0 + pwr q 0 * p * w (m + 1 - 0 - 1) = p * w m + q * 0
    rw [show m + 1 - 0 - 1 = m by omega]
    show 0 + 1 * p * w m = _
    grind
  | i + 1 => by
    show rrs p q w (m + 1) (i + 1) + pwr q (i + 1) * p * w (m + 1 - (i + 1) - 1) = p * w m + q * (rrs p q w m i + pwr q i * p * w (m - i - 1))
    rw [rrs_next p q w m i, show m + 1 - (i + 1) - 1 = m - i - 1 by omega]
    show _ + pwr q i * q * p * _ = _
    grind
theorem rrv_rwv {p q : Rat} (h : p = 1 - q) {b : Nat} (hb : 1 ≤ b) : ∀ k, rrv p q b k = rwv p (pwr q b) b k := by
  intro k
  induction k using Nat.strongRecOn with
  | ind k ih =>
    rw [rwv_step]
    rcases Nat.lt_or_ge k b with h1 | h1
    · rw [if_pos h1]
      cases k with
      | zero => rfl
      | succ k =>
        rw [rrv_step, if_pos h1, show min b (k + 1) = k + 1 by omega, rrs_ones h (k + 1) (Nat.le_refl _) (fun j hj => by
          rw [ih j hj, rwv_step, if_pos (by omega)])]
        grind
    · obtain ⟨m, rfl⟩ : ∃ m, k = m + 1 := ⟨k - 1, by omega⟩
      obtain ⟨c, rfl⟩ : ∃ c, b = c + 1 := ⟨b - 1, by omega⟩
      rw [if_neg (by omega), rrv_step, if_neg (by omega), show min (c + 1) (m + 1) = c + 1 by omega]
      by_cases h2 : m + 1 = c + 1
      · rw [if_pos h2, rrs_ones h (c + 1) (by omega) (fun j hj => by rw [ih j hj, rwv_step, if_pos (by omega)])]
        grind
      · rw [if_neg h2, rrs_next]
        have e := rrv_step p q (c + 1) (m - 1)
        rw [show m - 1 + 1 = m by omega, if_neg (show ¬ m < c + 1 by omega), show min (c + 1) m = c + 1 by omega] at e
        have e2 : rrs p q (rrv p q (c + 1)) m (c + 1) = rrs p q (rrv p q (c + 1)) m c + pwr q c * p * rrv p q (c + 1) (m - c - 1) := rfl
        rw [ih m (by omega)] at e
        rw [ih (m - c - 1) (by omega)] at e2
        rw [ih m (by omega), show m + 1 - 1 = m by omega, show m + 1 - (c + 1) - 1 = m - c - 1 by omega]
        show _ = _ - rwv p (pwr q c * q) (c + 1) (m - c - 1) * p * (pwr q c * q)
        have e3 : pwr q (c + 1) = pwr q c * q := rfl
        rw [e3] at e e2 ⊢
        rw [e2] at e
        have e4 : p * rwv p (pwr q c * q) (c + 1) m = rwv p (pwr q c * q) (c + 1) m - q * rwv p (pwr q c * q) (c + 1) m := by rw [h]; grind
        grind
end Go.Proofs.YtcelbgleajpenaaGreatDoor.Rsk
