/- Sums: means of what is beyond, of two amounts together. -/
import Derived.Test.YtpopcfclpemlaaaDoorA18
namespace Go.Proofs.YtpopcfclpemlaaaDoor

theorem whole_RS {x : Int} (h : I64 x) : RS ((x : Int) : Rat) 1 := by
  obtain ⟨h1, h2⟩ := h
  have e : Wd.pw 1 = 18446744073709551616 := Wd.pw_one
  refine ⟨?_, ?_⟩
  · rw [e]; show (x.natAbs : Int) < _; omega
  · rw [e]; show ((1 : Nat) : Int) < _; decide

def wsum (qs : List Rat) (F : Nat → Int) : Nat → Rat
  | 0 => 0
  | k + 1 => wsum qs F k + qs[k]! * ((F k : Int) : Rat)
/-! what is beyond -/
def over (n : Nat) (j : Nat) : Int := max ((j : Int) - (n : Int)) 0

theorem over_step (qs : List Rat) (n k : Nat) : wsum qs (over n) k - wsum qs (over (n + 1)) k = qsum qs k - qsum qs (min k (n + 1)) := by
  induction k with
  | zero => simp [wsum, qsum]
  | succ k ih =>
    by_cases h : k < n + 1
    · have e : over n k = 0 := by unfold over; omega
      have e' : over (n + 1) k = 0 := by unfold over; omega
      have m1 : min k (n + 1) = k := by omega
      have m2 : min (k + 1) (n + 1) = k + 1 := by omega
      rw [m1] at ih
      rw [m2]
      simp only [wsum, qsum, e, e']
      grind
    · have e : over n k = over (n + 1) k + 1 := by unfold over; omega
      have m1 : min k (n + 1) = n + 1 := by omega
      have m2 : min (k + 1) (n + 1) = n + 1 := by omega
      rw [m1] at ih
      rw [m2]
      generalize qsum qs (n + 1) = y at *
      simp only [wsum, qsum, e]
      have c : ((over (n + 1) k + 1 : Int) : Rat) = ((over (n + 1) k : Int) : Rat) + 1 := by rw [Rat.intCast_add]; rfl
      rw [c]
      grind

theorem wsum_congr (qs : List Rat) {F G : Nat → Int} (k : Nat) (h : ∀ j, j < k → F j = G j) : wsum qs F k = wsum qs G k := by
  induction k with
  | zero => rfl
  | succ k ih => simp only [wsum]; rw [ih (fun j hj => h j (by omega)), h k (by omega)]

theorem wsum_cut (qs : List Rat) (F : Nat → Int) (n k : Nat) (hn : n ≤ k) (h : ∀ j, n ≤ j → j < k → qs[j]! = 0) : wsum qs F k = wsum qs F n := by
  induction k with
  | zero => obtain rfl : n = 0 := by omega
            rfl
  | succ k ih =>
    rcases Nat.lt_or_ge k n with h' | h'
    · obtain rfl : n = k + 1 := by omega
      rfl
    · simp only [wsum]
      rw [ih h' (fun j h1 h2 => h j h1 (by omega)), h k h' (by omega)]
      grind

theorem qsum_one (qs : List Rat) (k : Nat) : qsum qs k = wsum qs (fun _ => 1) k := by
  induction k with
  | zero => rfl
  | succ k ih => simp only [wsum, qsum]; rw [ih]; have : ((1 : Int) : Rat) = 1 := rfl; rw [this]; grind

/-! two amounts together -/
theorem rowAdd_length (B : List Rat) (x : Rat) (i j : Nat) (l : List Rat) : (rowAdd B x i j l).length = l.length := by
  induction j with
  | zero => rfl
  | succ j ih => simp only [rowAdd, List.length_set]; exact ih
theorem conv_length (A B : List Rat) (n K i : Nat) : (conv A B n K i).length = K := by
  induction i with
  | zero => simp [conv]
  | succ i ih => simp only [conv]; rw [rowAdd_length]; exact ih

theorem wsum_set (l : List Rat) (F : Nat → Int) (p : Nat) (x : Rat) (hp : p < l.length) (k : Nat) (hk : k ≤ l.length) : wsum (l.set p x) F k = wsum l F k + (if p < k then (x - l[p]!) * ((F p : Int) : Rat) else 0) := by
  induction k with
  | zero => simp only [wsum, Nat.not_lt_zero, if_false]; grind
  | succ k ih =>
    simp only [wsum]
    rw [ih (by omega)]
    by_cases h : p = k
    · subst h
      have e : (l.set p x)[p]! = x := by simp [hp]
      rw [e, if_neg (by omega), if_pos (by omega)]
      grind
    · have e : (l.set p x)[k]! = l[k]! := by simp [h]
      rw [e]
      by_cases h' : p < k
      · rw [if_pos h', if_pos (by omega)]; grind
      · rw [if_neg h', if_neg (by omega)]; grind

theorem rowAdd_sum (B : List Rat) (x : Rat) (F : Nat → Int) (i n : Nat) (l : List Rat) (h : i + n ≤ l.length) : wsum (rowAdd B x i n l) F l.length = wsum l F l.length + x * wsum B (fun j => F (i + j)) n := by
  induction n with
  | zero => simp only [rowAdd, wsum]; grind
  | succ n ih =>
    have hl := rowAdd_length B x i n l
    have ih' := ih (by omega)
    simp only [rowAdd]
    have := wsum_set (rowAdd B x i n l) F (i + n) ((rowAdd B x i n l)[i + n]! + x * B[n]!) (by omega) l.length (by omega)
    rw [if_pos (by omega)] at this
    rw [this, ih']
    simp only [wsum]
    grind

/-- The double sum. -/
def dsum (A B : List Rat) (F : Nat → Int) (n : Nat) : Nat → Rat
  | 0 => 0
  | i + 1 => dsum A B F n i + A[i]! * wsum B (fun j => F (i + j)) n

theorem wsum_zeros (F : Nat → Int) (K k : Nat) (h : k ≤ K) : wsum (List.replicate K 0) F k = 0 := by
  induction k with
  | zero => rfl
  | succ k ih =>
    have e : (List.replicate K (0 : Rat))[k]! = 0 := by simp [show k < K by omega]
    simp only [wsum]
    rw [ih (by omega), e]
    grind

theorem conv_sum (A B : List Rat) (F : Nat → Int) (n K i : Nat) (h : i + n ≤ K + 1) : wsum (conv A B n K i) F K = dsum A B F n i := by
  induction i with
  | zero => simp only [conv, dsum]; exact wsum_zeros F K K (Nat.le_refl _)
  | succ i ih =>
    have hl := conv_length A B n K i
    simp only [conv, dsum]
    have := rowAdd_sum B A[i]! F i n (conv A B n K i) (by omega)
    rw [hl] at this
    rw [this, ih (by omega)]

theorem wsum_add (B : List Rat) (F G : Nat → Int) (n : Nat) : wsum B (fun j => F j + G j) n = wsum B F n + wsum B G n := by
  induction n with
  | zero => simp only [wsum]; grind
  | succ n ih => simp only [wsum]; rw [ih, Rat.intCast_add]; grind
theorem wsum_mul (B : List Rat) (c : Int) (G : Nat → Int) (n : Nat) : wsum B (fun j => c * G j) n = ((c : Int) : Rat) * wsum B G n := by
  induction n with
  | zero => simp only [wsum]; grind
  | succ n ih => simp only [wsum]; rw [ih, Rat.intCast_mul]; grind

/-- Sums over all pairs: of the first power, of the second. -/
theorem dsum_first (A B : List Rat) (n m : Nat) (hB : wsum B (fun _ => 1) n = 1) : dsum A B (fun k => (k : Int)) n m = wsum A (fun j => (j : Int)) m + wsum A (fun _ => 1) m * wsum B (fun j => (j : Int)) n := by
  induction m with
  | zero => simp only [dsum, wsum]; grind
  | succ m ih =>
    have e : wsum B (fun j => ((m + j : Nat) : Int)) n = ((m : Int) : Rat) * wsum B (fun _ => 1) n + wsum B (fun j => (j : Int)) n := by
      rw [← wsum_mul, ← wsum_add]
      exact wsum_congr B n (fun j _ => by omega)
    simp only [dsum, wsum]
    rw [ih, e, hB]
    have : ((1 : Int) : Rat) = 1 := rfl
    rw [this]
    grind

theorem dsum_second (A B : List Rat) (n m : Nat) (hB : wsum B (fun _ => 1) n = 1) :
    dsum A B (fun k => (k : Int) * k) n m = wsum A (fun j => (j : Int) * j) m + 2 * wsum A (fun j => (j : Int)) m * wsum B (fun j => (j : Int)) n + wsum A (fun _ => 1) m * wsum B (fun j => (j : Int) * j) n := by
  induction m with
  | zero => simp only [dsum, wsum]; grind
  | succ m ih =>
    have e : wsum B (fun j => ((m + j : Nat) : Int) * ((m + j : Nat) : Int)) n = ((m : Int) * m : Int) * wsum B (fun _ => 1) n + ((2 * m : Int) : Rat) * wsum B (fun j => (j : Int)) n + wsum B (fun j => (j : Int) * j) n := by
      rw [← wsum_mul, ← wsum_mul, ← wsum_add, ← wsum_add]
      refine wsum_congr B n (fun j _ => ?_)
      have : ((m + j : Nat) : Int) = (m : Int) + j := by omega
      rw [this]
      grind
    simp only [dsum, wsum]
    rw [ih, e, hB, Rat.intCast_mul, Rat.intCast_mul]
    have h1 : ((1 : Int) : Rat) = 1 := rfl
    have h2 : ((2 : Int) : Rat) = 2 := rfl
    rw [h1, h2]
    grind
end Go.Proofs.YtpopcfclpemlaaaDoor
