/- Nets: nothing is below 0, Jackson's balance, Buzen's sums and the arrival theorem. -/
import Derived.Test.YtdaejkngmckmdaaGreatDoorM22
namespace Go.Proofs.YtdaejkngmckmdaaGreatDoor.Net
open Bth Lin

/-- The equations of how often one comes to each place. -/
def eqs (n : Nat) (l : Nat → Nat → Rat) (b : Nat → Rat) (k i : Nat) : Rat := if i < n then (if i = k then 1 - l i k else -l i k) else b k
theorem eqs_row (n : Nat) (l : Nat → Nat → Rat) (b x : Nat → Rat) {k : Nat} (hk : k < n) : ps (fun i => eqs n l b k i * x i) n = x k - ps (fun i => l i k * x i) n := by
  have e : ps (fun i => eqs n l b k i * x i) n + ps (fun i => l i k * x i) n = x k := by
    rw [← ps_add]
    rw [ps_one (i := k) hk (fun j hj hn => by unfold eqs; rw [if_pos hj, if_neg hn]; grind)]
    unfold eqs
    rw [if_pos hk, if_pos rfl]; grind
  grind
theorem eqs_right (n : Nat) (l : Nat → Nat → Rat) (b : Nat → Rat) (k : Nat) : eqs n l b k n = b k := by unfold eqs; rw [if_neg (by omega)]
theorem traffic {n : Nat} {l : Nat → Nat → Rat} {b x : Nat → Rat} (h : Sat n (eqs n l b) x 1) {k : Nat} (hk : k < n) : x k = b k + ps (fun i => l i k * x i) n := by
  have := h k hk
  rw [eqs_row n l b x hk, eqs_right] at this
  grind

/-- How much a number is below 0. -/
def ng (q : Rat) : Rat := if q < 0 then -q else 0
theorem ng_nn (q : Rat) : 0 ≤ ng q := by
  unfold ng
  by_cases h : q < 0
  · rw [if_pos h]; grind
  · rw [if_neg h]; exact Rat.le_refl
theorem ng_ge (q : Rat) : -q ≤ ng q := by
  unfold ng
  by_cases h : q < 0
  · rw [if_pos h]; exact Rat.le_refl
  · rw [if_neg h]; grind
theorem ps_le {f g : Nat → Rat} (k : Nat) (h : ∀ j, j < k → f j ≤ g j) : ps f k ≤ ps g k := by
  induction k with
  | zero => exact Rat.le_refl
  | succ k ih =>
    have a := ih (fun j hj => h j (by omega))
    have b := h k (by omega)
    show ps f k + f k ≤ ps g k + g k
    grind
theorem ps_neg (f : Nat → Rat) (k : Nat) : ps (fun j => -f j) k = -ps f k := by
  induction k with
  | zero => show (0 : Rat) = -0; grind
  | succ k ih => show ps _ k + _ = -(ps f k + f k); rw [ih]; grind

/-- Where just one answer fits, nobody comes less often than never. -/
theorem visits_nn {n : Nat} {l : Nat → Nat → Rat} {b x : Nat → Rat} (hs : Solved n (eqs n l b) x) (hl : ∀ i k, i < n → k < n → 0 ≤ l i k) (hr : ∀ i, i < n → ps (fun k => l i k) n ≤ 1) (hb : ∀ k, k < n → 0 ≤ b k) : ∀ k, k < n → 0 ≤ x k := by
  obtain ⟨y, hy⟩ : ∃ y : Nat → Rat, y = fun k => ng (x k) := ⟨_, rfl⟩
  have y0 : ∀ k, 0 ≤ y k := fun k => by rw [hy]; exact ng_nn _
  have lt : ∀ k, k < n → y k ≤ ps (fun i => l i k * y i) n := fun k hk => by
    have nn : 0 ≤ ps (fun i => l i k * y i) n := ps_nn (N := n) (fun i hi => Rat.mul_nonneg (hl i k hi hk) (y0 i)) n (Nat.le_refl n)
    by_cases h : x k < 0
    · have e : y k = -x k := by rw [hy]; show ng (x k) = _; unfold ng; rw [if_pos h]
      have t := traffic hs.1 hk
      have c : ps (fun i => -(l i k * x i)) n ≤ ps (fun i => l i k * y i) n := ps_le n (fun i hi => by
        have a := hl i k hi hk
        have g : -x i ≤ y i := by rw [hy]; exact ng_ge _
        have := Rat.mul_le_mul_of_nonneg_left g a
        grind)
      rw [ps_neg] at c
      have := hb k hk
      rw [e]; grind
    · have e : y k = 0 := by rw [hy]; show ng (x k) = _; unfold ng; rw [if_neg h]
      rw [e]; exact nn
  have all : ps (fun k => ps (fun i => l i k * y i) n - y k) n ≤ 0 := by
    rw [ps_sub, ps_swap (fun k i => l i k * y i) n n]
    have : ps (fun i => ps (fun k => l i k * y i) n) n ≤ ps y n := ps_le n (fun i hi => by
      have e : ps (fun k => l i k * y i) n = y i * ps (fun k => l i k) n := by
        rw [← ps_mul]; exact ps_congr n (fun j _ => by grind)
      rw [e]
      have := Rat.mul_le_mul_of_nonneg_left (hr i hi) (y0 i)
      grind)
    grind
  have zero := ps_nn_zero (n := n) (f := fun k => ps (fun i => l i k * y i) n - y k) (fun k hk => by have := lt k hk; grind) all
  have sat : Sat n (eqs n l b) y 0 := fun k hk => by
    rw [eqs_row n l b y hk]
    have := zero k hk
    grind
  have yz := hs.2 y sat
  intro k hk
  have := yz k hk
  rw [hy] at this
  have g := ng_ge (x k)
  have t2 : ng (x k) = 0 := this
  rw [t2] at g
  grind

/-- Buzen's sums: the first p places, n people. -/
def bz (d : Nat → Rat) : Nat → Nat → Rat
  | 0, 0 => 1
  | 0, _ + 1 => 0
  | _ + 1, 0 => 1
  | p + 1, n + 1 => bz d p (n + 1) + d p * bz d (p + 1) n
theorem bz_none (d : Nat → Rat) (p : Nat) : bz d p 0 = 1 := by cases p <;> simp [bz]
theorem bz_next (d : Nat → Rat) (p n : Nat) : bz d (p + 1) (n + 1) = bz d p (n + 1) + d p * bz d (p + 1) n := by rw [bz]
/-- How many are at a place, times the sum. -/
def hh (d : Nat → Rat) (p i : Nat) : Nat → Rat
  | 0 => 0
  | n + 1 => d i * (bz d p n + hh d p i n)
theorem hh_next (d : Nat → Rat) (p i : Nat) : ∀ n, hh d (p + 1) i (n + 1) = hh d p i (n + 1) + d p * hh d (p + 1) i n
  | 0 => by
    show d i * (bz d (p + 1) 0 + 0) = d i * (bz d p 0 + 0) + d p * 0
    rw [bz_none, bz_none]; grind
  | n + 1 => by
    have ih := hh_next d p i n
    show d i * (bz d (p + 1) (n + 1) + hh d (p + 1) i (n + 1)) = d i * (bz d p (n + 1) + hh d p i (n + 1)) + d p * (d i * (bz d (p + 1) n + hh d (p + 1) i n))
    rw [ih, bz_next]
    grind
theorem nat_succ (n : Nat) : (((n + 1 : Nat) : Int) : Rat) = ((n : Nat) : Int) + 1 := cast_succ n
theorem hh_sum (d : Nat → Rat) : ∀ p n, ps (fun i => hh d p i n) p = ((n : Nat) : Int) * bz d p n
  | 0, n => by
    show (0 : Rat) = _
    cases n with
    | zero =>
      have : (((0 : Nat) : Int) : Rat) = 0 := rfl
      rw [this]; grind
    | succ n =>
      have : bz d 0 (n + 1) = 0 := by rw [bz]
      rw [this]; grind
  | p + 1, 0 => by
    have e : ps (fun i => hh d (p + 1) i 0) (p + 1) = 0 := ps_zero (p + 1) (fun j _ => rfl)
    have : (((0 : Nat) : Int) : Rat) = 0 := rfl
    rw [e, this]; grind
  | p + 1, n + 1 => by
    have i1 := hh_sum d p (n + 1)
    have i2 := hh_sum d (p + 1) n
    have i2' : ps (fun i => hh d (p + 1) i n) p + hh d (p + 1) p n = ((n : Nat) : Int) * bz d (p + 1) n := i2
    show ps (fun i => hh d (p + 1) i (n + 1)) p + hh d (p + 1) p (n + 1) = _
    have e : ps (fun i => hh d (p + 1) i (n + 1)) p = ps (fun i => hh d p i (n + 1)) p + d p * ps (fun i => hh d (p + 1) i n) p := by
      rw [← ps_mul, ← ps_add]
      exact ps_congr p (fun i _ => hh_next d p i n)
    have e2 : hh d (p + 1) p (n + 1) = d p * (bz d (p + 1) n + hh d (p + 1) p n) := rfl
    rw [e, e2, i1, bz_next]
    have e3 : (((n + 1 : Nat) : Int) : Rat) = ((n : Nat) : Int) + 1 := nat_succ n
    rw [e3]
    grind
theorem bz_nn {d : Nat → Rat} {N : Nat} (h : ∀ i, i < N → 0 ≤ d i) : ∀ p n, p ≤ N → 0 ≤ bz d p n
  | 0, 0, _ => by rw [bz]; decide
  | 0, n + 1, _ => by rw [bz]; exact Rat.le_refl
  | p + 1, 0, _ => by rw [bz]; decide
  | p + 1, n + 1, hp => by
    rw [bz_next]
    exact Rat.add_nonneg (bz_nn h p (n + 1) (by omega)) (Rat.mul_nonneg (h p (by omega)) (bz_nn h (p + 1) n hp))
theorem bz_pos {d : Nat → Rat} {N : Nat} (h : ∀ i, i < N → 0 ≤ d i) (h0 : 0 < d 0) : ∀ p n, p + 1 ≤ N → 0 < bz d (p + 1) n
  | 0, 0, _ => by rw [bz]; decide
  | 0, n + 1, hp => by
    rw [bz_next]
    have a := bz_pos h h0 0 n hp
    have b := Rat.mul_pos h0 a
    have c := bz_nn h 0 (n + 1) (by omega)
    grind
  | p + 1, 0, _ => by rw [bz]; decide
  | p + 1, n + 1, hp => by
    rw [bz_next]
    have a := bz_pos h h0 p (n + 1) (by omega)
    have b := Rat.mul_nonneg (h (p + 1) (by omega)) (bz_nn h (p + 2) n hp)
    grind
theorem hh_nn {d : Nat → Rat} {N : Nat} (h : ∀ i, i < N → 0 ≤ d i) {p i : Nat} (hp : p ≤ N) (hi : i < N) : ∀ n, 0 ≤ hh d p i n
  | 0 => Rat.le_refl
  | n + 1 => Rat.mul_nonneg (h i hi) (Rat.add_nonneg (bz_nn h p n hp) (hh_nn h hp hi n))

/-- How many are at a place in the mean; how long one is there; how often one comes to the first. -/
def num (d : Nat → Rat) (p n i : Nat) : Rat := hh d p i n / bz d p n
def tim (d : Nat → Rat) (p n i : Nat) : Rat := hh d p i (n + 1) / bz d p n
def oft (d : Nat → Rat) (p n : Nat) : Rat := bz d p n / bz d p (n + 1)
theorem num_zero (d : Nat → Rat) (p i : Nat) : num d p 0 i = 0 := by
  show (0 : Rat) / _ = 0
  rw [Rat.div_def]; grind
theorem tim_next {d : Nat → Rat} {p n : Nat} (hz : bz d p n ≠ 0) (i : Nat) : d i * (num d p n i + 1) = tim d p n i := by
  unfold num tim
  show _ = d i * (bz d p n + hh d p i n) / bz d p n
  rw [Rat.div_def, Rat.div_def]
  have := Rat.mul_inv_cancel _ hz
  grind
theorem tim_sum {d : Nat → Rat} {p n : Nat} : ps (tim d p n) p = (((n + 1 : Nat) : Int) : Rat) * bz d p (n + 1) / bz d p n := by
  rw [← hh_sum]
  exact ps_div _ _ p
theorem oft_next {d : Nat → Rat} {p n : Nat} (hz : bz d p n ≠ 0) (hz1 : bz d p (n + 1) ≠ 0) : (((n + 1 : Nat) : Int) : Rat) / ps (tim d p n) p = oft d p n := by
  rw [tim_sum]
  unfold oft
  have hn : (((n + 1 : Nat) : Int) : Rat) ≠ 0 := ne_of_pos (cast_pos n)
  refine eq_div ?_ ?_
  · intro e
    rw [Rat.div_def] at e
    rcases Rat.mul_eq_zero.1 e with a | a
    · rcases Rat.mul_eq_zero.1 a with b | b
      · exact hn b
      · exact hz1 b
    · have := Rat.mul_inv_cancel _ hz
      rw [a] at this; grind
  · rw [Rat.div_def, Rat.div_def]
    have x := Rat.mul_inv_cancel _ hz
    have y := Rat.mul_inv_cancel _ hz1
    grind
theorem num_next {d : Nat → Rat} {p n : Nat} (hz : bz d p n ≠ 0) (i : Nat) : oft d p n * tim d p n i = num d p (n + 1) i := by
  unfold oft tim num
  rw [Rat.div_def, Rat.div_def, Rat.div_def]
  have x := Rat.mul_inv_cancel _ hz
  grind
theorem tim_pos {d : Nat → Rat} {N : Nat} (h : ∀ i, i < N → 0 ≤ d i) (h0 : 0 < d 0) {p : Nat} (hp : p + 1 ≤ N) (n : Nat) : 0 < ps (tim d (p + 1) n) (p + 1) := by
  rw [tim_sum]
  exact div_ps (Rat.mul_pos (cast_pos n) (bz_pos h h0 p (n + 1) hp)) (bz_pos h h0 p n hp)
theorem num_sum {d : Nat → Rat} {p n : Nat} (hz : bz d p n ≠ 0) : ps (num d p n) p = ((n : Nat) : Int) := by
  have : ps (num d p n) p = ps (fun i => hh d p i n) p / bz d p n := ps_div _ _ p
  rw [this, hh_sum]
  exact Rat.mul_div_cancel hz
theorem oft_bz {d : Nat → Rat} {p n : Nat} (hz1 : bz d p (n + 1) ≠ 0) : oft d p n * bz d p (n + 1) = bz d p n := div_mul_self hz1

/-- The chance of so many people at the first places (Jackson). -/
def pw (q : Rat) : Nat → Rat
  | 0 => 1
  | n + 1 => pw q n * q
def jk (r : Nat → Rat) (n : Nat → Nat) : Nat → Rat
  | 0 => 1
  | k + 1 => jk r n k * (1 - r k) * pw (r k) (n k)
def one (n : Nat → Nat) (i : Nat) (v : Nat) (j : Nat) : Nat := if j = i then v else n j
theorem jk_congr {r : Nat → Rat} {n m : Nat → Nat} : ∀ k, (∀ j, j < k → n j = m j) → jk r n k = jk r m k
  | 0, _ => rfl
  | k + 1, h => by
    show jk r n k * _ * _ = jk r m k * _ * _
    rw [jk_congr k (fun j hj => h j (by omega)), h k (by omega)]
/-- One more at a place. -/
theorem jk_more {r : Nat → Rat} {n m : Nat → Nat} {i : Nat} : ∀ k, i < k → (∀ j, j ≠ i → m j = n j) → m i = n i + 1 → jk r m k = jk r n k * r i
  | 0, h, _, _ => by omega
  | k + 1, h, h1, h2 => by
    by_cases e : i = k
    · subst e
      show jk r m i * _ * _ = jk r n i * _ * _ * _
      rw [jk_congr i (fun j hj => h1 j (by omega)), h2]
      show _ = _
      have : pw (r i) (n i + 1) = pw (r i) (n i) * r i := rfl
      rw [this]; grind
    · show jk r m k * _ * _ = jk r n k * _ * _ * _
      rw [jk_more k (by omega) h1 h2, h1 k (fun x => e x.symm)]
      grind

/-- JACKSON: what flows out of a state, and into it. -/
def flowOut (a m : Nat → Rat) (l : Nat → Nat → Rat) (n : Nat → Nat) (P : Rat) (i : Nat) : Rat := P * a i + (if 0 < n i then P * m i * (1 - l i i) else 0)
/-- Q i: the chance with one less at i. -/
def flowIn (K : Nat) (a m : Nat → Rat) (l : Nat → Nat → Rat) (r : Nat → Rat) (n : Nat → Nat) (P : Rat) (Q : Nat → Rat) (i : Nat) : Rat :=
  (if 0 < n i then Q i * a i + ps (fun k => if k = i then 0 else Q i * r k * m k * l k i) K else 0) + P * r i * m i * (1 - ps (fun k => l i k) K)
theorem balance {K : Nat} {a m x r : Nat → Rat} {l : Nat → Nat → Rat} {n : Nat → Nat} {P : Rat} {Q : Nat → Rat} (hx : ∀ k, k < K → x k = a k + ps (fun i => l i k * x i) K) (hr : ∀ k, k < K → r k * m k = x k) (hQ : ∀ i, i < K → 0 < n i → Q i * r i = P) :
    ps (flowOut a m l n P) K = ps (flowIn K a m l r n P Q) K := by
  have e1 : ∀ i, i < K → flowIn K a m l r n P Q i - flowOut a m l n P i = P * (x i - x i * ps (fun k => l i k) K - a i) := fun i hi => by
    unfold flowIn flowOut
    have h1 := hr i hi
    by_cases h : 0 < n i
    · rw [if_pos h, if_pos h]
      have e : ps (fun k => if k = i then 0 else Q i * r k * m k * l k i) K = Q i * (x i - a i - l i i * x i) := by
        have s : ps (fun k => if k = i then 0 else Q i * r k * m k * l k i) K + Q i * (l i i * x i) = Q i * ps (fun k => l k i * x k) K := by
          have o : Q i * (l i i * x i) = ps (fun k => if k = i then Q i * (l k i * x k) else 0) K := by
            rw [ps_one (i := i) hi (fun j hj hn => by rw [if_neg hn]), if_pos rfl]
          rw [o, ← ps_add, ← ps_mul]
          refine ps_congr K (fun k hk => ?_)
          by_cases c : k = i
          · subst c; rw [if_pos rfl, if_pos rfl]; grind
          · rw [if_neg c, if_neg c]
            have := hr k hk
            have e2 : Q i * r k * m k * l k i = Q i * (l k i * (r k * m k)) := by grind
            rw [e2, this]; grind
        have t := hx i hi
        have : ps (fun k => l k i * x k) K = x i - a i := by grind
        rw [this] at s
        grind
      rw [e]
      have q := hQ i hi h
      have e3 : P * r i * m i = P * x i := by rw [Rat.mul_assoc, h1]
      have e4 : P * m i = Q i * x i := by rw [← q, Rat.mul_assoc, h1]
      rw [e3, e4]
      grind
    · rw [if_neg h, if_neg h]
      have e3 : P * r i * m i = P * x i := by rw [Rat.mul_assoc, h1]
      rw [e3]; grind
  have e2 : ps (fun i => flowIn K a m l r n P Q i - flowOut a m l n P i) K = 0 := by
    rw [ps_congr K e1, ps_mul, ps_sub, ps_sub]
    have s : ps (fun i => x i * ps (fun k => l i k) K) K = ps x K - ps a K := by
      have u : ps (fun i => x i * ps (fun k => l i k) K) K = ps (fun i => ps (fun k => l i k * x i) K) K := ps_congr K (fun i _ => by rw [← ps_mul]; exact ps_congr K (fun k _ => by grind))
      rw [u, ps_swap (fun i k => l i k * x i) K K, ← ps_sub]
      exact ps_congr K (fun k hk => by have := hx k hk; grind)
    rw [s]
    grind
  rw [ps_sub] at e2
  grind
end Go.Proofs.YtdaejkngmckmdaaGreatDoor.Net
