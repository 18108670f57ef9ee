/- As many equations as unknown numbers: Gauss. -/
import Derived.Test.YtpopcfclpemlaaaDoorM20
namespace Go.Proofs.YtpopcfclpemlaaaDoor.Lin
open Bth

theorem ps_zero {f : Nat → Rat} (k : Nat) (h : ∀ j, j < k → f j = 0) : ps f k = 0 := by
  induction k with
  | zero => rfl
  | succ k ih => show ps f k + f k = 0; rw [ih (fun j hj => h j (by omega)), h k (by omega)]; grind
theorem ps_add (f g : Nat → Rat) (k : Nat) : ps (fun j => f j + g j) k = ps f k + ps g k := by
  induction k with
  | zero => show (0 : Rat) = 0 + 0; grind
  | succ k ih => show ps _ k + _ = ps f k + f k + (ps g k + g k); rw [ih]; grind
theorem ps_sub (f g : Nat → Rat) (k : Nat) : ps (fun j => f j - g j) k = ps f k - ps g k := by
  induction k with
  | zero => show (0 : Rat) = 0 - 0; grind
  | succ k ih => show ps _ k + _ = ps f k + f k - (ps g k + g k); rw [ih]; grind
theorem ps_mul (c : Rat) (f : Nat → Rat) (k : Nat) : ps (fun j => c * f j) k = c * ps f k := by
  induction k with
  | zero => show (0 : Rat) = c * 0; grind
  | succ k ih => show ps _ k + _ = c * (ps f k + f k); rw [ih]; grind
theorem ps_swap (f : Nat → Nat → Rat) (m : Nat) (n : Nat) : ps (fun i => ps (fun j => f i j) n) m = ps (fun j => ps (fun i => f i j) m) n := by
  induction m with
  | zero => exact (ps_zero n (fun _ _ => rfl)).symm
  | succ m ih =>
    show ps (fun i => ps (fun j => f i j) n) m + ps (fun j => f m j) n = ps (fun j => ps (fun i => f i j) m + f m j) n
    rw [ps_add, ih]
/-- One place of a sum apart. -/
theorem ps_one {f : Nat → Rat} {i k : Nat} (hi : i < k) (h : ∀ j, j < k → j ≠ i → f j = 0) : ps f k = f i := by
  induction k with
  | zero => omega
  | succ k ih =>
    show ps f k + f k = f i
    by_cases e : i = k
    · subst e
      rw [ps_zero i (fun j hj => h j (by omega) (by omega))]; grind
    · rw [ih (by omega) (fun j hj hn => h j (by omega) hn), h k (by omega) (fun x => e x.symm)]; grind
theorem ps_nn_zero {f : Nat → Rat} {n : Nat} (h : ∀ j, j < n → 0 ≤ f j) (hz : ps f n ≤ 0) : ∀ j, j < n → f j = 0 := by
  induction n with
  | zero => intro j hj; omega
  | succ n ih =>
    have a := ps_nn (N := n) (fun j hj => h j (by omega)) n (Nat.le_refl _)
    have b := h n (by omega)
    have c : ps f n + f n ≤ 0 := hz
    intro j hj
    by_cases e : j = n
    · subst e; grind
    · exact ih (fun j hj => h j (by omega)) (by grind) j (by omega)

/-- Equations: row, column; the column n says what stands on the right. -/
def Sat (n : Nat) (M : Nat → Nat → Rat) (x : Nat → Rat) (t : Rat) : Prop := ∀ i, i < n → ps (fun j => M i j * x j) n = M i n * t
/-- What is looked at when k columns are done. -/
def eff (k : Nat) (L : Nat → Nat → Rat) (i j : Nat) : Rat := if j < k ∧ j < i then 0 else L i j
def swp (L : Nat → Nat → Rat) (k p i : Nat) : Nat → Rat := if i = k then L p else if i = p then L k else L i
/-- The rows behind k, of which the row k is taken away. -/
def took (L : Nat → Nat → Rat) (n k i j : Nat) : Rat := if k < i ∧ k < j ∧ j ≤ n then L i j - L i k / L k k * L k j else L i j

theorem eff_zero (L : Nat → Nat → Rat) : eff 0 L = L := by
  funext i j
  unfold eff
  rw [if_neg (by omega)]

theorem sat_swp {n k p : Nat} (L : Nat → Nat → Rat) (hk : k ≤ p) (hp : p < n) (x : Nat → Rat) (t : Rat) : Sat n (eff k (swp L k p)) x t ↔ Sat n (eff k L) x t := by
  have e1 : ∀ j, eff k (swp L k p) k j = eff k L p j := fun j => by
    unfold eff swp
    rw [if_pos rfl]
    by_cases h : j < k
    · rw [if_pos ⟨h, h⟩, if_pos ⟨h, by omega⟩]
    · rw [if_neg (by omega), if_neg (by omega)]
  have e2 : ∀ j, eff k (swp L k p) p j = eff k L k j := fun j => by
    unfold eff swp
    by_cases e : p = k
    · subst e; rw [if_pos rfl]
    rw [if_neg e, if_pos rfl]
    by_cases h : j < k
    · rw [if_pos ⟨h, by omega⟩, if_pos ⟨h, h⟩]
    · rw [if_neg (by omega), if_neg (by omega)]
  have e3 : ∀ i j, i ≠ k → i ≠ p → eff k (swp L k p) i j = eff k L i j := fun i j h1 h2 => by
    unfold eff swp
    rw [if_neg h1, if_neg h2]
  constructor
  · intro h i hi
    by_cases a : i = k
    · subst a
      have := h p hp
      simp only [e2] at this
      exact this
    by_cases b : i = p
    · subst b
      have := h k (by omega)
      simp only [e1] at this
      exact this
    have := h i hi
    simp only [e3 i _ a b] at this
    exact this
  · intro h i hi
    by_cases a : i = k
    · subst a
      simp only [e1]
      exact h p hp
    by_cases b : i = p
    · subst b
      simp only [e2]
      exact h k (by omega)
    simp only [e3 i _ a b]
    exact h i hi

theorem div_mul_self {a b : Rat} (h : b ≠ 0) : a / b * b = a := Rat.div_mul_cancel h

theorem sat_took {n k : Nat} (L : Nat → Nat → Rat) (hk : k < n) (hz : L k k ≠ 0) (x : Nat → Rat) (t : Rat) : Sat n (eff (k + 1) (took L n k)) x t ↔ Sat n (eff k L) x t := by
  have e1 : ∀ i j, i ≤ k → eff (k + 1) (took L n k) i j = eff k L i j := fun i j h => by
    unfold eff took
    rw [if_neg (c := k < i ∧ k < j ∧ j ≤ n) (by omega)]
    by_cases h1 : j < k ∧ j < i
    · rw [if_pos h1, if_pos (by omega)]
    · rw [if_neg h1, if_neg (by omega)]
  have e2 : ∀ i j, k < i → j ≤ n → eff (k + 1) (took L n k) i j = eff k L i j - L i k / L k k * eff k L k j := fun i j h hj => by
    unfold eff took
    by_cases h1 : j < k
    · rw [if_pos ⟨by omega, by omega⟩, if_pos ⟨h1, by omega⟩, if_pos ⟨h1, h1⟩]; grind
    by_cases h2 : j = k
    · subst h2
      rw [if_pos ⟨by omega, by omega⟩, if_neg (by omega), if_neg (by omega), div_mul_self hz]; grind
    rw [if_neg (by omega), if_pos ⟨h, by omega, hj⟩, if_neg (by omega), if_neg (by omega)]
  have e3 : ∀ i, k < i → ps (fun j => eff (k + 1) (took L n k) i j * x j) n = ps (fun j => eff k L i j * x j) n - L i k / L k k * ps (fun j => eff k L k j * x j) n := fun i h => by
    rw [← ps_mul, ← ps_sub]
    exact ps_congr n (fun j hj => by rw [e2 i j h (by omega)]; grind)
  constructor
  · intro h i hi
    by_cases a : i ≤ k
    · have := h i hi
      simp only [e1 i _ a] at this
      exact this
    · have h1 := h i hi
      have h2 := h k hk
      simp only [e1 k _ (Nat.le_refl k)] at h2
      rw [e3 i (by omega), h2, e2 i n (by omega) (Nat.le_refl n)] at h1
      grind
  · intro h i hi
    by_cases a : i ≤ k
    · simp only [e1 i _ a]
      exact h i hi
    · rw [e3 i (by omega), h i hi, h k hk, e2 i n (by omega) (Nat.le_refl n)]
      grind

/-- What holds when k columns are done. -/
def Inv (n : Nat) (A : Nat → Nat → Rat) (k : Nat) (L : Nat → Nat → Rat) : Prop := (∀ x t, Sat n A x t ↔ Sat n (eff k L) x t) ∧ ∀ i, i < k → L i i ≠ 0
theorem inv_zero (n : Nat) (A : Nat → Nat → Rat) : Inv n A 0 A := ⟨fun x t => by rw [eff_zero], fun i hi => by omega⟩
theorem inv_next {n k p : Nat} {A L : Nat → Nat → Rat} (h : Inv n A k L) (hk : k ≤ p) (hp : p < n) (hz : L p k ≠ 0) : Inv n A (k + 1) (took (swp L k p) n k) := by
  have e : swp L k p k = L p := by unfold swp; rw [if_pos rfl]
  refine ⟨fun x t => ?_, fun i hi => ?_⟩
  · rw [sat_took _ (by omega) (by rw [e]; exact hz), sat_swp L hk hp]
    exact h.1 x t
  · unfold took
    rw [if_neg (by omega)]
    by_cases a : i = k
    · subst a; rw [e]; exact hz
    · unfold swp
      rw [if_neg a, if_neg (by omega)]
      exact h.2 i (by omega)

/-- A number may be found for each of the rows m .. k-1, whatever stands behind. -/
theorem tri_fill {n k : Nat} {L : Nat → Nat → Rat} (hk : k ≤ n) (hz : ∀ i, i < k → L i i ≠ 0) (z : Nat → Rat) (t : Rat) : ∀ d, d ≤ k → ∃ y : Nat → Rat, (∀ j, k ≤ j → y j = z j) ∧ ∀ i, k - d ≤ i → i < k → ps (fun j => eff k L i j * y j) n = eff k L i n * t
  | 0, _ => ⟨z, fun _ _ => rfl, fun i h1 h2 => by omega⟩
  | d + 1, hd => by
    obtain ⟨y, h1, h2⟩ := tri_fill hk hz z t d (by omega)
    obtain ⟨m, hm⟩ : ∃ m, m = k - (d + 1) := ⟨_, rfl⟩
    let y' : Nat → Rat := fun j => if j = m then y m + (eff k L m n * t - ps (fun j => eff k L m j * y j) n) / L m m else y j
    refine ⟨y', fun j hj => ?_, fun i a b => ?_⟩
    · show (if j = m then _ else _) = _
      rw [if_neg (by omega)]; exact h1 j hj
    · have split : ∀ i, i < n → ps (fun j => eff k L i j * y' j) n = ps (fun j => eff k L i j * y j) n + eff k L i m * (y' m - y m) := fun i hi => by
        have : ps (fun j => eff k L i j * y' j) n - ps (fun j => eff k L i j * y j) n = eff k L i m * (y' m - y m) := by
          rw [← ps_sub]
          rw [ps_one (i := m) (by omega) (fun j hj hn => by
            have : y' j = y j := by show (if j = m then _ else _) = _; rw [if_neg hn]
            rw [this]; grind)]
          grind
        grind
      have ym : y' m = y m + (eff k L m n * t - ps (fun j => eff k L m j * y j) n) / L m m := by show (if m = m then _ else _) = _; rw [if_pos rfl]
      rw [split i (by omega)]
      by_cases e : i = m
      · subst e
        have ed : eff k L i i = L i i := by unfold eff; rw [if_neg (by omega)]
        rw [ym, ed]
        have := div_mul_self (a := eff k L i n * t - ps (fun j => eff k L i j * y j) n) (hz i b)
        grind
      · have e0 : eff k L i m = 0 := by unfold eff; rw [if_pos (by omega)]
        rw [e0, h2 i (by omega) b]
        grind

/-- No number in column k: then something other than 0 fits where all is 0 on the right. -/
theorem singular {n k : Nat} {A L : Nat → Nat → Rat} (h : Inv n A k L) (hk : k < n) (hz : ∀ p, k ≤ p → p < n → L p k = 0) : ∃ y, Sat n A y 0 ∧ y k = 1 := by
  obtain ⟨y, h1, h2⟩ := tri_fill (L := L) (n := n) (Nat.le_of_lt hk) h.2 (fun j => if j = k then 1 else 0) 0 k (Nat.le_refl k)
  refine ⟨y, (h.1 y 0).2 (fun i hi => ?_), ?_⟩
  · by_cases a : i < k
    · exact h2 i (by omega) a
    · have e : eff k L i n * 0 = 0 := by grind
      rw [e]
      refine ps_zero n (fun j hj => ?_)
      unfold eff
      by_cases b : j < k
      · rw [if_pos ⟨b, by omega⟩]; grind
      · rw [if_neg (by omega)]
        by_cases c : j = k
        · subst c; rw [hz i (by omega) hi]; grind
        · rw [h1 j (by omega), if_neg c]; grind
  · rw [h1 k (Nat.le_refl k), if_pos rfl]

/-- Where all columns are done, only 0 fits where all is 0 on the right. -/
theorem only_zero {n : Nat} {A L : Nat → Nat → Rat} (h : Inv n A n L) {y : Nat → Rat} (hy : Sat n A y 0) : ∀ d, d ≤ n → ∀ i, n - d ≤ i → i < n → y i = 0
  | 0, _ => fun i a b => by omega
  | d + 1, hd => by
    have ih := only_zero h hy d (by omega)
    have hs := (h.1 y 0).1 hy
    intro i a b
    by_cases e : n - d ≤ i
    · exact ih i e b
    · have hi : ∀ j, j < n → j ≠ i → eff n L i j * y j = 0 := fun j hj hn => by
        by_cases c : j < i
        · unfold eff; rw [if_pos ⟨hj, c⟩]; grind
        · rw [ih j (by omega) hj]; grind
      have := hs i b
      rw [ps_one b hi] at this
      have ed : eff n L i i = L i i := by unfold eff; rw [if_neg (by omega)]
      rw [ed] at this
      have t2 : L i i * y i = 0 := by grind
      rcases Rat.mul_eq_zero.1 t2 with c | c
      · exact absurd c (h.2 i b)
      · exact c

/-- The row k less what is known, after c numbers. -/
def rst (L : Nat → Nat → Rat) (x : Nat → Rat) (n k : Nat) : Nat → Rat
  | 0 => L k n
  | c + 1 => rst L x n k c - L k (k + 1 + c) * x (k + 1 + c)
/-- The numbers from the last on: m of them. -/
def bk (L : Nat → Nat → Rat) (n : Nat) : Nat → Nat → Rat
  | 0, _ => 0
  | m + 1, i => if i = n - 1 - m then rst L (bk L n m) n (n - 1 - m) m / L (n - 1 - m) (n - 1 - m) else bk L n m i
theorem rst_congr {L : Nat → Nat → Rat} {x y : Nat → Rat} {n k : Nat} : ∀ c, (∀ j, k < j → j < k + 1 + c → x j = y j) → rst L x n k c = rst L y n k c
  | 0, _ => rfl
  | c + 1, h => by
    show rst L x n k c - _ = rst L y n k c - _
    rw [rst_congr c (fun j a b => h j a (by omega)), h (k + 1 + c) (by omega) (by omega)]
theorem bk_old (L : Nat → Nat → Rat) (n : Nat) {i m : Nat} (h : n - m ≤ i) (hi : i < n) : ∀ d, m + d ≤ n → bk L n (m + d) i = bk L n m i
  | 0, _ => rfl
  | d + 1, hd => by
    show (if i = n - 1 - (m + d) then _ else bk L n (m + d) i) = _
    rw [if_neg (by omega)]
    exact bk_old L n h hi d (by omega)
theorem bk_new (L : Nat → Nat → Rat) (n : Nat) {k : Nat} (hk : k < n) : bk L n n k * L k k = rst L (bk L n n) n k (n - 1 - k) ∨ L k k = 0 := by
  by_cases hz : L k k = 0
  · exact Or.inr hz
  refine Or.inl ?_
  have e1 : bk L n n k = bk L n (n - k) k := by
    have := bk_old L n (i := k) (m := n - k) (by omega) hk k (by omega)
    rw [show n - k + k = n by omega] at this
    exact this
  have e2 : bk L n (n - k) k = rst L (bk L n (n - 1 - k)) n k (n - 1 - k) / L k k := by
    rw [show n - k = n - 1 - k + 1 by omega]
    show (if k = n - 1 - (n - 1 - k) then _ else _) = _
    rw [if_pos (by omega), show n - 1 - (n - 1 - k) = k by omega]
  rw [e1, e2, div_mul_self hz]
  refine rst_congr _ (fun j a b => ?_)
  have := bk_old L n (i := j) (m := n - 1 - k) (by omega) (by omega) (k + 1) (by omega)
  rw [show n - 1 - k + (k + 1) = n by omega] at this
  exact this.symm
/-- What is left of the row when all behind k is taken. -/
theorem rst_ps {L : Nat → Nat → Rat} {x : Nat → Rat} {n k : Nat} (hk : k < n) : ∀ c, k + 1 + c ≤ n → rst L x n k c = L k n - (ps (fun j => eff n L k j * x j) (k + 1 + c) - L k k * x k)
  | 0, _ => by
    show L k n = L k n - (ps (fun j => eff n L k j * x j) (k + 1) - L k k * x k)
    have : ps (fun j => eff n L k j * x j) (k + 1) = L k k * x k := by
      rw [ps_one (i := k) (by omega) (fun j a b => by unfold eff; rw [if_pos (by omega)]; grind)]
      unfold eff; rw [if_neg (by omega)]
    rw [this]; grind
  | c + 1, h => by
    show rst L x n k c - L k (k + 1 + c) * x (k + 1 + c) = L k n - (ps (fun j => eff n L k j * x j) (k + 1 + c) + eff n L k (k + 1 + c) * x (k + 1 + c) - L k k * x k)
    rw [rst_ps hk c (by omega)]
    have : eff n L k (k + 1 + c) = L k (k + 1 + c) := by unfold eff; rw [if_neg (by omega)]
    rw [this]; grind
theorem bk_sat {n : Nat} {A L : Nat → Nat → Rat} (h : Inv n A n L) : Sat n A (bk L n n) 1 := by
  refine (h.1 _ 1).2 (fun k hk => ?_)
  have ek : eff n L k n = L k n := by unfold eff; rw [if_neg (by omega)]
  rcases bk_new L n hk with e | e
  · have r := rst_ps (L := L) (x := bk L n n) hk (n - 1 - k) (by omega)
    rw [show k + 1 + (n - 1 - k) = n by omega, ← e] at r
    rw [ek]; grind
  · exact absurd e (h.2 k hk)
/-- What Solve says: the numbers that fit, and only these; or that there are others. -/
def Solved (n : Nat) (A : Nat → Nat → Rat) (x : Nat → Rat) : Prop := Sat n A x 1 ∧ ∀ y, Sat n A y 0 → ∀ i, i < n → y i = 0
theorem solved_of {n : Nat} {A L : Nat → Nat → Rat} (h : Inv n A n L) : Solved n A (bk L n n) := ⟨bk_sat h, fun y hy i hi => only_zero h hy n (Nat.le_refl n) i (by omega) hi⟩
end Go.Proofs.YtpopcfclpemlaaaDoor.Lin
