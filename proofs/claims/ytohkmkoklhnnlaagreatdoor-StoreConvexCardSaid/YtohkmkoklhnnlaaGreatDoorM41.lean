/- Papers and shops: the best number of papers; what one period costs is K-convex (Scarf). -/
import Derived.WalkKit
namespace Go.Proofs.YtohkmkoklhnnlaaGreatDoor.Sto

theorem down {f : Nat → Rat} {m : Nat} : ∀ d, d ≤ m → (∀ n, n < m → f (n + 1) ≤ f n) → f m ≤ f (m - d)
  | 0, _, _ => Rat.le_refl
  | d + 1, h, hs => by
    have ih := down (f := f) (m := m) d (by omega) hs
    have h1 := hs (m - (d + 1)) (by omega)
    rw [show m - (d + 1) + 1 = m - d by omega] at h1
    exact Rat.le_trans ih h1
theorem upw {f : Nat → Rat} {m N : Nat} (hs : ∀ n, m ≤ n → n < N → f n ≤ f (n + 1)) : ∀ d, m + d ≤ N → f m ≤ f (m + d)
  | 0, _ => Rat.le_refl
  | d + 1, h => Rat.le_trans (upw hs d (by omega)) (hs (m + d) (by omega) (by omega))
/-- The newsvendor. -/
theorem news {f Q : Nat → Rat} {a c : Rat} {m : Nat} (hs : ∀ n, f (n + 1) = f n + (c * Q n - a)) (hlo : ∀ n, n < m → c * Q n ≤ a) (hhi : ∀ n, m ≤ n → a ≤ c * Q n) (k : Nat) : f m ≤ f k := by
  rcases Nat.lt_or_ge k m with h | h
  · have := down (f := f) (m := m) (m - k) (by omega) (fun n hn => by have h1 := hs n; have h2 := hlo n hn; grind)
    rw [show m - (m - k) = k by omega] at this
    exact this
  · have := upw (f := f) (m := m) (N := k + 1) (fun n h1 _ => by have h3 := hs n; have h2 := hhi n h1; grind) (k - m) (by omega)
    rw [show m + (k - m) = k by omega] at this
    exact this

/-! A convex row of N + 1 numbers. -/
structure Cvx (H : Nat → Rat) (N : Nat) : Prop where
  cv : ∀ i, i + 2 ≤ N → H (i + 1) - H i ≤ H (i + 2) - H (i + 1)
theorem Cvx.slope {H : Nat → Rat} {N : Nat} (h : Cvx H N) {i : Nat} : ∀ d, i + d + 1 ≤ N → H (i + 1) - H i ≤ H (i + d + 1) - H (i + d)
  | 0, _ => Rat.le_refl
  | d + 1, hd => Rat.le_trans (h.slope d (by omega)) (h.cv (i + d) (by omega))
/-- To the right at least so steep. -/
theorem Cvx.right {H : Nat → Rat} {N : Nat} (h : Cvx H N) {x : Nat} (hx : 0 < x) : ∀ a, x + a ≤ N → ((a : Int) : Rat) * (H x - H (x - 1)) ≤ H (x + a) - H x
  | 0, _ => by rw [Nat.add_zero]; show ((0 : Int) : Rat) * _ ≤ _; grind
  | a + 1, ha => by
    have ih := h.right hx a (by omega)
    have h1 := h.slope (i := x - 1) (a + 1) (by omega)
    rw [show x - 1 + 1 = x by omega, show x - 1 + (a + 1) + 1 = x + (a + 1) by omega, show x - 1 + (a + 1) = x + a by omega] at h1
    have e : (((a + 1 : Nat) : Int) : Rat) = ((a : Int) : Rat) + 1 := by rw [show ((a + 1 : Nat) : Int) = (a : Int) + 1 by omega, Rat.intCast_add]; rfl
    rw [e]
    grind
/-- To the left at most so steep. -/
theorem Cvx.left {H : Nat → Rat} {N : Nat} (h : Cvx H N) {x : Nat} (hN : x ≤ N) : ∀ b, b ≤ x → 0 < x → H x - H (x - b) ≤ ((b : Int) : Rat) * (H x - H (x - 1))
  | 0, _, _ => by rw [Nat.sub_zero]; show _ ≤ ((0 : Int) : Rat) * _; grind
  | b + 1, hb, hx => by
    have ih := h.left hN b (by omega) hx
    have h1 := h.slope (i := x - (b + 1)) b (by omega)
    rw [show x - (b + 1) + 1 = x - b by omega, show x - (b + 1) + b + 1 = x by omega, show x - (b + 1) + b = x - 1 by omega] at h1
    have e : (((b + 1 : Nat) : Int) : Rat) = ((b : Int) : Rat) + 1 := by rw [show ((b + 1 : Nat) : Int) = (b : Int) + 1 by omega, Rat.intCast_add]; rfl
    rw [e]
    grind
theorem castNN (a : Nat) : (0 : Rat) ≤ ((a : Int) : Rat) := by
  have : ((0 : Int) : Rat) ≤ ((a : Int) : Rat) := Rat.intCast_le_intCast.2 (by omega)
  exact this
theorem Cvx.chord {H : Nat → Rat} {N : Nat} (h : Cvx H N) {x a b : Nat} (hx : 0 < x) (ha : x + a ≤ N) (hb : b ≤ x) : ((a : Int) : Rat) * (H x - H (x - b)) ≤ ((b : Int) : Rat) * (H (x + a) - H x) := by
  have h1 := h.right hx a ha
  have h2 := h.left (x := x) (by omega) b hb hx
  have h3 := Rat.mul_le_mul_of_nonneg_left h2 (castNN a)
  have h4 := Rat.mul_le_mul_of_nonneg_left h1 (castNN b)
  grind
theorem least (H : Nat → Rat) : ∀ N, ∃ S, S ≤ N ∧ ∀ j, j ≤ N → H S ≤ H j
  | 0 => ⟨0, Nat.le_refl _, fun j hj => by rw [show j = 0 by omega]; exact Rat.le_refl⟩
  | N + 1 => by
    obtain ⟨S, h1, h2⟩ := least H N
    by_cases c : H S ≤ H (N + 1)
    · refine ⟨S, by omega, fun j hj => ?_⟩
      by_cases cj : j = N + 1
      · rw [cj]; exact c
      · exact h2 j (by omega)
    · refine ⟨N + 1, Nat.le_refl _, fun j hj => ?_⟩
      by_cases cj : j = N + 1
      · rw [cj]; exact Rat.le_refl
      · have := h2 j (by omega); grind
/-- From the least on it rises; up to it it falls. -/
theorem Cvx.rises {H : Nat → Rat} {N S : Nat} (h : Cvx H N) (hS : S ≤ N) (hm : ∀ j, j ≤ N → H S ≤ H j) {i j : Nat} (h1 : S ≤ i) (h2 : i ≤ j) (h3 : j ≤ N) : H i ≤ H j := by
  have hs : ∀ n, S ≤ n → n < N → H n ≤ H (n + 1) := fun n a b => by
    have h4 := hm (S + 1) (by omega)
    have h5 := h.slope (i := S) (n - S) (by omega)
    rw [show S + (n - S) + 1 = n + 1 by omega, show S + (n - S) = n by omega] at h5
    grind
  have := upw (f := H) (m := i) (N := N) (fun n a b => hs n (by omega) b) (j - i) (by omega)
  rw [show i + (j - i) = j by omega] at this
  exact this
theorem Cvx.falls {H : Nat → Rat} {N S : Nat} (h : Cvx H N) (hS : S ≤ N) (hm : ∀ j, j ≤ N → H S ≤ H j) {i j : Nat} (h1 : i ≤ j) (h2 : j ≤ S) : H j ≤ H i := by
  have hs : ∀ n, n < S → H (n + 1) ≤ H n := fun n a => by
    have h4 := hm (S - 1) (by omega)
    have h5 := h.slope (i := n) (S - 1 - n) (by omega)
    rw [show n + (S - 1 - n) + 1 = S by omega, show n + (S - 1 - n) = S - 1 by omega] at h5
    grind
  have := down (f := H) (m := j) (j - i) (by omega) (fun n a => hs n (by omega))
  rw [show j - (j - i) = i by omega] at this
  exact this

/-! What is chosen, going down: the best above so far, and what it costs. -/
/-- The best of those above, after d steps from N down: where, and what. -/
def bst (H : Nat → Rat) (N : Nat) : Nat → Nat
  | 0 => N
  | d + 1 => if H (N - d) ≤ H (bst H N d) then N - d else bst H N d
theorem bst_in (H : Nat → Rat) (N : Nat) : ∀ d, d ≤ N + 1 → bst H N d ≤ N ∧ N - d ≤ bst H N d
  | 0, _ => ⟨Nat.le_refl _, by show N - 0 ≤ N; omega⟩
  | d + 1, h => by
    have ih := bst_in H N d (by omega)
    show (if H (N - d) ≤ H (bst H N d) then N - d else bst H N d) ≤ N ∧ N - (d + 1) ≤ (if H (N - d) ≤ H (bst H N d) then N - d else bst H N d)
    split <;> omega
theorem bst_above (H : Nat → Rat) (N : Nat) : ∀ d, 0 < d → d ≤ N + 1 → N - d < bst H N d ∨ d = N + 1
  | d + 1, _, h => by
    by_cases c : d = N
    · exact Or.inr (by omega)
    · refine Or.inl ?_
      have ih := bst_in H N d (by omega)
      show N - (d + 1) < (if H (N - d) ≤ H (bst H N d) then N - d else bst H N d)
      split <;> omega
theorem bst_least (H : Nat → Rat) (N : Nat) : ∀ d, d ≤ N + 1 → ∀ j, N < j + d → j ≤ N → H (bst H N d) ≤ H j
  | 0, _, j, h1, h2 => absurd h1 (by omega)
  | d + 1, h, j, h1, h2 => by
    have ih := bst_least H N d (by omega)
    show H (if H (N - d) ≤ H (bst H N d) then N - d else bst H N d) ≤ H j
    by_cases cj : j = N - d
    · rw [cj]
      split
      · exact Rat.le_refl
      · rename_i c; grind
    · have := ih j (by omega) h2
      split
      · rename_i c; exact Rat.le_trans c this
      · exact this
/-- What is chosen at place i. -/
def cst (H : Nat → Rat) (K : Rat) (N i : Nat) : Rat := if H (bst H N (N - i)) + K < H i then H (bst H N (N - i)) + K else H i
theorem cst_le (H : Nat → Rat) {K : Rat} {N i : Nat} : cst H K N i ≤ H i := by
  unfold cst
  split
  · rename_i c; exact Rat.le_of_lt c
  · exact Rat.le_refl
theorem cst_le2 (H : Nat → Rat) {K : Rat} {N i j : Nat} (hj : i < j) (hN : j ≤ N) : cst H K N i ≤ H j + K := by
  have h := bst_least H N (N - i) (by omega) j (by omega) hN
  unfold cst
  split
  · grind
  · rename_i c; grind
theorem cst_is (H : Nat → Rat) {K : Rat} {N i : Nat} (hK : 0 ≤ K) (hi : i ≤ N) : cst H K N i = H i ∨ ∃ j, i < j ∧ j ≤ N ∧ cst H K N i = H j + K := by
  unfold cst
  split
  · rename_i c
    right
    refine ⟨bst H N (N - i), ?_, (bst_in H N (N - i) (by omega)).1, rfl⟩
    rcases Nat.eq_zero_or_pos (N - i) with h | h
    · rw [h] at c
      have e : bst H N 0 = i := by show N = i; omega
      rw [e] at c
      grind
    · rcases bst_above H N (N - i) h (by omega) with h1 | h1 <;> omega
  · exact Or.inl rfl
/-- SCARF: K-convex. -/
theorem scarf {H : Nat → Rat} {K : Rat} {N x a b : Nat} (h : Cvx H N) (hK : 0 ≤ K) (ha : x + a ≤ N) (hb : b ≤ x) (ha0 : 0 < a) (hb0 : 0 < b) :
    ((a : Int) : Rat) * (cst H K N x - cst H K N (x - b)) ≤ ((b : Int) : Rat) * (K + cst H K N (x + a) - cst H K N x) := by
  have na := castNN a
  have nb := castNN b
  obtain ⟨S, hS, hm⟩ := least H N
  have low : ∀ i, i ≤ N → H S ≤ cst H K N i := fun i hi => by
    rcases cst_is H hK hi with e | ⟨j, _, hj, e⟩
    · rw [e]; exact hm i hi
    · rw [e]; have := hm j hj; grind
  have hi : ∀ i, S ≤ i → i ≤ N → H i ≤ cst H K N i := fun i h1 h2 => by
    rcases cst_is H hK h2 with e | ⟨j, h3, h4, e⟩
    · rw [e]; exact Rat.le_refl
    · rw [e]; have := h.rises hS hm h1 (Nat.le_of_lt h3) h4; grind
  have near : cst H K N x ≤ K + cst H K N (x + a) := by
    rcases cst_is H hK ha with e | ⟨j, h3, h4, e⟩
    · rw [e]; have := cst_le2 H (K := K) (show x < x + a by omega) ha; grind
    · rw [e]; have := cst_le2 H (K := K) (show x < j by omega) h4; grind
  by_cases c : cst H K N x ≤ cst H K N (x - b)
  · have h1 : 0 ≤ ((b : Int) : Rat) * (K + cst H K N (x + a) - cst H K N x) := Rat.mul_nonneg nb (by grind)
    have h2 : 0 ≤ ((a : Int) : Rat) * (cst H K N (x - b) - cst H K N x) := Rat.mul_nonneg na (by grind)
    grind
  · have hxS : S < x := by
      rcases Nat.lt_or_ge S x with h1 | h1
      · exact h1
      · exfalso
        refine c ?_
        rcases cst_is H hK (show x - b ≤ N by omega) with e | ⟨j, h3, h4, e⟩
        · rw [e]
          exact Rat.le_trans (cst_le H) (h.falls hS hm (by omega) h1)
        · rw [e]
          have h5 := hm j h4
          rcases Nat.eq_or_lt_of_le h1 with h6 | h6
          · have := cst_le H (K := K) (N := N) (i := x)
            rw [h6] at this ⊢
            grind
          · have := cst_le2 H (K := K) h6 hS
            grind
    have f1 := cst_le H (K := K) (N := N) (i := x)
    have f2 := hi (x + a) (by omega) ha
    have f3 := h.rises hS hm (show S ≤ x by omega) (show x ≤ x + a by omega) ha
    rcases Nat.lt_or_ge (x - b) S with h1 | h1
    · have ch := h.chord (x := x) (a := a) (b := x - S) (by omega) ha (by omega)
      rw [show x - (x - S) = S by omega] at ch
      have l1 := low (x - b) (by omega)
      have g1 : ((a : Int) : Rat) * (cst H K N x - cst H K N (x - b)) ≤ ((a : Int) : Rat) * (H x - H S) := Rat.mul_le_mul_of_nonneg_left (by grind) na
      have cb : (((x - S : Nat) : Int) : Rat) ≤ ((b : Int) : Rat) := Rat.intCast_le_intCast.2 (by omega)
      have g2 : (((x - S : Nat) : Int) : Rat) * (H (x + a) - H x) ≤ ((b : Int) : Rat) * (H (x + a) - H x) := Rat.mul_le_mul_of_nonneg_right cb (by grind)
      have g3 : ((b : Int) : Rat) * (H (x + a) - H x) ≤ ((b : Int) : Rat) * (K + cst H K N (x + a) - cst H K N x) := Rat.mul_le_mul_of_nonneg_left (by grind) nb
      exact Rat.le_trans g1 (Rat.le_trans ch (Rat.le_trans g2 g3))
    · have ch := h.chord (x := x) (a := a) (b := b) (by omega) ha hb
      have l1 := hi (x - b) h1 (by omega)
      have g1 : ((a : Int) : Rat) * (cst H K N x - cst H K N (x - b)) ≤ ((a : Int) : Rat) * (H x - H (x - b)) := Rat.mul_le_mul_of_nonneg_left (by grind) na
      have g3 : ((b : Int) : Rat) * (H (x + a) - H x) ≤ ((b : Int) : Rat) * (K + cst H K N (x + a) - cst H K N x) := Rat.mul_le_mul_of_nonneg_left (by grind) nb
      exact Rat.le_trans g1 (Rat.le_trans ch g3)
end Go.Proofs.YtohkmkoklhnnlaaGreatDoor.Sto
