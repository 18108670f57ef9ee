/- The longest way through two machines. -/
namespace Flw
/-- The way that turns at k. -/
def pth (a b : Nat → Int) (k : Nat) : Nat → Int
  | 0 => 0
  | m + 1 => pth a b k m + (if m ≤ k then a m else 0) + (if k ≤ m then b m else 0)
/-- The longest of the ways that turn ahead of K. -/
def mst (a b : Nat → Int) (m : Nat) : Nat → Int
  | 0 => 0
  | K + 1 => max (mst a b m K) (pth a b K m)
def sm (a : Nat → Int) : Nat → Int
  | 0 => 0
  | m + 1 => sm a m + a m
def flq (a b : Nat → Int) : Nat → Int
  | 0 => 0
  | m + 1 => max (sm a m + a m) (flq a b m) + b m
theorem pth_bd {a b : Nat → Int} {U : Int} {n : Nat} (ha : ∀ i, i < n → 0 ≤ a i ∧ a i ≤ U) (hb : ∀ i, i < n → 0 ≤ b i ∧ b i ≤ U) (k : Nat) : ∀ m, m ≤ n → 0 ≤ pth a b k m ∧ pth a b k m ≤ 2 * U * m
  | 0, _ => by simp [pth]
  | m + 1, h => by
    have ih := pth_bd ha hb k m (by omega)
    have h1 := ha m (by omega)
    have h2 := hb m (by omega)
    have e : 2 * U * ((m + 1 : Nat) : Int) = 2 * U * (m : Int) + 2 * U := by rw [show ((m + 1 : Nat) : Int) = (m : Int) + 1 by omega, Int.mul_add, Int.mul_one]
    show 0 ≤ pth a b k m + (if m ≤ k then a m else 0) + (if k ≤ m then b m else 0) ∧ pth a b k m + (if m ≤ k then a m else 0) + (if k ≤ m then b m else 0) ≤ _
    rw [e]
    split <;> split <;> omega
theorem mst_bd {a b : Nat → Int} {U : Int} {n : Nat} (ha : ∀ i, i < n → 0 ≤ a i ∧ a i ≤ U) (hb : ∀ i, i < n → 0 ≤ b i ∧ b i ≤ U) (hU : 0 ≤ U) {m : Nat} (hm : m ≤ n) : ∀ K, 0 ≤ mst a b m K ∧ mst a b m K ≤ 2 * U * m
  | 0 => ⟨Int.le_refl _, Int.mul_nonneg (by omega) (by omega)⟩
  | K + 1 => by
    have ih := mst_bd ha hb hU hm K
    have h1 := pth_bd ha hb K m hm
    show 0 ≤ max (mst a b m K) (pth a b K m) ∧ max (mst a b m K) (pth a b K m) ≤ _
    omega
theorem pth_sm (a b : Nat → Int) {k : Nat} : ∀ m, m ≤ k → pth a b k m = sm a m
  | 0, _ => rfl
  | m + 1, h => by
    show pth a b k m + (if m ≤ k then a m else 0) + (if k ≤ m then b m else 0) = sm a m + a m
    rw [pth_sm a b m (by omega), if_pos (by omega), if_neg (by omega)]
    omega
theorem mst_next {a b : Nat → Int} {U : Int} {n : Nat} (ha : ∀ i, i < n → 0 ≤ a i ∧ a i ≤ U) (hb : ∀ i, i < n → 0 ≤ b i ∧ b i ≤ U) {m : Nat} (hm : m < n) : ∀ K, K < m → mst a b (m + 1) (K + 1) = mst a b m (K + 1) + b m
  | 0, h => by
    have h1 := pth_bd ha hb 0 m (by omega)
    have h2 := hb m hm
    show max (0 : Int) (pth a b 0 m + (if m ≤ 0 then a m else 0) + (if 0 ≤ m then b m else 0)) = max 0 (pth a b 0 m) + b m
    rw [if_neg (by omega), if_pos (by omega)]
    omega
  | K + 1, h => by
    have ih := mst_next ha hb hm K (by omega)
    have h1 := pth_bd ha hb (K + 1) m (by omega)
    have h2 := hb m hm
    show max (mst a b (m + 1) (K + 1)) (pth a b (K + 1) m + (if m ≤ K + 1 then a m else 0) + (if K + 1 ≤ m then b m else 0)) = max (mst a b m (K + 1)) (pth a b (K + 1) m) + b m
    rw [if_neg (by omega), if_pos (by omega), ih]
    omega
theorem mst_flq {a b : Nat → Int} {U : Int} {n : Nat} (ha : ∀ i, i < n → 0 ≤ a i ∧ a i ≤ U) (hb : ∀ i, i < n → 0 ≤ b i ∧ b i ≤ U) : ∀ m, m ≤ n → mst a b m m = flq a b m
  | 0, _ => rfl
  | m + 1, h => by
    have ih := mst_flq ha hb m (by omega)
    have h1 := ha m (by omega)
    have h2 := hb m (by omega)
    show max (mst a b (m + 1) m) (pth a b m m + (if m ≤ m then a m else 0) + (if m ≤ m then b m else 0)) = max (sm a m + a m) (flq a b m) + b m
    rw [if_pos (Nat.le_refl _), if_pos (Nat.le_refl _), pth_sm a b m (Nat.le_refl _)]
    rcases Nat.eq_zero_or_pos m with c | c
    · subst c
      show max (0 : Int) (0 + a 0 + b 0) = max (0 + a 0) 0 + b 0
      omega
    · obtain ⟨K, rfl⟩ : ∃ K, m = K + 1 := ⟨m - 1, by omega⟩
      rw [mst_next ha hb (by omega) K (by omega), ih]
      omega
end Flw
