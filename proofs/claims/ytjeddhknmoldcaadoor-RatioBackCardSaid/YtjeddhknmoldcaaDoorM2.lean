/- Decimal digits: plain mathematics. -/
import Derived.Lib.ItoaNum
namespace Go.Dd
/-- The number of decimal digits. -/
def dval (acc : Int) : List UInt8 → Int
  | [] => acc
  | b :: r => dval (10 * acc + ((b.toNat : Int) - 48)) r
def IsDig (b : UInt8) : Prop := 48 ≤ b.toNat ∧ b.toNat ≤ 57
theorem dval_append (acc : Int) (l r : List UInt8) : dval acc (l ++ r) = dval (dval acc l) r := by
  induction l generalizing acc with
  | nil => rfl
  | cons b l ih => simp only [List.cons_append, dval]; exact ih _
theorem toNat_dig (k : Nat) (h : k < 10) : (UInt8.ofNat (48 + k)).toNat = 48 + k := by
  simp; omega
theorem dval_dec (u : Nat) : dval 0 (Lib.decDigits u) = u := by
  induction u using Nat.strongRecOn with
  | _ u ih =>
    unfold Lib.decDigits
    split
    · rename_i h
      simp only [dval, toNat_dig u h]; omega
    · rename_i h
      rw [dval_append, ih (u / 10) (by omega)]
      simp only [dval, toNat_dig (u % 10) (by omega)]; omega
theorem dec_digs (u : Nat) : ∀ b, b ∈ Lib.decDigits u → IsDig b := by
  induction u using Nat.strongRecOn with
  | _ u ih =>
    unfold Lib.decDigits
    split
    · rename_i h
      intro b hb
      simp only [List.mem_singleton] at hb
      subst hb
      unfold IsDig; rw [toNat_dig u h]; omega
    · rename_i h
      intro b hb
      rcases List.mem_append.1 hb with hb | hb
      · exact ih (u / 10) (by omega) b hb
      · simp only [List.mem_singleton] at hb
        subst hb
        unfold IsDig; rw [toNat_dig (u % 10) (by omega)]; omega
theorem dec_ne (u : Nat) : Lib.decDigits u ≠ [] := by
  unfold Lib.decDigits; split <;> simp
theorem dval_nn (acc : Int) (l : List UInt8) (h : ∀ b, b ∈ l → IsDig b) (h0 : 0 ≤ acc) : 0 ≤ dval acc l := by
  induction l generalizing acc with
  | nil => exact h0
  | cons b l ih =>
    have := h b (by simp)
    unfold IsDig at this
    exact ih _ (fun c hc => h c (by simp [hc])) (by omega)
theorem dval_lt (acc : Int) (l : List UInt8) (k : Nat) (h : ∀ b, b ∈ l → IsDig b) (h0 : acc < 10 ^ k) : dval acc l < 10 ^ (k + l.length) := by
  induction l generalizing acc k with
  | nil => exact h0
  | cons b l ih =>
    have := h b (by simp)
    unfold IsDig at this
    have := ih (10 * acc + ((b.toNat : Int) - 48)) (k + 1) (fun c hc => h c (by simp [hc])) (by rw [Int.pow_succ]; omega)
    rw [show k + (b :: l).length = k + 1 + l.length by simp; omega]
    exact this
end Go.Dd
