/- A fraction's text is read back. -/
import Derived.Test.YtfnbjenneodcdaaA10
import Derived.Test.YtfnbjenneodcdaaA13
import Derived.Test.YtfnbjenneodcdaaA12
namespace Go.Proofs.Ytfnbjenneodcdaa
open Go.RowKit Go.Sort Go.Shelf Go.Dd

theorem ba_size (l : List UInt8) : (⟨l.toArray⟩ : ByteArray).size = l.length := by show l.toArray.size = _; simp
theorem ba_get (l : List UInt8) (j : Nat) (_h : j < (⟨l.toArray⟩ : ByteArray).size) (h' : j < l.length) : (⟨l.toArray⟩ : ByteArray)[j] = l[j] := by
  show l.toArray[j] = l[j]
  simp

theorem mid_dig (P D T : List UInt8) (hD : ∀ b, b ∈ D → IsDig b) (j : Nat) (h : j < (⟨(P ++ D ++ T).toArray⟩ : ByteArray).size) (h1 : P.length ≤ j) (h2 : j < P.length + D.length) : IsDig (⟨(P ++ D ++ T).toArray⟩ : ByteArray)[j] := by
  have h' := h
  rw [ba_size] at h'
  rw [ba_get _ _ h h']
  rw [List.getElem_append_left (by simp; omega), List.getElem_append_right h1]
  exact hD _ (List.getElem_mem _)

theorem last_dig (P T : List UInt8) (c : UInt8) (hT : ∀ b, b ∈ T → IsDig b) (j : Nat) (h : j < (⟨(P ++ c :: T).toArray⟩ : ByteArray).size) (h1 : P.length < j) : IsDig (⟨(P ++ c :: T).toArray⟩ : ByteArray)[j] := by
  have h' := h
  rw [ba_size] at h'
  rw [ba_get _ _ h h']
  rw [List.getElem_append_right (by omega)]
  obtain ⟨i, hi⟩ : ∃ i, j - P.length = i + 1 := ⟨j - P.length - 1, by omega⟩
  simp only [hi, List.getElem_cons_succ]
  exact hT _ (List.getElem_mem _)

def sgn (q : Rat) : List UInt8 := if q.num < 0 then [45] else []
theorem sgn_len (q : Rat) : (sgn q).length = if q.num < 0 then 1 else 0 := by unfold sgn; split <;> rfl
theorem sgn_le (q : Rat) : (sgn q).length = 0 ∨ (sgn q).length = 1 := by rw [sgn_len]; split <;> simp

theorem sgn_prefix (q : Rat) (D T : List UInt8) (hD : ∀ b, b ∈ D → IsDig b) (h0 : D ≠ []) : Lib.hasPrefix (sgn q ++ D ++ T) [45] = decide ((sgn q).length = 1) := by
  unfold sgn
  split
  · simp [Lib.hasPrefix]
  · cases D with
    | nil => exact absurd rfl h0
    | cons b D =>
      have := (hD b (by simp)).1
      have hb : b ≠ 45 := by intro h; subst h; revert this; decide
      have hb2 : ((45 : UInt8) == b) = false := by rw [beq_eq_false_iff_ne]; exact fun h => hb h.symm
      simp [Lib.hasPrefix, List.isPrefixOf, hb2]

theorem sgn_first (q : Rat) (D T : List UInt8) (hD : ∀ b, b ∈ D → IsDig b) (h0 : D ≠ []) (h : 0 < (⟨(sgn q ++ D ++ T).toArray⟩ : ByteArray).size) : (((⟨(sgn q ++ D ++ T).toArray⟩ : ByteArray)[0].toNat : Int) == 45) = decide (q.num < 0) := by
  have h' := h
  rw [ba_size] at h'
  rw [ba_get _ _ h h']
  by_cases hq : q.num < 0
  · have e : sgn q = [45] := if_pos hq
    simp [e, hq]
  · have e : sgn q = [] := if_neg hq
    cases D with
    | nil => exact absurd rfl h0
    | cons b D =>
      have := (hD b (by simp)).1
      simp [e, hq]
      omega

theorem rat_back (q : Rat) : mkRat (sn (decide (q.num < 0)) (dval 0 (Lib.decDigits q.num.natAbs))) q.den = q := by
  rw [dval_dec]
  have : sn (decide (q.num < 0)) (q.num.natAbs : Int) = q.num := by
    by_cases h : q.num < 0
    · rw [decide_eq_true h]; show -(q.num.natAbs : Int) = q.num; omega
    · rw [decide_eq_false h]; show (q.num.natAbs : Int) = q.num; omega
  rw [this, Rat.mkRat_self]

end Go.Proofs.Ytfnbjenneodcdaa
/- Two fractions that are alike. -/
namespace Go.Proofs.Ytfnbjenneodcdaa
open Go.RowKit Go.Sort Go.Shelf Go.Dd

theorem sg_self (x : Int) : Wd.sg x x = 0 := by simp [Wd.sg]

theorem sm_nat {x : Int} (h : x < 10000000000000000000) : Sm x := sm_word (by omega)

end Go.Proofs.Ytfnbjenneodcdaa
/- A fraction's text, and two fractions that are alike: numbers of any length. -/
namespace Go.Proofs.Ytfnbjenneodcdaa
open Go.RowKit Go.Sort Go.Shelf Go.Dd

theorem low_le (d : Nat) : low d ≤ (d : Int) := by unfold low; split <;> omega

theorem pw_dec (n : Nat) : Wd.pw n ≤ ((10 ^ (20 * n) : Nat) : Int) := by
  induction n with
  | zero => decide
  | succ n ih =>
    rw [Wd.pw_succ, show 20 * (n + 1) = 20 * n + 20 by omega, Nat.pow_add, Int.natCast_mul]
    have e : ((10 ^ 20 : Nat) : Int) = 100000000000000000000 := by decide
    rw [e]
    have hp := Wd.pw_pos n
    generalize ((10 ^ (20 * n) : Nat) : Int) = X at *
    omega

theorem text_size {N : Int} {j : Nat} (h : N < Wd.pw j) (hj : j ≤ KK) : (Lib.decDigits N.toNat).length ≤ 21990232555540 := by
  have h1 := Int.lt_of_lt_of_le h (pw_dec j)
  have h2 : N.toNat < 10 ^ (20 * j + 19 + 1) := by
    have e : 10 ^ (20 * j) ≤ 10 ^ (20 * j + 19 + 1) := Nat.pow_le_pow_right (by decide) (by omega)
    have h0 : 0 < 10 ^ (20 * j) := Nat.pow_pos (by decide)
    generalize 10 ^ (20 * j + 19 + 1) = Y at *
    generalize 10 ^ (20 * j) = X at *
    omega
  have h3 := dec_len_le (20 * j + 19) N.toNat h2
  unfold KK at hj
  omega

end Go.Proofs.Ytfnbjenneodcdaa
