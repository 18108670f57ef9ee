/- package walk's whole numbers: how many rows of steps. -/
import Derived.Test.YtpopcfclpemlaaaDoorRows
import Derived.WalkKit
import Derived.WalkSpells
import Derived.WalkLawsBesides
import Derived.Test.YtpopcfclpemlaaaDoorA1
namespace Go.Proofs.YtpopcfclpemlaaaDoor
open Go.RowKit

theorem pick_any (a : Int) (n : Nat) (hn : 0 < n) (hn1 : n ≤ 1000) (w : World) :
    Calls Tryd.prog 10 #[.int .i64 a, .int .i64 (n : Int)] w fun e w' => ∃ k : Nat, e = .returned (.int .i64 (k : Int)) ∧ k < n ∧ w' = w := by
  have e1 : IntKind.u64.wrap (n : Int) = (n : Int) := by rw [IntKind.wrap_u64]; omega
  obtain ⟨x, hx⟩ : ∃ x, IntKind.u64.wrap a = x := ⟨_, rfl⟩
  have hx0 : 0 ≤ x := by rw [← hx, IntKind.wrap_u64]; omega
  have hx1 : x < 18446744073709551616 := by rw [← hx, IntKind.wrap_u64]; omega
  have hz : ((n : Int) == 0) = false := by rw [beq_eq_false_iff_ne]; omega
  have hm0 : 0 ≤ x % (n : Int) := Int.emod_nonneg _ (by omega)
  have hm1 : x % (n : Int) < (n : Int) := Int.emod_lt_of_pos _ (by omega)
  obtain ⟨k, hk⟩ : ∃ k : Nat, x % (n : Int) = (k : Int) := ⟨(x % (n : Int)).toNat, by omega⟩
  have hkn : k < n := by omega
  clear hm0 hm1
  go_enter Tryd.func10, Tryd.ntmps10
  go_wp2
  go_ret
  exact ⟨k, rfl, hkn, rfl⟩

/-- How many rows of n steps have k up: step by step. -/
def wv (n : Nat) : Nat → Nat
  | 0 => 1
  | k + 1 => wv n k * (n - k) / (k + 1)

theorem wv_small : ((List.range 61).all fun n => (List.range (n + 1)).all fun k => decide (wv n k * n < 9223372036854775807)) = true := by decide +kernel
theorem wv_lt {n k : Nat} (hn : n ≤ 60) (hk : k ≤ n) : wv n k * n < 9223372036854775807 := by
  have h1 := List.all_eq_true.1 wv_small n (List.mem_range.2 (by omega))
  have h2 := List.all_eq_true.1 h1 k (List.mem_range.2 (by omega))
  simpa using h2

def waysv (N : Nat) (to : Int) : Int := if to < -(N : Int) ∨ (N : Int) < to ∨ ((N : Int) + to) % 2 ≠ 0 then 0 else (wv N (((N : Int) + to) / 2).toNat : Int)
def abovev (N : Nat) (to : Int) : Int := if to < 0 ∨ (N : Int) < to then 0 else waysv N to - waysv N (to + 2)

theorem waysv_bd {N : Nat} (hN : N ≤ 60) (to : Int) : 0 ≤ waysv N to ∧ waysv N to < 9223372036854775807 := by
  unfold waysv
  split
  · exact ⟨by decide, by decide⟩
  · have hw := wv_lt hN (show (((N : Int) + to) / 2).toNat ≤ N by omega)
    have hKN : (((N : Int) + to) / 2).toNat ≤ N := by omega
    generalize (((N : Int) + to) / 2).toNat = K at *
    rcases Nat.eq_zero_or_pos N with h | h
    · have hK0 : K = 0 := by omega
      subst hK0
      exact ⟨by omega, by show ((1 : Nat) : Int) < _; decide⟩
    · have := Nat.le_mul_of_pos_right (wv N K) h
      omega

end Go.Proofs.YtpopcfclpemlaaaDoor
