/- RenewLeft: the walk. -/
import Derived.Test.YtcelbgleajpenaaGreatDoorRL1
namespace Go.Proofs.YtcelbgleajpenaaGreatDoor
open Go.RowKit Go.Sort Go.Shelf

def lgB (n m : Nat) : Bool := decide ((m < n ∧ n ≤ 101) ∨ 130 < n)
set_option maxHeartbeats 16000000 in
set_option maxRecDepth 100000 in
set_option linter.unusedSimpArgs false in
theorem llong_any (a : Option Addr) (n c m : Nat) (w : World) :
  Calls Tryz.prog 26 #[.slice a n c, .int .i64 (m : Int)] w fun e w' => e = .returned (.bool (lgB n m)) ∧ w' = w := by
 by_cases h1 : m < n
 ·have e1 : (m : Int) < (n : Int) := by omega
  by_cases h2 : n ≤ 101
  ·have e2 : (n : Int) ≤ 101 := by omega
   rw [show lgB n m = true from decide_eq_true (Or.inl ⟨h1, h2⟩)]
   go_enter Tryz.func26, Tryz.ntmps26
   go_wp2
   go_ret
   exact ⟨rfl, rfl⟩
  ·have e2 : ¬ (n : Int) ≤ 101 := by omega
   by_cases h3 : 130 < n
   ·have e3 : (130 : Int) < (n : Int) := by omega
    rw [show lgB n m = true from decide_eq_true (Or.inr h3)]
    go_enter Tryz.func26, Tryz.ntmps26
    go_wp2
    go_ret
    exact ⟨rfl, rfl⟩
   ·have e3 : ¬ (130 : Int) < (n : Int) := by omega
    rw [show lgB n m = false from decide_eq_false (by omega)]
    go_enter Tryz.func26, Tryz.ntmps26
    go_wp2
    go_ret
    exact ⟨rfl, rfl⟩
 ·have e1 : ¬ (m : Int) < (n : Int) := by omega
  by_cases h3 : 130 < n
  ·have e3 : (130 : Int) < (n : Int) := by omega
   rw [show lgB n m = true from decide_eq_true (Or.inr h3)]
   go_enter Tryz.func26, Tryz.ntmps26
   go_wp2
   go_ret
   exact ⟨rfl, rfl⟩
  ·have e3 : ¬ (130 : Int) < (n : Int) := by omega
   rw [show lgB n m = false from decide_eq_false (by omega)]
   go_enter Tryz.func26, Tryz.ntmps26
   go_wp2
   go_ret
   exact ⟨rfl, rfl⟩

end Go.Proofs.YtcelbgleajpenaaGreatDoor
