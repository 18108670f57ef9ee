/- The checker's whole numbers: copied, turned, multiplied, compared. -/
import Derived.Test.YtfpmgnlddlcpoaaGreatDoorB6
import Derived.Test.YtfpmgnlddlcpoaaGreatDoorA8
namespace Go.Proofs.YtfpmgnlddlcpoaaGreatDoor
open Go.RowKit Go.Sort Go.Shelf

theorem smh_of {N : Int} {n : Nat} (h : Wh.Len N n) (hn : n ≤ 1000000) : SmH N := Int.lt_of_lt_of_le h.2.1 (Wh.pw_mono hn)

set_option maxHeartbeats 4000000 in
set_option maxRecDepth 100000 in
set_option linter.unusedSimpArgs false in
theorem isign_any (b o : Nat) (N : Int) (w : World) (x : BInt w b o N) :
    Calls Tryz.prog 25 #[.pointer (some ⟨b, o, none⟩)] w fun e w' => e = .returned (.int .i64 N.sign) ∧ w' = w := by
  obtain ⟨a, n, c, ea, a', n', c', e, hl, _⟩ := x.ab
  injection e with e1 e2 e3
  subst e2
  have es := x.sg
  clear x
  by_cases hN : N = 0
  · subst hN
    have h0 := hl.of_zero
    subst h0
    clear hl
    go_enter Tryz.func25, Tryz.ntmps25
    go_wp2
    go_ret
    exact ⟨rfl, rfl⟩
  have hp : 0 < n := by
    rcases Nat.eq_zero_or_pos n with h0 | h0
    · subst h0; have := hl.zero; omega
    · exact h0
  have hnb : ((n : Int) == 0) = false := by simp; omega
  clear hl
  by_cases hng : N < 0
  · rw [Int.sign_eq_neg_one_of_neg hng]
    rw [decide_eq_true hng] at es
    clear hp hN
    go_enter Tryz.func25, Tryz.ntmps25
    go_wp2
    go_ret
    exact ⟨rfl, rfl⟩
  · rw [Int.sign_eq_one_of_pos (by omega)]
    rw [decide_eq_false hng] at es
    clear hp hN
    go_enter Tryz.func25, Tryz.ntmps25
    go_wp2
    go_ret
    exact ⟨rfl, rfl⟩

end Go.Proofs.YtfpmgnlddlcpoaaGreatDoor
