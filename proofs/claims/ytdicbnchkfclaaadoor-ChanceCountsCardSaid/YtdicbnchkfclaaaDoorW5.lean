/- Numbers by words: multiplied, whatever they are; two words divided by one. -/
import Derived.Test.YtdicbnchkfclaaaDoorW4
namespace Go.Proofs.YtdicbnchkfclaaaDoor
open Go.RowKit Go.Sort Go.Shelf

set_option maxHeartbeats 1000000 in
set_option maxRecDepth 100000 in
theorem mul_any (va vb : Value) (A B : Int) (w : World) (ha : NatIs w va A) (hb : NatIs w vb B) (hA : Sm A) (hB : Sm B) :
    Calls Tryd.prog 44 #[va, vb] w fun e w' => ∃ v, e = .returned v ∧ NatIs w' v (A * B) ∧ Below w.heap.size w w' := by
  have ha' := ha
  have hb' := hb
  obtain ⟨a, n, c, rfl, hl, hra⟩ := ha
  obtain ⟨a', n', c', rfl, hl', hrb⟩ := hb
  have hn := hA.len hl
  have hn' := hB.len hl'
  by_cases h0 : n = 0
  · subst h0
    have hz := hl.zero
    subst hz
    rw [Int.zero_mul]
    clear ha' hb' hl hl' hra hrb hA hB
    go_enter Tryd.func44, Tryd.ntmps44
    go_wp2
    go_ret
    exact ⟨_, rfl, natIs_zero _ _ _ (by decide), Below.refl _ _⟩
  by_cases h0' : n' = 0
  · subst h0'
    have hz := hl'.zero
    subst hz
    rw [Int.mul_zero]
    have z1 : ((n : Int) == 0) = false := by rw [beq_eq_false_iff_ne]; omega
    clear ha' hb' hl hl' hra hrb hA hB
    go_enter Tryd.func44, Tryd.ntmps44
    go_wp2
    go_ret
    exact ⟨_, rfl, natIs_zero _ _ _ (by decide), Below.refl _ _⟩
  by_cases h1 : A = 1
  · subst h1
    rw [Int.one_mul]
    have z1 : ((n : Int) == 0) = false := by rw [beq_eq_false_iff_ne]; omega
    have z2 : ((n' : Int) == 0) = false := by rw [beq_eq_false_iff_ne]; omega
    have HO1 := hide (isOne_any (.slice a n c) 1 w ha')
    rw [show ((1 : Int) == 1) = true from rfl] at HO1
    have HB := hide hb'
    clear ha' hb' hl hl' hra hrb hA hB
    go_enter Tryd.func44, Tryd.ntmps44
    go_wp2_with (go_at_call 67; refine (unhide HO1).mono ?_; rintro e w ⟨rfl, rfl⟩)
    go_ret
    exact ⟨_, rfl, unhide HB, Below.refl _ _⟩
  by_cases h2 : B = 1
  · subst h2
    rw [Int.mul_one]
    have z1 : ((n : Int) == 0) = false := by rw [beq_eq_false_iff_ne]; omega
    have z2 : ((n' : Int) == 0) = false := by rw [beq_eq_false_iff_ne]; omega
    have HO1 := hide (isOne_any (.slice a n c) A w ha')
    rw [show (A == 1) = false by rw [beq_eq_false_iff_ne]; exact h1] at HO1
    have HO2 := hide (isOne_any (.slice a' n' c') 1 w hb')
    rw [show ((1 : Int) == 1) = true from rfl] at HO2
    have HB := hide ha'
    clear ha' hb' hl hl' hra hrb hA hB
    go_enter Tryd.func44, Tryd.ntmps44
    go_wp2_with fail
    refine (unhide HO1).mono ?_
    rintro e w ⟨rfl, rfl⟩
    go_wp2_with fail
    refine (unhide HO2).mono ?_
    rintro e w ⟨rfl, rfl⟩
    go_wp2
    go_ret
    exact ⟨_, rfl, unhide HB, Below.refl _ _⟩
  exact mul_long a a' n n' c c' A B w hl hl' hra hrb hA hB (by omega) (by omega) (by rw [beq_eq_false_iff_ne]; exact h1) (by rw [beq_eq_false_iff_ne]; exact h2)

theorem mul_small {A B : Int} {j k : Nat} (hB : 0 ≤ B) (h1 : A < Wd.pw j) (h2 : B < Wd.pw k) : A * B < Wd.pw (j + k) := by
  rw [Wd.pw_add]
  have := Wd.pw_pos j
  have := Wd.pw_pos k
  have := Int.mul_le_mul (a := A) (b := B) (c := Wd.pw j - 1) (d := Wd.pw k) (by omega) (by omega) (by omega) (by omega)
  rw [Int.sub_mul] at this
  omega

/-! ### Two words divided by one -/
end Go.Proofs.YtdicbnchkfclaaaDoor
