/- Comparing tasks; a row of them put in order: Smith and Jackson. -/
import Derived.Test.YtmpigipeajdgcaaL5
import Derived.Test.YtmpigipeajdgcaaL6
namespace Go.Proofs.Ytmpigipeajdgcaa
open Go.RowKit Go.Sort Stb

def cmpI (x y : Int) : Int := if x < y then -1 else if y < x then 1 else 0
theorem cmpI_lt {x y : Int} : cmpI x y < 0 ↔ x < y := by unfold cmpI; split <;> (try split) <;> omega

set_option maxHeartbeats 1000000 in
theorem nan_any (x : Int) (w : World) : Calls Try.prog 32 #[.int .i64 x] w fun e w' => e = .returned (.bool false) ∧ w' = w := by
  have e0 : (x == x) = true := by simp
  go_enter Try.func32, Try.ntmps32
  go_wp2
  go_ret
  exact ⟨rfl, rfl⟩
set_option maxHeartbeats 1000000 in
theorem compare_any (x y : Int) (w : World) : Calls Try.prog 19 #[.int .i64 x, .int .i64 y] w fun e w' => e = .returned (.int .i64 (cmpI x y)) ∧ w' = w := by
  have H1 := hide (nan_any x w)
  have H2 := hide (nan_any y w)
  by_cases h1 : x < y
  · rw [show cmpI x y = -1 by unfold cmpI; rw [if_pos h1]]
    go_enter Try.func19, Try.ntmps19
    go_wp2_with fail
    refine (unhide H1).mono ?_
    rintro e w' ⟨rfl, rfl⟩
    go_wp2_with fail
    refine (unhide H2).mono ?_
    rintro e w' ⟨rfl, rfl⟩
    go_wp2
    go_ret
    exact ⟨rfl, rfl⟩
  · by_cases h2 : y < x
    · rw [show cmpI x y = 1 by unfold cmpI; rw [if_neg h1, if_pos h2]]
      go_enter Try.func19, Try.ntmps19
      go_wp2_with fail
      refine (unhide H1).mono ?_
      rintro e w' ⟨rfl, rfl⟩
      go_wp2_with fail
      refine (unhide H2).mono ?_
      rintro e w' ⟨rfl, rfl⟩
      go_wp2
      go_ret
      exact ⟨rfl, rfl⟩
    · rw [show cmpI x y = 0 by unfold cmpI; rw [if_neg h1, if_neg h2]]
      go_enter Try.func19, Try.ntmps19
      go_wp2_with fail
      refine (unhide H1).mono ?_
      rintro e w' ⟨rfl, rfl⟩
      go_wp2_with fail
      refine (unhide H2).mono ?_
      rintro e w' ⟨rfl, rfl⟩
      go_wp2
      go_ret
      exact ⟨rfl, rfl⟩

def T3.val (t : T3) : Value := .agg #[.int .i64 t.1, .int .i64 t.2.1, .int .i64 t.2.2]
def jcmp (a b : T3) : Int := cmpI a.2.2 b.2.2
def scmp (a b : T3) : Int := if a.1 = 0 ∨ b.1 = 0 then cmpI a.1 b.1 else cmpI (b.2.1 * a.1) (a.2.1 * b.1)
def Small (t : T3) : Prop := 0 ≤ t.1 ∧ t.1 ≤ 1000000000 ∧ 0 ≤ t.2.1 ∧ t.2.1 ≤ 10000
/-- What a function that compares two tasks says. -/
def Compares (k : Nat) (cmp : T3 → T3 → Int) : Prop := ∀ (a b : T3) (w : World), Small a → Small b → Calls Try.prog k #[a.val, b.val] w fun e w' => e = .returned (.int .i64 (cmp a b)) ∧ Below w.heap.size w w'

set_option maxHeartbeats 1000000 in
theorem jackson1_any : Compares 22 jcmp := by
  rintro ⟨x, y, z⟩ ⟨x', y', z'⟩ w _ _
  have HC : Hid (∀ W, Calls Try.prog 19 #[.int .i64 z, .int .i64 z'] W fun e w' => e = .returned (.int .i64 (jcmp (x, y, z) (x', y', z'))) ∧ w' = W) := fun W => compare_any z z' W
  obtain ⟨v, hv⟩ : ∃ v, jcmp (x, y, z) (x', y', z') = v := ⟨_, rfl⟩
  rw [hv] at HC ⊢
  show Calls Try.prog _ #[.agg #[.int .i64 x, .int .i64 y, .int .i64 z], .agg #[.int .i64 x', .int .i64 y', .int .i64 z']] w _
  have HB := hide (below_step (alloc_below w (.cells #[.int .i64 x, .int .i64 y, .int .i64 z] 41)) (alloc_below _ (.cells #[.int .i64 x', .int .i64 y', .int .i64 z'] 41)))
  clear hv
  go_enter Try.func22, Try.ntmps22
  go_wp2_with fail
  refine (unhide HC _).mono ?_
  rintro e w' ⟨rfl, rfl⟩
  go_wp2
  go_ret
  exact ⟨rfl, unhide HB⟩

set_option maxHeartbeats 4000000 in
theorem smith1_any : Compares 18 scmp := by
  rintro ⟨x, y, z⟩ ⟨x', y', z'⟩ w ⟨a1, a2, a3, a4⟩ ⟨b1, b2, b3, b4⟩
  simp only at a1 a2 a3 a4 b1 b2 b3 b4
  show Calls Try.prog _ #[.agg #[.int .i64 x, .int .i64 y, .int .i64 z], .agg #[.int .i64 x', .int .i64 y', .int .i64 z']] w _
  have HB := hide (below_step (alloc_below w (.cells #[.int .i64 x, .int .i64 y, .int .i64 z] 41)) (alloc_below _ (.cells #[.int .i64 x', .int .i64 y', .int .i64 z'] 41)))
  by_cases hx : x = 0
  · have HC : Hid (∀ W, Calls Try.prog 19 #[.int .i64 x, .int .i64 x'] W fun e w' => e = .returned (.int .i64 (scmp (x, y, z) (x', y', z'))) ∧ w' = W) := fun W => by
      rw [show scmp (x, y, z) (x', y', z') = cmpI x x' by unfold scmp; rw [if_pos (Or.inl hx)]]
      exact compare_any x x' W
    obtain ⟨v, hv⟩ : ∃ v, scmp (x, y, z) (x', y', z') = v := ⟨_, rfl⟩
    rw [hv] at HC ⊢
    subst hx
    clear hv
    go_enter Try.func18, Try.ntmps18
    go_wp2_with fail
    refine (unhide HC _).mono ?_
    rintro e w' ⟨rfl, rfl⟩
    go_wp2
    go_ret
    exact ⟨rfl, unhide HB⟩
  · have q1 : (x == 0) = false := by simpa using hx
    by_cases hx' : x' = 0
    · have HC : Hid (∀ W, Calls Try.prog 19 #[.int .i64 x, .int .i64 x'] W fun e w' => e = .returned (.int .i64 (scmp (x, y, z) (x', y', z'))) ∧ w' = W) := fun W => by
        rw [show scmp (x, y, z) (x', y', z') = cmpI x x' by unfold scmp; rw [if_pos (Or.inr hx')]]
        exact compare_any x x' W
      obtain ⟨v, hv⟩ : ∃ v, scmp (x, y, z) (x', y', z') = v := ⟨_, rfl⟩
      rw [hv] at HC ⊢
      subst hx'
      clear hv
      go_enter Try.func18, Try.ntmps18
      go_wp2_with fail
      refine (unhide HC _).mono ?_
      rintro e w' ⟨rfl, rfl⟩
      go_wp2
      go_ret
      exact ⟨rfl, unhide HB⟩
    · have q2 : (x' == 0) = false := by simpa using hx'
      have HC : Hid (∀ W, Calls Try.prog 19 #[.int .i64 (y' * x), .int .i64 (y * x')] W fun e w' => e = .returned (.int .i64 (scmp (x, y, z) (x', y', z'))) ∧ w' = W) := fun W => by
        rw [show scmp (x, y, z) (x', y', z') = cmpI (y' * x) (y * x') by unfold scmp; rw [if_neg (fun h => h.elim hx hx')]]
        exact compare_any (y' * x) (y * x') W
      obtain ⟨v, hv⟩ : ∃ v, scmp (x, y, z) (x', y', z') = v := ⟨_, rfl⟩
      rw [hv] at HC ⊢
      have m1 : y' * x ≤ 10000 * 1000000000 := Int.le_trans (Int.mul_le_mul_of_nonneg_right b4 a1) (Int.mul_le_mul_of_nonneg_left a2 (by decide))
      have m2 : y * x' ≤ 10000 * 1000000000 := Int.le_trans (Int.mul_le_mul_of_nonneg_right a4 b1) (Int.mul_le_mul_of_nonneg_left b2 (by decide))
      have m3 : 0 ≤ y' * x := Int.mul_nonneg b3 a1
      have m4 : 0 ≤ y * x' := Int.mul_nonneg a3 b1
      have e1 : IntKind.i64.wrap (y' * x) = y' * x := by rw [IntKind.wrap_i64]; omega
      have e2 : IntKind.i64.wrap (y * x') = y * x' := by rw [IntKind.wrap_i64]; omega
      obtain ⟨s1, hs1⟩ : ∃ s, y' * x = s := ⟨_, rfl⟩
      obtain ⟨s2, hs2⟩ : ∃ s, y * x' = s := ⟨_, rfl⟩
      rw [hs1] at e1 HC
      rw [hs2] at e2 HC
      rw [← hs1] at e1
      rw [← hs2] at e2
      have e1' : IntKind.i64.wrap (y' * x) = s1 := by rw [e1]; exact hs1
      have e2' : IntKind.i64.wrap (y * x') = s2 := by rw [e2]; exact hs2
      clear hv m1 m2 m3 m4 hs1 hs2 e1 e2
      go_enter Try.func18, Try.ntmps18
      go_wp2_with fail
      refine (unhide HC _).mono ?_
      rintro e w' ⟨rfl, rfl⟩
      go_wp2
      go_ret
      exact ⟨rfl, unhide HB⟩
end Go.Proofs.Ytmpigipeajdgcaa
