/- What is known of classes: rates, moments, what is left, half the squares. -/
import Derived.Test.YtbboacmjbffmhaaGreatDoorS1
import Derived.Test.YtbboacmjbffmhaaGreatDoorQ0
namespace Go.Proofs.YtbboacmjbffmhaaGreatDoor
open Go.RowKit Go.Sort Go.Shelf

def rt (ks : List (Rat × List Rat)) (i : Nat) : Rat := (ks[i]!).1
def mo (p : Nat) (ks : List (Rat × List Rat)) (i : Nat) : Rat := wsum (ks[i]!).2 (fun j => ((j ^ p : Nat) : Int)) (ks[i]!).2.length
/-- Classes that may be. -/
def OkC (ks : List (Rat × List Rat)) : Prop := ∀ j, j < ks.length → 0 ≤ (ks[j]!).1.num ∧ chk (ks[j]!).2 = 0
/-- Classes that are small enough. -/
def SmC (ks : List (Rat × List Rat)) : Prop := ∀ j, j < ks.length → RS (ks[j]!).1 1 ∧ (ks[j]!).2.length ≤ 12 ∧ ∀ i, i < (ks[j]!).2.length → RS ((ks[j]!).2)[i]! 1
theorem mo_RS {ks : List (Rat × List Rat)} (h : SmC ks) {p j : Nat} (hp : p ≤ 4) (hj : j < ks.length) : RS (mo p ks j) 40 := by
  have ⟨_, h2, h3⟩ := h j hj
  refine RS.mono (wsum_RS h3 (fun i hi => pow_I64 (by omega) hp) _ (Nat.le_refl _)) ?_
  have : (ks[j]!).2.length * (1 + 2) ≤ 12 * (1 + 2) := Nat.mul_le_mul_right _ h2
  omega
theorem wsum_nn {qs : List Rat} {F : Nat → Int} (h : ∀ j, j < qs.length → 0 ≤ qs[j]!.num) (hF : ∀ j, 0 ≤ F j) : ∀ k, k ≤ qs.length → 0 ≤ wsum qs F k
  | 0, _ => by show (0 : Rat) ≤ 0; decide
  | k + 1, hk => Rat.add_nonneg (wsum_nn h hF k (by omega)) (Rat.mul_nonneg (Rat.num_nonneg.1 (h k (by omega))) (Rat.intCast_nonneg.2 (hF k)))
theorem mo_nn {ks : List (Rat × List Rat)} (ok : OkC ks) {p j : Nat} (hj : j < ks.length) : 0 ≤ mo p ks j := by
  have ⟨_, _, h3, _⟩ := chk_zero (ok j hj).2
  exact wsum_nn h3 (fun j => by omega) _ (Nat.le_refl _)
theorem rt_nn {ks : List (Rat × List Rat)} (ok : OkC ks) {j : Nat} (hj : j < ks.length) : 0 ≤ rt ks j := Rat.num_nonneg.1 (ok j hj).1
theorem ld_nn {ks : List (Rat × List Rat)} (ok : OkC ks) (p : Nat) : ∀ j, j < ks.length → 0 ≤ rt ks j * mo p ks j := fun _ hj => Rat.mul_nonneg (rt_nn ok hj) (mo_nn ok hj)
theorem ld_RS {ks : List (Rat × List Rat)} (h : SmC ks) {p j : Nat} (hp : p ≤ 4) (hj : j < ks.length) : RS (rt ks j * mo p ks j) 41 := (RS.mul (h j hj).1 (mo_RS h hp hj)).mono (by omega)
/-- What the first k classes leave; half their squares. -/
def lfC (ks : List (Rat × List Rat)) (k : Nat) : Rat := Srv.lf (rt ks) (mo 1 ks) k
def hfC (ks : List (Rat × List Rat)) (k : Nat) : Rat := Srv.hf (rt ks) (mo 2 ks) k
def ldC (ks : List (Rat × List Rat)) (k : Nat) : Rat := rt ks k * mo 1 ks k
theorem lfC_zero (ks : List (Rat × List Rat)) : lfC ks 0 = ((1 : Int) : Rat) := rfl
theorem lfC_succ (ks : List (Rat × List Rat)) (k : Nat) : lfC ks (k + 1) = lfC ks k - ldC ks k := rfl
theorem hfC_zero (ks : List (Rat × List Rat)) : hfC ks 0 = 0 := rfl
theorem hfC_succ (ks : List (Rat × List Rat)) (k : Nat) : hfC ks (k + 1) = hfC ks k + rt ks k * mo 2 ks k / ((2 : Int) : Rat) := rfl
theorem two_RS : RS ((2 : Int) : Rat) 1 := by
  have e : Wd.pw 1 = 18446744073709551616 := Wd.pw_one
  refine ⟨?_, ?_⟩
  · rw [e]; show ((2 : Nat) : Int) < _; decide
  · rw [e]; show ((1 : Nat) : Int) < _; decide
theorem two_num : ((2 : Int) : Rat).num ≠ 0 := by decide
theorem lfC_RS {ks : List (Rat × List Rat)} (h : SmC ks) : ∀ k, k ≤ ks.length → RS (lfC ks k) (k * 42 + 1)
  | 0, _ => onei_RS
  | k + 1, hk => (RS.sub' (lfC_RS h k (by omega)) (ld_RS h (by omega) (by omega))).mono (by omega)
theorem hfC_RS {ks : List (Rat × List Rat)} (h : SmC ks) : ∀ k, k ≤ ks.length → RS (hfC ks k) (k * 43 + 1)
  | 0, _ => RS.zero
  | k + 1, hk => (RS.add (hfC_RS h k (by omega)) (RS.div' (ld_RS h (p := 2) (by omega) (by omega)) two_RS two_num)).mono (by omega)
theorem num_of_pos {q : Rat} (h : 0 < q) : q.num ≠ 0 := fun e => by
  rw [Rat.num_eq_zero.1 e] at h
  exact absurd h (by decide)
theorem lfC_pos {ks : List (Rat × List Rat)} (ok : OkC ks) (hp : 0 < lfC ks ks.length) {k : Nat} (hk : k ≤ ks.length) : 0 < lfC ks k := Srv.lf_pos (ld_nn ok 1) hp hk
theorem hfC_nn {ks : List (Rat × List Rat)} (ok : OkC ks) {k : Nat} (hk : k ≤ ks.length) : 0 ≤ hfC ks k := Srv.hf_nn (ld_nn ok 2) hk
/-- The waits and stays. -/
def waitC (ks : List (Rat × List Rat)) : Rat := hfC ks ks.length / lfC ks ks.length
def waitsC (ks : List (Rat × List Rat)) (i : Nat) : Rat := hfC ks ks.length / (lfC ks i * lfC ks (i + 1))
def staysC (ks : List (Rat × List Rat)) (i : Nat) : Rat := (mo 1 ks i + hfC ks (i + 1) / lfC ks (i + 1)) / lfC ks i
end Go.Proofs.YtbboacmjbffmhaaGreatDoor
