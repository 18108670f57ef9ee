/- Wait, Load. -/
import Derived.Test.YtbboacmjbffmhaaGreatDoorS5
import Derived.Test.YtbboacmjbffmhaaGreatDoorV2
namespace Go.Proofs.YtbboacmjbffmhaaGreatDoor
open Go.RowKit Go.Sort Go.Shelf

theorem chain_one_any {P : Program} {ops : Array Oper} {Q : Exit → Act → World → Prop} {C : World → Prop} {md : Region.Mode} (N : Nat) (mk : Nat → Bool → Array Bool) (ic : Nat → Nat) (ia m : Nat) (I : Nat → Bool → Act → World → Prop)
    (hr : ∀ c l, c ≤ N → (Region.ready md ops (mk c l)).all (fun i => (i == ic c && decide (c < N)) || (i == ia && !l) || (c == N && l)) = true)
    (hne : ∀ c l, c ≤ N → (c == N && l) = false → (Region.ready md ops (mk c l)).isEmpty = false)
    (h1 : ∀ c l, c < N → (mk c l).setIfInBounds (ic c) true = mk (c + 1) l) (ha : ∀ c, (mk c false).setIfInBounds ia true = mk c true)
    (s1 : ∀ c l a w, c < N → I c l a w → wpOp P ops Q (ic c) (fun a' w' => C w' ∧ I (c + 1) l a' w') a w)
    (sa : ∀ c a w, I c false a w → wpOp P ops Q ia (fun a' w' => C w' ∧ I c true a' w') a w)
    (fin : ∀ a w, I N true a w → wpHold P md ops Q C m (mk N true) a w) :
    ∀ n c l, c ≤ N → (N - c) + (1 - l.toNat) = n → ∀ a w, I c l a w → wpHold P md ops Q C (n + m) (mk c l) a w := by
  intro n
  induction n with
  | zero =>
    intro c l hc hn a w h
    obtain rfl : c = N := by omega
    cases l <;> simp at hn
    rw [Nat.zero_add]
    exact fin a w h
  | succ n ih =>
    intro c l hc hn a w h
    have hall := hr c l hc
    have hend : (c == N && l) = false := by
      cases l <;> simp at hn ⊢
      omega
    have hnn := hne c l hc hend
    rw [Nat.succ_add]
    refine ⟨fun e => (by rw [e] at hnn; cases hnn), fun i hi => ?_⟩
    have hk := List.all_eq_true.1 hall i hi
    rw [hend] at hk
    simp only [Bool.or_eq_true, Bool.and_eq_true, beq_iff_eq, Bool.not_eq_true', Bool.or_false, decide_eq_true_eq] at hk
    rcases hk with ⟨rfl, hlt⟩ | ⟨rfl, rfl⟩
    · exact wpOp_mono (fun a' w' h' => ⟨h'.1, by rw [h1 c l hlt]; exact ih (c + 1) l (by omega) (by omega) a' w' h'.2⟩) (s1 c l a w hlt h)
    · exact wpOp_mono (fun a' w' h' => ⟨h'.1, by rw [ha]; exact ih c true hc (by simp at hn ⊢; omega) a' w' h'.2⟩) (sa c a w h)

/-- A fraction, and a box. -/
structure OneJ (q1 : Rat) (w0 : World) (c : Nat) (l : Bool) (w : World) (s1 s3 : Value) : Prop where
  bl : Below w0.heap.size w0 w
  r1 : 1 ≤ c → RatIs w s1 q1
  al : l = true → ∃ b, s3 = .pointer (some ⟨b, 0, none⟩) ∧ BoxIs w b zTri 0 ∧ w0.heap.size ≤ b

def WaitPost (w : World) (ks : List (Rat × List Rat)) (e : Ending) (w' : World) : Prop :=
  (FitC ks ∧ ∃ v, e = .returned (.tuple #[v, .nilIface]) ∧ RatIs w' v (waitC ks) ∧ Below w.heap.size w w') ∨
  (¬ FitC ks ∧ ∃ k : Int, e = .returned (.tuple #[zAgg, .iface 56 (.int .i64 k)]) ∧ Below w.heap.size w w')
def LoadPost (w : World) (ks : List (Rat × List Rat)) (e : Ending) (w' : World) : Prop :=
  (GoodC ks ∧ ∃ v, e = .returned (.tuple #[v, .nilIface]) ∧ RatIs w' v (Bth.ps (ldC ks) ks.length) ∧ Below w.heap.size w w') ∨
  (¬ GoodC ks ∧ ∃ k : Int, e = .returned (.tuple #[zAgg, .iface 56 (.int .i64 k)]) ∧ Below w.heap.size w w')

end Go.Proofs.YtbboacmjbffmhaaGreatDoor
