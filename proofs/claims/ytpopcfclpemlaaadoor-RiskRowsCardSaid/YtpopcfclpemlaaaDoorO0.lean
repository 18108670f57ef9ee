/- A region that draws its order: calls in a chain, a box at any time, the end when the last call is done. -/
import Derived.Test.YtpopcfclpemlaaaDoorV2
namespace Go.Proofs.YtpopcfclpemlaaaDoor
open Go.RowKit Go.Sort Go.Shelf

theorem chain_fin {P : Program} {ops : Array Oper} {Q : Exit → Act → World → Prop} {C : World → Prop} {md : Region.Mode} (N : Nat) (mk : Nat → Bool → Array Bool) (ic : Nat → Nat) (ia m : Nat) (I : Nat → Bool → Act → World → Prop)
    (hr : ∀ c l, c < N → (Region.ready md ops (mk c l)).all (fun i => (i == ic c) || (i == ia && !l)) = true)
    (hne : ∀ c l, c < N → (Region.ready md ops (mk c l)).isEmpty = false)
    (h1 : ∀ c l, c < N → (mk c l).setIfInBounds (ic c) true = mk (c + 1) l) (ha : ∀ c, c < N → (mk c false).setIfInBounds ia true = mk c true)
    (s1 : ∀ c l a w, c < N → I c l a w → wpOp P ops Q (ic c) (fun a' w' => C w' ∧ I (c + 1) l a' w') a w)
    (sa : ∀ c a w, c < N → I c false a w → wpOp P ops Q ia (fun a' w' => C w' ∧ I c true a' w') a w)
    (fin : ∀ l a w, I N l a w → wpHold P md ops Q C (m + (1 - l.toNat)) (mk N l) a w) :
    ∀ n c l, c ≤ N → (N - c) + (1 - l.toNat) = n → ∀ a w, I c l a w → wpHold P md ops Q C (n + m) (mk c l) a w := by
  intro n
  induction n with
  | zero =>
    intro c l hc hn a w h
    obtain rfl : c = N := by omega
    cases l with
    | false => simp at hn
    | true => rw [Nat.zero_add]; exact fin true a w h
  | succ n ih =>
    intro c l hc hn a w h
    rcases Nat.lt_or_ge c N with hlt | hge
    · rw [show n + 1 + m = (n + m) + 1 by omega]
      have hn0 := hne c l hlt
      refine ⟨fun e' => (by rw [e'] at hn0; cases hn0), fun i hi => ?_⟩
      have hk := List.all_eq_true.1 (hr c l hlt) i hi
      by_cases hi1 : i = ic c
      · subst hi1
        exact wpOp_mono (fun a' w' h' => ⟨h'.1, by rw [h1 c l hlt]; exact ih (c + 1) l hlt (by omega) a' w' h'.2⟩) (s1 c l a w hlt h)
      · have hi2 : i = ia ∧ l = false := by
          simp only [Bool.or_eq_true, Bool.and_eq_true, beq_iff_eq, Bool.not_eq_true'] at hk
          rcases hk with hk | hk
          · exact absurd hk hi1
          · exact hk
        obtain ⟨rfl, rfl⟩ := hi2
        exact wpOp_mono (fun a' w' h' => ⟨h'.1, by rw [ha c hlt]; exact ih c true hc (by simp at hn ⊢; omega) a' w' h'.2⟩) (sa c a w hlt h)
    · obtain rfl : c = N := by omega
      cases l with
      | true => simp at hn
      | false =>
        have : n = 0 := by simp at hn; omega
        subst this
        have := fin false a w h
        rw [show 0 + 1 + m = m + (1 - Bool.toNat false) by simp; omega]
        exact this
end Go.Proofs.YtpopcfclpemlaaaDoor
