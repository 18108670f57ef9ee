/- Sizes of fractions: 1, differences, quotients. -/
import Derived.Test.YtfnbjenneodcdaaGreatDoorA15
import Derived.Test.YtfnbjenneodcdaaGreatDoorA12
import Derived.Test.YtfnbjenneodcdaaGreatDoorB1
import Derived.Test.YtfnbjenneodcdaaGreatDoorB2
import Derived.Test.YtfnbjenneodcdaaGreatDoorRows
import Derived.WalkKit
import Derived.WalkSpells
import Derived.WalkLawsBesides
import Derived.Test.YtfnbjenneodcdaaGreatDoorA1
namespace Go.Proofs.YtfnbjenneodcdaaGreatDoor
open Go.RowKit Go.Sort Go.Shelf

theorem one_RS' : RS (1 : Rat) 1 := by
  refine ⟨?_, ?_⟩ <;> (show (1 : Int) < Wd.pw 1; decide)
theorem onei_RS : RS ((1 : Int) : Rat) 1 := by
  refine ⟨?_, ?_⟩ <;> (show (1 : Int) < Wd.pw 1; decide)
theorem sg_one (u : Rat) : Wd.sg (u.num * ((1 : Int) : Rat).den) (((1 : Int) : Rat).num * u.den) = Wd.sg u.num u.den := by
  have h1 : ((1 : Int) : Rat).den = 1 := rfl
  have h2 : ((1 : Int) : Rat).num = 1 := rfl
  rw [h1, h2]; simp
theorem sg_ge {a b : Int} (h : b ≤ a) : 0 ≤ Wd.sg a b ∧ Wd.sg a b ≤ 1 := by
  unfold Wd.sg
  rw [if_neg (by omega)]
  by_cases e : a = b
  · rw [if_pos e]; exact ⟨by decide, by decide⟩
  · rw [if_neg e]; exact ⟨by decide, by decide⟩
theorem RS.sub' {a b : Rat} {i j : Nat} (ha : RS a i) (hb : RS b j) : RS (a - b) (i + j + 1) := by
  rw [Rat.sub_eq_add_neg]; exact ha.add hb.neg
theorem RS.div' {a b : Rat} {i j : Nat} (ha : RS a i) (hb : RS b j) (hz : b.num ≠ 0) : RS (a / b) (i + j) := by
  rw [Rat.div_def]; exact ha.mul (hb.inv hz)

end Go.Proofs.YtfnbjenneodcdaaGreatDoor
/- walk.divided; orders of two calls and one box. -/
namespace Go.Proofs.YtfnbjenneodcdaaGreatDoor
open Go.RowKit Go.Sort Go.Shelf

theorem wpHold_listed {P : Program} {md : Region.Mode} {ops : Array Oper} {Q : Exit → Act → World → Prop} {C : World → Prop} {m n : Nat} {L L' : Array Bool} {a : Act} {w : World} (hn : m = n) (h : L = L') (H : wpHold P md ops Q C n L' a w) : wpHold P md ops Q C m L a w := by subst hn; subst h; exact H
theorem wpHold_name {P : Program} {md : Region.Mode} {ops : Array Oper} {Q : Exit → Act → World → Prop} {C : World → Prop} {n : Nat} {L : Array Bool} {a : Act} {w : World} (H : ∀ a0, a0 = a → wpHold P md ops Q C n L a0 w) : wpHold P md ops Q C n L a w := H a rfl

/-- Two calls, one behind the other, and one that makes memory, at any time. -/
theorem two_one_any {P : Program} {ops : Array Oper} {Q : Exit → Act → World → Prop} {C : World → Prop} {md : Region.Mode} (mk : Nat → Bool → Array Bool) (i1 i2 ia m : Nat) (I : Nat → Bool → Act → World → Prop)
    (hr : ∀ c l, c ≤ 2 → (Region.ready md ops (mk c l)).all (fun i => (i == i1 && c == 0) || (i == i2 && c == 1) || (i == ia && !l) || (c == 2 && l)) = true)
    (hne : ∀ c l, c ≤ 2 → (c == 2 && l) = false → (Region.ready md ops (mk c l)).isEmpty = false)
    (h1 : ∀ l, (mk 0 l).setIfInBounds i1 true = mk 1 l) (h2 : ∀ l, (mk 1 l).setIfInBounds i2 true = mk 2 l) (ha : ∀ c, (mk c false).setIfInBounds ia true = mk c true)
    (s1 : ∀ l a w, I 0 l a w → wpOp P ops Q i1 (fun a' w' => C w' ∧ I 1 l a' w') a w)
    (s2 : ∀ l a w, I 1 l a w → wpOp P ops Q i2 (fun a' w' => C w' ∧ I 2 l a' w') a w)
    (sa : ∀ c a w, I c false a w → wpOp P ops Q ia (fun a' w' => C w' ∧ I c true a' w') a w)
    (fin : ∀ a w, I 2 true a w → wpHold P md ops Q C m (mk 2 true) a w) :
    ∀ n c l, c ≤ 2 → (2 - c) + (1 - l.toNat) = n → ∀ a w, I c l a w → wpHold P md ops Q C (n + m) (mk c l) a w := by
  intro n
  induction n with
  | zero =>
    intro c l hc hn a w h
    obtain rfl : c = 2 := by omega
    cases l <;> simp at hn
    rw [Nat.zero_add]
    exact fin a w h
  | succ n ih =>
    intro c l hc hn a w h
    have hall := hr c l hc
    have hend : (c == 2 && l) = false := by
      cases l <;> simp at hn ⊢
      omega
    have hnn := hne c l hc hend
    rw [Nat.succ_add]
    refine ⟨fun e => (by rw [e] at hnn; cases hnn), fun i hi => ?_⟩
    have hk := List.all_eq_true.1 hall i hi
    rw [hend] at hk
    simp only [Bool.or_eq_true, Bool.and_eq_true, beq_iff_eq, Bool.not_eq_true', Bool.or_false] at hk
    rcases hk with (⟨rfl, rfl⟩ | ⟨rfl, rfl⟩) | ⟨rfl, rfl⟩
    · exact wpOp_mono (fun a' w' h' => ⟨h'.1, by rw [h1]; exact ih 1 l (by omega) (by omega) a' w' h'.2⟩) (s1 l a w h)
    · exact wpOp_mono (fun a' w' h' => ⟨h'.1, by rw [h2]; exact ih 2 l (by omega) (by omega) a' w' h'.2⟩) (s2 l a w h)
    · exact wpOp_mono (fun a' w' h' => ⟨h'.1, by rw [ha]; exact ih c true hc (by simp at hn ⊢; omega) a' w' h'.2⟩) (sa c a w h)

end Go.Proofs.YtfnbjenneodcdaaGreatDoor
/- A region that draws its order: calls in a chain, a box at any time, the end when the last call is done. -/
namespace Go.Proofs.YtfnbjenneodcdaaGreatDoor
open Go.RowKit Go.Sort Go.Shelf

theorem chain_fin {P : Program} {ops : Array Oper} {Q : Exit → Act → World → Prop} {C : World → Prop} {md : Region.Mode} (N : Nat) (mk : Nat → Bool → Array Bool) (ic : Nat → Nat) (ia m : Nat) (I : Nat → Bool → Act → World → Prop)
    (hr : ∀ c l, c < N → (Region.ready md ops (mk c l)).all (fun i => (i == ic c) || (i == ia && !l)) = true)
    (hne : ∀ c l, c < N → (Region.ready md ops (mk c l)).isEmpty = false)
    (h1 : ∀ c l, c < N → (mk c l).setIfInBounds (ic c) true = mk (c + 1) l) (ha : ∀ c, c < N → (mk c false).setIfInBounds ia true = mk c true)
    (s1 : ∀ c l a w, c < N → I c l a w → wpOp P ops Q (ic c) (fun a' w' => C w' ∧ I (c + 1) l a' w') a w)
    (sa : ∀ c a w, c < N → I c false a w → wpOp P ops Q ia (fun a' w' => C w' ∧ I c true a' w') a w)
    (fin : ∀ l a w, I N l a w → wpHold P md ops Q C (m + (1 - l.toNat)) (mk N l) a w) :
    ∀ n c l, c ≤ N → (N - c) + (1 - l.toNat) = n → ∀ a w, I c l a w → wpHold P md ops Q C (n + m) (mk c l) a w := by
  intro n
  induction n with
  | zero =>
    intro c l hc hn a w h
    obtain rfl : c = N := by omega
    cases l with
    | false => simp at hn
    | true => rw [Nat.zero_add]; exact fin true a w h
  | succ n ih =>
    intro c l hc hn a w h
    rcases Nat.lt_or_ge c N with hlt | hge
    · rw [show n + 1 + m = (n + m) + 1 by omega]
      have hn0 := hne c l hlt
      refine ⟨fun e' => (by rw [e'] at hn0; cases hn0), fun i hi => ?_⟩
      have hk := List.all_eq_true.1 (hr c l hlt) i hi
      by_cases hi1 : i = ic c
      · subst hi1
        exact wpOp_mono (fun a' w' h' => ⟨h'.1, by rw [h1 c l hlt]; exact ih (c + 1) l hlt (by omega) a' w' h'.2⟩) (s1 c l a w hlt h)
      · have hi2 : i = ia ∧ l = false := by
          simp only [Bool.or_eq_true, Bool.and_eq_true, beq_iff_eq, Bool.not_eq_true'] at hk
          rcases hk with hk | hk
          · exact absurd hk hi1
          · exact hk
        obtain ⟨rfl, rfl⟩ := hi2
        exact wpOp_mono (fun a' w' h' => ⟨h'.1, by rw [ha c hlt]; exact ih c true hc (by simp at hn ⊢; omega) a' w' h'.2⟩) (sa c a w hlt h)
    · obtain rfl : c = N := by omega
      cases l with
      | true => simp at hn
      | false =>
        have : n = 0 := by simp at hn; omega
        subst this
        have := fin false a w h
        rw [show 0 + 1 + m = m + (1 - Bool.toNat false) by simp; omega]
        exact this
end Go.Proofs.YtfnbjenneodcdaaGreatDoor
/- package walk's whole numbers: how many rows of steps. -/
namespace Go.Proofs.YtfnbjenneodcdaaGreatDoor
open Go.RowKit

theorem pick_any (a : Int) (n : Nat) (hn : 0 < n) (hn1 : n ≤ 1000) (w : World) :
    Calls Tryz.prog 6 #[.int .i64 a, .int .i64 (n : Int)] w fun e w' => ∃ k : Nat, e = .returned (.int .i64 (k : Int)) ∧ k < n ∧ w' = w := by
  have e1 : IntKind.u64.wrap (n : Int) = (n : Int) := by rw [IntKind.wrap_u64]; omega
  obtain ⟨x, hx⟩ : ∃ x, IntKind.u64.wrap a = x := ⟨_, rfl⟩
  have hx0 : 0 ≤ x := by rw [← hx, IntKind.wrap_u64]; omega
  have hx1 : x < 18446744073709551616 := by rw [← hx, IntKind.wrap_u64]; omega
  have hz : ((n : Int) == 0) = false := by rw [beq_eq_false_iff_ne]; omega
  have hm0 : 0 ≤ x % (n : Int) := Int.emod_nonneg _ (by omega)
  have hm1 : x % (n : Int) < (n : Int) := Int.emod_lt_of_pos _ (by omega)
  obtain ⟨k, hk⟩ : ∃ k : Nat, x % (n : Int) = (k : Int) := ⟨(x % (n : Int)).toNat, by omega⟩
  have hkn : k < n := by omega
  clear hm0 hm1
  go_enter Tryz.func6, Tryz.ntmps6
  go_wp2
  go_ret
  exact ⟨k, rfl, hkn, rfl⟩

/-- How many rows of n steps have k up: step by step. -/
def wv (n : Nat) : Nat → Nat
  | 0 => 1
  | k + 1 => wv n k * (n - k) / (k + 1)

theorem wv_small : ((List.range 61).all fun n => (List.range (n + 1)).all fun k => decide (wv n k * n < 9223372036854775807)) = true := by decide +kernel
theorem wv_lt {n k : Nat} (hn : n ≤ 60) (hk : k ≤ n) : wv n k * n < 9223372036854775807 := by
  have h1 := List.all_eq_true.1 wv_small n (List.mem_range.2 (by omega))
  have h2 := List.all_eq_true.1 h1 k (List.mem_range.2 (by omega))
  simpa using h2

def waysv (N : Nat) (to : Int) : Int := if to < -(N : Int) ∨ (N : Int) < to ∨ ((N : Int) + to) % 2 ≠ 0 then 0 else (wv N (((N : Int) + to) / 2).toNat : Int)
def abovev (N : Nat) (to : Int) : Int := if to < 0 ∨ (N : Int) < to then 0 else waysv N to - waysv N (to + 2)

theorem waysv_bd {N : Nat} (hN : N ≤ 60) (to : Int) : 0 ≤ waysv N to ∧ waysv N to < 9223372036854775807 := by
  unfold waysv
  split
  · exact ⟨by decide, by decide⟩
  · have hw := wv_lt hN (show (((N : Int) + to) / 2).toNat ≤ N by omega)
    have hKN : (((N : Int) + to) / 2).toNat ≤ N := by omega
    generalize (((N : Int) + to) / 2).toNat = K at *
    rcases Nat.eq_zero_or_pos N with h | h
    · have hK0 : K = 0 := by omega
      subst hK0
      exact ⟨by omega, by show ((1 : Nat) : Int) < _; decide⟩
    · have := Nat.le_mul_of_pos_right (wv N K) h
      omega

end Go.Proofs.YtfnbjenneodcdaaGreatDoor
