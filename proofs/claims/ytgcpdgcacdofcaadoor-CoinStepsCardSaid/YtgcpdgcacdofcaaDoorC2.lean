/- How many letters of a word's beginning a text ends with. -/
import Derived.Test.YtgcpdgcacdofcaaDoorC1
import Derived.Test.YtgcpdgcacdofcaaDoorM7
namespace Go.Proofs.YtgcpdgcacdofcaaDoor
open Go.RowKit

theorem IRow.suffix {w : World} {b o n c : Nat} {f : Nat → Int} (h : IRow w (some ⟨b, o, none⟩) n c f) (lo : Nat) (hlo : lo < n) : IRow w (some ⟨b, o + lo, none⟩) (n - lo) (c - lo) (fun j => f (lo + j)) := by
  obtain ⟨h1, h2, h3⟩ := h
  refine ⟨by omega, by omega, fun _ => ?_⟩
  obtain ⟨b', o', e, hlt, hc⟩ := h3 (by omega)
  obtain ⟨rfl, rfl, _⟩ := by simpa using e
  exact ⟨b, o + lo, rfl, hlt, fun j hj => by rw [Nat.add_assoc]; exact hc (lo + j) (by omega)⟩

theorem IRow.firsts {w : World} {a : Option Addr} {n c : Nat} {f : Nat → Int} (h : IRow w a n c f) (m : Nat) (hm : m ≤ n) : IRow w a m c f := by
  obtain ⟨h1, h2, h3⟩ := h
  refine ⟨by omega, h2, fun _ => ?_⟩
  obtain ⟨b', o', e, hlt, hc⟩ := h3 (by omega)
  exact ⟨b', o', e, hlt, fun j hj => hc j (by omega)⟩

/-- The last j letters of a text are the first j of a word. -/
def EndsIn (L : Nat) (f g : Nat → Int) (j : Nat) : Prop := ∀ i, i < j → f (L - j + i) = g i

set_option maxHeartbeats 2000000 in
theorem stands_any (a a' : Option Addr) (L c M c' : Nat) (f g : Nat → Int) (w : World) (ha : IRow w a L c f) (hb : IRow w a' M c' g) :
    Calls Tryd.prog 10 #[.slice a L c, .slice a' M c', .int .i64 (M : Int)] w fun e w' => ∃ x : Nat, e = .returned (.int .i64 (x : Int)) ∧ Kmp.Top (EndsIn L f g) (min M L) x ∧ ∃ k, w' = w.drewN k := by
  have HA := hide ha
  have HB := hide hb
  obtain ⟨h1, h2, h3⟩ := ha
  obtain ⟨h1', h2', h3'⟩ := hb
  obtain ⟨m0, hm0⟩ : ∃ m, min M L = m := ⟨_, rfl⟩
  rw [hm0]
  have b1 : m0 ≤ M := by omega
  have b2 : m0 ≤ L := by omega
  have H3 := hide h3
  have H3' := hide h3'
  clear h3 h3'
  by_cases hLM : (L : Int) < (M : Int)
  · have HM0 : Hid (m0 = L) := by show m0 = L; omega
    clear hm0
    go_enter Tryd.func10, Tryd.ntmps10
    go_wp2
    go_loopw [7] (fun v wr => ∃ m k : Nat, v = .int .i64 (m : Int) ∧ m ≤ m0 ∧ wr = w.drewN k ∧ (∀ j, m < j → j ≤ m0 → ¬ EndsIn L f g j)) (fun v _ => (intOf v).toNat)
    case atStart => exact ⟨m0, 0, by rw [HM0.out], Nat.le_refl _, rfl, fun j h1 h2 => by omega⟩
    case round =>
      obtain ⟨m, k, rfl, hm, hwr, hz⟩ := hrel
      have HZ := hide hz
      have HW := hide hwr
      clear hz hwr
      by_cases hm0 : m = 0
      · subst hm0
        clear H3 H3' HA HB
        go_wp2
        go_ret
        exact ⟨0, rfl, ⟨fun i hi => absurd hi (Nat.not_lt_zero _), Nat.zero_le _, HZ.out⟩, k, HW.out⟩
      · obtain ⟨b, o, rfl, hbl, hc⟩ := unhide H3 (by omega)
        obtain ⟨b', o', rfl, hbl', hc'⟩ := unhide H3' (by omega)
        have hp : (0 : Int) < (m : Int) := by omega
        obtain ⟨d, hd⟩ : ∃ d, L - m = d := ⟨_, rfl⟩
        have ew : IntKind.i64.wrap ((L : Int) - (m : Int)) = (d : Int) := by rw [IntKind.wrap_i64]; omega
        have e2 : (d : Int) ≤ (L : Int) := by omega
        have e4 : L - d = m := by omega
        have e5 : c ≠ d := by omega
        have e6 : (m : Int) ≤ (c' : Int) := by omega
        have e7 : c' ≠ 0 := by omega
        have hs := (HA.out.suffix d (by omega))
        rw [e4] at hs
        have HD : Hid (L - m = d) := hd
        clear hd
        have HC : Hid (∀ W, Below w.heap.size w W → Calls Tryd.prog 15 #[.slice (some ⟨b, o + d, none⟩) m (c - d), .slice (some ⟨b', o', none⟩) m c'] W fun e w' => e = .returned (.bool (likeB m m (fun j => f (d + j)) g)) ∧ ∃ k', w' = W.drewN k') := fun W hW =>
          refSame_any _ _ _ _ _ _ _ _ _ (hs.below hW) ((HB.out.firsts m (by omega)).below hW)
        clear hs hc hc' H3 H3' HA HB
        by_cases hl : EndsIn L f g m
        · have hl' : likeB m m (fun j => f (d + j)) g = true := by rw [← HD.out]; exact likeB_true.2 ⟨rfl, hl⟩
          rw [hl'] at HC
          have HL := hide hl
          clear hl hl'
          go_wp2_with fail
          go_quiet ((go_at_call 15; exact Calls.quiet_of (HC.out _ (by rw [HW.out]; exact ⟨rfl, rfl, rfl, Nat.le_refl _, fun _ _ => rfl⟩))))
          go_wp2
          go_ret
          exact ⟨m, rfl, ⟨HL.out, hm, HZ.out⟩, by rw [HW.out]; exact drew2 _ _ _⟩
        · have hl' : likeB m m (fun j => f (d + j)) g = false := by rw [← HD.out]; exact likeB_false.2 fun h => hl h.2
          rw [hl'] at HC
          have HL := hide hl
          clear hl hl'
          go_wp2_with fail
          go_quiet ((go_at_call 15; exact Calls.quiet_of (HC.out _ (by rw [HW.out]; exact ⟨rfl, rfl, rfl, Nat.le_refl _, fun _ _ => rfl⟩))))
          go_wp2
          refine ⟨⟨m - 1, k + nq, by congr 1; omega, by omega, by rw [HW.out]; simp, fun j h1 h2 => ?_⟩, by simp [intOf]; omega⟩
          rcases Nat.lt_or_ge m j with h | h
          · exact HZ.out j h h2
          · rw [show j = m by omega]; exact HL.out
  · have HM0 : Hid (m0 = M) := by show m0 = M; omega
    clear hm0
    go_enter Tryd.func10, Tryd.ntmps10
    go_wp2
    go_loopw [7] (fun v wr => ∃ m k : Nat, v = .int .i64 (m : Int) ∧ m ≤ m0 ∧ wr = w.drewN k ∧ (∀ j, m < j → j ≤ m0 → ¬ EndsIn L f g j)) (fun v _ => (intOf v).toNat)
    case atStart => exact ⟨m0, 0, by rw [HM0.out], Nat.le_refl _, rfl, fun j h1 h2 => by omega⟩
    case round =>
      obtain ⟨m, k, rfl, hm, hwr, hz⟩ := hrel
      have HZ := hide hz
      have HW := hide hwr
      clear hz hwr
      by_cases hm0 : m = 0
      · subst hm0
        clear H3 H3' HA HB
        go_wp2
        go_ret
        exact ⟨0, rfl, ⟨fun i hi => absurd hi (Nat.not_lt_zero _), Nat.zero_le _, HZ.out⟩, k, HW.out⟩
      · obtain ⟨b, o, rfl, hbl, hc⟩ := unhide H3 (by omega)
        obtain ⟨b', o', rfl, hbl', hc'⟩ := unhide H3' (by omega)
        have hp : (0 : Int) < (m : Int) := by omega
        obtain ⟨d, hd⟩ : ∃ d, L - m = d := ⟨_, rfl⟩
        have ew : IntKind.i64.wrap ((L : Int) - (m : Int)) = (d : Int) := by rw [IntKind.wrap_i64]; omega
        have e2 : (d : Int) ≤ (L : Int) := by omega
        have e4 : L - d = m := by omega
        have e5 : c ≠ d := by omega
        have e6 : (m : Int) ≤ (c' : Int) := by omega
        have e7 : c' ≠ 0 := by omega
        have hs := (HA.out.suffix d (by omega))
        rw [e4] at hs
        have HD : Hid (L - m = d) := hd
        clear hd
        have HC : Hid (∀ W, Below w.heap.size w W → Calls Tryd.prog 15 #[.slice (some ⟨b, o + d, none⟩) m (c - d), .slice (some ⟨b', o', none⟩) m c'] W fun e w' => e = .returned (.bool (likeB m m (fun j => f (d + j)) g)) ∧ ∃ k', w' = W.drewN k') := fun W hW =>
          refSame_any _ _ _ _ _ _ _ _ _ (hs.below hW) ((HB.out.firsts m (by omega)).below hW)
        clear hs hc hc' H3 H3' HA HB
        by_cases hl : EndsIn L f g m
        · have hl' : likeB m m (fun j => f (d + j)) g = true := by rw [← HD.out]; exact likeB_true.2 ⟨rfl, hl⟩
          rw [hl'] at HC
          have HL := hide hl
          clear hl hl'
          go_wp2_with fail
          go_quiet ((go_at_call 15; exact Calls.quiet_of (HC.out _ (by rw [HW.out]; exact ⟨rfl, rfl, rfl, Nat.le_refl _, fun _ _ => rfl⟩))))
          go_wp2
          go_ret
          exact ⟨m, rfl, ⟨HL.out, hm, HZ.out⟩, by rw [HW.out]; exact drew2 _ _ _⟩
        · have hl' : likeB m m (fun j => f (d + j)) g = false := by rw [← HD.out]; exact likeB_false.2 fun h => hl h.2
          rw [hl'] at HC
          have HL := hide hl
          clear hl hl'
          go_wp2_with fail
          go_quiet ((go_at_call 15; exact Calls.quiet_of (HC.out _ (by rw [HW.out]; exact ⟨rfl, rfl, rfl, Nat.le_refl _, fun _ _ => rfl⟩))))
          go_wp2
          refine ⟨⟨m - 1, k + nq, by congr 1; omega, by omega, by rw [HW.out]; simp, fun j h1 h2 => ?_⟩, by simp [intOf]; omega⟩
          rcases Nat.lt_or_ge m j with h | h
          · exact HZ.out j h h2
          · rw [show j = m by omega]; exact HL.out
end Go.Proofs.YtgcpdgcacdofcaaDoor
