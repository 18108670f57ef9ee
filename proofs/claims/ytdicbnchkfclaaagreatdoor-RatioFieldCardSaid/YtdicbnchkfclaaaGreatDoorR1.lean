/- RatioField: the law's walk. -/
import Derived.Test.YtdicbnchkfclaaaGreatDoorX3
import Derived.Test.YtdicbnchkfclaaaGreatDoorX2
import Derived.Test.YtdicbnchkfclaaaGreatDoorW25
import Derived.Test.YtdicbnchkfclaaaGreatDoorW26
import Derived.Test.YtdicbnchkfclaaaGreatDoorA15
import Derived.Test.YtdicbnchkfclaaaGreatDoorT1
namespace Go.Proofs.YtdicbnchkfclaaaGreatDoor
open Go.RowKit Go.Sort Go.Shelf

set_option maxHeartbeats 4000000 in
set_option maxRecDepth 100000 in
theorem divR_zero (va vb : Value) (qa qb : Rat) (w : World) (ha : RatIs w va qa) (hb : RatIs w vb qb) (hz : qb.num = 0) :
    Calls Tryz.prog 11 #[va, vb] w fun e w' => e = .returned (.tuple #[.agg #[.bool false, .slice none 0 0, .slice none 0 0], .iface 37 (.int .i64 11)]) ∧ Below w.heap.size w w' := by
  have HB := hide hb
  have hsz : qb.num.sign = 0 := by rw [hz]; rfl
  obtain ⟨ov, un, rfl, h1, h2⟩ := ha
  obtain ⟨ov', un', rfl, h1', h2'⟩ := hb
  obtain ⟨a, n, c, rfl, _, _⟩ := h1
  obtain ⟨a2, n2, c2, rfl, _, _⟩ := h2
  obtain ⟨b, m, d, rfl, _, _⟩ := h1'
  obtain ⟨b2, m2, d2, rfl, _, _⟩ := h2'
  obtain ⟨sa, hsa⟩ : ∃ s, decide (qa.num < 0) = s := ⟨_, rfl⟩
  obtain ⟨sb, hsb⟩ : ∃ s, decide (qb.num < 0) = s := ⟨_, rfl⟩
  rw [hsb] at HB
  rw [hsa, hsb]
  obtain ⟨W, hW⟩ : ∃ W, ((w.alloc (.cells #[.bool sa, .slice a n c, .slice a2 n2 c2] 27)).alloc (.cells #[.bool sb, .slice b m d, .slice b2 m2 d2] 27)).alloc (.cells #[.bool false, .slice none 0 0, .slice none 0 0] 27) = W := ⟨_, rfl⟩
  have hbW : Below w.heap.size w W := by rw [← hW]; exact (((Below.refl _ _).alloc (Nat.le_refl _) _).alloc (by simp) _).alloc (by simp; omega) _
  have S0 : ∀ w', Below W.heap.size W w' → (w'.cell? ⟨w.heap.size, 0, none⟩ = some (.bool sa) ∧ w'.cell? ⟨w.heap.size, 1, none⟩ = some (.slice a n c) ∧ w'.cell? ⟨w.heap.size, 2, none⟩ = some (.slice a2 n2 c2) ∧
    w'.cell? ⟨w.heap.size + 1, 0, none⟩ = some (.bool sb) ∧ w'.cell? ⟨w.heap.size + 1, 1, none⟩ = some (.slice b m d) ∧ w'.cell? ⟨w.heap.size + 1, 2, none⟩ = some (.slice b2 m2 d2)) ∧
    w'.heap[w.heap.size + 2]? = some (.cells #[.bool false, .slice none 0 0, .slice none 0 0] 27) ∧ w.heap.size + 2 < w'.heap.size := fun w' h => by
    rw [← hW] at h
    exact three_boxes h
  have CB : ∀ w1, Below W.heap.size W w1 → Calls Tryz.prog 12 #[.agg #[.bool sb, .slice b m d, .slice b2 m2 d2]] w1 fun e w' => e = .returned (.int .i64 0) ∧ Below W.heap.size W w' := fun w1 h1 =>
    (sign_any _ qb w1 (((unhide HB).below hbW).below h1)).mono (by rintro e w' ⟨rfl, h⟩; rw [hsz]; exact ⟨rfl, below_step h1 h⟩)
  have HS0 := hide S0
  have HCB := hide CB
  have HWE := hide hW
  have HBW := hide hbW
  have hR := hide (Below.refl W.heap.size W)
  clear hW hbW S0 CB hsa hsb hz hsz HB
  go_enter Tryz.func11, Tryz.ntmps11
  go_wp2_with fail
  rw [unhide HWE]
  refine (unhide HCB _ (unhide hR)).mono ?_
  rintro e w1 ⟨rfl, hb1⟩
  have ⟨_, hbx, hsz⟩ := unhide HS0 _ hb1
  have ⟨g0, g1, g2, f0, f1, f2⟩ := box_cell hbx
  have HBX := hide hbx
  clear hbx
  go_wp2
  have ⟨r1, r2⟩ := rat_boxed (w0 := w) (rat_zero w1) (unhide HBX) (below_step (unhide HBW) hb1) (by omega) (Value.bool false) (Value.slice none 0 0) (Value.slice none 0 0)
  exact bodyPost_ret (v := .tuple #[.agg #[.bool false, .slice none 0 0, .slice none 0 0], .iface 37 (.int .i64 11)]) (by simp [results, Tryz.results11, go_sem, g0, g1, g2]) rfl ⟨rfl, r2⟩

/-- Three calls, one behind the other, and three that make memory, at any time. -/
theorem six_any {P : Program} {ops : Array Oper} {Q : Exit → Act → World → Prop} {C : World → Prop} {md : Region.Mode} (I : Nat → Bool → Bool → Bool → Act → World → Prop)
    (hr : ∀ c l6 l7 l8, c ≤ 3 → (Region.ready md ops #[true, decide (1 ≤ c), true, decide (2 ≤ c), true, decide (3 ≤ c), l6, l7, l8, false, false, false]).all (fun i => (i == 1 && c == 0) || (i == 3 && c == 1) || (i == 5 && c == 2) || (i == 6 && !l6) || (i == 7 && !l7) || (i == 8 && !l8) || (c == 3 && l6 && l7 && l8)) = true)
    (hne : ∀ c l6 l7 l8, c ≤ 3 → (c == 3 && l6 && l7 && l8) = false → (Region.ready md ops #[true, decide (1 ≤ c), true, decide (2 ≤ c), true, decide (3 ≤ c), l6, l7, l8, false, false, false]).isEmpty = false)
    (s1 : ∀ l6 l7 l8 a w, I 0 l6 l7 l8 a w → wpOp P ops Q 1 (fun a' w' => C w' ∧ I 1 l6 l7 l8 a' w') a w)
    (s3 : ∀ l6 l7 l8 a w, I 1 l6 l7 l8 a w → wpOp P ops Q 3 (fun a' w' => C w' ∧ I 2 l6 l7 l8 a' w') a w)
    (s5 : ∀ l6 l7 l8 a w, I 2 l6 l7 l8 a w → wpOp P ops Q 5 (fun a' w' => C w' ∧ I 3 l6 l7 l8 a' w') a w)
    (s6 : ∀ c l7 l8 a w, I c false l7 l8 a w → wpOp P ops Q 6 (fun a' w' => C w' ∧ I c true l7 l8 a' w') a w)
    (s7 : ∀ c l6 l8 a w, I c l6 false l8 a w → wpOp P ops Q 7 (fun a' w' => C w' ∧ I c l6 true l8 a' w') a w)
    (s8 : ∀ c l6 l7 a w, I c l6 l7 false a w → wpOp P ops Q 8 (fun a' w' => C w' ∧ I c l6 l7 true a' w') a w)
    (fin : ∀ a w, I 3 true true true a w → wpHold P md ops Q C 3 #[true, true, true, true, true, true, true, true, true, false, false, false] a w) :
    ∀ n c l6 l7 l8, c ≤ 3 → (3 - c) + (1 - l6.toNat) + (1 - l7.toNat) + (1 - l8.toNat) = n → ∀ a w, I c l6 l7 l8 a w → wpHold P md ops Q C (n + 3) #[true, decide (1 ≤ c), true, decide (2 ≤ c), true, decide (3 ≤ c), l6, l7, l8, false, false, false] a w := by
  intro n
  induction n with
  | zero =>
    intro c l6 l7 l8 hc hn a w h
    obtain rfl : c = 3 := by omega
    cases l6 <;> cases l7 <;> cases l8 <;> simp at hn
    exact fin a w h
  | succ n ih =>
    intro c l6 l7 l8 hc hn a w h
    have hall := hr c l6 l7 l8 hc
    have hend : (c == 3 && l6 && l7 && l8) = false := by
      cases l6 <;> cases l7 <;> cases l8 <;> simp at hn ⊢
      omega
    have hnn := hne c l6 l7 l8 hc hend
    refine ⟨fun e => (by rw [e] at hnn; cases hnn), fun i hi => ?_⟩
    have hk := List.all_eq_true.1 hall i hi
    rw [hend] at hk
    simp only [Bool.or_eq_true, Bool.and_eq_true, beq_iff_eq, Bool.not_eq_true', Bool.or_false] at hk
    rcases hk with ((((⟨rfl, rfl⟩ | ⟨rfl, rfl⟩) | ⟨rfl, rfl⟩) | ⟨rfl, rfl⟩) | ⟨rfl, rfl⟩) | ⟨rfl, rfl⟩
    · exact wpOp_mono (fun a' w' h' => ⟨h'.1, ih 1 l6 l7 l8 (by omega) (by omega) a' w' h'.2⟩) (s1 l6 l7 l8 a w h)
    · exact wpOp_mono (fun a' w' h' => ⟨h'.1, ih 2 l6 l7 l8 (by omega) (by omega) a' w' h'.2⟩) (s3 l6 l7 l8 a w h)
    · exact wpOp_mono (fun a' w' h' => ⟨h'.1, ih 3 l6 l7 l8 (by omega) (by omega) a' w' h'.2⟩) (s5 l6 l7 l8 a w h)
    · exact wpOp_mono (fun a' w' h' => ⟨h'.1, ih c true l7 l8 hc (by simp at hn ⊢; omega) a' w' h'.2⟩) (s6 c l7 l8 a w h)
    · exact wpOp_mono (fun a' w' h' => ⟨h'.1, ih c l6 true l8 hc (by simp at hn ⊢; omega) a' w' h'.2⟩) (s7 c l6 l8 a w h)
    · exact wpOp_mono (fun a' w' h' => ⟨h'.1, ih c l6 l7 true hc (by simp at hn ⊢; omega) a' w' h'.2⟩) (s8 c l6 l7 a w h)
end Go.Proofs.YtdicbnchkfclaaaGreatDoor
