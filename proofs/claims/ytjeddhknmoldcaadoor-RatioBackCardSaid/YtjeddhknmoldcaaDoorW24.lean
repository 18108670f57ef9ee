/- Two fractions that are alike. -/
import Derived.Test.YtjeddhknmoldcaaDoorW23
namespace Go.Proofs.YtjeddhknmoldcaaDoor
open Go.RowKit Go.Sort Go.Shelf Go.Dd

theorem sg_self (x : Int) : Wd.sg x x = 0 := by simp [Wd.sg]

theorem sm_nat {x : Int} (h : x < 10000000000000000000) : Sm x := sm_word (by omega)

set_option maxHeartbeats 4000000 in
set_option maxRecDepth 100000 in
theorem like_same (va vb : Value) (q : Rat) (w : World) (ha : RatIs w va q) (hb : RatIs w vb q) (hn : (q.num.natAbs : Int) < 10000000000000000000) (hd : (q.den : Int) < 10000000000000000000) (htab : Tab w) :
    Calls Tryd.prog 8 #[va, vb] w fun e w' => e = .returned (.bool true) ∧ Below w.heap.size w w' := by
  have HA := hide ha
  have HB := hide hb
  obtain ⟨ov, un, rfl, h1, h2⟩ := ha
  obtain ⟨ov', un', rfl, h1', h2'⟩ := hb
  obtain ⟨a, n, c, rfl, _, _⟩ := h1
  obtain ⟨a2, n2, c2, rfl, _, _⟩ := h2
  obtain ⟨b, m, d, rfl, _, _⟩ := h1'
  obtain ⟨b2, m2, d2, rfl, _, _⟩ := h2'
  obtain ⟨sa, hsa⟩ : ∃ s, decide (q.num < 0) = s := ⟨_, rfl⟩
  rw [hsa] at HA HB ⊢
  obtain ⟨W, hW⟩ : ∃ W, (w.alloc (.cells #[.bool sa, .slice a n c, .slice a2 n2 c2] 27)).alloc (.cells #[.bool sa, .slice b m d, .slice b2 m2 d2] 27) = W := ⟨_, rfl⟩
  have hbW : Below w.heap.size w W := by rw [← hW]; exact ((Below.refl _ _).alloc (Nat.le_refl _) _).alloc (by simp) _
  have S0 : ∀ w', Below W.heap.size W w' → (w'.cell? ⟨w.heap.size, 0, none⟩ = some (.bool sa) ∧ w'.cell? ⟨w.heap.size, 1, none⟩ = some (.slice a n c) ∧ w'.cell? ⟨w.heap.size, 2, none⟩ = some (.slice a2 n2 c2) ∧
    w'.cell? ⟨w.heap.size + 1, 0, none⟩ = some (.bool sa) ∧ w'.cell? ⟨w.heap.size + 1, 1, none⟩ = some (.slice b m d) ∧ w'.cell? ⟨w.heap.size + 1, 2, none⟩ = some (.slice b2 m2 d2)) ∧ Below W.heap.size W w' := fun w' h => by
    rw [← hW] at h ⊢
    exact ⟨two_boxes h, h⟩
  obtain ⟨t, ht⟩ : ∃ t, (⟨(qtext q).toArray⟩ : ByteArray) = t := ⟨_, rfl⟩
  have CC : ∀ w1, Below W.heap.size W w1 → Calls Tryd.prog 11 #[.agg #[.bool sa, .slice a n c, .slice a2 n2 c2], .agg #[.bool sa, .slice b m d, .slice b2 m2 d2]] w1 fun e w' => e = .returned (.int .i64 0) ∧ Below W.heap.size W w' := fun w1 h1 =>
    (cmpR_any _ _ q q w1 (((unhide HA).below hbW).below h1) (((unhide HB).below hbW).below h1) (sm_nat hn) (sm_nat hn) (sm_nat hd) (sm_nat hd)).mono (by rintro e w' ⟨rfl, h⟩; exact ⟨by rw [sg_self], below_step h1 h⟩)
  have TA : ∀ w1, Below W.heap.size W w1 → Calls Tryd.prog 6 #[.agg #[.bool sa, .slice a n c, .slice a2 n2 c2]] w1 fun e w' => e = .returned (.string t) ∧ Below W.heap.size W w' := fun w1 h1 =>
    (textR_small _ q w1 (((unhide HA).below hbW).below h1) hn hd (tab_below (tab_below htab hbW) h1)).mono (by rintro e w' ⟨rfl, h⟩; exact ⟨by rw [ht], below_step h1 h⟩)
  have TB : ∀ w1, Below W.heap.size W w1 → Calls Tryd.prog 6 #[.agg #[.bool sa, .slice b m d, .slice b2 m2 d2]] w1 fun e w' => e = .returned (.string t) ∧ Below W.heap.size W w' := fun w1 h1 =>
    (textR_small _ q w1 (((unhide HB).below hbW).below h1) hn hd (tab_below (tab_below htab hbW) h1)).mono (by rintro e w' ⟨rfl, h⟩; exact ⟨by rw [ht], below_step h1 h⟩)
  have HS0 := hide S0
  have HCC := hide CC
  have HTA := hide TA
  have HTB := hide TB
  have HWE := hide hW
  have HBW := hide hbW
  have hR := hide (Below.refl W.heap.size W)
  clear CC TA TB S0 hW hbW htab ht hsa HA HB hn hd
  go_enter Tryd.func8, Tryd.ntmps8
  go_wp2_with fail
  rw [unhide HWE]
  go_region_held3 (fun w' => (w'.cell? ⟨w.heap.size, 0, none⟩ = some (.bool sa) ∧ w'.cell? ⟨w.heap.size, 1, none⟩ = some (.slice a n c) ∧ w'.cell? ⟨w.heap.size, 2, none⟩ = some (.slice a2 n2 c2) ∧
      w'.cell? ⟨w.heap.size + 1, 0, none⟩ = some (.bool sa) ∧ w'.cell? ⟨w.heap.size + 1, 1, none⟩ = some (.slice b m d) ∧ w'.cell? ⟨w.heap.size + 1, 2, none⟩ = some (.slice b2 m2 d2)) ∧ Below W.heap.size W w') (first | exact unhide HS0 _ (unhide hR) | exact unhide HS0 _ (unhide hR).drew | exact unhide HS0 _ (by assumption) | exact unhide HS0 _ (Below.drew (by assumption)))
      (first | (go_at_call 11; refine (unhide HCC _ ?_).mono ?_; (first | exact (unhide hR).drew | assumption | exact Below.drew (by assumption)); rintro e w3 ⟨rfl, hb3⟩) | (go_at_call_of 6 (Value.agg #[.bool sa, .slice a n c, .slice a2 n2 c2]); refine (unhide HTA _ ?_).mono ?_; (first | exact (unhide hR).drew | assumption | exact Below.drew (by assumption)); rintro e w4 ⟨rfl, hb4⟩) | (go_at_call_of 6 (Value.agg #[.bool sa, .slice b m d, .slice b2 m2 d2]); refine (unhide HTB _ ?_).mono ?_; (first | exact (unhide hR).drew | assumption | exact Below.drew (by assumption)); rintro e w5 ⟨rfl, hb5⟩))
  all_goals
    go_wp2
    go_ret
    exact ⟨rfl, below_step (unhide HBW) (by assumption)⟩
end Go.Proofs.YtjeddhknmoldcaaDoor
