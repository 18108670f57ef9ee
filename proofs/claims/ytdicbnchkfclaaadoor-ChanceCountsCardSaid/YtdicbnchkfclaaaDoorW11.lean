/- Fractions compared. -/
import Derived.Test.YtdicbnchkfclaaaDoorW10
import Derived.Deep.RegionHeld3
namespace Go.Proofs.YtdicbnchkfclaaaDoor
open Go.RowKit Go.Sort Go.Shelf

/-- The two boxes of a method with two fractions, as they lie in every later world. -/
theorem two_boxes {w w' : World} {x0 x1 x2 y0 y1 y2 : Value} {T : TypeId} (h : Below ((w.alloc (.cells #[x0, x1, x2] T)).alloc (.cells #[y0, y1, y2] T)).heap.size ((w.alloc (.cells #[x0, x1, x2] T)).alloc (.cells #[y0, y1, y2] T)) w') :
    w'.cell? ⟨w.heap.size, 0, none⟩ = some x0 ∧ w'.cell? ⟨w.heap.size, 1, none⟩ = some x1 ∧ w'.cell? ⟨w.heap.size, 2, none⟩ = some x2 ∧
    w'.cell? ⟨w.heap.size + 1, 0, none⟩ = some y0 ∧ w'.cell? ⟨w.heap.size + 1, 1, none⟩ = some y1 ∧ w'.cell? ⟨w.heap.size + 1, 2, none⟩ = some y2 := by
  have e : ((w.alloc (.cells #[x0, x1, x2] T)).alloc (.cells #[y0, y1, y2] T)).heap.size = w.heap.size + 2 := by simp
  have b0 : w'.heap[w.heap.size]? = some (.cells #[x0, x1, x2] T) := by
    rw [h.block w.heap.size (by rw [e]; omega)]
    show ((w.heap.push _).push _)[w.heap.size]? = _
    rw [Array.getElem?_push, if_neg (by simp), Array.getElem?_push, if_pos rfl]
  have b1 : w'.heap[w.heap.size + 1]? = some (.cells #[y0, y1, y2] T) := by
    rw [h.block (w.heap.size + 1) (by rw [e]; omega)]
    show ((w.heap.push _).push _)[w.heap.size + 1]? = _
    rw [Array.getElem?_push, if_pos (by simp)]
  have ⟨c0, c1, c2, _, _, _⟩ := box_cell b0
  have ⟨d0, d1, d2, _, _, _⟩ := box_cell b1
  exact ⟨c0, c1, c2, d0, d1, d2⟩

theorem below_step {w w1 w2 : World} (h : Below w.heap.size w w1) (k : Below w1.heap.size w1 w2) : Below w.heap.size w w2 := h.trans (k.mono h.size)

theorem sg_signs {A B : Int} {da db : Nat} (ha : da ≠ 0) (hb : db ≠ 0) (h : A.sign < B.sign) : A * db < B * da := by
  have h1 : A ≤ 0 ∨ 0 < A := by omega
  have h2 : B ≤ 0 ∨ 0 < B := by omega
  have da0 : (0 : Int) < da := by omega
  have db0 : (0 : Int) < db := by omega
  rcases Int.lt_trichotomy A 0 with hA | hA | hA
  · rw [Int.sign_eq_neg_one_of_neg hA] at h
    have : A * db < 0 := Int.mul_neg_of_neg_of_pos hA db0
    rcases Int.lt_trichotomy B 0 with hB | hB | hB
    · rw [Int.sign_eq_neg_one_of_neg hB] at h; omega
    · subst hB; omega
    · have := Int.mul_pos hB da0; omega
  · subst hA
    rcases Int.lt_trichotomy B 0 with hB | hB | hB
    · rw [Int.sign_eq_neg_one_of_neg hB] at h; simp at h
    · subst hB; simp at h
    · have := Int.mul_pos hB da0; omega
  · rw [Int.sign_eq_one_of_pos hA] at h
    rcases Int.lt_trichotomy B 0 with hB | hB | hB
    · rw [Int.sign_eq_neg_one_of_neg hB] at h; omega
    · subst hB; simp at h
    · rw [Int.sign_eq_one_of_pos hB] at h; omega

theorem sign_bd (A : Int) : -1 ≤ A.sign ∧ A.sign ≤ 1 := by
  rcases Int.lt_trichotomy A 0 with hA | hA | hA
  · rw [Int.sign_eq_neg_one_of_neg hA]; decide
  · subst hA; decide
  · rw [Int.sign_eq_one_of_pos hA]; decide

theorem sign_eq_neg {A B : Int} (h : A.sign = B.sign) : A < 0 ↔ B < 0 := by
  constructor
  · intro hA
    rw [Int.sign_eq_neg_one_of_neg hA] at h
    exact Int.neg_of_sign_eq_neg_one h.symm
  · intro hB
    rw [Int.sign_eq_neg_one_of_neg hB] at h
    exact Int.neg_of_sign_eq_neg_one h

theorem sg_bd (x y : Int) : -1 ≤ Wd.sg x y ∧ Wd.sg x y ≤ 1 := by unfold Wd.sg; split; decide; split <;> decide
theorem sg_neg (x y : Int) : Wd.sg (-x) (-y) = -Wd.sg x y := by
  rcases Int.lt_trichotomy x y with h | h | h
  · rw [Wd.sg_lt h, Wd.sg_gt (by omega)]; rfl
  · rw [Wd.sg_eq h, Wd.sg_eq (by omega)]; rfl
  · rw [Wd.sg_gt h, Wd.sg_lt (by omega)]

theorem sg_abs_pos {A B : Int} {da db : Nat} (hA : ¬ A < 0) (hB : ¬ B < 0) : Wd.sg ((A.natAbs : Int) * db) ((B.natAbs : Int) * da) = Wd.sg (A * db) (B * da) := by
  rw [show (A.natAbs : Int) = A by omega, show (B.natAbs : Int) = B by omega]
theorem sg_abs_neg {A B : Int} {da db : Nat} (hA : A < 0) (hB : B < 0) : -Wd.sg ((A.natAbs : Int) * db) ((B.natAbs : Int) * da) = Wd.sg (A * db) (B * da) := by
  rw [show (A.natAbs : Int) = -A by omega, show (B.natAbs : Int) = -B by omega, Int.neg_mul, Int.neg_mul, sg_neg]; omega

set_option maxHeartbeats 4000000 in
set_option maxRecDepth 100000 in
theorem cmpR_any (va vb : Value) (qa qb : Rat) (w : World) (ha : RatIs w va qa) (hb : RatIs w vb qb) (hs1 : Sm qa.num.natAbs) (hs2 : Sm qb.num.natAbs) (hs3 : Sm qa.den) (hs4 : Sm qb.den) :
    Calls Tryd.prog 22 #[va, vb] w fun e w' => e = .returned (.int .i64 (Wd.sg (qa.num * qb.den) (qb.num * qa.den))) ∧ Below w.heap.size w w' := by
  have HA := hide ha
  have HB := hide hb
  obtain ⟨ov, un, rfl, h1, h2⟩ := ha
  obtain ⟨ov', un', rfl, h1', h2'⟩ := hb
  have HNa := hide h1
  have HNb := hide h1'
  obtain ⟨a, n, c, rfl, _, _⟩ := h1
  obtain ⟨a2, n2, c2, rfl, _, _⟩ := h2
  obtain ⟨b, m, d, rfl, _, _⟩ := h1'
  obtain ⟨b2, m2, d2, rfl, _, _⟩ := h2'
  obtain ⟨sa, hsa⟩ : ∃ s, decide (qa.num < 0) = s := ⟨_, rfl⟩
  obtain ⟨sb, hsb⟩ : ∃ s, decide (qb.num < 0) = s := ⟨_, rfl⟩
  rw [hsa] at HA
  rw [hsb] at HB
  rw [hsa, hsb]
  obtain ⟨W, hW⟩ : ∃ W, (w.alloc (.cells #[.bool sa, .slice a n c, .slice a2 n2 c2] 36)).alloc (.cells #[.bool sb, .slice b m d, .slice b2 m2 d2] 36) = W := ⟨_, rfl⟩
  have hbW : Below w.heap.size w W := by rw [← hW]; exact ((Below.refl _ _).alloc (Nat.le_refl _) _).alloc (by simp) _
  have S0 : ∀ w', Below W.heap.size W w' → (w'.cell? ⟨w.heap.size, 0, none⟩ = some (.bool sa) ∧ w'.cell? ⟨w.heap.size, 1, none⟩ = some (.slice a n c) ∧ w'.cell? ⟨w.heap.size, 2, none⟩ = some (.slice a2 n2 c2) ∧
    w'.cell? ⟨w.heap.size + 1, 0, none⟩ = some (.bool sb) ∧ w'.cell? ⟨w.heap.size + 1, 1, none⟩ = some (.slice b m d) ∧ w'.cell? ⟨w.heap.size + 1, 2, none⟩ = some (.slice b2 m2 d2)) ∧ Below W.heap.size W w' := fun w' h => by
    rw [← hW] at h ⊢
    exact ⟨two_boxes h, h⟩
  have HS0 := hide S0
  have CA : ∀ w1, Below W.heap.size W w1 → Calls Tryd.prog 16 #[.agg #[.bool sa, .slice a n c, .slice a2 n2 c2]] w1 fun e w' => e = .returned (.int .i64 qa.num.sign) ∧ Below W.heap.size W w' := fun w1 h1 =>
    (sign_any _ qa w1 (((unhide HA).below hbW).below h1)).mono (by rintro e w' ⟨rfl, h⟩; exact ⟨rfl, below_step h1 h⟩)
  have CB : ∀ w1, Below W.heap.size W w1 → Calls Tryd.prog 16 #[.agg #[.bool sb, .slice b m d, .slice b2 m2 d2]] w1 fun e w' => e = .returned (.int .i64 qb.num.sign) ∧ Below W.heap.size W w' := fun w1 h1 =>
    (sign_any _ qb w1 (((unhide HB).below hbW).below h1)).mono (by rintro e w' ⟨rfl, h⟩; exact ⟨rfl, below_step h1 h⟩)
  have LA : ∀ w1, Below W.heap.size W w1 → Calls Tryd.prog 42 #[.agg #[.bool sa, .slice a n c, .slice a2 n2 c2]] w1 fun e w' => ∃ v, e = .returned v ∧ NatIs w' v qa.den ∧ Below w1.heap.size w1 w' ∧ Below W.heap.size W w' := fun w1 h1 =>
    (lower_any _ qa w1 (((unhide HA).below hbW).below h1)).mono (by rintro e w' ⟨v, rfl, hv, h⟩; exact ⟨v, rfl, hv, h, below_step h1 h⟩)
  have LB : ∀ w1, Below W.heap.size W w1 → Calls Tryd.prog 42 #[.agg #[.bool sb, .slice b m d, .slice b2 m2 d2]] w1 fun e w' => ∃ v, e = .returned v ∧ NatIs w' v qb.den ∧ Below w1.heap.size w1 w' ∧ Below W.heap.size W w' := fun w1 h1 =>
    (lower_any _ qb w1 (((unhide HB).below hbW).below h1)).mono (by rintro e w' ⟨v, rfl, hv, h⟩; exact ⟨v, rfl, hv, h, below_step h1 h⟩)
  have MA : ∀ w1 v, Below W.heap.size W w1 → NatIs w1 v qb.den → Calls Tryd.prog 44 #[.slice a n c, v] w1 fun e w' => ∃ v, e = .returned v ∧ NatIs w' v ((qa.num.natAbs : Int) * qb.den) ∧ Below w1.heap.size w1 w' ∧ Below W.heap.size W w' := fun w1 v h1 hv =>
    (mul_any _ _ _ _ w1 (((unhide HNa).below hbW).below h1) hv hs1 hs4).mono (by rintro e w' ⟨v, rfl, hv, h⟩; exact ⟨v, rfl, hv, h, below_step h1 h⟩)
  have MB : ∀ w1 v, Below W.heap.size W w1 → NatIs w1 v qa.den → Calls Tryd.prog 44 #[.slice b m d, v] w1 fun e w' => ∃ v, e = .returned v ∧ NatIs w' v ((qb.num.natAbs : Int) * qa.den) ∧ Below w1.heap.size w1 w' ∧ Below W.heap.size W w' := fun w1 v h1 hv =>
    (mul_any _ _ _ _ w1 (((unhide HNb).below hbW).below h1) hv hs2 hs3).mono (by rintro e w' ⟨v, rfl, hv, h⟩; exact ⟨v, rfl, hv, h, below_step h1 h⟩)
  have MC : ∀ w1 v v', Below W.heap.size W w1 → NatIs w1 v ((qa.num.natAbs : Int) * qb.den) → NatIs w1 v' ((qb.num.natAbs : Int) * qa.den) → Calls Tryd.prog 51 #[v, v'] w1 fun e w' => e = .returned (.int .i64 (Wd.sg ((qa.num.natAbs : Int) * qb.den) ((qb.num.natAbs : Int) * qa.den))) ∧ Below W.heap.size W w' := fun w1 v v' h1 hv hv' =>
    (cmp_any _ _ _ _ w1 hv hv').mono (by rintro e w' ⟨rfl, k, rfl⟩; exact ⟨rfl, below_step h1 (below_drewN _ _)⟩)
  have HCA := hide CA
  have HCB := hide CB
  have HLA := hide LA
  have HLB := hide LB
  have HMA := hide MA
  have HMB := hide MB
  have HMC := hide MC
  clear CA CB LA LB MA MB MC S0 HNa HNb HA HB hs1 hs2 hs3 hs4
  have hR := hide (Below.refl W.heap.size W)
  have HWE := hide hW
  have HBW := hide hbW
  clear hW hbW
  have b1 := sign_bd qa.num
  have b2' := sign_bd qb.num
  by_cases hne : qa.num.sign = qb.num.sign
  · have hne' : (qa.num.sign != qb.num.sign) = false := by rw [bne_eq_false_iff_eq]; exact hne
    have hsg := sign_eq_neg hne
    have HF : Hid ((sa = true → -Wd.sg ((qa.num.natAbs : Int) * qb.den) ((qb.num.natAbs : Int) * qa.den) = Wd.sg (qa.num * qb.den) (qb.num * qa.den)) ∧ (sa = false → Wd.sg ((qa.num.natAbs : Int) * qb.den) ((qb.num.natAbs : Int) * qa.den) = Wd.sg (qa.num * qb.den) (qb.num * qa.den))) := by
      refine ⟨fun h => ?_, fun h => ?_⟩
      · rw [← hsa] at h
        have := of_decide_eq_true h
        exact sg_abs_neg this (hsg.1 this)
      · rw [← hsa] at h
        have := of_decide_eq_false h
        exact sg_abs_pos this (fun h' => this (hsg.2 h'))
    have gb := sg_bd ((qa.num.natAbs : Int) * qb.den) ((qb.num.natAbs : Int) * qa.den)
    generalize Wd.sg ((qa.num.natAbs : Int) * qb.den) ((qb.num.natAbs : Int) * qa.den) = g at *
    generalize Wd.sg (qa.num * qb.den) (qb.num * qa.den) = g' at *
    generalize qa.num.sign = x at *
    generalize qb.num.sign = y at *
    clear hne hsg hsa hsb
    obtain ⟨gb0, gb1⟩ := gb
    obtain ⟨b1a, b1b⟩ := b1
    obtain ⟨b2a, b2b⟩ := b2'
    go_enter Tryd.func22, Tryd.ntmps22
    go_wp2_with fail
    rw [unhide HWE]
    go_region_held3 (fun w' => (w'.cell? ⟨w.heap.size, 0, none⟩ = some (.bool sa) ∧ w'.cell? ⟨w.heap.size, 1, none⟩ = some (.slice a n c) ∧ w'.cell? ⟨w.heap.size, 2, none⟩ = some (.slice a2 n2 c2) ∧
      w'.cell? ⟨w.heap.size + 1, 0, none⟩ = some (.bool sb) ∧ w'.cell? ⟨w.heap.size + 1, 1, none⟩ = some (.slice b m d) ∧ w'.cell? ⟨w.heap.size + 1, 2, none⟩ = some (.slice b2 m2 d2)) ∧ Below W.heap.size W w') (first | exact unhide HS0 _ (unhide hR) | exact unhide HS0 _ (unhide hR).drew | exact unhide HS0 _ (by assumption) | exact unhide HS0 _ (Below.drew (by assumption)))
      (first | (go_at_call_of 16 (Value.agg #[.bool sa, .slice a n c, .slice a2 n2 c2]); refine (unhide HCA _ ?_).mono ?_; (first | exact (unhide hR).drew | assumption | exact Below.drew (by assumption)); rintro e w' ⟨rfl, hbx⟩) | (go_at_call_of 16 (Value.agg #[.bool sb, .slice b m d, .slice b2 m2 d2]); refine (unhide HCB _ ?_).mono ?_; (first | exact (unhide hR).drew | assumption | exact Below.drew (by assumption)); rintro e w' ⟨rfl, hbx⟩))
    go_wp2_with fail
    go_region_held3 (fun w' => (w'.cell? ⟨w.heap.size, 0, none⟩ = some (.bool sa) ∧ w'.cell? ⟨w.heap.size, 1, none⟩ = some (.slice a n c) ∧ w'.cell? ⟨w.heap.size, 2, none⟩ = some (.slice a2 n2 c2) ∧
      w'.cell? ⟨w.heap.size + 1, 0, none⟩ = some (.bool sb) ∧ w'.cell? ⟨w.heap.size + 1, 1, none⟩ = some (.slice b m d) ∧ w'.cell? ⟨w.heap.size + 1, 2, none⟩ = some (.slice b2 m2 d2)) ∧ Below W.heap.size W w') (first | exact unhide HS0 _ (unhide hR) | exact unhide HS0 _ (unhide hR).drew | exact unhide HS0 _ (by assumption) | exact unhide HS0 _ (Below.drew (by assumption)))
      (first | (go_at_call_of 42 (Value.agg #[.bool sb, .slice b m d, .slice b2 m2 d2]); refine (unhide HLB _ ?_).mono ?_; (first | exact (unhide hR).drew | assumption | exact Below.drew (by assumption)); rintro e w3 ⟨v3, rfl, hv3, hr3, hb3⟩) | (go_at_call_of 44 (Value.slice a n c); refine (unhide HMA _ _ ?_ hv3).mono ?_; (first | exact (unhide hR).drew | assumption | exact Below.drew (by assumption)); rintro e w4 ⟨v4, rfl, hv4, hr4, hb4⟩) | (go_at_call_of 42 (Value.agg #[.bool sa, .slice a n c, .slice a2 n2 c2]); refine (unhide HLA _ ?_).mono ?_; (first | exact (unhide hR).drew | assumption | exact Below.drew (by assumption)); rintro e w5 ⟨v5, rfl, hv5, hr5, hb5⟩; have hv45 := hv4.below hr5) | (go_at_call_of 44 (Value.slice b m d); refine (unhide HMB _ _ ?_ hv5).mono ?_; (first | exact (unhide hR).drew | assumption | exact Below.drew (by assumption)); rintro e w6 ⟨v6, rfl, hv6, hr6, hb6⟩; have hv46 := hv45.below hr6) | (go_at_call 51; refine (unhide HMC _ _ _ ?_ hv46 hv6).mono ?_; (first | exact (unhide hR).drew | assumption | exact Below.drew (by assumption)); rintro e w7 ⟨rfl, hb7⟩))
    have ⟨⟨k0, k1, k2, k3, k4, k5⟩, _⟩ := unhide HS0 _ hb7
    cases sa
    · have HF2 := hide ((unhide HF).2 rfl)
      clear HF
      go_wp2
      go_ret
      exact ⟨by rw [← unhide HF2]; rfl, (unhide HBW).trans (hb7.mono (unhide HBW).size)⟩
    · have HF2 := hide ((unhide HF).1 rfl)
      clear HF
      go_wp2
      go_ret
      exact ⟨by rw [← unhide HF2]; rfl, (unhide HBW).trans (hb7.mono (unhide HBW).size)⟩
  · have hne' : (qa.num.sign != qb.num.sign) = true := by rw [bne_iff_ne]; exact hne
    by_cases hl : qa.num.sign < qb.num.sign
    · have HF := hide (Wd.sg_lt (sg_signs qa.den_nz qb.den_nz hl))
      generalize Wd.sg (qa.num * qb.den) (qb.num * qa.den) = g' at *
      generalize qa.num.sign = x at *
      generalize qb.num.sign = y at *
      clear hne hsa hsb
      obtain ⟨b1a, b1b⟩ := b1
      obtain ⟨b2a, b2b⟩ := b2'
      go_enter Tryd.func22, Tryd.ntmps22
      go_wp2_with fail
      rw [unhide HWE]
      go_region_held3 (fun w' => (w'.cell? ⟨w.heap.size, 0, none⟩ = some (.bool sa) ∧ w'.cell? ⟨w.heap.size, 1, none⟩ = some (.slice a n c) ∧ w'.cell? ⟨w.heap.size, 2, none⟩ = some (.slice a2 n2 c2) ∧
      w'.cell? ⟨w.heap.size + 1, 0, none⟩ = some (.bool sb) ∧ w'.cell? ⟨w.heap.size + 1, 1, none⟩ = some (.slice b m d) ∧ w'.cell? ⟨w.heap.size + 1, 2, none⟩ = some (.slice b2 m2 d2)) ∧ Below W.heap.size W w') (first | exact unhide HS0 _ (unhide hR) | exact unhide HS0 _ (unhide hR).drew | exact unhide HS0 _ (by assumption) | exact unhide HS0 _ (Below.drew (by assumption)))
        (first | (go_at_call_of 16 (Value.agg #[.bool sa, .slice a n c, .slice a2 n2 c2]); refine (unhide HCA _ ?_).mono ?_; (first | exact (unhide hR).drew | assumption | exact Below.drew (by assumption)); rintro e w' ⟨rfl, hbx⟩) | (go_at_call_of 16 (Value.agg #[.bool sb, .slice b m d, .slice b2 m2 d2]); refine (unhide HCB _ ?_).mono ?_; (first | exact (unhide hR).drew | assumption | exact Below.drew (by assumption)); rintro e w' ⟨rfl, hbx⟩))
      go_wp2_with fail
      go_region_held3 (fun w' => (w'.cell? ⟨w.heap.size, 0, none⟩ = some (.bool sa) ∧ w'.cell? ⟨w.heap.size, 1, none⟩ = some (.slice a n c) ∧ w'.cell? ⟨w.heap.size, 2, none⟩ = some (.slice a2 n2 c2) ∧
      w'.cell? ⟨w.heap.size + 1, 0, none⟩ = some (.bool sb) ∧ w'.cell? ⟨w.heap.size + 1, 1, none⟩ = some (.slice b m d) ∧ w'.cell? ⟨w.heap.size + 1, 2, none⟩ = some (.slice b2 m2 d2)) ∧ Below W.heap.size W w') (first | exact unhide HS0 _ (unhide hR) | exact unhide HS0 _ (unhide hR).drew | exact unhide HS0 _ (by assumption) | exact unhide HS0 _ (Below.drew (by assumption)))
        (first | (go_at_call_of 16 (Value.agg #[.bool sa, .slice a n c, .slice a2 n2 c2]); refine (unhide HCA _ ?_).mono ?_; (first | exact (unhide hR).drew | assumption | exact Below.drew (by assumption)); rintro e w' ⟨rfl, hbx⟩) | (go_at_call_of 16 (Value.agg #[.bool sb, .slice b m d, .slice b2 m2 d2]); refine (unhide HCB _ ?_).mono ?_; (first | exact (unhide hR).drew | assumption | exact Below.drew (by assumption)); rintro e w' ⟨rfl, hbx⟩))
      go_wp2
      go_ret
      exact ⟨by rw [unhide HF]; rfl, (unhide HBW).trans (Below.mono (by assumption) (unhide HBW).size)⟩
    · have hl' : qb.num.sign < qa.num.sign := by omega
      have HF := hide (Wd.sg_gt (sg_signs qb.den_nz qa.den_nz hl'))
      generalize Wd.sg (qa.num * qb.den) (qb.num * qa.den) = g' at *
      generalize qa.num.sign = x at *
      generalize qb.num.sign = y at *
      clear hne hsa hsb
      obtain ⟨b1a, b1b⟩ := b1
      obtain ⟨b2a, b2b⟩ := b2'
      go_enter Tryd.func22, Tryd.ntmps22
      go_wp2_with fail
      rw [unhide HWE]
      go_region_held3 (fun w' => (w'.cell? ⟨w.heap.size, 0, none⟩ = some (.bool sa) ∧ w'.cell? ⟨w.heap.size, 1, none⟩ = some (.slice a n c) ∧ w'.cell? ⟨w.heap.size, 2, none⟩ = some (.slice a2 n2 c2) ∧
      w'.cell? ⟨w.heap.size + 1, 0, none⟩ = some (.bool sb) ∧ w'.cell? ⟨w.heap.size + 1, 1, none⟩ = some (.slice b m d) ∧ w'.cell? ⟨w.heap.size + 1, 2, none⟩ = some (.slice b2 m2 d2)) ∧ Below W.heap.size W w') (first | exact unhide HS0 _ (unhide hR) | exact unhide HS0 _ (unhide hR).drew | exact unhide HS0 _ (by assumption) | exact unhide HS0 _ (Below.drew (by assumption)))
        (first | (go_at_call_of 16 (Value.agg #[.bool sa, .slice a n c, .slice a2 n2 c2]); refine (unhide HCA _ ?_).mono ?_; (first | exact (unhide hR).drew | assumption | exact Below.drew (by assumption)); rintro e w' ⟨rfl, hbx⟩) | (go_at_call_of 16 (Value.agg #[.bool sb, .slice b m d, .slice b2 m2 d2]); refine (unhide HCB _ ?_).mono ?_; (first | exact (unhide hR).drew | assumption | exact Below.drew (by assumption)); rintro e w' ⟨rfl, hbx⟩))
      go_wp2_with fail
      go_region_held3 (fun w' => (w'.cell? ⟨w.heap.size, 0, none⟩ = some (.bool sa) ∧ w'.cell? ⟨w.heap.size, 1, none⟩ = some (.slice a n c) ∧ w'.cell? ⟨w.heap.size, 2, none⟩ = some (.slice a2 n2 c2) ∧
      w'.cell? ⟨w.heap.size + 1, 0, none⟩ = some (.bool sb) ∧ w'.cell? ⟨w.heap.size + 1, 1, none⟩ = some (.slice b m d) ∧ w'.cell? ⟨w.heap.size + 1, 2, none⟩ = some (.slice b2 m2 d2)) ∧ Below W.heap.size W w') (first | exact unhide HS0 _ (unhide hR) | exact unhide HS0 _ (unhide hR).drew | exact unhide HS0 _ (by assumption) | exact unhide HS0 _ (Below.drew (by assumption)))
        (first | (go_at_call_of 16 (Value.agg #[.bool sa, .slice a n c, .slice a2 n2 c2]); refine (unhide HCA _ ?_).mono ?_; (first | exact (unhide hR).drew | assumption | exact Below.drew (by assumption)); rintro e w' ⟨rfl, hbx⟩) | (go_at_call_of 16 (Value.agg #[.bool sb, .slice b m d, .slice b2 m2 d2]); refine (unhide HCB _ ?_).mono ?_; (first | exact (unhide hR).drew | assumption | exact Below.drew (by assumption)); rintro e w' ⟨rfl, hbx⟩))
      go_wp2
      go_ret
      exact ⟨by rw [unhide HF]; rfl, (unhide HBW).trans (Below.mono (by assumption) (unhide HBW).size)⟩
end Go.Proofs.YtdicbnchkfclaaaDoor
