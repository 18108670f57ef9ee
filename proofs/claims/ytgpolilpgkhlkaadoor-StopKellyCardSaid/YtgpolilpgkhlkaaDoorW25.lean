/- A half. -/
import Derived.Test.YtgpolilpgkhlkaaDoorA14
namespace Go.Proofs.YtgpolilpgkhlkaaDoor
open Go.RowKit Go.Sort Go.Shelf Go.Dd

def hf : Rat := Rat.divInt 2 4
theorem hf_num : hf.num = 1 := by rfl
theorem hf_den : hf.den = 2 := by rfl
theorem hf2 : hf + hf = Rat.divInt 16 16 := Rat.divInt_add_divInt 2 2 (by decide) (by decide)
theorem hf2_num : (hf + hf).num = 1 := by rw [hf2]; rfl
theorem hf2_den : (hf + hf).den = 1 := by rw [hf2]; rfl
theorem dec1 (k : Nat) (h : k < 10) : Lib.decDigits k = [UInt8.ofNat (48 + k)] := by
  unfold Lib.decDigits
  rw [dif_pos h]
theorem hf_text : qtext hf = [49, 47, 50] := by
  simp [qtext, upperText, hf_num, hf_den, dec1]
theorem hf2_text : qtext (hf + hf) = [49] := by
  simp [qtext, upperText, hf2_num, hf2_den, dec1]
theorem hf_cmp : Wd.sg (hf.num * (hf + hf).den) ((hf + hf).num * hf.den) = -1 := by
  rw [hf_num, hf_den, hf2_num, hf2_den]; rfl

set_option maxHeartbeats 4000000 in
set_option maxRecDepth 100000 in
theorem half_any (w : World) (htab : Tab w) :
    Calls Tryd.prog 25 #[] w fun e w' => e = .returned (.bool true) ∧ Below w.heap.size w w' := by
  have HOF := hide (of_any 2 4 (by decide) (by decide) (by decide) (by decide) (by decide) w)
  have HT := hide htab
  clear htab
  go_enter Tryd.func25, Tryd.ntmps25
  go_wp2_with fail
  refine (unhide HOF).mono ?_
  rintro e w1 ⟨v, rfl, hv, hb1⟩
  have hA : RatIs w1 v hf := hv
  have HA := hide hA
  obtain ⟨ov, un, rfl, hov, hun⟩ := hA
  obtain ⟨a, n, c, rfl, _, _⟩ := hov
  obtain ⟨a2, n2, c2, rfl, _, _⟩ := hun
  obtain ⟨s, hs⟩ : ∃ s, decide (hf.num < 0) = s := ⟨_, rfl⟩
  rw [hs] at HA ⊢
  have HT1 := hide (tab_below (unhide HT) hb1)
  have HB1 := hide hb1
  clear hv hb1 hs
  obtain ⟨W, hW⟩ : ∃ W, w1.alloc (.cells #[.bool s, .slice a n c, .slice a2 n2 c2] 35) = W := ⟨_, rfl⟩
  have hbW : Below w1.heap.size w1 W := by rw [← hW]; exact alloc_below _ _
  have S0 : ∀ w', Below W.heap.size W w' → (w'.cell? ⟨w1.heap.size, 0, none⟩ = some (.bool s) ∧ w'.cell? ⟨w1.heap.size, 1, none⟩ = some (.slice a n c) ∧ w'.cell? ⟨w1.heap.size, 2, none⟩ = some (.slice a2 n2 c2)) ∧ Below W.heap.size W w' := fun w' h => by
    rw [← hW] at h ⊢
    exact ⟨one_box h, h⟩
  have TA : ∀ w1, Below W.heap.size W w1 → Calls Tryd.prog 32 #[.agg #[.bool s, .slice a n c, .slice a2 n2 c2]] w1 fun e w' => e = .returned (.string ⟨#[49, 47, 50]⟩) ∧ Below W.heap.size W w' := fun w2 h1 =>
    (textR_small _ hf w2 (((unhide HA).below hbW).below h1) (by rw [hf_num]; decide) (by rw [hf_den]; decide) (tab_below (tab_below (unhide HT1) hbW) h1)).mono (by rintro e w' ⟨rfl, h⟩; exact ⟨by rw [hf_text], below_step h1 h⟩)
  have AD : ∀ w1, Below W.heap.size W w1 → Calls Tryd.prog 16 #[.agg #[.bool s, .slice a n c, .slice a2 n2 c2], .agg #[.bool s, .slice a n c, .slice a2 n2 c2]] w1 fun e w' => ∃ v, e = .returned v ∧ RatIs w' v (hf + hf) ∧ Below W.heap.size W w' := fun w2 h1 =>
    (addR_small _ _ hf hf w2 (((unhide HA).below hbW).below h1) (((unhide HA).below hbW).below h1) (by rw [hf_num]; decide) (by rw [hf_num]; decide) (by rw [hf_den]; decide) (by rw [hf_den]; decide)).mono (by rintro e w' ⟨v, rfl, hv, h⟩; exact ⟨v, rfl, hv, below_step h1 h⟩)
  have TS : ∀ w1 v, Below W.heap.size W w1 → RatIs w1 v (hf + hf) → Calls Tryd.prog 32 #[v] w1 fun e w' => e = .returned (.string ⟨#[49]⟩) ∧ Below W.heap.size W w' := fun w2 v h1 hv =>
    (textR_small _ _ w2 hv (by rw [hf2_num]; decide) (by rw [hf2_den]; decide) (tab_below (tab_below (unhide HT1) hbW) h1)).mono (by rintro e w' ⟨rfl, h⟩; exact ⟨by rw [hf2_text], below_step h1 h⟩)
  have CM : ∀ w1 v, Below W.heap.size W w1 → RatIs w1 v (hf + hf) → Calls Tryd.prog 12 #[.agg #[.bool s, .slice a n c, .slice a2 n2 c2], v] w1 fun e w' => e = .returned (.int .i64 (-1)) ∧ Below W.heap.size W w' := fun w2 v h1 hv =>
    (cmpR_any _ _ hf (hf + hf) w2 (((unhide HA).below hbW).below h1) hv (sm_nat (by rw [hf_num]; decide)) (sm_nat (by rw [hf2_num]; decide)) (sm_nat (by rw [hf_den]; decide)) (sm_nat (by rw [hf2_den]; decide))).mono (by rintro e w' ⟨rfl, h⟩; exact ⟨by rw [hf_cmp], below_step h1 h⟩)
  have HS0 := hide S0
  have HTA := hide TA
  have HAD := hide AD
  have HTS := hide TS
  have HCM := hide CM
  have HWE := hide hW
  have HBW := hide (below_step (unhide HB1) hbW)
  have hR := hide (Below.refl W.heap.size W)
  clear S0 TA AD TS CM hW hbW HA HT1 HB1
  go_wp2_with fail
  rw [unhide HWE]
  go_region_held3 (fun w' => (w'.cell? ⟨w1.heap.size, 0, none⟩ = some (.bool s) ∧ w'.cell? ⟨w1.heap.size, 1, none⟩ = some (.slice a n c) ∧ w'.cell? ⟨w1.heap.size, 2, none⟩ = some (.slice a2 n2 c2)) ∧ Below W.heap.size W w') (first | exact unhide HS0 _ (unhide hR) | exact unhide HS0 _ (unhide hR).drew | exact unhide HS0 _ (by assumption) | exact unhide HS0 _ (Below.drew (by assumption)))
      (first | (go_at_call_of 32 (Value.agg #[.bool s, .slice a n c, .slice a2 n2 c2]); refine (unhide HTA _ ?_).mono ?_; (first | exact (unhide hR).drew | assumption | exact Below.drew (by assumption)); rintro e w4 ⟨rfl, hb4⟩) | (go_at_call 16; refine (unhide HAD _ ?_).mono ?_; (first | exact (unhide hR).drew | assumption | exact Below.drew (by assumption)); rintro e w5 ⟨v5, rfl, hv5, hb5⟩) | (go_at_call 32; refine (unhide HTS _ _ ?_ hv5).mono ?_; (first | exact (unhide hR).drew | assumption | exact Below.drew (by assumption)); rintro e w6 ⟨rfl, hb6⟩) | (go_at_call 12; refine (unhide HCM _ _ ?_ hv5).mono ?_; (first | exact (unhide hR).drew | assumption | exact Below.drew (by assumption)); rintro e w7 ⟨rfl, hb7⟩))
  all_goals
    go_wp2
    go_ret
    exact ⟨rfl, below_step (unhide HBW) (by assumption)⟩
end Go.Proofs.YtgpolilpgkhlkaaDoor
