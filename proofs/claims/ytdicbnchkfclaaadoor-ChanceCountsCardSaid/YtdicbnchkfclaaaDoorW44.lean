/- The greatest common divisor of any two numbers. -/
import Derived.Test.YtdicbnchkfclaaaDoorW43
namespace Go.Proofs.YtdicbnchkfclaaaDoor
open Go.RowKit Go.Sort Go.Shelf

theorem head_dgs {w : World} {g n : Nat} {A : Int} (h : Head w g n (Wd.dig A)) : HeadRow w g (dgs A n) := by
  obtain ⟨cur, h, hc⟩ := h
  exact ⟨cur, h, fun j hj => by rw [dgs_size] at hj; rw [hc j hj, dgs_get A n j hj]⟩

/-- A number of two words or more, copied. -/
theorem clone_nat (a : Option Addr) (n c : Nat) (A : Int) (w : World) (hl : Wd.Len A n) (hr : RowIs w a n c (Wd.dig A)) (hp : 0 < n) (hA : Sm A) :
    Calls Tryd.prog 69 #[.slice a n c] w fun e w' => ∃ g cap, e = .returned (.slice (some ⟨g, 0, none⟩) n cap) ∧ HeadRow w' g (dgs A n) ∧ w.heap.size ≤ g ∧ n ≤ cap ∧ cap ≤ 9223372036854775807 ∧ Below w.heap.size w w' := by
  obtain ⟨b, o, rfl, hb, hc⟩ := hr.2.2 hp
  refine (clone_pos b o n c w (Wd.dig A) hp (hA.len hl) hc).mono ?_
  rintro e w' ⟨g, cap, rfl, h, h1, h2, h3, h4⟩
  exact ⟨g, cap, rfl, head_dgs h, h1, h2, h3, h4⟩

theorem two_of {w1 w2 : World} {base g1 g2 n1 n2 c1 c2 : Nat} {A B : Int} (h1 : HeadRow w1 g1 (dgs A n1)) (hb : Below w1.heap.size w1 w2) (h2 : HeadRow w2 g2 (dgs B n2)) (b1 : base ≤ g1) (b2 : w1.heap.size ≤ g2) (l1 : Wd.Len A n1) (l2 : Wd.Len B n2) (k1 : n1 ≤ c1) (k2 : n2 ≤ c2) (k1' : c1 ≤ 9223372036854775807) (k2' : c2 ≤ 9223372036854775807) :
    OwnTwo base w2 (.slice (some ⟨g1, 0, none⟩) n1 c1) (.slice (some ⟨g2, 0, none⟩) n2 c2) A B := by
  have := h1.lt
  refine ⟨g1, g2, n1, n2, c1, c2, dgs A n1, dgs B n2, rfl, rfl, by omega, b1, by omega, h1.below hb h1.lt, h2, by rw [dgs_size]; exact Nat.le_refl _, by rw [dgs_size]; exact Nat.le_refl _, by rw [dgs_size]; exact k1, by rw [dgs_size]; exact k2, k1', k2', ?_, ?_, l1, l2, ?_, ?_⟩
  · rw [dgs_size]; exact dgs_w A n1
  · rw [dgs_size]; exact dgs_w B n2
  · rw [dgs_vl]; exact Wd.vl_dig_all l1.1 l1.2.1
  · rw [dgs_vl]; exact Wd.vl_dig_all l2.1 l2.2.1

set_option maxHeartbeats 4000000 in
set_option maxRecDepth 100000 in
theorem gcd_long (a a' : Option Addr) (n n' c c' : Nat) (A B : Int) (w : World) (hl : Wd.Len A n) (hra : RowIs w a n c (Wd.dig A)) (hl' : Wd.Len B n') (hrb : RowIs w a' n' c' (Wd.dig B)) (hA : Sm A) (hB : Sm B) (hAw : 18446744073709551616 ≤ A) (hBw : 18446744073709551616 ≤ B) :
    Calls Tryd.prog 41 #[.slice a n c, .slice a' n' c'] w fun e w' => ∃ v, e = .returned v ∧ NatIs w' v (Int.gcd A B) ∧ Below w.heap.size w w' := by
  have hn : 2 ≤ n := by
    rcases Nat.lt_or_ge n 2 with h3 | h3
    · have := Int.lt_of_lt_of_le hl.2.1 (Wd.pw_mono (m := n) (n := 1) (by omega))
      rw [Wd.pw_one] at this; omega
    · exact h3
  have hn' : 2 ≤ n' := by
    rcases Nat.lt_or_ge n' 2 with h3 | h3
    · have := Int.lt_of_lt_of_le hl'.2.1 (Wd.pw_mono (m := n') (n := 1) (by omega))
      rw [Wd.pw_one] at this; omega
    · exact h3
  have HO1 := hide (isOne_any (.slice a n c) A w ⟨_, _, _, rfl, hl, hra⟩)
  have HO2 := hide (isOne_any (.slice a' n' c') B w ⟨_, _, _, rfl, hl', hrb⟩)
  have HCM := hide (cmp_any (.slice a n c) (.slice a' n' c') A B w ⟨_, _, _, rfl, hl, hra⟩ ⟨_, _, _, rfl, hl', hrb⟩)
  rw [show (A == 1) = false by rw [beq_eq_false_iff_ne]; omega] at HO1
  rw [show (B == 1) = false by rw [beq_eq_false_iff_ne]; omega] at HO2
  have HCA := hide (fun (W : World) (hb : Below w.heap.size w W) => clone_nat a n c A W hl (hra.below hb) (by omega) hA)
  have HCB := hide (fun (W : World) (hb : Below w.heap.size w W) => clone_nat a' n' c' B W hl' (hrb.below hb) (by omega) hB)
  have HL := hide hl
  have HL' := hide hl'
  have hnc := hra.1
  have hcc := hra.2.1
  have hnc' := hrb.1
  have hcc' := hrb.2.1
  have HSA := hide hA
  have HSB := hide hB
  have d1 : decide (1 < (n : Int)) = true := decide_eq_true (by omega)
  have d2 : decide (1 < (n' : Int)) = true := decide_eq_true (by omega)
  clear hl hl' hra hrb hA hB
  rcases Int.lt_or_le A B with hlt | hge
  · rw [Wd.sg_lt hlt] at HCM
    have HGC := hide (Int.gcd_comm B A)
    go_enter Tryd.func41, Tryd.ntmps41
    go_wp2_with fail
    refine (unhide HO1).mono ?_
    rintro e w' ⟨rfl, hw'⟩
    obtain rfl := hw'.symm
    go_wp2_with fail
    refine (unhide HO2).mono ?_
    rintro e w' ⟨rfl, hw'⟩
    obtain rfl := hw'.symm
    go_wp2_with fail
    refine (unhide HCM).mono ?_
    rintro e w' ⟨rfl, k, hw'⟩
    subst hw'
    go_wp2_with fail
    refine (unhide HCB _ (below_drewN w k)).mono ?_
    rintro e w1 ⟨g1, q1, rfl, hh1, hg1, hq1, hq1', hb1⟩
    have g1e : (w.drewN k).heap.size = w.heap.size := rfl
    rw [g1e] at hg1 hb1
    have hbw1 : Below w.heap.size w w1 := (below_drewN w k).trans hb1
    have HC2 := hide (unhide HCA w1 hbw1)
    have HH1 := hide hh1
    have HBW1 := hide hbw1
    clear hh1 hb1 hbw1 HCA HCB HO1 HO2 HCM
    go_wp2_with fail
    refine (unhide HC2).mono ?_
    rintro e w2 ⟨g2, q2, rfl, hh2, hg2, hq2, hq2', hb2⟩
    have O := two_of (base := w.heap.size) (unhide HH1) hb2 hh2 hg1 hg2 (unhide HL') (unhide HL) hq1 hq2 hq1' hq2'
    have hbw2 : Below w.heap.size w w2 := below_on (unhide HBW1) hb2
    have HRD := hide (reduced_any _ _ B A w.heap.size w2 hbw2.size O (by omega) (unhide HSB))
    have HBW2 := hide hbw2
    clear hh2 hb2 O hbw2 HC2 HH1 HBW1
    go_wp2_with fail
    refine (unhide HRD).mono ?_
    rintro e w3 ⟨v1, v2, A2, B2, rfl, hv1, hv2, hB2w, hSA2, hG, hb3⟩
    have hbw3 : Below w.heap.size w w3 := (unhide HBW2).trans hb3
    have HN1 := hide hv1
    have HG := hide hG
    have HBW3 := hide hbw3
    have hA20 := hv1.nn
    obtain ⟨a1, m1, k1, rfl, hl1, hr1⟩ := hv1
    obtain ⟨a2, m2, k2, rfl, hl2, hr2⟩ := hv2
    clear hb3 hbw3 HRD HBW2 hG
    by_cases hz : B2 = 0
    · subst hz
      have hm0 : m2 = 0 := hl2.of_zero
      subst hm0
      have HF := hide (show (A2 : Int) = (Int.gcd A B : Int) by rw [← unhide HGC, ← unhide HG, Int.gcd_zero_right]; omega)
      clear hl1 hr1 hl2 hr2 HG hSA2
      go_wp2
      go_ret
      refine ⟨_, rfl, ?_, unhide HBW3⟩
      rw [← unhide HF]
      exact unhide HN1
    · have hBp : 0 < B2 := by have := hl2.1; omega
      obtain ⟨hn1, b, o, hab, hbl, hcw⟩ := natIs_word hl2 hr2 hBp hB2w
      subst hn1
      subst hab
      have hmod0 : 0 ≤ A2 % B2 := Int.emod_nonneg _ (by omega)
      have hmod1 : A2 % B2 < B2 := Int.emod_lt_of_pos _ hBp
      have HF := hide (show Int.gcd B2 (A2 % B2) = Int.gcd A B by rw [← unhide HGC, ← unhide HG, gcd_emod])
      have HDW := hide (divideWord_any (.slice a1 m1 k1) A2 B2 w3 (unhide HN1) hSA2 hBp hB2w)
      clear hl1 hr1 hl2 hr2 HG hSA2 HN1
      go_wp2_with fail
      refine (unhide HDW).mono ?_
      rintro e w4 ⟨v4, rfl, _, hb4⟩
      have hc4 : w4.cell? ⟨b, o, none⟩ = some (.int .u64 B2) := by rw [hb4.cell (p := ⟨b, o, none⟩) hbl]; exact hcw
      have HBW4 := hide (below_on (unhide HBW3) hb4)
      clear hb4 HDW hcw
      go_wp2_with fail
      refine (gcdWord_any B2 (A2 % B2) ⟨by omega, hB2w⟩ ⟨hmod0, by omega⟩ _).mono ?_
      rintro e w5 ⟨rfl, k5, hw5⟩
      subst hw5
      go_wp2_with fail
      refine (word_any _ (gcd_word ⟨by omega, hB2w⟩ ⟨hmod0, by omega⟩) _).mono ?_
      rintro e w6 ⟨v6, rfl, hv6, hb6⟩
      have hbw6 : Below w.heap.size w w6 := below_on (unhide HBW4) ((below_drewN w4 k5).trans hb6)
      clear hb6
      go_wp2
      go_ret
      refine ⟨_, rfl, ?_, hbw6⟩
      rw [← unhide HF]
      exact hv6
  · have hcs : ∃ t, Wd.sg A B = t ∧ 0 ≤ t ∧ t ≤ 1 := by
      rcases Int.lt_or_le B A with h | h
      · exact ⟨1, Wd.sg_gt h, by decide, by decide⟩
      · exact ⟨0, Wd.sg_eq (by omega), by decide, by decide⟩
    obtain ⟨t, ht, ht0, ht1⟩ := hcs
    rw [ht] at HCM
    have htd : decide (t < 0) = false := decide_eq_false (by omega)
    clear ht ht0 ht1
    go_enter Tryd.func41, Tryd.ntmps41
    go_wp2_with fail
    refine (unhide HO1).mono ?_
    rintro e w' ⟨rfl, hw'⟩
    obtain rfl := hw'.symm
    go_wp2_with fail
    refine (unhide HO2).mono ?_
    rintro e w' ⟨rfl, hw'⟩
    obtain rfl := hw'.symm
    go_wp2_with fail
    refine (unhide HCM).mono ?_
    rintro e w' ⟨rfl, k, hw'⟩
    subst hw'
    go_wp2_with fail
    refine (unhide HCA _ (below_drewN w k)).mono ?_
    rintro e w1 ⟨g1, q1, rfl, hh1, hg1, hq1, hq1', hb1⟩
    have g1e : (w.drewN k).heap.size = w.heap.size := rfl
    rw [g1e] at hg1 hb1
    have hbw1 : Below w.heap.size w w1 := (below_drewN w k).trans hb1
    have HC2 := hide (unhide HCB w1 hbw1)
    have HH1 := hide hh1
    have HBW1 := hide hbw1
    clear hh1 hb1 hbw1 HCA HCB HO1 HO2 HCM
    go_wp2_with fail
    refine (unhide HC2).mono ?_
    rintro e w2 ⟨g2, q2, rfl, hh2, hg2, hq2, hq2', hb2⟩
    have O := two_of (base := w.heap.size) (unhide HH1) hb2 hh2 hg1 hg2 (unhide HL) (unhide HL') hq1 hq2 hq1' hq2'
    have hbw2 : Below w.heap.size w w2 := below_on (unhide HBW1) hb2
    have HRD := hide (reduced_any _ _ A B w.heap.size w2 hbw2.size O (by omega) (unhide HSA))
    have HBW2 := hide hbw2
    clear hh2 hb2 O hbw2 HC2 HH1 HBW1
    go_wp2_with fail
    refine (unhide HRD).mono ?_
    rintro e w3 ⟨v1, v2, A2, B2, rfl, hv1, hv2, hB2w, hSA2, hG, hb3⟩
    have hbw3 : Below w.heap.size w w3 := (unhide HBW2).trans hb3
    have HN1 := hide hv1
    have HG := hide hG
    have HBW3 := hide hbw3
    have hA20 := hv1.nn
    obtain ⟨a1, m1, k1, rfl, hl1, hr1⟩ := hv1
    obtain ⟨a2, m2, k2, rfl, hl2, hr2⟩ := hv2
    clear hb3 hbw3 HRD HBW2 hG
    by_cases hz : B2 = 0
    · subst hz
      have hm0 : m2 = 0 := hl2.of_zero
      subst hm0
      have HF := hide (show (A2 : Int) = (Int.gcd A B : Int) by rw [← unhide HG, Int.gcd_zero_right]; omega)
      clear hl1 hr1 hl2 hr2 HG hSA2
      go_wp2
      go_ret
      refine ⟨_, rfl, ?_, unhide HBW3⟩
      rw [← unhide HF]
      exact unhide HN1
    · have hBp : 0 < B2 := by have := hl2.1; omega
      obtain ⟨hn1, b, o, hab, hbl, hcw⟩ := natIs_word hl2 hr2 hBp hB2w
      subst hn1
      subst hab
      have hmod0 : 0 ≤ A2 % B2 := Int.emod_nonneg _ (by omega)
      have hmod1 : A2 % B2 < B2 := Int.emod_lt_of_pos _ hBp
      have HF := hide (show Int.gcd B2 (A2 % B2) = Int.gcd A B by rw [← unhide HG, gcd_emod])
      have HDW := hide (divideWord_any (.slice a1 m1 k1) A2 B2 w3 (unhide HN1) hSA2 hBp hB2w)
      clear hl1 hr1 hl2 hr2 HG hSA2 HN1
      go_wp2_with fail
      refine (unhide HDW).mono ?_
      rintro e w4 ⟨v4, rfl, _, hb4⟩
      have hc4 : w4.cell? ⟨b, o, none⟩ = some (.int .u64 B2) := by rw [hb4.cell (p := ⟨b, o, none⟩) hbl]; exact hcw
      have HBW4 := hide (below_on (unhide HBW3) hb4)
      clear hb4 HDW hcw
      go_wp2_with fail
      refine (gcdWord_any B2 (A2 % B2) ⟨by omega, hB2w⟩ ⟨hmod0, by omega⟩ _).mono ?_
      rintro e w5 ⟨rfl, k5, hw5⟩
      subst hw5
      go_wp2_with fail
      refine (word_any _ (gcd_word ⟨by omega, hB2w⟩ ⟨hmod0, by omega⟩) _).mono ?_
      rintro e w6 ⟨v6, rfl, hv6, hb6⟩
      have hbw6 : Below w.heap.size w w6 := below_on (unhide HBW4) ((below_drewN w4 k5).trans hb6)
      clear hb6
      go_wp2
      go_ret
      refine ⟨_, rfl, ?_, hbw6⟩
      rw [← unhide HF]
      exact hv6

theorem gcd_any (va vb : Value) (A B : Int) (w : World) (ha : NatIs w va A) (hb : NatIs w vb B) (hAs : Sm A) (hBs : Sm B) :
    Calls Tryd.prog 41 #[va, vb] w fun e w' => ∃ v, e = .returned v ∧ NatIs w' v (Int.gcd A B) ∧ Below w.heap.size w w' := by
  rcases Int.lt_or_le A 18446744073709551616 with h | h
  · exact gcd_small va vb A B w ha hb hAs hBs (Or.inl h)
  rcases Int.lt_or_le B 18446744073709551616 with h2 | h2
  · exact gcd_small va vb A B w ha hb hAs hBs (Or.inr h2)
  obtain ⟨a, n, c, rfl, hl, hra⟩ := ha
  obtain ⟨a', n', c', rfl, hl', hrb⟩ := hb
  exact gcd_long a a' n n' c c' A B w hl hra hl' hrb hAs hBs h h2
end Go.Proofs.YtdicbnchkfclaaaDoor
