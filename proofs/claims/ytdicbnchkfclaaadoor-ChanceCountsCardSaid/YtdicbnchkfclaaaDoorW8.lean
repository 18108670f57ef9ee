/- The greatest number that divides both, of two numbers of which one is a word; quotients by a word. -/
import Derived.Test.YtdicbnchkfclaaaDoorW7
namespace Go.Proofs.YtdicbnchkfclaaaDoor
open Go.RowKit Go.Sort Go.Shelf

theorem sm_word {x : Int} (h : x < 18446744073709551616) : Sm x := by
  have : Wd.pw 1 ≤ Wd.pw KK := Wd.pw_mono (by decide)
  rw [Wd.pw_one] at this
  exact Int.lt_of_lt_of_le h this

set_option maxHeartbeats 4000000 in
set_option maxRecDepth 100000 in
theorem gcd_small (va vb : Value) (A B : Int) (w : World) (ha : NatIs w va A) (hb : NatIs w vb B) (hAs : Sm A) (hBs : Sm B) (hmin : A < 18446744073709551616 ∨ B < 18446744073709551616) :
    Calls Tryd.prog 41 #[va, vb] w fun e w' => ∃ v, e = .returned v ∧ NatIs w' v (Int.gcd A B) ∧ Below w.heap.size w w' := by
  have ha' := ha
  have hb' := hb
  obtain ⟨a, n, c, rfl, hl, hra⟩ := ha
  obtain ⟨a', n', c', rfl, hl', hrb⟩ := hb
  have hnc := hra.1
  have hcc := hra.2.1
  have hnc' := hrb.1
  have hcc' := hrb.2.1
  have HL := hide hl
  have HL' := hide hl'
  have HA := hide hra
  have HB := hide hrb
  have HO1 := hide (isOne_any (.slice a n c) A w ha')
  have HO2 := hide (isOne_any (.slice a' n' c') B w hb')
  have HCM := hide (cmp_any (.slice a n c) (.slice a' n' c') A B w ha' hb')
  clear ha' hb' hl hl' hra hrb
  by_cases h1 : A = 1
  · subst h1
    rw [show ((1 : Int) == 1) = true from rfl] at HO1
    have HG := hide (show Int.gcd 1 B = 1 from Int.gcd_one_left _)
    go_enter Tryd.func41, Tryd.ntmps41
    go_wp2_with fail
    refine (unhide HO1).mono ?_
    rintro e w' ⟨rfl, hw'⟩
    obtain rfl := hw'.symm
    go_wp2_with (go_at_call 49; refine (one_any _).mono ?_; rintro e w1 ⟨v1, rfl, hv1, hb1⟩)
    go_ret
    refine ⟨_, rfl, ?_, hb1⟩
    rw [unhide HG]
    exact hv1
  rw [show (A == 1) = false by rw [beq_eq_false_iff_ne]; exact h1] at HO1
  by_cases h2 : B = 1
  · subst h2
    rw [show ((1 : Int) == 1) = true from rfl] at HO2
    have HG := hide (show Int.gcd A 1 = 1 from Int.gcd_one_right _)
    go_enter Tryd.func41, Tryd.ntmps41
    go_wp2_with fail
    refine (unhide HO1).mono ?_
    rintro e w' ⟨rfl, hw'⟩
    obtain rfl := hw'.symm
    go_wp2_with fail
    refine (unhide HO2).mono ?_
    rintro e w' ⟨rfl, hw'⟩
    obtain rfl := hw'.symm
    go_wp2_with (go_at_call 49; refine (one_any _).mono ?_; rintro e w1 ⟨v1, rfl, hv1, hb1⟩)
    go_ret
    refine ⟨_, rfl, ?_, hb1⟩
    rw [unhide HG]
    exact hv1
  rw [show (B == 1) = false by rw [beq_eq_false_iff_ne]; exact h2] at HO2
  by_cases hlt : A < B
  · rw [Wd.sg_lt hlt] at HCM
    by_cases hz : A = 0
    · subst hz
      have hn0 : n = 0 := (unhide HL).of_zero
      subst hn0
      have HN := hide (show NatIs w (.slice a' n' c') B from ⟨_, _, _, rfl, unhide HL', unhide HB⟩)
      have HG := hide (show (Int.gcd 0 B : Int) = B by rw [Int.gcd_zero_left]; have := (unhide HL').1; omega)
      go_enter Tryd.func41, Tryd.ntmps41
      go_wp2_with fail
      refine (unhide HO1).mono ?_
      rintro e w' ⟨rfl, hw'⟩
      obtain rfl := hw'.symm
      go_wp2_with fail
      refine (unhide HO2).mono ?_
      rintro e w' ⟨rfl, hw'⟩
      obtain rfl := hw'.symm
      go_wp2_with fail
      refine (unhide HCM).mono ?_
      rintro e w' ⟨rfl, k, hw'⟩
      subst hw'
      go_wp2
      go_ret
      refine ⟨_, rfl, ?_, below_drewN w k⟩
      rw [unhide HG]
      exact (unhide HN).below (below_drewN w k)
    · have hB0 := (unhide HL).1
      have hBp : 0 < A := by omega
      have hBw : A < 18446744073709551616 := by omega
      obtain ⟨hn1, b, o, hab, hbl, hc⟩ := natIs_word (unhide HL) (unhide HA) hBp hBw
      subst hn1
      subst hab
      have HN := hide (show NatIs w (.slice a' n' c') B from ⟨_, _, _, rfl, unhide HL', unhide HB⟩)
      have HG := hide (show Int.gcd A (B % A) = Int.gcd A B by rw [gcd_emod, Int.gcd_comm])
      have hmod0 : 0 ≤ B % A := Int.emod_nonneg _ (by omega)
      have hmod1 : B % A < A := Int.emod_lt_of_pos _ hBp
      go_enter Tryd.func41, Tryd.ntmps41
      go_wp2_with fail
      refine (unhide HO1).mono ?_
      rintro e w' ⟨rfl, hw'⟩
      obtain rfl := hw'.symm
      go_wp2_with fail
      refine (unhide HO2).mono ?_
      rintro e w' ⟨rfl, hw'⟩
      obtain rfl := hw'.symm
      go_wp2_with fail
      refine (unhide HCM).mono ?_
      rintro e w' ⟨rfl, k, hw'⟩
      subst hw'
      go_wp2_with fail
      refine (divideWord_any (.slice a' n' c') B A _ ((unhide HN).below (below_drewN w k)) hBs hBp hBw).mono ?_
      rintro e w1 ⟨v1, rfl, _, hb1⟩
      have hbb : Below w.heap.size w w1 := (below_drewN w k).trans hb1
      have hc1 : w1.cell? ⟨b, o, none⟩ = some (.int .u64 A) := by rw [hbb.cell (p := ⟨b, o, none⟩) hbl]; exact hc
      have HBB := hide hbb
      clear hbb hb1
      go_wp2_with fail
      refine (gcdWord_any A (B % A) ⟨by omega, hBw⟩ ⟨hmod0, by omega⟩ _).mono ?_
      rintro e w2 ⟨rfl, k2, hw2⟩
      subst hw2
      go_wp2_with fail
      refine (word_any _ (gcd_word ⟨by omega, hBw⟩ ⟨hmod0, by omega⟩) _).mono ?_
      rintro e w3 ⟨v3, rfl, hv3, hb3⟩
      have hbw3 : Below w.heap.size w w3 := (unhide HBB).trans (((below_drewN w1 k2).trans hb3).mono (unhide HBB).size)
      clear HBB
      go_wp2
      go_ret
      refine ⟨_, rfl, ?_, hbw3⟩
      rw [← unhide HG]
      exact hv3
  · have hcs : ∃ t, Wd.sg A B = t ∧ 0 ≤ t ∧ t ≤ 1 := by
      rcases Int.lt_or_le B A with h | h
      · exact ⟨1, Wd.sg_gt h, by decide, by decide⟩
      · exact ⟨0, Wd.sg_eq (by omega), by decide, by decide⟩
    obtain ⟨t, ht, ht0, ht1⟩ := hcs
    rw [ht] at HCM
    have htd : decide (t < 0) = false := decide_eq_false (by omega)
    clear ht ht0 ht1
    by_cases hz : B = 0
    · subst hz
      have hn0 : n' = 0 := (unhide HL').of_zero
      subst hn0
      have HN := hide (show NatIs w (.slice a n c) A from ⟨_, _, _, rfl, unhide HL, unhide HA⟩)
      have HG := hide (show (Int.gcd A 0 : Int) = A by rw [Int.gcd_zero_right]; have := (unhide HL).1; omega)
      go_enter Tryd.func41, Tryd.ntmps41
      go_wp2_with fail
      refine (unhide HO1).mono ?_
      rintro e w' ⟨rfl, hw'⟩
      obtain rfl := hw'.symm
      go_wp2_with fail
      refine (unhide HO2).mono ?_
      rintro e w' ⟨rfl, hw'⟩
      obtain rfl := hw'.symm
      go_wp2_with fail
      refine (unhide HCM).mono ?_
      rintro e w' ⟨rfl, k, hw'⟩
      subst hw'
      go_wp2
      go_ret
      refine ⟨_, rfl, ?_, below_drewN w k⟩
      rw [unhide HG]
      exact (unhide HN).below (below_drewN w k)
    · have hB0 := (unhide HL').1
      have hBp : 0 < B := by omega
      have hBw : B < 18446744073709551616 := by omega
      obtain ⟨hn1, b, o, hab, hbl, hc⟩ := natIs_word (unhide HL') (unhide HB) hBp hBw
      subst hn1
      subst hab
      have HN := hide (show NatIs w (.slice a n c) A from ⟨_, _, _, rfl, unhide HL, unhide HA⟩)
      have HG := hide (show Int.gcd B (A % B) = Int.gcd A B by exact gcd_emod A B)
      have hmod0 : 0 ≤ A % B := Int.emod_nonneg _ (by omega)
      have hmod1 : A % B < B := Int.emod_lt_of_pos _ hBp
      go_enter Tryd.func41, Tryd.ntmps41
      go_wp2_with fail
      refine (unhide HO1).mono ?_
      rintro e w' ⟨rfl, hw'⟩
      obtain rfl := hw'.symm
      go_wp2_with fail
      refine (unhide HO2).mono ?_
      rintro e w' ⟨rfl, hw'⟩
      obtain rfl := hw'.symm
      go_wp2_with fail
      refine (unhide HCM).mono ?_
      rintro e w' ⟨rfl, k, hw'⟩
      subst hw'
      go_wp2_with fail
      refine (divideWord_any (.slice a n c) A B _ ((unhide HN).below (below_drewN w k)) hAs hBp hBw).mono ?_
      rintro e w1 ⟨v1, rfl, _, hb1⟩
      have hbb : Below w.heap.size w w1 := (below_drewN w k).trans hb1
      have hc1 : w1.cell? ⟨b, o, none⟩ = some (.int .u64 B) := by rw [hbb.cell (p := ⟨b, o, none⟩) hbl]; exact hc
      have HBB := hide hbb
      clear hbb hb1
      go_wp2_with fail
      refine (gcdWord_any B (A % B) ⟨by omega, hBw⟩ ⟨hmod0, by omega⟩ _).mono ?_
      rintro e w2 ⟨rfl, k2, hw2⟩
      subst hw2
      go_wp2_with fail
      refine (word_any _ (gcd_word ⟨by omega, hBw⟩ ⟨hmod0, by omega⟩) _).mono ?_
      rintro e w3 ⟨v3, rfl, hv3, hb3⟩
      have hbw3 : Below w.heap.size w w3 := (unhide HBB).trans (((below_drewN w1 k2).trans hb3).mono (unhide HBB).size)
      clear HBB
      go_wp2
      go_ret
      refine ⟨_, rfl, ?_, hbw3⟩
      rw [← unhide HG]
      exact hv3

set_option maxHeartbeats 4000000 in
set_option maxRecDepth 100000 in
theorem divide_small (va vb : Value) (A B : Int) (w : World) (ha : NatIs w va A) (hb : NatIs w vb B) (hAs : Sm A) (hB0 : 0 < B) (hmin : A < B ∨ B < 18446744073709551616) :
    Calls Tryd.prog 72 #[va, vb] w fun e w' => ∃ v1 v2, e = .returned (.tuple #[v1, v2]) ∧ NatIs w' v1 (A / B) ∧ NatIs w' v2 (A % B) ∧ Below w.heap.size w w' := by
  have HN := hide ha
  have HCM := hide (cmp_any va vb A B w ha hb)
  have hA0 := ha.nn
  by_cases hlt : A < B
  · rw [Wd.sg_lt hlt] at HCM
    have HQ := hide (show A / B = 0 from Int.ediv_eq_zero_of_lt hA0 hlt)
    have HR := hide (show A % B = A from Int.emod_eq_of_lt hA0 hlt)
    obtain ⟨a, n, c, rfl, hl, hra⟩ := ha
    obtain ⟨a', n', c', rfl, hl', hrb⟩ := hb
    clear hl hl' hra hrb hmin
    go_enter Tryd.func72, Tryd.ntmps72
    go_wp2_with fail
    refine (unhide HCM).mono ?_
    rintro e w' ⟨rfl, k, hw'⟩
    subst hw'
    go_wp2
    go_ret2
    refine ⟨_, _, rfl, ?_, ?_, below_drewN w k⟩
    · rw [unhide HQ]; exact natIs_zero _ _ _ (by decide)
    · rw [unhide HR]; exact (unhide HN).below (below_drewN w k)
  · have hcs : ∃ t, Wd.sg A B = t ∧ 0 ≤ t ∧ t ≤ 1 := by
      rcases Int.lt_or_le B A with h | h
      · exact ⟨1, Wd.sg_gt h, by decide, by decide⟩
      · exact ⟨0, Wd.sg_eq (by omega), by decide, by decide⟩
    obtain ⟨t, ht, ht0, ht1⟩ := hcs
    rw [ht] at HCM
    have htd : decide (t < 0) = false := decide_eq_false (by omega)
    have hBw : B < 18446744073709551616 := by omega
    obtain ⟨a, n, c, rfl, hl, hra⟩ := ha
    obtain ⟨a', n', c', rfl, hl', hrb⟩ := hb
    obtain ⟨hn1, b, o, hab, hbl, hc⟩ := natIs_word hl' hrb hB0 hBw
    subst hn1
    subst hab
    have hmod0 : 0 ≤ A % B := Int.emod_nonneg _ (by omega)
    have hmod1 : A % B < B := Int.emod_lt_of_pos _ hB0
    clear ht ht0 ht1 hl hl' hra hrb hmin
    go_enter Tryd.func72, Tryd.ntmps72
    go_wp2_with fail
    refine (unhide HCM).mono ?_
    rintro e w' ⟨rfl, k, hw'⟩
    subst hw'
    go_wp2_with fail
    refine (divideWord_any (.slice a n c) A B _ ((unhide HN).below (below_drewN w k)) hAs hB0 hBw).mono ?_
    rintro e w1 ⟨v1, rfl, hv1, hb1⟩
    have HV1 := hide hv1
    have HBB := hide (show Below w.heap.size w w1 from (below_drewN w k).trans hb1)
    clear hv1 hb1
    go_wp2_with fail
    refine (word_any _ ⟨hmod0, by omega⟩ _).mono ?_
    rintro e w3 ⟨v3, rfl, hv3, hb3⟩
    have hbw3 : Below w.heap.size w w3 := (unhide HBB).trans (hb3.mono (unhide HBB).size)
    have HV3 := hide hv3
    clear hv3
    go_wp2
    go_ret2
    exact ⟨_, _, rfl, (unhide HV1).below hb3, unhide HV3, hbw3⟩

set_option maxHeartbeats 1000000 in
theorem quotient_small (va vb : Value) (A B : Int) (w : World) (ha : NatIs w va A) (hb : NatIs w vb B) (hAs : Sm A) (hB0 : 0 < B) (hmin : A < B ∨ B < 18446744073709551616) :
    Calls Tryd.prog 43 #[va, vb] w fun e w' => ∃ v, e = .returned v ∧ NatIs w' v (A / B) ∧ Below w.heap.size w w' := by
  have HO := hide (isOne_any vb B w hb)
  have HD := hide (divide_small va vb A B w ha hb hAs hB0 hmin)
  have HN := hide ha
  obtain ⟨a, n, c, rfl, hl, hra⟩ := ha
  obtain ⟨a', n', c', rfl, hl', hrb⟩ := hb
  clear hl hl' hra hrb hmin
  by_cases h1 : B = 1
  · subst h1
    rw [show ((1 : Int) == 1) = true from rfl] at HO
    rw [Int.ediv_one]
    go_enter Tryd.func43, Tryd.ntmps43
    go_wp2_with fail
    refine (unhide HO).mono ?_
    rintro e w' ⟨rfl, hw'⟩
    obtain rfl := hw'.symm
    go_wp2
    go_ret
    exact ⟨_, rfl, unhide HN, Below.refl _ _⟩
  · rw [show (B == 1) = false by rw [beq_eq_false_iff_ne]; exact h1] at HO
    go_enter Tryd.func43, Tryd.ntmps43
    go_wp2_with fail
    refine (unhide HO).mono ?_
    rintro e w' ⟨rfl, hw'⟩
    obtain rfl := hw'.symm
    go_wp2_with fail
    refine (unhide HD).mono ?_
    rintro e w1 ⟨v1, v2, rfl, hv1, hv2, hb1⟩
    go_wp2
    go_ret
    exact ⟨_, rfl, hv1, hb1⟩
end Go.Proofs.YtdicbnchkfclaaaDoor
