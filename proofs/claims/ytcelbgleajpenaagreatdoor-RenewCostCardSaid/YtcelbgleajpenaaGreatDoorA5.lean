/- The greatest number that divides both, of two numbers of which one is a word; quotients by a word. -/
import Derived.Test.YtcelbgleajpenaaGreatDoorA3
import Derived.Test.YtcelbgleajpenaaGreatDoorA4
namespace Go.Proofs.YtcelbgleajpenaaGreatDoor
open Go.RowKit Go.Sort Go.Shelf

theorem sm_word {x : Int} (h : x < 18446744073709551616) : Sm x := by
 have : Wd.pw 1 ≤ Wd.pw KK := Wd.pw_mono (by decide)
 rw [Wd.pw_one] at this
 exact Int.lt_of_lt_of_le h this

set_option maxHeartbeats 4000000 in
set_option maxRecDepth 100000 in
theorem gcd_small (va vb : Value) (A B : Int) (w : World) (ha : NatIs w va A) (hb : NatIs w vb B) (hAs : Sm A) (hBs : Sm B) (hmin : A < 18446744073709551616 ∨ B < 18446744073709551616) :
  Calls Tryz.prog 104 #[va, vb] w fun e w' => ∃ v, e = .returned v ∧ NatIs w' v (Int.gcd A B) ∧ Below w.heap.size w w' := by
 have ha' := ha
 have hb' := hb
 obtain ⟨a, n, c, rfl, hl, hra⟩ := ha
 obtain ⟨a', n', c', rfl, hl', hrb⟩ := hb
 have hnc := hra.1
 have hcc := hra.2.1
 have hnc' := hrb.1
 have hcc' := hrb.2.1
 have HL := hide hl
 have HL' := hide hl'
 have HA := hide hra
 have HB := hide hrb
 have HO1 := hide (isOne_any (.slice a n c) A w ha')
 have HO2 := hide (isOne_any (.slice a' n' c') B w hb')
 have HCM := hide (cmp_any (.slice a n c) (.slice a' n' c') A B w ha' hb')
 clear ha' hb' hl hl' hra hrb
 by_cases h1 : A = 1
 ·subst h1
  rw [show ((1 : Int) == 1) = true from rfl] at HO1
  have HG := hide (show Int.gcd 1 B = 1 from Int.gcd_one_left _)
  go_enter Tryz.func104, Tryz.ntmps104
  go_wp2_with fail
  refine (unhide HO1).mono ?_
  rintro e w' ⟨rfl, hw'⟩
  obtain rfl := hw'.symm
  go_wp2_with (go_at_call 98; refine (one_any _).mono ?_; rintro e w1 ⟨v1, rfl, hv1, hb1⟩)
  go_ret
  refine ⟨_, rfl, ?_, hb1⟩
  rw [unhide HG]
  exact hv1
 rw [show (A == 1) = false by rw [beq_eq_false_iff_ne]; exact h1] at HO1
 by_cases h2 : B = 1
 ·subst h2
  rw [show ((1 : Int) == 1) = true from rfl] at HO2
  have HG := hide (show Int.gcd A 1 = 1 from Int.gcd_one_right _)
  go_enter Tryz.func104, Tryz.ntmps104
  go_wp2_with fail
  refine (unhide HO1).mono ?_
  rintro e w' ⟨rfl, hw'⟩
  obtain rfl := hw'.symm
  go_wp2_with fail
  refine (unhide HO2).mono ?_
  rintro e w' ⟨rfl, hw'⟩
  obtain rfl := hw'.symm
  go_wp2_with (go_at_call 98; refine (one_any _).mono ?_; rintro e w1 ⟨v1, rfl, hv1, hb1⟩)
  go_ret
  refine ⟨_, rfl, ?_, hb1⟩
  rw [unhide HG]
  exact hv1
 rw [show (B == 1) = false by rw [beq_eq_false_iff_ne]; exact h2] at HO2
 by_cases hlt : A < B
 ·rw [Wd.sg_lt hlt] at HCM
  by_cases hz : A = 0
  ·subst hz
   have hn0 : n = 0 := (unhide HL).of_zero
   subst hn0
   have HN := hide (show NatIs w (.slice a' n' c') B from ⟨_, _, _, rfl, unhide HL', unhide HB⟩)
   have HG := hide (show (Int.gcd 0 B : Int) = B by rw [Int.gcd_zero_left]; have := (unhide HL').1; omega)
   go_enter Tryz.func104, Tryz.ntmps104
   go_wp2_with fail
   refine (unhide HO1).mono ?_
   rintro e w' ⟨rfl, hw'⟩
   obtain rfl := hw'.symm
   go_wp2_with fail
   refine (unhide HO2).mono ?_
   rintro e w' ⟨rfl, hw'⟩
   obtain rfl := hw'.symm
   go_wp2_with fail
   refine (unhide HCM).mono ?_
   rintro e w' ⟨rfl, k, hw'⟩
   subst hw'
   go_wp2
   go_ret
   refine ⟨_, rfl, ?_, below_drewN w k⟩
   rw [unhide HG]
   exact (unhide HN).below (below_drewN w k)
  ·have hB0 := (unhide HL).1
   have hBp : 0 < A := by omega
   have hBw : A < 18446744073709551616 := by omega
   obtain ⟨hn1, b, o, hab, hbl, hc⟩ := natIs_word (unhide HL) (unhide HA) hBp hBw
   subst hn1
   subst hab
   have HN := hide (show NatIs w (.slice a' n' c') B from ⟨_, _, _, rfl, unhide HL', unhide HB⟩)
   have HG := hide (show Int.gcd A (B % A) = Int.gcd A B by rw [gcd_emod, Int.gcd_comm])
   have hmod0 : 0 ≤ B % A := Int.emod_nonneg _ (by omega)
   have hmod1 : B % A < A := Int.emod_lt_of_pos _ hBp
   go_enter Tryz.func104, Tryz.ntmps104
   go_wp2_with fail
   refine (unhide HO1).mono ?_
   rintro e w' ⟨rfl, hw'⟩
   obtain rfl := hw'.symm
   go_wp2_with fail
   refine (unhide HO2).mono ?_
   rintro e w' ⟨rfl, hw'⟩
   obtain rfl := hw'.symm
   go_wp2_with fail
   refine (unhide HCM).mono ?_
   rintro e w' ⟨rfl, k, hw'⟩
   subst hw'
   go_wp2_with fail
   refine (divideWord_any (.slice a' n' c') B A _ ((unhide HN).below (below_drewN w k)) hBs hBp hBw).mono ?_
   rintro e w1 ⟨v1, rfl, _, hb1⟩
   have hbb : Below w.heap.size w w1 := (below_drewN w k).trans hb1
   have hc1 : w1.cell? ⟨b, o, none⟩ = some (.int .u64 A) := by rw [hbb.cell (p := ⟨b, o, none⟩) hbl]; exact hc
   have HBB := hide hbb
   clear hbb hb1
   go_wp2_with fail
   refine (gcdWord_any A (B % A) ⟨by omega, hBw⟩ ⟨hmod0, by omega⟩ _).mono ?_
   rintro e w2 ⟨rfl, k2, hw2⟩
   subst hw2
   go_wp2_with fail
   refine (word_any _ (gcd_word ⟨by omega, hBw⟩ ⟨hmod0, by omega⟩) _).mono ?_
   rintro e w3 ⟨v3, rfl, hv3, hb3⟩
   have hbw3 : Below w.heap.size w w3 := (unhide HBB).trans (((below_drewN w1 k2).trans hb3).mono (unhide HBB).size)
   clear HBB
   go_wp2
   go_ret
   refine ⟨_, rfl, ?_, hbw3⟩
   rw [← unhide HG]
   exact hv3
 ·have hcs : ∃ t, Wd.sg A B = t ∧ 0 ≤ t ∧ t ≤ 1 := by
   rcases Int.lt_or_le B A with h | h
   ·exact ⟨1, Wd.sg_gt h, by decide, by decide⟩
   ·exact ⟨0, Wd.sg_eq (by omega), by decide, by decide⟩
  obtain ⟨t, ht, ht0, ht1⟩ := hcs
  rw [ht] at HCM
  have htd : decide (t < 0) = false := decide_eq_false (by omega)
  clear ht ht0 ht1
  by_cases hz : B = 0
  ·subst hz
   have hn0 : n' = 0 := (unhide HL').of_zero
   subst hn0
   have HN := hide (show NatIs w (.slice a n c) A from ⟨_, _, _, rfl, unhide HL, unhide HA⟩)
   have HG := hide (show (Int.gcd A 0 : Int) = A by rw [Int.gcd_zero_right]; have := (unhide HL).1; omega)
   go_enter Tryz.func104, Tryz.ntmps104
   go_wp2_with fail
   refine (unhide HO1).mono ?_
   rintro e w' ⟨rfl, hw'⟩
   obtain rfl := hw'.symm
   go_wp2_with fail
   refine (unhide HO2).mono ?_
   rintro e w' ⟨rfl, hw'⟩
   obtain rfl := hw'.symm
   go_wp2_with fail
   refine (unhide HCM).mono ?_
   rintro e w' ⟨rfl, k, hw'⟩
   subst hw'
   go_wp2
   go_ret
   refine ⟨_, rfl, ?_, below_drewN w k⟩
   rw [unhide HG]
   exact (unhide HN).below (below_drewN w k)
  ·have hB0 := (unhide HL').1
   have hBp : 0 < B := by omega
   have hBw : B < 18446744073709551616 := by omega
   obtain ⟨hn1, b, o, hab, hbl, hc⟩ := natIs_word (unhide HL') (unhide HB) hBp hBw
   subst hn1
   subst hab
   have HN := hide (show NatIs w (.slice a n c) A from ⟨_, _, _, rfl, unhide HL, unhide HA⟩)
   have HG := hide (show Int.gcd B (A % B) = Int.gcd A B by exact gcd_emod A B)
   have hmod0 : 0 ≤ A % B := Int.emod_nonneg _ (by omega)
   have hmod1 : A % B < B := Int.emod_lt_of_pos _ hBp
   go_enter Tryz.func104, Tryz.ntmps104
   go_wp2_with fail
   refine (unhide HO1).mono ?_
   rintro e w' ⟨rfl, hw'⟩
   obtain rfl := hw'.symm
   go_wp2_with fail
   refine (unhide HO2).mono ?_
   rintro e w' ⟨rfl, hw'⟩
   obtain rfl := hw'.symm
   go_wp2_with fail
   refine (unhide HCM).mono ?_
   rintro e w' ⟨rfl, k, hw'⟩
   subst hw'
   go_wp2_with fail
   refine (divideWord_any (.slice a n c) A B _ ((unhide HN).below (below_drewN w k)) hAs hBp hBw).mono ?_
   rintro e w1 ⟨v1, rfl, _, hb1⟩
   have hbb : Below w.heap.size w w1 := (below_drewN w k).trans hb1
   have hc1 : w1.cell? ⟨b, o, none⟩ = some (.int .u64 B) := by rw [hbb.cell (p := ⟨b, o, none⟩) hbl]; exact hc
   have HBB := hide hbb
   clear hbb hb1
   go_wp2_with fail
   refine (gcdWord_any B (A % B) ⟨by omega, hBw⟩ ⟨hmod0, by omega⟩ _).mono ?_
   rintro e w2 ⟨rfl, k2, hw2⟩
   subst hw2
   go_wp2_with fail
   refine (word_any _ (gcd_word ⟨by omega, hBw⟩ ⟨hmod0, by omega⟩) _).mono ?_
   rintro e w3 ⟨v3, rfl, hv3, hb3⟩
   have hbw3 : Below w.heap.size w w3 := (unhide HBB).trans (((below_drewN w1 k2).trans hb3).mono (unhide HBB).size)
   clear HBB
   go_wp2
   go_ret
   refine ⟨_, rfl, ?_, hbw3⟩
   rw [← unhide HG]
   exact hv3

set_option maxHeartbeats 4000000 in
set_option maxRecDepth 100000 in
theorem divide_small (va vb : Value) (A B : Int) (w : World) (ha : NatIs w va A) (hb : NatIs w vb B) (hAs : Sm A) (hB0 : 0 < B) (hmin : A < B ∨ B < 18446744073709551616) :
  Calls Tryz.prog 142 #[va, vb] w fun e w' => ∃ v1 v2, e = .returned (.tuple #[v1, v2]) ∧ NatIs w' v1 (A / B) ∧ NatIs w' v2 (A % B) ∧ Below w.heap.size w w' := by
 have HN := hide ha
 have HCM := hide (cmp_any va vb A B w ha hb)
 have hA0 := ha.nn
 by_cases hlt : A < B
 ·rw [Wd.sg_lt hlt] at HCM
  have HQ := hide (show A / B = 0 from Int.ediv_eq_zero_of_lt hA0 hlt)
  have HR := hide (show A % B = A from Int.emod_eq_of_lt hA0 hlt)
  obtain ⟨a, n, c, rfl, hl, hra⟩ := ha
  obtain ⟨a', n', c', rfl, hl', hrb⟩ := hb
  clear hl hl' hra hrb hmin
  go_enter Tryz.func142, Tryz.ntmps142
  go_wp2_with fail
  refine (unhide HCM).mono ?_
  rintro e w' ⟨rfl, k, hw'⟩
  subst hw'
  go_wp2
  go_ret2
  refine ⟨_, _, rfl, ?_, ?_, below_drewN w k⟩
  ·rw [unhide HQ]; exact natIs_zero _ _ _ (by decide)
  ·rw [unhide HR]; exact (unhide HN).below (below_drewN w k)
 ·have hcs : ∃ t, Wd.sg A B = t ∧ 0 ≤ t ∧ t ≤ 1 := by
   rcases Int.lt_or_le B A with h | h
   ·exact ⟨1, Wd.sg_gt h, by decide, by decide⟩
   ·exact ⟨0, Wd.sg_eq (by omega), by decide, by decide⟩
  obtain ⟨t, ht, ht0, ht1⟩ := hcs
  rw [ht] at HCM
  have htd : decide (t < 0) = false := decide_eq_false (by omega)
  have hBw : B < 18446744073709551616 := by omega
  obtain ⟨a, n, c, rfl, hl, hra⟩ := ha
  obtain ⟨a', n', c', rfl, hl', hrb⟩ := hb
  obtain ⟨hn1, b, o, hab, hbl, hc⟩ := natIs_word hl' hrb hB0 hBw
  subst hn1
  subst hab
  have hmod0 : 0 ≤ A % B := Int.emod_nonneg _ (by omega)
  have hmod1 : A % B < B := Int.emod_lt_of_pos _ hB0
  clear ht ht0 ht1 hl hl' hra hrb hmin
  go_enter Tryz.func142, Tryz.ntmps142
  go_wp2_with fail
  refine (unhide HCM).mono ?_
  rintro e w' ⟨rfl, k, hw'⟩
  subst hw'
  go_wp2_with fail
  refine (divideWord_any (.slice a n c) A B _ ((unhide HN).below (below_drewN w k)) hAs hB0 hBw).mono ?_
  rintro e w1 ⟨v1, rfl, hv1, hb1⟩
  have HV1 := hide hv1
  have HBB := hide (show Below w.heap.size w w1 from (below_drewN w k).trans hb1)
  clear hv1 hb1
  go_wp2_with fail
  refine (word_any _ ⟨hmod0, by omega⟩ _).mono ?_
  rintro e w3 ⟨v3, rfl, hv3, hb3⟩
  have hbw3 : Below w.heap.size w w3 := (unhide HBB).trans (hb3.mono (unhide HBB).size)
  have HV3 := hide hv3
  clear hv3
  go_wp2
  go_ret2
  exact ⟨_, _, rfl, (unhide HV1).below hb3, unhide HV3, hbw3⟩

set_option maxHeartbeats 1000000 in
theorem quotient_small (va vb : Value) (A B : Int) (w : World) (ha : NatIs w va A) (hb : NatIs w vb B) (hAs : Sm A) (hB0 : 0 < B) (hmin : A < B ∨ B < 18446744073709551616) :
  Calls Tryz.prog 106 #[va, vb] w fun e w' => ∃ v, e = .returned v ∧ NatIs w' v (A / B) ∧ Below w.heap.size w w' := by
 have HO := hide (isOne_any vb B w hb)
 have HD := hide (divide_small va vb A B w ha hb hAs hB0 hmin)
 have HN := hide ha
 obtain ⟨a, n, c, rfl, hl, hra⟩ := ha
 obtain ⟨a', n', c', rfl, hl', hrb⟩ := hb
 clear hl hl' hra hrb hmin
 by_cases h1 : B = 1
 ·subst h1
  rw [show ((1 : Int) == 1) = true from rfl] at HO
  rw [Int.ediv_one]
  go_enter Tryz.func106, Tryz.ntmps106
  go_wp2_with fail
  refine (unhide HO).mono ?_
  rintro e w' ⟨rfl, hw'⟩
  obtain rfl := hw'.symm
  go_wp2
  go_ret
  exact ⟨_, rfl, unhide HN, Below.refl _ _⟩
 ·rw [show (B == 1) = false by rw [beq_eq_false_iff_ne]; exact h1] at HO
  go_enter Tryz.func106, Tryz.ntmps106
  go_wp2_with fail
  refine (unhide HO).mono ?_
  rintro e w' ⟨rfl, hw'⟩
  obtain rfl := hw'.symm
  go_wp2_with fail
  refine (unhide HD).mono ?_
  rintro e w1 ⟨v1, v2, rfl, hv1, hv2, hb1⟩
  go_wp2
  go_ret
  exact ⟨_, rfl, hv1, hb1⟩
end Go.Proofs.YtcelbgleajpenaaGreatDoor
/- Long division: numbers of any length. -/
namespace Go.Proofs.YtcelbgleajpenaaGreatDoor
open Go.RowKit Go.Sort Go.Shelf

theorem below_drew (B : Nat) (w : World) (z : Nat) : Below B w (w.drewN z) := ⟨rfl, rfl, rfl, Nat.le_refl _, fun _ _ => rfl⟩

theorem norm_len {B : Int} {k s : Nat} (hl : Wd.Len B (k + 2)) (h1 : Wd.dig B (k + 1) * 2 ^ s < 18446744073709551616) (hs : s ≤ 63) : Wd.Len (B * 2 ^ s) (k + 2) := by
 have hS := pow_pos2 s
 have hB0 := Wd.Len.pos hl (by omega)
 have hp := Wd.pw_pos (k + 1)
 have e := Wd.vl_succ (Wd.dig B) (k + 1)
 rw [Wd.vl_dig_all hl.1 hl.2.1] at e
 have b := Wd.vl_bd (f := Wd.dig B) (n := k + 1) (fun j _ => Wd.dig_w B j)
 have wt := Wd.dig_w B (k + 1)
 refine ⟨Int.mul_nonneg (by omega) (by omega), ?_, Or.inr ?_⟩
 ·have c1 : (Wd.dig B (k + 1) + 1) * 2 ^ s ≤ 18446744073709551616 := by
   have hSR := pow_split s (by omega)
   have hR := pow_pos2 (64 - s)
   rw [← hSR] at h1 ⊢
   have : Wd.dig B (k + 1) < 2 ^ (64 - s) := by
    rw [Int.mul_comm] at h1
    exact Int.lt_of_mul_lt_mul_left h1 (by omega)
   rw [Int.mul_comm]
   exact Int.mul_le_mul_of_nonneg_left (by omega) (by omega)
  have c2 : B * 2 ^ s < Wd.pw (k + 1) * ((Wd.dig B (k + 1) + 1) * 2 ^ s) := by
   rw [← Int.mul_assoc, Int.mul_add]
   exact Int.mul_lt_mul_of_pos_right (by omega) hS
  have c3 : Wd.pw (k + 1) * ((Wd.dig B (k + 1) + 1) * 2 ^ s) ≤ Wd.pw (k + 1) * 18446744073709551616 := Int.mul_le_mul_of_nonneg_left c1 (by omega)
  have c4 : Wd.pw (k + 2) = Wd.pw (k + 1) * 18446744073709551616 := by rw [Int.mul_comm]; rfl
  rw [c4]; omega
 ·have h2 : Wd.pw (k + 1) ≤ B := by
   rcases hl.2.2 with h | h
   ·omega
   ·exact h
  have : B * 1 ≤ B * 2 ^ s := Int.mul_le_mul_of_nonneg_left (by omega) (by omega)
  show Wd.pw (k + 1) ≤ _
  omega

theorem start_less {A B : Int} {n k s L : Nat} (hA : A < Wd.pw n) (hB : 9223372036854775808 * Wd.pw (k + 1) ≤ B) (hs : s ≤ 63) (hL : L + (k + 1) = n) : A * 2 ^ s < B * Wd.pw L := by
 have hS := pow_pos2 s
 have c1 : A * 2 ^ s < Wd.pw n * 2 ^ s := Int.mul_lt_mul_of_pos_right hA hS
 have c2 : (2 : Int) ^ s ≤ 9223372036854775808 := by
  have : (2 : Int) ^ s ≤ 2 ^ 63 := by
   obtain ⟨r, hr⟩ : ∃ r, s + r = 63 := ⟨63 - s, by omega⟩
   rw [← hr, Int.pow_add]
   have := pow_pos2 r
   have h4 : (2 : Int) ^ s * 1 ≤ 2 ^ s * 2 ^ r := Int.mul_le_mul_of_nonneg_left (by omega) (by omega)
   omega
  exact this
 have hp := Wd.pw_pos n
 have c3 : Wd.pw n * 2 ^ s ≤ Wd.pw n * 9223372036854775808 := Int.mul_le_mul_of_nonneg_left c2 (by omega)
 have c4 : 9223372036854775808 * Wd.pw (k + 1) * Wd.pw L ≤ B * Wd.pw L := Int.mul_le_mul_of_nonneg_right hB (Int.le_of_lt (Wd.pw_pos L))
 have c5 : 9223372036854775808 * Wd.pw (k + 1) * Wd.pw L = Wd.pw n * 9223372036854775808 := by
  have e := Wd.pw_add L (k + 1)
  rw [← hL, e]
  generalize Wd.pw L = x
  generalize Wd.pw (k + 1) = y
  rw [Int.mul_assoc, Int.mul_comm y x, Int.mul_comm]
 omega

theorem vl_set_zero (d : Array Int) (i n : Nat) (x : Int) (hi : i < n) (hn : n ≤ d.size) (hz : d[i]! = 0) : Wd.vl (fun j => (d.setIfInBounds i x)[j]!) n = Wd.vl (fun j => d[j]!) n + Wd.pw i * x := by
 obtain ⟨r, rfl⟩ : ∃ r, n = i + (1 + r) := ⟨n - i - 1, by omega⟩
 rw [vl_three, vl_three (fun j => d[j]!)]
 have e1 : Wd.vl (fun j => (d.setIfInBounds i x)[j]!) i = Wd.vl (fun j => d[j]!) i := Wd.vl_congr (fun j hj => getElem!_set_other d i j x (by omega))
 have e2 : Wd.vl (fun j => (d.setIfInBounds i x)[i + j]!) 1 = x := by rw [Wd.vl_one, Nat.add_zero, getElem!_set_same d i x (by omega)]
 have e3 : Wd.vl (fun j => d[i + j]!) 1 = 0 := by rw [Wd.vl_one, Nat.add_zero, hz]
 have e4 : Wd.vl (fun j => (d.setIfInBounds i x)[i + (1 + j)]!) r = Wd.vl (fun j => d[i + (1 + j)]!) r := Wd.vl_congr (fun j hj => getElem!_set_other d i _ x (by omega))
 rw [e1, e2, e3, e4]; omega

structure DivAt (W wr : World) (g2 g3 n L m : Nat) (A B : Int) (dL dW : Array Int) : Prop where
 oL : OwnRow wr g2 dL
 oW : OwnRow wr g3 dW
 sL : dL.size = n
 sW : dW.size = L
 wL : ∀ j, j < n → Wd.W64 dL[j]!
 wW : ∀ j, j < L → Wd.W64 dW[j]!
 z : ∀ j, j < m → dW[j]! = 0
 lt : Wd.vl (fun j => dL[j]!) n < B * Wd.pw m
 eq : Wd.vl (fun j => dL[j]!) n + B * Wd.vl (fun j => dW[j]!) L = A
 bl : Below g2 W wr
 sz : wr.heap.size = W.heap.size

theorem DivAt.step {W wr : World} {g2 g3 n L i k z : Nat} {A B : Int} {dL dW dw : Array Int} (h : DivAt W wr g2 g3 n L (i + 1) A B dL dW) (hne : g2 < g3) (hi : i < L) (hk : dw.size = k + 3) (hin : i + (k + 3) ≤ n) (hB : Wd.Len B (k + 2))
  (hw : ∀ j, j < k + 3 → Wd.W64 dw[j]!) (hr : Wd.vl (fun j => dw[j]!) (k + 3) = Wd.vl (fun j => (win dL i (k + 3))[j]!) (k + 3) % B) (hq : Wd.W64 (Wd.vl (fun j => (win dL i (k + 3))[j]!) (k + 3) / B)) :
  DivAt W (((putRow enc wr g2 i dw).drewN z).setCell ⟨g3, i, none⟩ (.int .u64 (Wd.vl (fun j => (win dL i (k + 3))[j]!) (k + 3) / B))) g2 g3 n L i A B (spl dL dw i) (dW.setIfInBounds i (Wd.vl (fun j => (win dL i (k + 3))[j]!) (k + 3) / B)) := by
 obtain ⟨oL, oW, sL, sW, wL, wW, hz, lt, eq, bl, sz⟩ := h
 have R := div_round sL hk hin wL hB lt eq rfl hr
 refine ⟨own_set_other ((own_spl oL).drewN z) (by omega), own_set ((own_other oW (by omega)).drewN z) (by omega), by rw [spl_size]; exact sL, by simpa using sW, ?_, ?_, ?_, R.2, ?_, ?_, ?_⟩
 ·have := spl_words (d := dL) (dw := dw) (i := i) (by rw [sL]; exact wL) (by rw [hk]; exact hw)
  rw [sL] at this; exact this
 ·exact words_set wW hq (by omega)
 ·intro j hj; rw [getElem!_set_other dW i j _ (by omega)]; exact hz j (by omega)
 ·rw [vl_set_zero dW i L _ hi (by omega) (hz i (by omega))]; exact R.1
 ·exact ((bl.trans (below_putRow dw (Nat.le_refl _))).trans (below_drew _ _ z)).trans (below_setCell (by omega))
 ·rw [size_setCell]; show (putRow enc wr g2 i dw).heap.size = _; rw [size_putRow]; exact sz
end Go.Proofs.YtcelbgleajpenaaGreatDoor
/- Long division: the walk. -/
namespace Go.Proofs.YtcelbgleajpenaaGreatDoor
open Go.RowKit Go.Sort Go.Shelf

theorem below_on {w w1 w2 : World} (h : Below w.heap.size w w1) (h2 : Below w1.heap.size w1 w2) : Below w.heap.size w w2 := h.trans (h2.mono h.size)

theorem RowIs.under {w w' : World} {b o n c B : Nat} {f : Nat → Int} (h : RowIs w (some ⟨b, o, none⟩) n c f) (hb : Below B w w') (hlt : b < B) (hs : w.heap.size ≤ w'.heap.size) : RowIs w' (some ⟨b, o, none⟩) n c f := by
 obtain ⟨h1, h2, h3⟩ := h
 refine ⟨h1, h2, fun hn => ?_⟩
 obtain ⟨b1, o1, e, hl, hc⟩ := h3 hn
 refine ⟨b1, o1, e, by omega, fun j hj => ?_⟩
 have eb : b = b1 := congrArg Addr.block (Option.some.inj e)
 rw [hb.cell (p := ⟨b1, o1 + j, none⟩) (by show b1 < B; omega)]
 exact hc j hj

theorem takeAway_at {W wr : World} {g1 g2 g3 n L i k c' : Nat} {A B : Int} {dL dW : Array Int} (h : DivAt W wr g2 g3 n L (i + 1) A B dL dW) (hin : i + (k + 3) ≤ n) (hB : Wd.Len B (k + 2)) (hn : n ≤ 9223372036854775807) (h12 : g1 < g2) (h23 : g2 < g3) (hi : i < L)
  (hrb : RowIs wr (some ⟨g1, 0, none⟩) (k + 2) c' (Wd.dig B)) :
  Calls Tryz.prog 169 #[.slice (some ⟨g2, i, none⟩) (k + 3 : Nat) (n - i : Nat), .slice (some ⟨g1, 0, none⟩) (k + 2 : Nat) c'] wr fun e w' => ∃ q, e = .returned (.int .u64 q) ∧
   (∃ u, w'.cell? ⟨g3, i, none⟩ = some u) ∧ w'.frozen? ⟨g3, i, none⟩ = false ∧ ∃ dL' dW', DivAt W (w'.setCell ⟨g3, i, none⟩ (.int .u64 q)) g2 g3 n L i A B dL' dW' := by
 have sL := h.sL
 refine (takeAway_any g2 i (n - i) (win dL i (k + 3)) k (some ⟨g1, 0, none⟩) c' B wr (win_size _ _ _) (own_win h.oL (by omega)) (fun j hj => by rw [win_get _ _ _ _ hj]; exact h.wL _ (by omega)) (by omega) (by omega) hB hrb
  (fun b' o' e => by
   have e' := Option.some.inj e
   have : g1 = b' := congrArg Addr.block e'
   omega) (win_less hin h.wL h.lt)).mono ?_
 rintro e w' ⟨rfl, dw, z, hs, rfl, hw, hv⟩
 have hB0 : 0 < B := Wd.Len.pos hB (by omega)
 have hwb := Wd.vl_bd (f := fun j => (win dL i (k + 3))[j]!) (n := k + 3) (fun j hj => by rw [win_get _ _ _ _ hj]; exact h.wL _ (by omega))
 have hq : Wd.W64 (Wd.vl (fun j => (win dL i (k + 3))[j]!) (k + 3) / B) := by
  refine ⟨Int.ediv_nonneg hwb.1 (by omega), (Int.ediv_lt_iff_lt_mul hB0).2 ?_⟩
  have := win_less hin h.wL h.lt
  rw [Int.mul_comm] at this
  exact this
 have o3 := (own_other (i := i) (dw := dw) h.oW (g' := g2) (by omega)).drewN z
 have hh := o3.holds i (by rw [h.sW]; exact hi)
 rw [Nat.zero_add] at hh
 exact ⟨_, rfl, ⟨_, hh.1⟩, hh.2, _, _, h.step h23 hi hs hin hB hw hv hq⟩

theorem row_trim {w : World} {a : Option Addr} {n c m : Nat} {f : Nat → Int} (h : RowIs w a n c f) (hf : ∀ j, j < n → Wd.W64 (f j)) (hm : m ≤ n) : RowIs w a m c (Wd.dig (Wd.vl f n)) := by
 obtain ⟨h1, h2, h3⟩ := h
 refine ⟨by omega, h2, fun hp => ?_⟩
 obtain ⟨b, o, e, hlt, hc⟩ := h3 (by omega)
 exact ⟨b, o, e, hlt, fun j hj => by rw [hc j (by omega), Wd.dig_vl hf (by omega)]⟩

theorem divAt_start {W : World} {g2 L n m : Nat} {A B : Int} {dL : Array Int} (h2 : OwnRow W g2 dL) (hs : dL.size = n) (hw : ∀ j, j < n → Wd.W64 dL[j]!) (hv : Wd.vl (fun j => dL[j]!) n = A) (hlt : A < B * Wd.pw m) (hg : g2 < W.heap.size) :
  DivAt (W.alloc (.cells (zrow L) 134)) (W.alloc (.cells (zrow L) 134)) g2 W.heap.size n L m A B dL (zs L) := by
 have hb := (Below.refl W.heap.size W).alloc (Nat.le_refl _) (.cells (zrow L) 134)
 refine ⟨h2.below hb hg, own_made W L, hs, zs_size L, hw, fun j _ => by rw [zs_get]; exact ⟨by decide, by decide⟩, fun j _ => zs_get L j, by rw [hv]; exact hlt, ?_, Below.refl _ _, rfl⟩
 rw [hv, Wd.vl_zeros _ _ (fun j _ => zs_get L j)]; omega

set_option maxHeartbeats 4000000 in
set_option maxRecDepth 100000 in
theorem divide_long (a a' : Option Addr) (n c k c' : Nat) (A B : Int) (w : World) (hl : Wd.Len A n) (hra : RowIs w a n c (Wd.dig A)) (hl' : Wd.Len B (k + 2)) (hrb : RowIs w a' (k + 2) c' (Wd.dig B)) (hA : Sm A) (hle : B ≤ A) :
  Calls Tryz.prog 142 #[.slice a n c, .slice a' (k + 2 : Nat) c'] w fun e w' => ∃ v1 v2, e = .returned (.tuple #[v1, v2]) ∧ NatIs w' v1 (A / B) ∧ OwnNat w.heap.size w' v2 (A % B) ∧ Below w.heap.size w w' := by
 have hn := hA.len hl
 have hnk : k + 2 ≤ n := by
  rcases Nat.lt_or_ge n (k + 2) with h | h
  ·have := Wd.Len.lt hl hl' h; omega
  ·exact h
 have hB0 : 0 < B := Wd.Len.pos hl' (by omega)
 have hkB : k + 2 ≤ 1099511627776 := by omega
 have wy := Wd.dig_w B (k + 1)
 have hy0 : 0 < Wd.dig B (k + 1) := by
  have h1 : Wd.pw (k + 1) ≤ B := by
   rcases hl'.2.2 with h | h
   ·omega
   ·exact h
  have := Wd.dig_top (n := k + 1) hl'.2.1 h1
  have := wy.1; omega
 obtain ⟨s, hs, es, hs1, hs2⟩ := lz_bounds (Wd.dig B (k + 1)) hy0 wy.2
 have hLn := norm_len hl' hs2 hs
 have hS := pow_pos2 s
 have hB63 : 9223372036854775808 * Wd.pw (k + 1) ≤ B * 2 ^ s := by
  have e := Wd.vl_succ (Wd.dig B) (k + 1)
  rw [Wd.vl_dig_all hl'.1 hl'.2.1] at e
  have b := Wd.vl_bd (f := Wd.dig B) (n := k + 1) (fun j _ => Wd.dig_w B j)
  have hp := Wd.pw_pos (k + 1)
  have c1 : Wd.pw (k + 1) * (Wd.dig B (k + 1) * 2 ^ s) ≤ B * 2 ^ s := by rw [← Int.mul_assoc]; exact Int.mul_le_mul_of_nonneg_right (by omega) (by omega)
  have c2 : Wd.pw (k + 1) * 9223372036854775808 ≤ Wd.pw (k + 1) * (Wd.dig B (k + 1) * 2 ^ s) := Int.mul_le_mul_of_nonneg_left hs1 (by omega)
  rw [Int.mul_comm]; omega
 have hSB : Sm B := Int.lt_of_le_of_lt hle hA
 have hstart := start_less (L := n - (k + 1)) hl.2.1 hB63 hs (by omega)
 obtain ⟨b', o', rfl, hblt, hcb⟩ := hrb.2.2 (by omega)
 have hcy := hcb (k + 1) (by omega)
 have hcs : ∃ t, Wd.sg A B = t ∧ 0 ≤ t ∧ t ≤ 1 := by
  rcases Int.lt_or_le B A with h | h
  ·exact ⟨1, Wd.sg_gt h, by decide, by decide⟩
  ·exact ⟨0, Wd.sg_eq (by omega), by decide, by decide⟩
 obtain ⟨t, ht, ht0, ht1⟩ := hcs
 have HCM := hide (cmp_any (.slice a n c) (.slice (some ⟨b', o', none⟩) (k + 2 : Nat) c') A B w ⟨_, _, _, rfl, hl, hra⟩ ⟨_, _, _, rfl, hl', hrb⟩)
 rw [ht] at HCM
 have htd : decide (t < 0) = false := decide_eq_false (by omega)
 have HLZ := hide (fun w => Tryz.bits_LeadingZeros64 (Wd.dig B (k + 1)) w (by omega) (by have := wy.2; omega))
 rw [es] at HLZ
 have HSB := hide (fun (W : World) (hb : Below w.heap.size w W) => shifted_any (some ⟨b', o', none⟩) (k + 2) c' B s W hl' (hrb.below hb) hSB hs)
 have HSA := hide (fun (W : World) (hb : Below w.heap.size w W) => shifted_any a n c A s W hl (hra.below hb) hA hs)
 have HLN := hide hLn
 have HST := hide hstart
 have i1 : ((k : Int) + 2 - 1).toNat = k + 1 := by omega
 have z1 : ((k : Int) + 2 == 1) = false := by rw [beq_eq_false_iff_ne]; omega
 have hnc := hra.1
 have hcc := hra.2.1
 have hnc' := hrb.1
 have hcc' := hrb.2.1
 obtain ⟨y, hy⟩ : ∃ y, Wd.dig B (k + 1) = y := ⟨_, rfl⟩
 rw [hy] at hcy HLZ
 have HDS := hide (fun (L W : Int) => Wd.div_scaled (A := A) (B := B) (L := L) (W := W) hS hB0)
 have hA0 := hl.1
 have HA0 := hide hl.1
 clear hl hra hl' hrb hcb hLn hstart hB63 wy hy0 hs1 hs2 es hy ht ht0 ht1 hle hA hSB hA0
 go_enter Tryz.func142, Tryz.ntmps142
 go_wp2_with fail
 refine (unhide HCM).mono ?_
 rintro e w' ⟨rfl, k0, hw'⟩
 subst hw'
 go_wp2_with fail
 refine (unhide HLZ _).mono ?_
 rintro e w' ⟨rfl, hw'⟩
 obtain rfl := hw'.symm
 go_wp2_with fail
 refine (unhide HSB _ (below_drewN w k0)).mono ?_
 rintro e w2 ⟨rfl, d1, hd1s, hd1o, hd1w, hd1v, hd1t, hb2, hsz2⟩
 have g1e : (w.drewN k0).heap.size = w.heap.size := rfl
 rw [g1e] at hd1o hb2 hsz2
 have hbw2 : Below w.heap.size w w2 := (below_drewN w k0).trans hb2
 have hr1 := hd1o.rowIs (c := k + 2 + 1) (by omega) (by omega)
 rw [hd1s] at hr1
 have HTR := hide (trimmed_any _ (k + 2 + 1) (k + 2 + 1) _ w2 hr1 hd1w)
 have hrB := fun (m : Nat) (hm : m ≤ k + 2 + 1) => row_trim hr1 hd1w hm
 rw [hd1v] at HTR hrB
 have HSA2 := hide (unhide HSA w2 hbw2)
 have HRB := hide (hrB (k + 2) (by omega))
 have HBW2 := hide hbw2
 clear hr1 hd1w hd1v hd1t hd1o hb2 hbw2 hrB HSA HSB hd1s HLZ HCM
 go_wp2_with fail
 refine (unhide HTR).mono ?_
 rintro e w' ⟨m, rfl, hm, hlm, hw'⟩
 obtain rfl := hw'.symm
 obtain rfl : m = k + 2 := Wd.Len.uniq hlm (unhide HLN)
 clear hlm hm hw' HTR
 go_wp2_with fail
 refine (unhide HSA2).mono ?_
 rintro e w3 ⟨rfl, d2, hd2s, hd2o, hd2w, hd2v, hd2t, hb3, hsz3⟩
 have hrB3 := (unhide HRB).below hb3
 have hbw3 : Below w.heap.size w w3 := below_on (unhide HBW2) hb3
 obtain ⟨L, hL⟩ : ∃ L, L + (k + 1) = n := ⟨n - (k + 1), by omega⟩
 have eL : n - (k + 1) = L := by omega
 have hST := unhide HST
 rw [eL] at hST
 have D0 := divAt_start (L := L) (m := L) hd2o hd2s hd2w hd2v hST (by omega)
 have hmk := make_row ((n : Int) + 1 - ((k : Int) + 2)) (by omega) (by omega)
 have eL2 : ((n : Int) + 1 - ((k : Int) + 2)).toNat = L := by omega
 have eL3 : (n : Int) + 1 - ((k : Int) + 2) = (L : Int) := by omega
 rw [eL2] at hmk
 rw [eL3] at hmk
 obtain ⟨W, hW⟩ : ∃ W, w3.alloc (.cells (zrow L) 134) = W := ⟨_, rfl⟩
 have hbW : Below w3.heap.size w3 W := by rw [← hW]; exact (Below.refl _ _).alloc (Nat.le_refl _) _
 rw [hW] at D0
 have hrW := hrB3.below hbW
 have HRW := hide hrW
 have HBW := hide (below_on hbw3 hbW)
 have HD0 := hide D0
 have HWE := hide hW
 have HG2 := hide hsz2
 have HG3 := hide (show w3.heap.size = w.heap.size + 2 by omega)
 clear hrW hrB3 hbw3 D0 hW hbW hd2s hd2o hd2w hd2v hd2t hb3 hST HSA2 HRB HBW2 HST hsz3 eL hsz2
 go_wp2_with fail
 rw [unhide HWE]
 go_loopw [10] (fun vi wr => ∃ (m : Nat) (dL dW : Array Int), vi = .int .i64 ((m : Int) - 1) ∧ m ≤ L ∧ DivAt W wr w2.heap.size w3.heap.size (n + 1) L m (A * 2 ^ s) (B * 2 ^ s) dL dW) (fun vi _ => (intOf vi + 1).toNat)
 case atStart => exact ⟨L, d2, zs L, rfl, Nat.le_refl _, unhide HD0⟩
 case round =>
  obtain ⟨m, dL, dW, rfl, hm, D⟩ := hrel
  have HD := hide D
  by_cases hm0 : m = 0
  ·subst hm0
   have hvb := Wd.vl_bd (f := fun j => dL[j]!) (n := n + 1) D.wL
   have hlt0 : Wd.vl (fun j => dL[j]!) (n + 1) < B * 2 ^ s := by have := D.lt; rw [Wd.pw_zero, Int.mul_one] at this; exact this
   have DS := unhide HDS _ _ hvb.1 hlt0 D.eq
   have HU := hide (unshift_any w2.heap.size 0 (n + 1) dL (n + 1) s wr D.sL D.oL.holds D.wL (by omega) hs)
   have HDSS := hide DS
   clear DS hvb hlt0 D HDS
   go_wp2_with fail
   refine (unhide HU).mono ?_
   rintro e w' ⟨rfl, dR, z, hRs, hw', hRw, hRv⟩
   have hg2 := unhide HG2
   have hg3 := unhide HG3
   have oR : OwnRow w' w2.heap.size dR := by rw [hw']; exact ((unhide HD).oL.put (by rw [(unhide HD).sL]; exact hRs)).drewN z
   have oW : OwnRow w' w3.heap.size dW := by rw [hw']; exact (own_other (unhide HD).oW (by omega)).drewN z
   have hbl : Below w.heap.size w w' := by
    rw [hw']
    exact (((unhide HBW).trans ((unhide HD).bl.mono (by omega))).trans ((below_putRow dR (by omega)))).trans (below_drew _ _ z)
   have rW := oW.rowIs (c := L) (by rw [(unhide HD).sW]; exact Nat.le_refl _) (by omega)
   rw [(unhide HD).sW] at rW
   have rR := oR.rowIs (c := n + 1) (by omega) (by omega)
   rw [hRs] at rR
   have HT1 := hide (trimmed_any _ L L _ w' rW (unhide HD).wW)
   have HT2 := hide (trimmed_any _ (n + 1) (n + 1) _ w' rR hRw)
   have HF1 := hide (fun (m : Nat) (hm : m ≤ L) (hl : Wd.Len (Wd.vl (fun j => dW[j]!) L) m) => natIs_trim rW (unhide HD).wW hm hl)
   have HF2 := hide (fun (m : Nat) (hm : m ≤ n + 1) (hl : Wd.Len (Wd.vl (fun j => dR[j]!) (n + 1)) m) => ownNat_trim (base := w.heap.size) (g := w2.heap.size) (k := n + 1) (by omega) oR (by omega) (by rw [hRs]; exact hRw) (by omega) (by omega) hm hl)
   rw [hRs] at HF2
   rw [hRv] at HT2 HF2
   rw [(unhide HDSS).1] at HT1 HF1
   rw [(unhide HDSS).2] at HT2 HF2
   have HBL := hide hbl
   clear hRw hRv oR oW rW rR hbl HU HD HDSS hw' hg2 hg3
   go_wp2_with fail
   refine (unhide HT1).mono ?_
   rintro e w'' ⟨m1, rfl, hm1, hl1, hw''⟩
   obtain rfl := hw''.symm
   have V1 := hide (unhide HF1 m1 hm1 hl1)
   clear hl1 HF1 HT1
   go_wp2_with fail
   refine (unhide HT2).mono ?_
   rintro e w'' ⟨m2, rfl, hm2, hl2, hw''⟩
   obtain rfl := hw''.symm
   have V2 := hide (unhide HF2 m2 hm2 hl2)
   clear hl2 HF2 HT2
   go_wp2
   go_ret2
   exact ⟨_, _, rfl, unhide V1, unhide V2, unhide HBL⟩
  ·obtain ⟨i, rfl⟩ : ∃ i, m = i + 1 := ⟨m - 1, by omega⟩
   have en : ((i + 1 : Nat) : Int) - 1 = (i : Int) := by omega
   have HI := hide (show i + (k + 2) + 1 - i = k + 3 by omega)
   have hg2 := unhide HG2
   have hg3 := unhide HG3
   have hrr := (unhide HRW).under D.bl (by omega) (by have := D.sz; omega)
   have HTA := hide (takeAway_at D (k := k) (c' := k + 2 + 1) (by omega) (unhide HLN) (by omega) (by omega) (by omega) (by omega) hrr)
   rw [en]
   clear hrr D hg2 hg3
   go_wp2_with fail
   rw [unhide HI]
   refine (unhide HTA).mono ?_
   rintro e w' ⟨q, rfl, ⟨u, hcu⟩, hfu, dL', dW', D'⟩
   have HD' := hide D'
   clear D' HTA HD
   go_wp2
   exact ⟨⟨i, dL', dW', rfl, by omega, unhide HD'⟩, by simp [intOf]⟩
end Go.Proofs.YtcelbgleajpenaaGreatDoor
/- Division for numbers of any length. -/
namespace Go.Proofs.YtcelbgleajpenaaGreatDoor
open Go.RowKit Go.Sort Go.Shelf

theorem divide_any (va vb : Value) (A B : Int) (w : World) (ha : NatIs w va A) (hb : NatIs w vb B) (hAs : Sm A) (hB0 : 0 < B) :
  Calls Tryz.prog 142 #[va, vb] w fun e w' => ∃ v1 v2, e = .returned (.tuple #[v1, v2]) ∧ NatIs w' v1 (A / B) ∧ NatIs w' v2 (A % B) ∧ Below w.heap.size w w' := by
 rcases Int.lt_or_le A B with h | h
 ·exact divide_small va vb A B w ha hb hAs hB0 (Or.inl h)
 rcases Int.lt_or_le B 18446744073709551616 with h2 | h2
 ·exact divide_small va vb A B w ha hb hAs hB0 (Or.inr h2)
 obtain ⟨a, n, c, rfl, hl, hra⟩ := ha
 obtain ⟨a', n', c', rfl, hl', hrb⟩ := hb
 have hn' : 2 ≤ n' := by
  rcases Nat.lt_or_ge n' 2 with h3 | h3
  ·have := Int.lt_of_lt_of_le hl'.2.1 (Wd.pw_mono (m := n') (n := 1) (by omega))
   rw [Wd.pw_one] at this; omega
  ·exact h3
 obtain ⟨k, rfl⟩ : ∃ k, n' = k + 2 := ⟨n' - 2, by omega⟩
 refine (divide_long a a' n c k c' A B w hl hra hl' hrb hAs h).mono ?_
 rintro e w' ⟨v1, v2, rfl, h1, h2, h3⟩
 exact ⟨v1, v2, rfl, h1, h2.natIs, h3⟩

set_option maxHeartbeats 1000000 in
theorem quotient_any (va vb : Value) (A B : Int) (w : World) (ha : NatIs w va A) (hb : NatIs w vb B) (hAs : Sm A) (hB0 : 0 < B) :
  Calls Tryz.prog 106 #[va, vb] w fun e w' => ∃ v, e = .returned v ∧ NatIs w' v (A / B) ∧ Below w.heap.size w w' := by
 have HO := hide (isOne_any vb B w hb)
 have HD := hide (divide_any va vb A B w ha hb hAs hB0)
 have HN := hide ha
 obtain ⟨a, n, c, rfl, hl, hra⟩ := ha
 obtain ⟨a', n', c', rfl, hl', hrb⟩ := hb
 clear hl hl' hra hrb
 by_cases h1 : B = 1
 ·subst h1
  rw [show ((1 : Int) == 1) = true from rfl] at HO
  rw [Int.ediv_one]
  go_enter Tryz.func106, Tryz.ntmps106
  go_wp2_with fail
  refine (unhide HO).mono ?_
  rintro e w' ⟨rfl, hw'⟩
  obtain rfl := hw'.symm
  go_wp2
  go_ret
  exact ⟨_, rfl, unhide HN, Below.refl _ _⟩
 ·rw [show (B == 1) = false by rw [beq_eq_false_iff_ne]; exact h1] at HO
  go_enter Tryz.func106, Tryz.ntmps106
  go_wp2_with fail
  refine (unhide HO).mono ?_
  rintro e w' ⟨rfl, hw'⟩
  obtain rfl := hw'.symm
  go_wp2_with fail
  refine (unhide HD).mono ?_
  rintro e w1 ⟨v1, v2, rfl, hv1, hv2, hb1⟩
  go_wp2
  go_ret
  exact ⟨_, rfl, hv1, hb1⟩
end Go.Proofs.YtcelbgleajpenaaGreatDoor
