/- StopChosen: the walk. -/
import Derived.Test.YtjadhoembmenkaaGreatDoorBG
import Derived.Test.YtjadhoembmenkaaGreatDoorB45
import Derived.Test.YtjadhoembmenkaaGreatDoorCH1
import Derived.Test.YtjadhoembmenkaaGreatDoorB48
import Derived.Test.YtjadhoembmenkaaGreatDoorBI
import Derived.Test.YtjadhoembmenkaaGreatDoorBH
namespace Go.Proofs.YtjadhoembmenkaaGreatDoor
open Go.RowKit Go.Sort Go.Shelf

set_option maxHeartbeats 4000000 in
set_option maxRecDepth 100000 in
set_option linter.unusedSimpArgs false in
theorem refSub_any (b1 b2 i j : Nat) (qx qy : Rat) (w : World) (x : BRz w b1 0 qx) (y : BRz w b2 0 qy) (rx : RS qx i) (ry : RS qy j) (hij : i + j ≤ 400000) :
    Calls Tryz.prog 24 #[.pointer (some ⟨b1, 0, none⟩), .pointer (some ⟨b2, 0, none⟩)] w (NewsZ w (qx - qy)) := by
  have k := slotR_new w
  have bA := abelow w (.cells #[.bool false, .slice none 0 0, .bool false, .slice none 0 0] 60)
  obtain ⟨W0, hW0⟩ : ∃ W, w.alloc (.cells #[.bool false, .slice none 0 0, .bool false, .slice none 0 0] 60) = W := ⟨_, rfl⟩
  obtain ⟨g, hg⟩ : ∃ g, w.heap.size = g := ⟨_, rfl⟩
  rw [hW0, hg] at k
  rw [hW0] at bA
  have HS := hide (rsub_any g 0 b1 0 b2 0 i j qx qy W0 k (x.below bA) (y.below bA) rx ry hij)
  have HB := hide bA
  have HG := hide hg
  clear k bA x y rx ry hij
  go_enter Tryz.func24, Tryz.ntmps24
  go_wp2_with fail
  clear hW0 hg
  refine (unhide HS).mono ?_
  rintro e w1 ⟨rfl, hr, hf⟩
  have HR := hide hr
  have HF := hide (hf w (unhide HB) (Nat.le_of_eq (unhide HG)))
  clear hr hf HS
  go_wp2
  go_ret
  exact ⟨g, rfl, Nat.le_of_eq (unhide HG), (unhide HR).z, unhide HF⟩
end Go.Proofs.YtjadhoembmenkaaGreatDoor
namespace Go.Proofs.YtjadhoembmenkaaGreatDoor
open Go.RowKit Go.Sort Go.Shelf

theorem ch_cast (k : Nat) : ((k : Int) : Rat) = (k : Rat) := rfl
theorem ch_div (x : Int) (n : Nat) : Rat.divInt x (n : Int) = (x : Rat) / (n : Rat) := Rat.divInt_eq_div x (n : Int)
theorem ch_ne {n : Nat} (h : 1 ≤ n) : (n : Rat) ≠ 0 := by
  have : (n : Rat) ≠ ((0 : Nat) : Rat) := fun e => by
    have := Rat.natCast_inj.1 e
    omega
  exact this
theorem ch_self {a : Rat} (h : a ≠ 0) : a / a = 1 := by rw [Rat.div_def, Rat.mul_inv_cancel _ h]
theorem ch_win {n r j : Nat} (hn : 1 ≤ n) (hr : 1 ≤ r) : cvs r j * Rat.divInt 1 (n : Int) + Rat.divInt (r : Int) ((r + j : Nat) : Int) * (((1 : Int) : Rat) / (((r + 1 + j : Nat) : Int) : Rat) * ((((r + 1 + j : Nat) : Int) : Rat) / ((n : Int) : Rat))) = cvs r (j + 1) * Rat.divInt 1 (n : Int) := by
  have e : cvs r (j + 1) = cvs r j + Rat.divInt (r : Int) ((r + j : Nat) : Int) := rfl
  rw [e, ch_cast, ch_cast, ch_div 1 n]
  have hk := ch_ne (n := r + 1 + j) (by omega)
  have hn' := ch_ne hn
  have e2 : ((1 : Int) : Rat) / ((r + 1 + j : Nat) : Rat) * (((r + 1 + j : Nat) : Rat) / (n : Rat)) = ((1 : Int) : Rat) / (n : Rat) := by
    rw [Rat.div_def, Rat.div_def, Rat.div_def, Rat.mul_assoc, ← Rat.mul_assoc (((r + 1 + j : Nat) : Rat))⁻¹, Rat.inv_mul_cancel _ hk, Rat.one_mul]
  rw [e2, Rat.add_mul]
theorem ch_none {r j : Nat} (hr : 1 ≤ r) : Rat.divInt (r : Int) ((r + j : Nat) : Int) * (((1 : Int) : Rat) - ((1 : Int) : Rat) / (((r + 1 + j : Nat) : Int) : Rat)) = Rat.divInt (r : Int) ((r + (j + 1) : Nat) : Int) := by
  rw [ch_cast, ch_div, ch_div]
  have h1 := ch_ne (n := r + j) (by omega)
  have h2 := ch_ne (n := r + 1 + j) (by omega)
  have e1 : ((r + (j + 1) : Nat) : Rat) = ((r + 1 + j : Nat) : Rat) := by rw [show r + (j + 1) = r + 1 + j by omega]
  have e2 : ((r + 1 + j : Nat) : Rat) = ((r + j : Nat) : Rat) + 1 := by rw [show r + 1 + j = (r + j) + 1 by omega]; exact Rat.natCast_add (r + j) 1
  rw [e1]
  have h3 : ((1 : Int) : Rat) = 1 := rfl
  rw [h3]
  have e3 : (1 : Rat) - 1 / ((r + 1 + j : Nat) : Rat) = ((r + j : Nat) : Rat) / ((r + 1 + j : Nat) : Rat) := by
    have a : ((r + 1 + j : Nat) : Rat) / ((r + 1 + j : Nat) : Rat) = 1 := ch_self h2
    have b : (((r + j : Nat) : Rat) + 1) / ((r + 1 + j : Nat) : Rat) = ((r + j : Nat) : Rat) / ((r + 1 + j : Nat) : Rat) + 1 / ((r + 1 + j : Nat) : Rat) := by
      rw [Rat.div_def, Rat.div_def, Rat.div_def, Rat.add_mul]
    rw [← e2, a] at b
    grind
  rw [e3, Rat.div_def, Rat.div_def, Rat.div_def, Rat.mul_assoc, ← Rat.mul_assoc (((r + j : Nat) : Rat))⁻¹, Rat.inv_mul_cancel _ h1, Rat.one_mul]
theorem ch_int_RS {k : Nat} (h : k ≤ 1000) : RS ((k : Int) : Rat) 1 := by
  have := div_RS (x := (k : Int)) (y := 1) (by omega) (by omega) (by omega) (by omega)
  rw [div_one] at this
  exact this
theorem ch_one : RS ((1 : Int) : Rat) 1 := ⟨by decide, by decide⟩
theorem ch_num {k : Nat} (h : 1 ≤ k) : (((k : Int) : Rat)).num ≠ 0 := by
  show (k : Int) ≠ 0
  omega

set_option maxHeartbeats 16000000 in
set_option maxRecDepth 100000 in
set_option linter.unusedSimpArgs false in
theorem refChosen_any (n r : Nat) (hn : 1 ≤ n) (hn1 : n ≤ 100) (hr : r < n) (w : World) : Calls Tryz.prog 7 #[.int .i64 (n : Int), .int .i64 (r : Int)] w (NewsZ w (Stp.sec n r)) := by
  have HB0 := hide (Below.refl w.heap.size w)
  by_cases h0 : r = 0
  · have e0 : ((r : Int) == 0) = true := by rw [beq_iff_eq]; omega
    have HE : Hid (((1 : Int) : Rat) / ((n : Int) : Rat) = Stp.sec n r) := by
      show _ = _
      rw [h0, ← sec_zero, ch_div 1 n]; rfl
    clear h0
    go_enter Tryz.func7, Tryz.ntmps7
    have HC_1 := hide (refIntz_any 1 (by decide) (by decide) w)
    go_wp2_with fail
    refine (unhide HC_1).mono ?_
    rintro e wq_1 ⟨b_one, rfl, hg_1, hr_1, hb_1⟩
    have Hone_1 := hide hr_1
    have HB_1 := hide (bstep (unhide HB0) hb_1)
    clear hg_1 hr_1 hb_1 HC_1 
    have HC_2 := hide (refIntz_any (n : Int) (by omega) (by omega) wq_1)
    go_wp2_with fail
    refine (unhide HC_2).mono ?_
    rintro e wq_2 ⟨b_n, rfl, hg_2, hr_2, hb_2⟩
    have Hone_2 := hide ((unhide Hone_1).below hb_2)
    have Hn_2 := hide hr_2
    have HB_2 := hide (bstep (unhide HB_1) hb_2)
    clear hg_2 hr_2 hb_2 HC_2 Hone_1
    have HC_3 := hide (refQuot_any b_one b_n 1 1 _ _ wq_2 (unhide Hone_2) (unhide Hn_2) (ch_one) (ch_int_RS (by omega)) (by omega) (ch_num hn))
    go_wp2_with fail
    refine (unhide HC_3).mono ?_
    rintro e wq_3 ⟨b_q, rfl, hg_3, hr_3, hb_3⟩
    have HGq := hide (Nat.le_trans (unhide HB_2).size hg_3)
    have Hone_3 := hide ((unhide Hone_2).below hb_3)
    have Hn_3 := hide ((unhide Hn_2).below hb_3)
    have Hq_3 := hide hr_3
    have HB_3 := hide (bstep (unhide HB_2) hb_3)
    clear hg_3 hr_3 hb_3 HC_3 Hone_2 Hn_2
    go_wp2
    go_ret
    exact ⟨b_q, rfl, unhide HGq, by rw [← unhide HE]; exact (unhide Hq_3), unhide HB_3⟩
  have e0 : ((r : Int) == 0) = false := by rw [beq_eq_false_iff_ne]; omega
  have hr1 : 1 ≤ r := by omega
  have HE := hide (sec_is (n := n) h0)
  clear h0
  go_enter Tryz.func7, Tryz.ntmps7
  have HC_1 := hide (refIntz_any 0 (by decide) (by decide) w)
  go_wp2_with fail
  refine (unhide HC_1).mono ?_
  rintro e wq_1 ⟨b_win, rfl, hg_1, hr_1, hb_1⟩
  have HGwin := hide (Nat.le_trans (unhide HB0).size hg_1)
  have Hwin_1 := hide hr_1
  have HB_1 := hide (bstep (unhide HB0) hb_1)
  clear hg_1 hr_1 hb_1 HC_1 
  have HC_2 := hide (refIntz_any 1 (by decide) (by decide) wq_1)
  go_wp2_with fail
  refine (unhide HC_2).mono ?_
  rintro e wq_2 ⟨b_non, rfl, hg_2, hr_2, hb_2⟩
  have Hwin_2 := hide ((unhide Hwin_1).below hb_2)
  have Hnon_2 := hide hr_2
  have HB_2 := hide (bstep (unhide HB_1) hb_2)
  clear hg_2 hr_2 hb_2 HC_2 Hwin_1
  go_wp2_with fail
  go_loopw [5, 6, 7] (fun v5 v6 v7 wr => ∃ (j bw bn : Nat), v7 = .int .i64 ((r + 1 + j : Nat) : Int) ∧ v5 = .pointer (some ⟨bw, 0, none⟩) ∧ v6 = .pointer (some ⟨bn, 0, none⟩) ∧ j ≤ n - r ∧ BRz wr bw 0 (cvs r j * Rat.divInt 1 (n : Int)) ∧ BRz wr bn 0 (Rat.divInt (r : Int) ((r + j : Nat) : Int)) ∧ Below w.heap.size w wr ∧ w.heap.size ≤ bw) (fun _ _ v7 _ => n + 1 - (intOf v7).toNat)
  case atStart => exact ⟨0, b_win, b_non, by go_num, rfl, rfl, Nat.zero_le _, by have e : cvs r 0 * Rat.divInt 1 (n : Int) = ((0 : Int) : Rat) := Rat.zero_mul _; rw [e]; exact (unhide Hwin_2), by have e : Rat.divInt (r : Int) ((r + 0 : Nat) : Int) = ((1 : Int) : Rat) := (by rw [Nat.add_zero, ch_div, ch_cast]; exact ch_self (ch_ne hr1)); rw [e]; exact (unhide Hnon_2), unhide HB_2, unhide HGwin⟩
  case round =>
    obtain ⟨j, b_win, b_non, rfl, rfl, rfl, hj, hwin, hnon, hbl, hge⟩ := hrel
    obtain ⟨kk, hkk⟩ : ∃ k, r + 1 + j = k := ⟨_, rfl⟩
    rw [hkk]
    have HKK := hide hkk
    have HWN := hide hwin
    have HNO := hide hnon
    have HBL := hide hbl
    have HGE := hide hge
    by_cases hlt : j < n - r
    · have e1 : (kk : Int) ≤ (n : Int) := by omega
      have hk1 : kk ≤ 1000 := by omega
      have hk0 : 1 ≤ kk := by omega
      have RWN : Hid (RS (cvs r j * Rat.divInt 1 (n : Int)) 300) := RS.mono ((cvs_RS hr1 (by omega) j (by omega)).mul (div_RS (x := 1) (y := (n : Int)) (by omega) (by omega) (by omega) (by omega))) (by omega)
      have RNO : Hid (RS (Rat.divInt (r : Int) ((r + j : Nat) : Int)) 1) := div_RS (by omega) (by omega) (by omega) (by omega)
      have RQ1 : RS (((1 : Int) : Rat) / ((kk : Int) : Rat)) 2 := RS.mono (RS.div' ch_one (ch_int_RS hk1) (ch_num hk0)) (by omega)
      have RQ2 : RS (((kk : Int) : Rat) / ((n : Int) : Rat)) 2 := RS.mono (RS.div' (ch_int_RS hk1) (ch_int_RS (by omega)) (ch_num hn)) (by omega)
      have RM1 := RQ1.mul RQ2
      have RM2 := (unhide RNO).mul RM1
      have RS1 : RS (((1 : Int) : Rat) - ((1 : Int) : Rat) / ((kk : Int) : Rat)) 4 := RS.mono (RS.sub' ch_one RQ1) (by omega)
      clear hwin hnon hbl hge hkk
      have HC_1 := hide (refIntz_any 1 (by decide) (by decide) wr)
      go_wp2_with fail
      refine (unhide HC_1).mono ?_
      rintro e wq_1 ⟨b_one, rfl, hg_1, hr_1, hb_1⟩
      have Hwin_1 := hide ((unhide HWN).below hb_1)
      have Hnon_1 := hide ((unhide HNO).below hb_1)
      have Hone_1 := hide hr_1
      have HB_1 := hide (bstep (unhide HBL) hb_1)
      clear hg_1 hr_1 hb_1 HC_1 HWN HNO
      have HC_2 := hide (refIntz_any (kk : Int) (by omega) (by omega) wq_1)
      go_wp2_with fail
      refine (unhide HC_2).mono ?_
      rintro e wq_2 ⟨b_k, rfl, hg_2, hr_2, hb_2⟩
      have Hwin_2 := hide ((unhide Hwin_1).below hb_2)
      have Hnon_2 := hide ((unhide Hnon_1).below hb_2)
      have Hone_2 := hide ((unhide Hone_1).below hb_2)
      have Hk_2 := hide hr_2
      have HB_2 := hide (bstep (unhide HB_1) hb_2)
      clear hg_2 hr_2 hb_2 HC_2 Hwin_1 Hnon_1 Hone_1
      have HC_3 := hide (refQuot_any b_one b_k 1 1 _ _ wq_2 (unhide Hone_2) (unhide Hk_2) (ch_one) (ch_int_RS hk1) (by omega) (ch_num hk0))
      go_wp2_with fail
      refine (unhide HC_3).mono ?_
      rintro e wq_3 ⟨b_q1, rfl, hg_3, hr_3, hb_3⟩
      have Hwin_3 := hide ((unhide Hwin_2).below hb_3)
      have Hnon_3 := hide ((unhide Hnon_2).below hb_3)
      have Hone_3 := hide ((unhide Hone_2).below hb_3)
      have Hk_3 := hide ((unhide Hk_2).below hb_3)
      have Hq1_3 := hide hr_3
      have HB_3 := hide (bstep (unhide HB_2) hb_3)
      clear hg_3 hr_3 hb_3 HC_3 Hwin_2 Hnon_2 Hone_2 Hk_2
      clear Hone_3
      clear Hk_3
      have HC_4 := hide (refIntz_any (kk : Int) (by omega) (by omega) wq_3)
      go_wp2_with fail
      refine (unhide HC_4).mono ?_
      rintro e wq_4 ⟨b_k, rfl, hg_4, hr_4, hb_4⟩
      have Hwin_4 := hide ((unhide Hwin_3).below hb_4)
      have Hnon_4 := hide ((unhide Hnon_3).below hb_4)
      have Hq1_4 := hide ((unhide Hq1_3).below hb_4)
      have Hk_4 := hide hr_4
      have HB_4 := hide (bstep (unhide HB_3) hb_4)
      clear hg_4 hr_4 hb_4 HC_4 Hwin_3 Hnon_3 Hq1_3
      have HC_5 := hide (refIntz_any (n : Int) (by omega) (by omega) wq_4)
      go_wp2_with fail
      refine (unhide HC_5).mono ?_
      rintro e wq_5 ⟨b_n, rfl, hg_5, hr_5, hb_5⟩
      have Hwin_5 := hide ((unhide Hwin_4).below hb_5)
      have Hnon_5 := hide ((unhide Hnon_4).below hb_5)
      have Hq1_5 := hide ((unhide Hq1_4).below hb_5)
      have Hk_5 := hide ((unhide Hk_4).below hb_5)
      have Hn_5 := hide hr_5
      have HB_5 := hide (bstep (unhide HB_4) hb_5)
      clear hg_5 hr_5 hb_5 HC_5 Hwin_4 Hnon_4 Hq1_4 Hk_4
      have HC_6 := hide (refQuot_any b_k b_n 1 1 _ _ wq_5 (unhide Hk_5) (unhide Hn_5) (ch_int_RS hk1) (ch_int_RS (by omega)) (by omega) (ch_num hn))
      go_wp2_with fail
      refine (unhide HC_6).mono ?_
      rintro e wq_6 ⟨b_q2, rfl, hg_6, hr_6, hb_6⟩
      have Hwin_6 := hide ((unhide Hwin_5).below hb_6)
      have Hnon_6 := hide ((unhide Hnon_5).below hb_6)
      have Hq1_6 := hide ((unhide Hq1_5).below hb_6)
      have Hk_6 := hide ((unhide Hk_5).below hb_6)
      have Hn_6 := hide ((unhide Hn_5).below hb_6)
      have Hq2_6 := hide hr_6
      have HB_6 := hide (bstep (unhide HB_5) hb_6)
      clear hg_6 hr_6 hb_6 HC_6 Hwin_5 Hnon_5 Hq1_5 Hk_5 Hn_5
      clear Hk_6
      clear Hn_6
      have HC_7 := hide (refMul_any b_q1 b_q2 2 2 _ _ wq_6 (unhide Hq1_6) (unhide Hq2_6) (RQ1) (RQ2) (by omega))
      go_wp2_with fail
      refine (unhide HC_7).mono ?_
      rintro e wq_7 ⟨b_m1, rfl, hg_7, hr_7, hb_7⟩
      have Hwin_7 := hide ((unhide Hwin_6).below hb_7)
      have Hnon_7 := hide ((unhide Hnon_6).below hb_7)
      have Hq1_7 := hide ((unhide Hq1_6).below hb_7)
      have Hq2_7 := hide ((unhide Hq2_6).below hb_7)
      have Hm1_7 := hide hr_7
      have HB_7 := hide (bstep (unhide HB_6) hb_7)
      clear hg_7 hr_7 hb_7 HC_7 Hwin_6 Hnon_6 Hq1_6 Hq2_6
      clear Hq1_7
      clear Hq2_7
      have HC_8 := hide (refMul_any b_non b_m1 1 4 _ _ wq_7 (unhide Hnon_7) (unhide Hm1_7) (unhide RNO) (RM1) (by omega))
      go_wp2_with fail
      refine (unhide HC_8).mono ?_
      rintro e wq_8 ⟨b_m2, rfl, hg_8, hr_8, hb_8⟩
      have Hwin_8 := hide ((unhide Hwin_7).below hb_8)
      have Hnon_8 := hide ((unhide Hnon_7).below hb_8)
      have Hm1_8 := hide ((unhide Hm1_7).below hb_8)
      have Hm2_8 := hide hr_8
      have HB_8 := hide (bstep (unhide HB_7) hb_8)
      clear hg_8 hr_8 hb_8 HC_8 Hwin_7 Hnon_7 Hm1_7
      clear Hm1_8
      have HC_9 := hide (refAdd_any b_win b_m2 300 5 _ _ wq_8 (unhide Hwin_8) (unhide Hm2_8) (unhide RWN) (RM2) (by omega))
      go_wp2_with fail
      refine (unhide HC_9).mono ?_
      rintro e wq_9 ⟨b_win2, rfl, hg_9, hr_9, hb_9⟩
      have HGwin2 := hide (Nat.le_trans (unhide HB_8).size hg_9)
      have Hwin_9 := hide ((unhide Hwin_8).below hb_9)
      have Hnon_9 := hide ((unhide Hnon_8).below hb_9)
      have Hm2_9 := hide ((unhide Hm2_8).below hb_9)
      have Hwin2_9 := hide hr_9
      have HB_9 := hide (bstep (unhide HB_8) hb_9)
      clear hg_9 hr_9 hb_9 HC_9 Hwin_8 Hnon_8 Hm2_8
      clear Hwin_9
      clear Hm2_9
      have HC_10 := hide (refIntz_any 1 (by decide) (by decide) wq_9)
      go_wp2_with fail
      refine (unhide HC_10).mono ?_
      rintro e wq_10 ⟨b_one, rfl, hg_10, hr_10, hb_10⟩
      have Hnon_10 := hide ((unhide Hnon_9).below hb_10)
      have Hwin2_10 := hide ((unhide Hwin2_9).below hb_10)
      have Hone_10 := hide hr_10
      have HB_10 := hide (bstep (unhide HB_9) hb_10)
      clear hg_10 hr_10 hb_10 HC_10 Hnon_9 Hwin2_9
      have HC_11 := hide (refIntz_any 1 (by decide) (by decide) wq_10)
      go_wp2_with fail
      refine (unhide HC_11).mono ?_
      rintro e wq_11 ⟨b_one2, rfl, hg_11, hr_11, hb_11⟩
      have Hnon_11 := hide ((unhide Hnon_10).below hb_11)
      have Hwin2_11 := hide ((unhide Hwin2_10).below hb_11)
      have Hone_11 := hide ((unhide Hone_10).below hb_11)
      have Hone2_11 := hide hr_11
      have HB_11 := hide (bstep (unhide HB_10) hb_11)
      clear hg_11 hr_11 hb_11 HC_11 Hnon_10 Hwin2_10 Hone_10
      have HC_12 := hide (refIntz_any (kk : Int) (by omega) (by omega) wq_11)
      go_wp2_with fail
      refine (unhide HC_12).mono ?_
      rintro e wq_12 ⟨b_k, rfl, hg_12, hr_12, hb_12⟩
      have Hnon_12 := hide ((unhide Hnon_11).below hb_12)
      have Hwin2_12 := hide ((unhide Hwin2_11).below hb_12)
      have Hone_12 := hide ((unhide Hone_11).below hb_12)
      have Hone2_12 := hide ((unhide Hone2_11).below hb_12)
      have Hk_12 := hide hr_12
      have HB_12 := hide (bstep (unhide HB_11) hb_12)
      clear hg_12 hr_12 hb_12 HC_12 Hnon_11 Hwin2_11 Hone_11 Hone2_11
      have HC_13 := hide (refQuot_any b_one2 b_k 1 1 _ _ wq_12 (unhide Hone2_12) (unhide Hk_12) (ch_one) (ch_int_RS hk1) (by omega) (ch_num hk0))
      go_wp2_with fail
      refine (unhide HC_13).mono ?_
      rintro e wq_13 ⟨b_q1, rfl, hg_13, hr_13, hb_13⟩
      have Hnon_13 := hide ((unhide Hnon_12).below hb_13)
      have Hwin2_13 := hide ((unhide Hwin2_12).below hb_13)
      have Hone_13 := hide ((unhide Hone_12).below hb_13)
      have Hone2_13 := hide ((unhide Hone2_12).below hb_13)
      have Hk_13 := hide ((unhide Hk_12).below hb_13)
      have Hq1_13 := hide hr_13
      have HB_13 := hide (bstep (unhide HB_12) hb_13)
      clear hg_13 hr_13 hb_13 HC_13 Hnon_12 Hwin2_12 Hone_12 Hone2_12 Hk_12
      clear Hone2_13
      clear Hk_13
      have HC_14 := hide (refSub_any b_one b_q1 1 2 _ _ wq_13 (unhide Hone_13) (unhide Hq1_13) (ch_one) (RQ1) (by omega))
      go_wp2_with fail
      refine (unhide HC_14).mono ?_
      rintro e wq_14 ⟨b_s1, rfl, hg_14, hr_14, hb_14⟩
      have Hnon_14 := hide ((unhide Hnon_13).below hb_14)
      have Hwin2_14 := hide ((unhide Hwin2_13).below hb_14)
      have Hone_14 := hide ((unhide Hone_13).below hb_14)
      have Hq1_14 := hide ((unhide Hq1_13).below hb_14)
      have Hs1_14 := hide hr_14
      have HB_14 := hide (bstep (unhide HB_13) hb_14)
      clear hg_14 hr_14 hb_14 HC_14 Hnon_13 Hwin2_13 Hone_13 Hq1_13
      clear Hone_14
      clear Hq1_14
      have HC_15 := hide (refMul_any b_non b_s1 1 4 _ _ wq_14 (unhide Hnon_14) (unhide Hs1_14) (unhide RNO) (RS1) (by omega))
      go_wp2_with fail
      refine (unhide HC_15).mono ?_
      rintro e wq_15 ⟨b_non2, rfl, hg_15, hr_15, hb_15⟩
      have Hnon_15 := hide ((unhide Hnon_14).below hb_15)
      have Hwin2_15 := hide ((unhide Hwin2_14).below hb_15)
      have Hs1_15 := hide ((unhide Hs1_14).below hb_15)
      have Hnon2_15 := hide hr_15
      have HB_15 := hide (bstep (unhide HB_14) hb_15)
      clear hg_15 hr_15 hb_15 HC_15 Hnon_14 Hwin2_14 Hs1_14
      clear Hs1_15
      clear Hnon_15
      have HW2 : Hid (BRz wq_15 b_win2 0 (cvs r (j + 1) * Rat.divInt 1 (n : Int))) := by
        show BRz _ _ _ _
        have e := ch_win (n := n) (r := r) (j := j) hn hr1
        rw [unhide HKK] at e
        rw [← e]
        exact (unhide Hwin2_15)
      have HN2 : Hid (BRz wq_15 b_non2 0 (Rat.divInt (r : Int) ((r + (j + 1) : Nat) : Int))) := by
        show BRz _ _ _ _
        have e := ch_none (r := r) (j := j) hr1
        rw [unhide HKK] at e
        rw [← e]
        exact (unhide Hnon2_15)
      go_wp2_with fail
      exact ⟨⟨j + 1, b_win2, b_non2, by have := unhide HKK; rw [show r + 1 + (j + 1) = kk + 1 by omega]; go_num, rfl, rfl, by omega, unhide HW2, unhide HN2, unhide HB_15, unhide HGwin2⟩, by have := unhide HKK; simp [intOf]; omega⟩
    · obtain rfl : j = n - r := by omega
      have e1 : ¬ (kk : Int) ≤ (n : Int) := by omega
      clear hwin hnon hbl hge hkk
      go_wp2
      go_ret
      exact ⟨b_win, rfl, unhide HGE, by rw [← unhide HE]; exact unhide HWN, unhide HBL⟩

end Go.Proofs.YtjadhoembmenkaaGreatDoor
namespace Go.Proofs.YtjadhoembmenkaaGreatDoor
open Go.RowKit Go.Sort Go.Shelf

set_option maxHeartbeats 16000000 in
set_option maxRecDepth 100000 in
set_option linter.unusedSimpArgs false in
theorem stopChosen_any (n r : Int) (w : World) (hn : I64 n) (hr : I64 r) (htab : Tab w) (hg : ErrTy w) : Calls Tryz.prog 3 #[.int .i64 n, .int .i64 r] w fun e w' => e = .returned (.bool true) ∧ Below w.heap.size w w' := by
  have KKe : KK = 1099511627776 := rfl
  have HTB := hide htab
  have HGT := hide hg
  have HI := hide (refIntz_any 0 (by decide) (by decide) w)
  have HN := hide hn
  have HR := hide hr
  clear htab hg
  by_cases hgood : 1 ≤ n ∧ n ≤ 100 ∧ 0 ≤ r ∧ r < n
  · obtain ⟨g1, g2, g3, g4⟩ := hgood
    obtain ⟨m, rfl⟩ : ∃ m : Nat, n = (m : Int) := ⟨n.toNat, by omega⟩
    obtain ⟨s, rfl⟩ : ∃ s : Nat, r = (s : Int) := ⟨r.toNat, by omega⟩
    have f1 : ¬ (m : Int) < 1 := by omega
    have f2 : ¬ (100 : Int) < (m : Int) := by omega
    have f3 : ¬ (s : Int) < 0 := by omega
    have f4 : ¬ (m : Int) ≤ (s : Int) := by omega
    have HC : Hid (∀ W, Calls Tryz.prog 7 #[.int .i64 (m : Int), .int .i64 (s : Int)] W (NewsZ W (Stp.sec m s))) := fun W => refChosen_any m s (by omega) (by omega) (by omega) W
    have HD : Hid (∀ W, Calls Tryz.prog 8 #[.int .i64 (m : Int), .int .i64 (s : Int)] W fun e w' => ∃ v, e = .returned (.tuple #[v, .nilIface]) ∧ RatIs w' v (Stp.sec m s) ∧ Below W.heap.size W w') := fun W => Chosen_any m s (by omega) (by omega) (by omega) W
    have HQ : Hid (RS (Stp.sec m s) 300) := sec_RS (by omega) (by omega) (by omega)
    clear hn hr g1 g2 g3 g4 HN HR
    go_enter Tryz.func3, Tryz.ntmps3
    go_wp2_with fail
    refine (unhide HI).mono ?_
    rintro e w1 ⟨b0, rfl, -, -, hb1⟩
    have HB1 := hide hb1
    clear hb1 HI
    go_wp2_with fail
    refine (unhide HC w1).mono ?_
    rintro e w2 ⟨bw, rfl, -, hx2, hb2⟩
    have HX2 := hide hx2
    have HB2 := hide (bstep (unhide HB1) hb2)
    clear hx2 hb2 HB1 HC
    go_wp2_with fail
    refine (unhide HD w2).mono ?_
    rintro e w3 ⟨v3, rfl, hv3, hb3⟩
    obtain ⟨t, rfl, rt⟩ := tri_of hv3
    simp only [Tri.val]
    have b4 := alloc_below w3 (.cells #[.bool t.s, .slice t.a1 t.n1 t.c1, .slice t.a2 t.n2 t.c2] 29)
    have X4 := BoxIs.new rt
    obtain ⟨W4, hW4⟩ : ∃ W, w3.alloc (.cells #[.bool t.s, .slice t.a1 t.n1 t.c1, .slice t.a2 t.n2 t.c2] 29) = W := ⟨_, rfl⟩
    obtain ⟨g4, hg4⟩ : ∃ g, w3.heap.size = g := ⟨_, rfl⟩
    rw [hW4] at b4 X4
    rw [hg4] at X4
    have ⟨y0, y1, y2⟩ := X4.cells _ (Below.refl _ _)
    have HB4 := hide (bstep (unhide HB2) (bstep hb3 b4))
    have HO := hide (one_ok t.val _ bw 300 W4 X4.2 (unhide HQ) (by decide) (tab_below (unhide HTB) (unhide HB4)) ((unhide HX2).below (bstep hb3 b4)))
    clear hv3 rt hb3 b4 X4 HX2 HB2 HD
    go_wp2_with fail
    clear hW4 hg4 y0 y1 y2
    refine (unhide HO).mono ?_
    rintro e w5 ⟨rfl, hb5⟩
    have HB5 := hide (bstep (unhide HB4) hb5)
    clear hb5 HO
    go_wp2
    go_ret
    exact ⟨rfl, unhide HB5⟩
  have HD : Hid (∀ W, Calls Tryz.prog 8 #[.int .i64 n, .int .i64 r] W fun e w' => e = .returned (.tuple #[.agg #[.bool false, .slice none 0 0, .slice none 0 0], .iface 22 (.int .i64 2)]) ∧ Below W.heap.size W w') := fun W => Chosen_err n r hn.1 hn.2 hr.1 hr.2 hgood W
  by_cases f1 : n < 1
  · clear hgood hn hr HN HR
    go_enter Tryz.func3, Tryz.ntmps3
    go_wp2_with fail
    refine (unhide HI).mono ?_
    rintro e w1 ⟨b0, rfl, -, -, hb1⟩
    have HB1 := hide hb1
    clear hb1 HI
    go_wp2_with fail
    refine (unhide HD w1).mono ?_
    rintro e w3 ⟨rfl, hb3⟩
    have b4 := alloc_below w3 (.cells #[.bool false, .slice none 0 0, .slice none 0 0] 29)
    have X4 := BoxIs.new (w := w3) (t := zTri) (q := 0) (rat_zero _)
    obtain ⟨W4, hW4⟩ : ∃ W, w3.alloc (.cells #[.bool false, .slice none 0 0, .slice none 0 0] 29) = W := ⟨_, rfl⟩
    obtain ⟨g4, hg4⟩ : ∃ g, w3.heap.size = g := ⟨_, rfl⟩
    have X4' : BoxIs W4 g4 zTri 0 := by rw [← hW4, ← hg4]; exact X4
    rw [hW4] at b4
    have ⟨l0, l1, l2⟩ := X4'.free
    have ⟨u0, u1, u2⟩ := X4'.cells _ (Below.refl _ _)
    have u0 : W4.cell? ⟨g4, 0, none⟩ = some (.bool false) := u0
    have u1 : W4.cell? ⟨g4, 1, none⟩ = some (.slice none 0 0) := u1
    have u2 : W4.cell? ⟨g4, 2, none⟩ = some (.slice none 0 0) := u2
    have hge : w3.heap.size ≤ g4 := by omega
    have FIN := X4'.set (t' := zTri) (q' := 0) (rat_zero _)
    have FB := ((b4.setCell (p := ⟨g4, 0, none⟩) hge (.bool false)).setCell (p := ⟨g4, 1, none⟩) hge (.slice none 0 0)).setCell (p := ⟨g4, 2, none⟩) hge (.slice none 0 0)
    have FIN : BoxIs (((W4.setCell ⟨g4, 0, none⟩ (.bool false)).setCell ⟨g4, 1, none⟩ (.slice none 0 0)).setCell ⟨g4, 2, none⟩ (.slice none 0 0)) g4 zTri 0 := FIN
    obtain ⟨W6, hW6⟩ : ∃ W, ((W4.setCell ⟨g4, 0, none⟩ (.bool false)).setCell ⟨g4, 1, none⟩ (.slice none 0 0)).setCell ⟨g4, 2, none⟩ (.slice none 0 0) = W := ⟨_, rfl⟩
    rw [hW6] at FIN FB
    have ⟨y0, y1, y2⟩ := FIN.cells _ (Below.refl _ _)
    have y0 : W6.cell? ⟨g4, 0, none⟩ = some (.bool false) := y0
    have y1 : W6.cell? ⟨g4, 1, none⟩ = some (.slice none 0 0) := y1
    have y2 : W6.cell? ⟨g4, 2, none⟩ = some (.slice none 0 0) := y2
    have HB4 := hide (bstep (unhide HB1) (bstep hb3 FB))
    have HO := hide (one_err (.agg #[.bool false, .slice none 0 0, .slice none 0 0]) b0 2 (by decide) W6 FIN.2 (tab_below (unhide HTB) (unhide HB4)) ((unhide HGT).below (unhide HB4)))
    clear hb3 b4 X4 X4' HD hge FIN FB
    go_wp2_with fail
    clear hW4 hg4 hW6 l0 l1 l2 u0 u1 u2 y0 y1 y2
    refine (unhide HO).mono ?_
    rintro e w5 ⟨rfl, hb5⟩
    have HB5 := hide (bstep (unhide HB4) hb5)
    clear hb5 HO
    go_wp2
    go_ret
    exact ⟨rfl, unhide HB5⟩
  by_cases f2 : 100 < n
  · clear hgood hn hr HN HR
    go_enter Tryz.func3, Tryz.ntmps3
    go_wp2_with fail
    refine (unhide HI).mono ?_
    rintro e w1 ⟨b0, rfl, -, -, hb1⟩
    have HB1 := hide hb1
    clear hb1 HI
    go_wp2_with fail
    refine (unhide HD w1).mono ?_
    rintro e w3 ⟨rfl, hb3⟩
    have b4 := alloc_below w3 (.cells #[.bool false, .slice none 0 0, .slice none 0 0] 29)
    have X4 := BoxIs.new (w := w3) (t := zTri) (q := 0) (rat_zero _)
    obtain ⟨W4, hW4⟩ : ∃ W, w3.alloc (.cells #[.bool false, .slice none 0 0, .slice none 0 0] 29) = W := ⟨_, rfl⟩
    obtain ⟨g4, hg4⟩ : ∃ g, w3.heap.size = g := ⟨_, rfl⟩
    have X4' : BoxIs W4 g4 zTri 0 := by rw [← hW4, ← hg4]; exact X4
    rw [hW4] at b4
    have ⟨l0, l1, l2⟩ := X4'.free
    have ⟨u0, u1, u2⟩ := X4'.cells _ (Below.refl _ _)
    have u0 : W4.cell? ⟨g4, 0, none⟩ = some (.bool false) := u0
    have u1 : W4.cell? ⟨g4, 1, none⟩ = some (.slice none 0 0) := u1
    have u2 : W4.cell? ⟨g4, 2, none⟩ = some (.slice none 0 0) := u2
    have hge : w3.heap.size ≤ g4 := by omega
    have FIN := X4'.set (t' := zTri) (q' := 0) (rat_zero _)
    have FB := ((b4.setCell (p := ⟨g4, 0, none⟩) hge (.bool false)).setCell (p := ⟨g4, 1, none⟩) hge (.slice none 0 0)).setCell (p := ⟨g4, 2, none⟩) hge (.slice none 0 0)
    have FIN : BoxIs (((W4.setCell ⟨g4, 0, none⟩ (.bool false)).setCell ⟨g4, 1, none⟩ (.slice none 0 0)).setCell ⟨g4, 2, none⟩ (.slice none 0 0)) g4 zTri 0 := FIN
    obtain ⟨W6, hW6⟩ : ∃ W, ((W4.setCell ⟨g4, 0, none⟩ (.bool false)).setCell ⟨g4, 1, none⟩ (.slice none 0 0)).setCell ⟨g4, 2, none⟩ (.slice none 0 0) = W := ⟨_, rfl⟩
    rw [hW6] at FIN FB
    have ⟨y0, y1, y2⟩ := FIN.cells _ (Below.refl _ _)
    have y0 : W6.cell? ⟨g4, 0, none⟩ = some (.bool false) := y0
    have y1 : W6.cell? ⟨g4, 1, none⟩ = some (.slice none 0 0) := y1
    have y2 : W6.cell? ⟨g4, 2, none⟩ = some (.slice none 0 0) := y2
    have HB4 := hide (bstep (unhide HB1) (bstep hb3 FB))
    have HO := hide (one_err (.agg #[.bool false, .slice none 0 0, .slice none 0 0]) b0 2 (by decide) W6 FIN.2 (tab_below (unhide HTB) (unhide HB4)) ((unhide HGT).below (unhide HB4)))
    clear hb3 b4 X4 X4' HD hge FIN FB
    go_wp2_with fail
    clear hW4 hg4 hW6 l0 l1 l2 u0 u1 u2 y0 y1 y2
    refine (unhide HO).mono ?_
    rintro e w5 ⟨rfl, hb5⟩
    have HB5 := hide (bstep (unhide HB4) hb5)
    clear hb5 HO
    go_wp2
    go_ret
    exact ⟨rfl, unhide HB5⟩
  by_cases f3 : r < 0
  · clear hgood hn hr HN HR
    go_enter Tryz.func3, Tryz.ntmps3
    go_wp2_with fail
    refine (unhide HI).mono ?_
    rintro e w1 ⟨b0, rfl, -, -, hb1⟩
    have HB1 := hide hb1
    clear hb1 HI
    go_wp2_with fail
    refine (unhide HD w1).mono ?_
    rintro e w3 ⟨rfl, hb3⟩
    have b4 := alloc_below w3 (.cells #[.bool false, .slice none 0 0, .slice none 0 0] 29)
    have X4 := BoxIs.new (w := w3) (t := zTri) (q := 0) (rat_zero _)
    obtain ⟨W4, hW4⟩ : ∃ W, w3.alloc (.cells #[.bool false, .slice none 0 0, .slice none 0 0] 29) = W := ⟨_, rfl⟩
    obtain ⟨g4, hg4⟩ : ∃ g, w3.heap.size = g := ⟨_, rfl⟩
    have X4' : BoxIs W4 g4 zTri 0 := by rw [← hW4, ← hg4]; exact X4
    rw [hW4] at b4
    have ⟨l0, l1, l2⟩ := X4'.free
    have ⟨u0, u1, u2⟩ := X4'.cells _ (Below.refl _ _)
    have u0 : W4.cell? ⟨g4, 0, none⟩ = some (.bool false) := u0
    have u1 : W4.cell? ⟨g4, 1, none⟩ = some (.slice none 0 0) := u1
    have u2 : W4.cell? ⟨g4, 2, none⟩ = some (.slice none 0 0) := u2
    have hge : w3.heap.size ≤ g4 := by omega
    have FIN := X4'.set (t' := zTri) (q' := 0) (rat_zero _)
    have FB := ((b4.setCell (p := ⟨g4, 0, none⟩) hge (.bool false)).setCell (p := ⟨g4, 1, none⟩) hge (.slice none 0 0)).setCell (p := ⟨g4, 2, none⟩) hge (.slice none 0 0)
    have FIN : BoxIs (((W4.setCell ⟨g4, 0, none⟩ (.bool false)).setCell ⟨g4, 1, none⟩ (.slice none 0 0)).setCell ⟨g4, 2, none⟩ (.slice none 0 0)) g4 zTri 0 := FIN
    obtain ⟨W6, hW6⟩ : ∃ W, ((W4.setCell ⟨g4, 0, none⟩ (.bool false)).setCell ⟨g4, 1, none⟩ (.slice none 0 0)).setCell ⟨g4, 2, none⟩ (.slice none 0 0) = W := ⟨_, rfl⟩
    rw [hW6] at FIN FB
    have ⟨y0, y1, y2⟩ := FIN.cells _ (Below.refl _ _)
    have y0 : W6.cell? ⟨g4, 0, none⟩ = some (.bool false) := y0
    have y1 : W6.cell? ⟨g4, 1, none⟩ = some (.slice none 0 0) := y1
    have y2 : W6.cell? ⟨g4, 2, none⟩ = some (.slice none 0 0) := y2
    have HB4 := hide (bstep (unhide HB1) (bstep hb3 FB))
    have HO := hide (one_err (.agg #[.bool false, .slice none 0 0, .slice none 0 0]) b0 2 (by decide) W6 FIN.2 (tab_below (unhide HTB) (unhide HB4)) ((unhide HGT).below (unhide HB4)))
    clear hb3 b4 X4 X4' HD hge FIN FB
    go_wp2_with fail
    clear hW4 hg4 hW6 l0 l1 l2 u0 u1 u2 y0 y1 y2
    refine (unhide HO).mono ?_
    rintro e w5 ⟨rfl, hb5⟩
    have HB5 := hide (bstep (unhide HB4) hb5)
    clear hb5 HO
    go_wp2
    go_ret
    exact ⟨rfl, unhide HB5⟩
  have f4 : n ≤ r := by
    by_cases c : n ≤ r
    · exact c
    · exact absurd ⟨by omega, by omega, by omega, by omega⟩ hgood
  clear hgood hn hr HN HR
  go_enter Tryz.func3, Tryz.ntmps3
  go_wp2_with fail
  refine (unhide HI).mono ?_
  rintro e w1 ⟨b0, rfl, -, -, hb1⟩
  have HB1 := hide hb1
  clear hb1 HI
  go_wp2_with fail
  refine (unhide HD w1).mono ?_
  rintro e w3 ⟨rfl, hb3⟩
  have b4 := alloc_below w3 (.cells #[.bool false, .slice none 0 0, .slice none 0 0] 29)
  have X4 := BoxIs.new (w := w3) (t := zTri) (q := 0) (rat_zero _)
  obtain ⟨W4, hW4⟩ : ∃ W, w3.alloc (.cells #[.bool false, .slice none 0 0, .slice none 0 0] 29) = W := ⟨_, rfl⟩
  obtain ⟨g4, hg4⟩ : ∃ g, w3.heap.size = g := ⟨_, rfl⟩
  have X4' : BoxIs W4 g4 zTri 0 := by rw [← hW4, ← hg4]; exact X4
  rw [hW4] at b4
  have ⟨l0, l1, l2⟩ := X4'.free
  have ⟨u0, u1, u2⟩ := X4'.cells _ (Below.refl _ _)
  have u0 : W4.cell? ⟨g4, 0, none⟩ = some (.bool false) := u0
  have u1 : W4.cell? ⟨g4, 1, none⟩ = some (.slice none 0 0) := u1
  have u2 : W4.cell? ⟨g4, 2, none⟩ = some (.slice none 0 0) := u2
  have hge : w3.heap.size ≤ g4 := by omega
  have FIN := X4'.set (t' := zTri) (q' := 0) (rat_zero _)
  have FB := ((b4.setCell (p := ⟨g4, 0, none⟩) hge (.bool false)).setCell (p := ⟨g4, 1, none⟩) hge (.slice none 0 0)).setCell (p := ⟨g4, 2, none⟩) hge (.slice none 0 0)
  have FIN : BoxIs (((W4.setCell ⟨g4, 0, none⟩ (.bool false)).setCell ⟨g4, 1, none⟩ (.slice none 0 0)).setCell ⟨g4, 2, none⟩ (.slice none 0 0)) g4 zTri 0 := FIN
  obtain ⟨W6, hW6⟩ : ∃ W, ((W4.setCell ⟨g4, 0, none⟩ (.bool false)).setCell ⟨g4, 1, none⟩ (.slice none 0 0)).setCell ⟨g4, 2, none⟩ (.slice none 0 0) = W := ⟨_, rfl⟩
  rw [hW6] at FIN FB
  have ⟨y0, y1, y2⟩ := FIN.cells _ (Below.refl _ _)
  have y0 : W6.cell? ⟨g4, 0, none⟩ = some (.bool false) := y0
  have y1 : W6.cell? ⟨g4, 1, none⟩ = some (.slice none 0 0) := y1
  have y2 : W6.cell? ⟨g4, 2, none⟩ = some (.slice none 0 0) := y2
  have HB4 := hide (bstep (unhide HB1) (bstep hb3 FB))
  have HO := hide (one_err (.agg #[.bool false, .slice none 0 0, .slice none 0 0]) b0 2 (by decide) W6 FIN.2 (tab_below (unhide HTB) (unhide HB4)) ((unhide HGT).below (unhide HB4)))
  clear hb3 b4 X4 X4' HD hge FIN FB
  go_wp2_with fail
  clear hW4 hg4 hW6 l0 l1 l2 u0 u1 u2 y0 y1 y2
  refine (unhide HO).mono ?_
  rintro e w5 ⟨rfl, hb5⟩
  have HB5 := hide (bstep (unhide HB4) hb5)
  clear hb5 HO
  go_wp2
  go_ret
  exact ⟨rfl, unhide HB5⟩

end Go.Proofs.YtjadhoembmenkaaGreatDoor
