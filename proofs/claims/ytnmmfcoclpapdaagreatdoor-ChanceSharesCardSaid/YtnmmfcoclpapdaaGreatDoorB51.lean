/- ChanceShares. -/
import Derived.Test.YtnmmfcoclpapdaaGreatDoorB50
import Derived.Test.YtnmmfcoclpapdaaGreatDoorA16
namespace Go.Proofs.YtnmmfcoclpapdaaGreatDoor
open Go.RowKit Go.Sort Go.Shelf

theorem tellE (k : Int) (w : World) (hg : ErrTy w) : Calls Tryz.prog 42 #[errV k] w fun e w' => e = .returned (.int .i64 k) ∧ Below w.heap.size w w' := by
  by_cases h : k = 0
  · subst h
    refine (tell_nil w).mono ?_
    rintro e w' ⟨rfl, rfl⟩
    exact ⟨rfl, Below.refl _ _⟩
  · have : errV k = .iface 35 (.int .i64 k) := by unfold errV; rw [if_neg h]
    rw [this]
    exact tell_errno k w hg
set_option maxHeartbeats 8000000 in
set_option maxRecDepth 100000 in
set_option linter.unusedSimpArgs false in
theorem chanceShares_any (v : Value) (ps : List (Int × Int)) (p : Int) (w : World) (h : PairsAre w v ps) (htab : Tab w) (hg : ErrTy w) :
    Calls Tryz.prog 6 #[v, .int .i64 p] w fun e w' => e = .returned (.bool true) ∧ Below w.heap.size w w' := by
  have h' := h
  obtain ⟨a, c, hv, h1, h2, h4, -⟩ := h'
  obtain ⟨n, hn⟩ : ∃ n, ps.length = n := ⟨_, rfl⟩
  have HPS := hide h
  have HGT := hide hg
  have HTB := hide htab
  by_cases hbig : 130 < n
  · rw [hn] at hv
    subst hv
    have f1 : (130 : Int) < (n : Int) := by omega
    clear h h4 hg htab hn hbig
    go_enter Tryz.func6, Tryz.ntmps6
    go_wp2
    go_ret
    exact ⟨rfl, Below.refl _ _⟩
  · have HPL : Hid (ps.length ≤ 1099511627776) := by show _ ≤ _; omega
    have hqs : ∀ j, j < (pqs ps).length → RS (pqs ps)[j]! 1 := fun j hj => by
      rw [pqs_length] at hj
      have : (pqs ps)[j]! = pq ps[j]! := by simp [pqs, hj]
      rw [this]
      exact pq_RS (h4 j hj).1 (h4 j hj).2
    have HQ := hide hqs
    have hql : (pqs ps).length = n := by rw [pqs_length]; exact hn
    have HKK : Hid (((pqs ps).length * (1 + 1) + 1 + 1) + ((pqs ps).length * (1 + 1) + 1 + 1) + 1 ≤ KK) := by show _ ≤ _; unfold KK; rw [hql]; omega
    have HKL : Hid ((pqs ps).length * (1 + 1) + 1 + 1 ≤ 399999) := by show _ ≤ _; rw [hql]; omega
    have HN1 : Hid ((pqs ps).length ≤ 1000) := by show _ ≤ _; rw [hql]; omega
    have HQL := hide hql
    have HLI := hide (refList_any v ps w h (unhide HPL))
    rw [hn] at hv
    subst hv
    have f1 : ¬ (130 : Int) < (n : Int) := by omega
    clear h h4 hg htab hn hbig hqs hql
    go_enter Tryz.func6, Tryz.ntmps6
    go_wp2_with fail
    refine (unhide HLI).mono ?_
    rintro e w1 ⟨vl, rfl, hvl, hb1⟩
    have HVL := hide hvl
    have HB1 := hide hb1
    have HLA := hide (law_any _ ps w1 ((unhide HPS).below hb1) (unhide HPL))
    clear hvl hb1 HLI
    go_wp2_with fail
    refine (unhide HLA).mono ?_
    rintro e w2 ⟨v2, rfl, hv2, hb2⟩
    have HB2 := hide (bstep (unhide HB1) hb2)
    have HL2 := hide ((unhide HVL).below hb2)
    have HCH := hide (check_any v2 (pqs ps) 1 w2 hv2 (unhide HQ) (unhide HKK))
    clear hv2 hb2 HLA HVL
    obtain ⟨k, hk⟩ : ∃ k, chk (pqs ps) = k := ⟨_, rfl⟩
    rw [hk] at HCH
    have HK := hide hk
    clear hk
    go_wp2_with fail
    refine (unhide HCH).mono ?_
    rintro e w3 ⟨rfl, hb3⟩
    have HB3 := hide (bstep (unhide HB2) hb3)
    have HL3 := hide ((unhide HL2).below hb3)
    have HTE := hide (tellE k w3 ((unhide HGT).below (unhide HB3)))
    clear hb3 HCH HL2
    go_wp2_with fail
    refine (unhide HTE).mono ?_
    rintro e w4 ⟨rfl, hb4⟩
    have HB4 := hide (bstep (unhide HB3) hb4)
    have HL4 := hide ((unhide HL3).below hb4)
    have HLC := hide (refLawCheck_any vl (pqs ps) 1 w4 (unhide HL4) (unhide HQ) (unhide HKL))
    rw [unhide HK] at HLC
    clear hb4 HTE HL3
    go_wp2_with fail
    refine (unhide HLC).mono ?_
    rintro e w5 ⟨rfl, hb5⟩
    have HB5 := hide (bstep (unhide HB4) hb5)
    have HL5 := hide ((unhide HL4).below hb5)
    have HFS := hide (fs_any _ ps w5 ((unhide HPS).below (unhide HB5)) (unhide HPL))
    have ek : (k == k) = true := by simp
    clear hb5 HLC HL4
    go_wp2_with fail
    refine (unhide HFS).mono ?_
    rintro e w6 ⟨v6, rfl, hv6, hb6⟩
    have HB6 := hide (bstep (unhide HB5) hb6)
    have HL6 := hide ((unhide HL5).below hb6)
    have HSH := hide (shares_any v6 (pqs ps) 1 p w6 hv6 (unhide HQ) (unhide HKK))
    obtain ⟨k2, hk2⟩ : ∃ k2, (if ((pqs ps).length : Int) = p then chk (pqs ps) else 3) = k2 := ⟨_, rfl⟩
    rw [hk2] at HSH
    have HK2 := hide hk2
    clear hv6 hb6 HFS HL5 hk2
    go_wp2_with fail
    refine (unhide HSH).mono ?_
    rintro e w7 ⟨rfl, hb7⟩
    have HB7 := hide (bstep (unhide HB6) hb7)
    have HL7 := hide ((unhide HL6).below hb7)
    have HT7 := hide (tellE k2 w7 ((unhide HGT).below (unhide HB7)))
    clear hb7 HSH HL6
    go_wp2_with fail
    refine (unhide HT7).mono ?_
    rintro e w8 ⟨rfl, hb8⟩
    have HB8 := hide (bstep (unhide HB7) hb8)
    have HL8 := hide ((unhide HL7).below hb8)
    have HRS := hide (refShares_any vl (pqs ps) 1 p w8 (unhide HL8) (unhide HQ) (unhide HKL))
    rw [unhide HK2] at HRS
    clear hb8 HT7 HL7
    go_wp2_with fail
    refine (unhide HRS).mono ?_
    rintro e w9 ⟨rfl, hb9⟩
    have HB9 := hide (bstep (unhide HB8) hb9)
    have HL9 := hide ((unhide HL8).below hb9)
    have ek2 : (k2 == k2) = true := by simp
    clear hb9 HRS HL8
    by_cases hn0 : n = 0
    · subst hn0
      go_wp2
      go_ret
      exact ⟨rfl, unhide HB9⟩
    · have en : ((n : Int) == 0) = false := by simp; omega
      have HLB := hide (law_any _ ps w9 ((unhide HPS).below (unhide HB9)) (unhide HPL))
      have HN0 : Hid (0 < (pqs ps).length) := by show _ < _; rw [unhide HQL]; omega
      clear hn0
      go_wp2_with fail
      refine (unhide HLB).mono ?_
      rintro e x1 ⟨y1, rfl, hy1, hc1⟩
      have HC1 := hide (bstep (unhide HB9) hc1)
      have HM1 := hide ((unhide HL9).below hc1)
      have HTR := hide (trim_any y1 (pqs ps) x1 hy1 (unhide HN0) (unhide HN1))
      clear hy1 hc1 HLB HL9
      obtain ⟨tq, htq⟩ : ∃ t, (pqs ps).take (tlen (pqs ps) (pqs ps).length) = t := ⟨_, rfl⟩
      have hql : ∀ j, j < tq.length → RS tq[j]! 1 := fun j hj => by
        rw [← htq] at hj ⊢
        rw [List.length_take] at hj
        have e : ((pqs ps).take (tlen (pqs ps) (pqs ps).length))[j]! = (pqs ps)[j]! := by
          rw [List.getElem!_eq_getElem?_getD, List.getElem!_eq_getElem?_getD, List.getElem?_take_of_lt (by omega)]
        rw [e]
        exact unhide HQ j (by omega)
      have htl : tq.length ≤ 1000000 := by rw [← htq, List.length_take]; have := unhide HN1; omega
      have HTQ := hide htq
      have HTS := hide hql
      have HTL := hide htl
      rw [htq] at HTR
      clear htq hql htl
      go_wp2_with fail
      refine (unhide HTR).mono ?_
      rintro e x2 ⟨y2, rfl, hy2, hc2⟩
      have HC2 := hide (bstep (unhide HC1) hc2)
      have HM2 := hide ((unhide HM1).below hc2)
      have HPT := hide (ptexts_any y2 tq 1 x2 hy2 (unhide HTS) (by decide) (unhide HTL) (tab_below (unhide HTB) (unhide HC2)))
      clear hy2 hc2 HTR HM1
      go_wp2_with fail
      refine (unhide HPT).mono ?_
      rintro e x3 ⟨y3, rfl, hy3, hc3⟩
      have HC3 := hide (bstep (unhide HC2) hc3)
      have HM3 := hide ((unhide HM2).below hc3)
      have HY3 := hide hy3
      have HRT := hide (refTrim_any vl (pqs ps) x3 (unhide HM3) (unhide HN0) (unhide HN1))
      rw [unhide HTQ] at HRT
      clear hy3 hc3 HPT HM2
      go_wp2_with fail
      refine (unhide HRT).mono ?_
      rintro e x4 ⟨y4, rfl, hy4, hc4⟩
      have HC4 := hide (bstep (unhide HC3) hc4)
      have HY4 := hide ((unhide HY3).below hc4)
      have HTX := hide (refTexts_any y4 tq 1 x4 hy4 (unhide HTS) (by decide) (unhide HTL))
      clear hy4 hc4 HRT HM3 HY3
      go_wp2_with fail
      refine (unhide HTX).mono ?_
      rintro e x5 ⟨y5, rfl, hy5, hc5⟩
      have HC5 := hide (bstep (unhide HC4) hc5)
      have HSA := hide (same_any y3 y5 (txts tq) x5 ((unhide HY4).below hc5) hy5 (by rw [txts_length]; exact unhide HTL))
      clear hy5 hc5 HTX HY4
      go_wp2_with fail
      refine (unhide HSA).mono ?_
      rintro e x6 ⟨rfl, hc6⟩
      have HC6 := hide (bstep (unhide HC5) hc6)
      clear hc6 HSA
      go_wp2
      go_ret
      exact ⟨rfl, unhide HC6⟩
end Go.Proofs.YtnmmfcoclpapdaaGreatDoor
