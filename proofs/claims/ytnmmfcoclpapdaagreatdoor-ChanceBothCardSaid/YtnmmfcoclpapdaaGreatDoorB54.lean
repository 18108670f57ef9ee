/- The program's Both where something is wrong; what ChanceBoth says. -/
import Derived.Test.YtnmmfcoclpapdaaGreatDoorB52
import Derived.Test.YtnmmfcoclpapdaaGreatDoorA16
namespace Go.Proofs.YtnmmfcoclpapdaaGreatDoor
open Go.RowKit Go.Sort Go.Shelf

theorem errV_no {k : Int} (h : k ≠ 0) : errV k = .iface 35 (.int .i64 k) := by unfold errV; rw [if_neg h]
set_option maxHeartbeats 8000000 in
set_option maxRecDepth 100000 in
set_option linter.unusedSimpArgs false in
theorem both_errA (va vb : Value) (qa : List Rat) (J : Nat) (w : World) (ha : LawIs w va qa) (hqa : ∀ j, j < qa.length → RS qa[j]! J) (ja : (qa.length * (J + 1) + 1 + J) + (qa.length * (J + 1) + 1 + J) + 1 ≤ KK) (hc : chk qa ≠ 0) :
    Calls Tryz.prog 61 #[va, vb] w fun e w' => e = .returned (.tuple #[.slice none 0 0, .iface 35 (.int .i64 (chk qa))]) ∧ Below w.heap.size w w' := by
  have HC := hide (check_any va qa J w ha hqa ja)
  rw [errV_no hc] at HC
  obtain ⟨k, hk⟩ : ∃ k, chk qa = k := ⟨_, rfl⟩
  rw [hk] at HC ⊢
  clear ha hqa ja hc hk
  go_enter Tryz.func61, Tryz.ntmps61
  go_wp2_with fail
  refine (unhide HC).mono ?_
  rintro e w1 ⟨rfl, hb1⟩
  have HB1 := hide hb1
  clear hb1 HC
  go_wp2
  exact bodyPost_ret (v := .tuple #[.slice none 0 0, .iface 35 (.int .i64 k)]) (by simp [results, Tryz.results61, go_sem]) rfl ⟨rfl, unhide HB1⟩
set_option maxHeartbeats 8000000 in
set_option maxRecDepth 100000 in
set_option linter.unusedSimpArgs false in
theorem both_errB (va vb : Value) (qa qb : List Rat) (J : Nat) (w : World) (ha : LawIs w va qa) (hb : LawIs w vb qb) (hqa : ∀ j, j < qa.length → RS qa[j]! J) (hqb : ∀ j, j < qb.length → RS qb[j]! J) (ja : (qa.length * (J + 1) + 1 + J) + (qa.length * (J + 1) + 1 + J) + 1 ≤ KK) (jb : (qb.length * (J + 1) + 1 + J) + (qb.length * (J + 1) + 1 + J) + 1 ≤ KK) (h0 : chk qa = 0) (hc : chk qb ≠ 0) :
    Calls Tryz.prog 61 #[va, vb] w fun e w' => e = .returned (.tuple #[.slice none 0 0, .iface 35 (.int .i64 (chk qb))]) ∧ Below w.heap.size w w' := by
  have HC := hide (check_any va qa J w ha hqa ja)
  rw [h0, show errV 0 = .nilIface from rfl] at HC
  have HD : Hid (∀ W, Below w.heap.size w W → Calls Tryz.prog 43 #[vb] W fun e w' => e = .returned (errV (chk qb)) ∧ Below W.heap.size W w') := fun W hW => check_any vb qb J W (hb.below hW) hqb jb
  rw [errV_no hc] at HD
  obtain ⟨k, hk⟩ : ∃ k, chk qb = k := ⟨_, rfl⟩
  rw [hk] at HD ⊢
  clear ha hb hqa hqb ja jb hc hk h0
  go_enter Tryz.func61, Tryz.ntmps61
  go_wp2_with fail
  refine (unhide HC).mono ?_
  rintro e w1 ⟨rfl, hb1⟩
  have HB1 := hide hb1
  have HD1 := hide (unhide HD _ hb1)
  clear hb1 HC HD
  go_wp2_with fail
  refine (unhide HD1).mono ?_
  rintro e w2 ⟨rfl, hb2⟩
  have HB2 := hide (bstep (unhide HB1) hb2)
  clear hb2 HD1
  go_wp2
  exact bodyPost_ret (v := .tuple #[.slice none 0 0, .iface 35 (.int .i64 k)]) (by simp [results, Tryz.results61, go_sem]) rfl ⟨rfl, unhide HB2⟩
set_option maxHeartbeats 8000000 in
set_option maxRecDepth 100000 in
set_option linter.unusedSimpArgs false in
theorem both_long (va vb : Value) (qa qb : List Rat) (J : Nat) (w : World) (ha : LawIs w va qa) (hb : LawIs w vb qb) (hqa : ∀ j, j < qa.length → RS qa[j]! J) (hqb : ∀ j, j < qb.length → RS qb[j]! J) (ja : (qa.length * (J + 1) + 1 + J) + (qa.length * (J + 1) + 1 + J) + 1 ≤ KK) (jb : (qb.length * (J + 1) + 1 + J) + (qb.length * (J + 1) + 1 + J) + 1 ≤ KK) (ca : chk qa = 0) (cb : chk qb = 0) (hlim : 102 < tlen qa qa.length + tlen qb qb.length) :
    Calls Tryz.prog 61 #[va, vb] w fun e w' => e = .returned (.tuple #[.slice none 0 0, .iface 35 (.int .i64 4)]) ∧ Below w.heap.size w w' := by
  have za := chk_zero ca
  have zb := chk_zero cb
  have HC := hide (check_any va qa J w ha hqa ja)
  rw [ca, show errV 0 = .nilIface from rfl] at HC
  have HD : Hid (∀ W, Below w.heap.size w W → Calls Tryz.prog 43 #[vb] W fun e w' => e = .returned (errV (chk qb)) ∧ Below W.heap.size W w') := fun W hW => check_any vb qb J W (hb.below hW) hqb jb
  rw [cb, show errV 0 = .nilIface from rfl] at HD
  obtain ⟨aa, ac, ea, -⟩ := id ha
  obtain ⟨ba, bc, eb, -⟩ := id hb
  subst ea eb
  have HTA : Hid (∀ W, Below w.heap.size w W → Calls Tryz.prog 104 #[.slice aa qa.length ac] W fun e w' => e = .returned (.slice aa (tlen qa qa.length) ac) ∧ Below W.heap.size W w') := fun W hW => trimmedL_any aa ac qa W (ha.below hW) za.1
  have HTB : Hid (∀ W, Below w.heap.size w W → Calls Tryz.prog 104 #[.slice ba qb.length bc] W fun e w' => e = .returned (.slice ba (tlen qb qb.length) bc) ∧ Below W.heap.size W w') := fun W hW => trimmedL_any ba bc qb W (hb.below hW) zb.1
  have la := tlen_le qa qa.length
  have lb := tlen_le qb qb.length
  have h2a := za.2.1
  have h2b := zb.2.1
  obtain ⟨m, hm⟩ : ∃ m, tlen qa qa.length = m := ⟨_, rfl⟩
  obtain ⟨n, hn⟩ : ∃ n, tlen qb qb.length = n := ⟨_, rfl⟩
  rw [hm] at HTA la hlim
  rw [hn] at HTB lb hlim
  have k1 : IntKind.i64.wrap ((m : Int) + (n : Int)) = (m : Int) + (n : Int) := by rw [IntKind.wrap_i64]; omega
  have k2 : (102 : Int) < (m : Int) + (n : Int) := by omega
  clear ha hb hqa hqb ja jb ca cb za zb la lb h2a h2b hm hn hlim
  obtain ⟨na, hna⟩ : ∃ t, qa.length = t := ⟨_, rfl⟩
  obtain ⟨nb, hnb⟩ : ∃ t, qb.length = t := ⟨_, rfl⟩
  rw [hna] at HTA HC ⊢
  rw [hnb] at HTB HD ⊢
  clear hna hnb
  go_enter Tryz.func61, Tryz.ntmps61
  go_wp2_with fail
  refine (unhide HC).mono ?_
  rintro e w1 ⟨rfl, hb1⟩
  have HB1 := hide hb1
  have HD1 := hide (unhide HD _ hb1)
  clear hb1 HC HD
  go_wp2_with fail
  refine (unhide HD1).mono ?_
  rintro e w2 ⟨rfl, hb2⟩
  have HB2 := hide (bstep (unhide HB1) hb2)
  have HT2 := hide (unhide HTA _ (unhide HB2))
  clear hb2 HD1 HTA
  go_wp2_with fail
  refine (unhide HT2).mono ?_
  rintro e w3 ⟨rfl, hb3⟩
  have HB3 := hide (bstep (unhide HB2) hb3)
  have HT3 := hide (unhide HTB _ (unhide HB3))
  clear hb3 HT2 HTB
  go_wp2_with fail
  refine (unhide HT3).mono ?_
  rintro e w4 ⟨rfl, hb4⟩
  have HB4 := hide (bstep (unhide HB3) hb4)
  clear hb4 HT3
  go_wp2
  exact bodyPost_ret (v := .tuple #[.slice none 0 0, .iface 35 (.int .i64 4)]) (by simp [results, Tryz.results61, go_sem]) rfl ⟨rfl, unhide HB4⟩
/-- What a law that came in as pairs is for the checker. -/
structure PFit (ps : List (Int × Int)) : Prop where
  q : ∀ j, j < (pqs ps).length → RS (pqs ps)[j]! 1
  l : (pqs ps).length ≤ 130
  p : ps.length ≤ 1099511627776
  k : ((pqs ps).length * (1 + 1) + 1 + 1) + ((pqs ps).length * (1 + 1) + 1 + 1) + 1 ≤ KK
  c : (pqs ps).length * (1 + 1) + 1 + 1 ≤ 399999
theorem pfit_of {w : World} {v : Value} {ps : List (Int × Int)} (h : PairsAre w v ps) (hl : ps.length ≤ 130) : PFit ps := by
  obtain ⟨a, c, hv, h1, h2, h4, -⟩ := h
  have hql : (pqs ps).length = ps.length := pqs_length ps
  refine ⟨fun j hj => ?_, by omega, by omega, by unfold KK; omega, by omega⟩
  rw [pqs_length] at hj
  have : (pqs ps)[j]! = pq ps[j]! := by simp [pqs, hj]
  rw [this]
  exact pq_RS (h4 j hj).1 (h4 j hj).2
set_option maxHeartbeats 8000000 in
set_option maxRecDepth 100000 in
set_option linter.unusedSimpArgs false in
theorem chanceBoth_any (va vb : Value) (pa pb : List (Int × Int)) (w : World) (ha : PairsAre w va pa) (hb : PairsAre w vb pb) (htab : Tab w) (hg : ErrTy w) :
    Calls Tryz.prog 10 #[va, vb] w fun e w' => e = .returned (.bool true) ∧ Below w.heap.size w w' := by
  have HPA := hide ha
  have HPB := hide hb
  have HGT := hide hg
  have HTB := hide htab
  obtain ⟨aa, ac, ea, -, -, -, -⟩ := id ha
  obtain ⟨ba, bc, eb, -, -, -, -⟩ := id hb
  subst ea eb
  obtain ⟨na, hna⟩ : ∃ t, pa.length = t := ⟨_, rfl⟩
  obtain ⟨nb, hnb⟩ : ∃ t, pb.length = t := ⟨_, rfl⟩
  by_cases hba : 130 < na
  · rw [hna, hnb]
    have f1 : (130 : Int) < (na : Int) := by omega
    clear ha hb htab hg hna hnb hba
    go_enter Tryz.func10, Tryz.ntmps10
    go_wp2
    go_ret
    exact ⟨rfl, Below.refl _ _⟩
  by_cases hbb : 130 < nb
  · rw [hna, hnb]
    have f1 : ¬ (130 : Int) < (na : Int) := by omega
    have f2 : (130 : Int) < (nb : Int) := by omega
    clear ha hb htab hg hna hnb hba hbb
    go_enter Tryz.func10, Tryz.ntmps10
    go_wp2
    go_ret
    exact ⟨rfl, Below.refl _ _⟩
  have HFA := hide (pfit_of ha (by omega))
  have HFB := hide (pfit_of hb (by omega))
  have HLA := hide (refList_any _ pa w ha (unhide HFA).p)
  have HLB : Hid (∀ W, Below w.heap.size w W → Calls Tryz.prog 35 #[.slice ba pb.length bc] W fun e w' => ∃ v, e = .returned v ∧ RList w' v (pqs pb) ∧ Below W.heap.size W w') := fun W hW => refList_any _ pb W (hb.below hW) (unhide HFB).p
  rw [hna] at HPA HLA ⊢
  rw [hnb] at HPB HLB ⊢
  have f1 : ¬ (130 : Int) < (na : Int) := by omega
  have f2 : ¬ (130 : Int) < (nb : Int) := by omega
  clear ha hb htab hg hna hnb hba hbb
  go_enter Tryz.func10, Tryz.ntmps10
  go_wp2_with fail
  refine (unhide HLA).mono ?_
  rintro e w1 ⟨xa, rfl, hxa, hb1⟩
  have HXA := hide hxa
  have HB1 := hide hb1
  have HL2 := hide (unhide HLB _ hb1)
  clear hxa hb1 HLA HLB
  go_wp2_with fail
  refine (unhide HL2).mono ?_
  rintro e w2 ⟨xb, rfl, hxb, hb2⟩
  have HB2 := hide (bstep (unhide HB1) hb2)
  have HXA2 := hide ((unhide HXA).below hb2)
  have HXB2 := hide hxb
  have HCA := hide (refLawCheck_any xa (pqs pa) 1 w2 (unhide HXA2) (unhide HFA).q (unhide HFA).c)
  clear hxb hb2 HL2 HXA
  obtain ⟨ka, hka⟩ : ∃ k, chk (pqs pa) = k := ⟨_, rfl⟩
  rw [hka] at HCA
  have HKA := hide hka
  clear hka
  go_wp2_with fail
  refine (unhide HCA).mono ?_
  rintro e w3 ⟨rfl, hb3⟩
  have HB3 := hide (bstep (unhide HB2) hb3)
  have HXA3 := hide ((unhide HXA2).below hb3)
  have HXB3 := hide ((unhide HXB2).below hb3)
  clear hb3 HCA HXA2 HXB2
  by_cases hka0 : ka = 0
  · subst hka0
    have HCB := hide (refLawCheck_any xb (pqs pb) 1 w3 (unhide HXB3) (unhide HFB).q (unhide HFB).c)
    obtain ⟨kb, hkb⟩ : ∃ k, chk (pqs pb) = k := ⟨_, rfl⟩
    rw [hkb] at HCB
    have HKB := hide hkb
    clear hkb
    go_wp2_with fail
    refine (unhide HCB).mono ?_
    rintro e w4 ⟨rfl, hb4⟩
    have HB4 := hide (bstep (unhide HB3) hb4)
    have HXA4 := hide ((unhide HXA3).below hb4)
    have HXB4 := hide ((unhide HXB3).below hb4)
    clear hb4 HCB HXA3 HXB3
    by_cases hkb0 : kb = 0
    · subst hkb0
      have za := chk_zero (unhide HKA)
      have zb := chk_zero (unhide HKB)
      have la := tlen_le (pqs pa) (pqs pa).length
      have lb := tlen_le (pqs pb) (pqs pb).length
      have HZA := hide za
      have HZB := hide zb
      have HLAB := hide (And.intro la lb)
      have HTA := hide (refTrim_any xa (pqs pa) w4 (unhide HXA4) za.1 (by have := za.2.1; omega))
      clear za zb la lb
      go_wp2_with fail
      refine (unhide HTA).mono ?_
      rintro e w5 ⟨ta, rfl, hta, hb5⟩
      have HB5 := hide (bstep (unhide HB4) hb5)
      have HXA5 := hide ((unhide HXA4).below hb5)
      have HXB5 := hide ((unhide HXB4).below hb5)
      have HTR := hide (refTrim_any xb (pqs pb) w5 (unhide HXB5) (unhide HZB).1 (by have := (unhide HZB).2.1; omega))
      obtain ⟨ta1, tc1, rfl, -⟩ := hta
      have hl5 : ((pqs pa).take (tlen (pqs pa) (pqs pa).length)).length = tlen (pqs pa) (pqs pa).length := by rw [List.length_take]; have := (unhide HLAB).1; omega
      rw [hl5]
      clear hb5 HTA HXA4 HXB4 hl5
      obtain ⟨m, hm⟩ : ∃ m, tlen (pqs pa) (pqs pa).length = m := ⟨_, rfl⟩
      have HM := hide hm
      rw [hm]
      clear hm
      go_wp2_with fail
      refine (unhide HTR).mono ?_
      rintro e w6 ⟨tb, rfl, htb, hb6⟩
      have HB6 := hide (bstep (unhide HB5) hb6)
      have HXA6 := hide ((unhide HXA5).below hb6)
      have HXB6 := hide ((unhide HXB5).below hb6)
      obtain ⟨tb1, td1, rfl, -⟩ := htb
      have hl6 : ((pqs pb).take (tlen (pqs pb) (pqs pb).length)).length = tlen (pqs pb) (pqs pb).length := by rw [List.length_take]; have := (unhide HLAB).2; omega
      rw [hl6]
      clear hb6 HTR HXA5 HXB5 hl6
      obtain ⟨n, hn⟩ : ∃ n, tlen (pqs pb) (pqs pb).length = n := ⟨_, rfl⟩
      have HN := hide hn
      rw [hn]
      clear hn
      have hmn : m ≤ 101 ∧ n ≤ 101 := by
        have h1 := unhide HLAB
        have h2 := (unhide HZA).2.1
        have h3 := (unhide HZB).2.1
        rw [unhide HM, unhide HN] at h1
        omega
      have k1 : IntKind.i64.wrap ((m : Int) + (n : Int)) = (m : Int) + (n : Int) := by rw [IntKind.wrap_i64]; omega
      have HMN := hide hmn
      clear hmn
      by_cases hlim : 102 < m + n
      · have k2 : (102 : Int) < (m : Int) + (n : Int) := by omega
        have HLM : Hid (102 < tlen (pqs pa) (pqs pa).length + tlen (pqs pb) (pqs pb).length) := by show _ < _; rw [unhide HM, unhide HN]; exact hlim
        have HNZ : Hid ((4 : Int) ≠ 0) := by show _ ≠ _; decide
        have HBT := HB6
        clear hlim
        have HL1 := hide (law_any _ pa w6 ((unhide HPA).below (unhide HBT)) (unhide HFA).p)
        go_wp2_with fail
        refine (unhide HL1).mono ?_
        rintro e x1 ⟨y1, rfl, hy1, hc1⟩
        have HC1 := hide (bstep (unhide HBT) hc1)
        have HY1 := hide hy1
        have HW1 := hide hc1
        have HL2 := hide (law_any _ pb x1 ((unhide HPB).below (unhide HC1)) (unhide HFB).p)
        clear hy1 hc1 HL1
        go_wp2_with fail
        refine (unhide HL2).mono ?_
        rintro e x2 ⟨y2, rfl, hy2, hc2⟩
        have HC2 := hide (bstep (unhide HC1) hc2)
        have HW2 := hide (bstep (unhide HW1) hc2)
        have HBO := hide (both_long y1 y2 (pqs pa) (pqs pb) 1 x2 ((unhide HY1).below hc2) hy2 (unhide HFA).q (unhide HFB).q (unhide HFA).k (unhide HFB).k (unhide HKA) (unhide HKB) (unhide HLM))
        clear hy2 hc2 HL2 HY1
        go_wp2_with fail
        refine (unhide HBO).mono ?_
        rintro e x3 ⟨rfl, hc3⟩
        have HC3 := hide (bstep (unhide HC2) hc3)
        have HON := hide (list_err none 0 (.slice none 0 0) 4 (unhide HNZ) x3 ((unhide HGT).below (unhide HC3)))
        clear hc3 HBO
        go_wp2_with fail
        refine (unhide HON).mono ?_
        rintro e x4 ⟨rfl, hc4⟩
        have HC4 := hide (bstep (unhide HC3) hc4)
        clear hc4 HON
        go_wp2
        go_ret
        exact ⟨rfl, unhide HC4⟩
      · have k2 : ¬ (102 : Int) < (m : Int) + (n : Int) := by omega
        have HLM : Hid (tlen (pqs pa) (pqs pa).length + tlen (pqs pb) (pqs pb).length ≤ 102) := by show _ ≤ _; rw [unhide HM, unhide HN]; omega
        have HRB := hide (refBoth_any xa xb (pqs pa) (pqs pb) w6 (unhide HXA6) (unhide HXB6) (unhide HFA).q (unhide HFB).q (unhide HZA).1 (unhide HZB).1 (unhide HFA).l (unhide HFB).l)
        have HRS : Hid (∀ j, j < (conv (pqs pa) (pqs pb) (tlen (pqs pb) (pqs pb).length) (tlen (pqs pa) (pqs pa).length + tlen (pqs pb) (pqs pb).length - 1) (tlen (pqs pa) (pqs pa).length)).length → RS (conv (pqs pa) (pqs pb) (tlen (pqs pb) (pqs pb).length) (tlen (pqs pa) (pqs pa).length + tlen (pqs pb) (pqs pb).length - 1) (tlen (pqs pa) (pqs pa).length))[j]! 400) := fun j hj => by
          rw [convK_len] at hj
          have h1 := tlen_pos (pqs pb) (unhide HZB).1
          have h2 := (unhide HLAB).1
          have h3 := (unhide HZA).2.1
          rw [conv_get _ _ _ _ _ (by omega) _ hj]
          exact (cv_RS (unhide HFA).q (unhide HFB).q (unhide HLAB).2 _ h2).mono (by omega)
        have HCL : Hid ((conv (pqs pa) (pqs pb) (tlen (pqs pb) (pqs pb).length) (tlen (pqs pa) (pqs pa).length + tlen (pqs pb) (pqs pb).length - 1) (tlen (pqs pa) (pqs pa).length)).length ≤ 1000000) := by show _ ≤ _; rw [convK_len]; have := unhide HLM; omega
        clear hlim
        go_wp2_with fail
        refine (unhide HRB).mono ?_
        rintro e w7 ⟨vw, rfl, hvw, hb7⟩
        have HWT := hide hvw
        have HBT := hide (bstep (unhide HB6) hb7)
        clear hvw hb7 HRB
        have HL1 := hide (law_any _ pa w7 ((unhide HPA).below (unhide HBT)) (unhide HFA).p)
        go_wp2_with fail
        refine (unhide HL1).mono ?_
        rintro e x1 ⟨y1, rfl, hy1, hc1⟩
        have HC1 := hide (bstep (unhide HBT) hc1)
        have HY1 := hide hy1
        have HW1 := hide hc1
        have HL2 := hide (law_any _ pb x1 ((unhide HPB).below (unhide HC1)) (unhide HFB).p)
        clear hy1 hc1 HL1
        go_wp2_with fail
        refine (unhide HL2).mono ?_
        rintro e x2 ⟨y2, rfl, hy2, hc2⟩
        have HC2 := hide (bstep (unhide HC1) hc2)
        have HW2 := hide (bstep (unhide HW1) hc2)
        have HBO := hide (both_any y1 y2 (pqs pa) (pqs pb) 1 x2 ((unhide HY1).below hc2) hy2 (unhide HFA).q (unhide HFB).q (by decide) (unhide HKA) (unhide HKB) (unhide HLM))
        clear hy2 hc2 HL2 HY1
        go_wp2_with fail
        refine (unhide HBO).mono ?_
        rintro e x3 ⟨y3, rfl, hy3, hc3⟩
        have HC3 := hide (bstep (unhide HC2) hc3)
        have HON := hide (list_ok y3 vw (conv (pqs pa) (pqs pb) (tlen (pqs pb) (pqs pb).length) (tlen (pqs pa) (pqs pa).length + tlen (pqs pb) (pqs pb).length - 1) (tlen (pqs pa) (pqs pa).length)) 400 x3 hy3 (((unhide HWT).below (unhide HW2)).below hc3) (unhide HRS) (by decide) (unhide HCL) (tab_below (unhide HTB) (unhide HC3)))
        clear hy3 hc3 HBO
        go_wp2_with fail
        refine (unhide HON).mono ?_
        rintro e x4 ⟨rfl, hc4⟩
        have HC4 := hide (bstep (unhide HC3) hc4)
        clear hc4 HON
        go_wp2
        go_ret
        exact ⟨rfl, unhide HC4⟩
    · have hkbb : (kb == 0) = false := by simpa using hkb0
      have HNZ : Hid (kb ≠ 0) := hkb0
      have HKN : Hid (chk (pqs pb) ≠ 0) := by show _ ≠ _; rw [unhide HKB]; exact hkb0
      have HBT := HB4
      clear hkb0
      have HL1 := hide (law_any _ pa w4 ((unhide HPA).below (unhide HBT)) (unhide HFA).p)
      go_wp2_with fail
      refine (unhide HL1).mono ?_
      rintro e x1 ⟨y1, rfl, hy1, hc1⟩
      have HC1 := hide (bstep (unhide HBT) hc1)
      have HY1 := hide hy1
      have HW1 := hide hc1
      have HL2 := hide (law_any _ pb x1 ((unhide HPB).below (unhide HC1)) (unhide HFB).p)
      clear hy1 hc1 HL1
      go_wp2_with fail
      refine (unhide HL2).mono ?_
      rintro e x2 ⟨y2, rfl, hy2, hc2⟩
      have HC2 := hide (bstep (unhide HC1) hc2)
      have HW2 := hide (bstep (unhide HW1) hc2)
      have HBO := hide (both_errB y1 y2 (pqs pa) (pqs pb) 1 x2 ((unhide HY1).below hc2) hy2 (unhide HFA).q (unhide HFB).q (unhide HFA).k (unhide HFB).k (unhide HKA) (unhide HKN))
      clear hy2 hc2 HL2 HY1
      go_wp2_with fail
      refine (unhide HBO).mono ?_
      rw [unhide HKB]
      rintro e x3 ⟨rfl, hc3⟩
      have HC3 := hide (bstep (unhide HC2) hc3)
      have HON := hide (list_err none 0 (.slice none 0 0) kb (unhide HNZ) x3 ((unhide HGT).below (unhide HC3)))
      clear hc3 HBO
      go_wp2_with fail
      refine (unhide HON).mono ?_
      rintro e x4 ⟨rfl, hc4⟩
      have HC4 := hide (bstep (unhide HC3) hc4)
      clear hc4 HON
      go_wp2
      go_ret
      exact ⟨rfl, unhide HC4⟩
  · have hkab : (ka == 0) = false := by simpa using hka0
    have HNZ : Hid (ka ≠ 0) := hka0
    have HKN : Hid (chk (pqs pa) ≠ 0) := by show _ ≠ _; rw [unhide HKA]; exact hka0
    have HBT := HB3
    clear hka0
    have HL1 := hide (law_any _ pa w3 ((unhide HPA).below (unhide HBT)) (unhide HFA).p)
    go_wp2_with fail
    refine (unhide HL1).mono ?_
    rintro e x1 ⟨y1, rfl, hy1, hc1⟩
    have HC1 := hide (bstep (unhide HBT) hc1)
    have HY1 := hide hy1
    have HW1 := hide hc1
    have HL2 := hide (law_any _ pb x1 ((unhide HPB).below (unhide HC1)) (unhide HFB).p)
    clear hy1 hc1 HL1
    go_wp2_with fail
    refine (unhide HL2).mono ?_
    rintro e x2 ⟨y2, rfl, hy2, hc2⟩
    have HC2 := hide (bstep (unhide HC1) hc2)
    have HW2 := hide (bstep (unhide HW1) hc2)
    have HBO := hide (both_errA y1 y2 (pqs pa) 1 x2 ((unhide HY1).below hc2) (unhide HFA).q (unhide HFA).k (unhide HKN))
    clear hy2 hc2 HL2 HY1
    go_wp2_with fail
    refine (unhide HBO).mono ?_
    rw [unhide HKA]
    rintro e x3 ⟨rfl, hc3⟩
    have HC3 := hide (bstep (unhide HC2) hc3)
    have HON := hide (list_err none 0 (.slice none 0 0) ka (unhide HNZ) x3 ((unhide HGT).below (unhide HC3)))
    clear hc3 HBO
    go_wp2_with fail
    refine (unhide HON).mono ?_
    rintro e x4 ⟨rfl, hc4⟩
    have HC4 := hide (bstep (unhide HC3) hc4)
    clear hc4 HON
    go_wp2
    go_ret
    exact ⟨rfl, unhide HC4⟩
end Go.Proofs.YtnmmfcoclpapdaaGreatDoor
