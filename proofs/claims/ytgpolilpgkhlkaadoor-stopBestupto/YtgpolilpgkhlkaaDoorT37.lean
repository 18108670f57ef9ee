/- StopBest: the walk. -/
import Derived.Test.YtgpolilpgkhlkaaDoorT26
import Derived.Test.YtgpolilpgkhlkaaDoorT36
namespace Go.Proofs.YtgpolilpgkhlkaaDoor
open Go.RowKit Go.Sort Go.Shelf

set_option maxHeartbeats 16000000 in
set_option maxRecDepth 100000 in
set_option linter.unusedSimpArgs false in
theorem stopBest_any (v vq : Value) (pss : List (List (Int × Int))) (ps : List (Int × Int)) (x y tm : Int) (nb : Nat) (fb : Nat → Bool) (w : World) (htab : Tab w) (h : PChainIs w v pss ps x y) (sm : SmP pss) (hps : ps.length ≤ 1048576) (hq : BRow w vq nb fb) :
    Calls Tryd.prog 4 #[v, .int .i64 tm, vq] w fun e w' => e = .returned (.bool true) ∧ Below w.heap.size w w' := by
  have HBR := hide hq
  obtain ⟨aq, cq, rfl, hq1, hq2, hq3⟩ := hq
  clear hq3
  have KKe : KK = 1099511627776 := rfl
  have HTB := hide htab
  have HPC := hide h
  have HSP := hide sm
  have HPS := hide hps
  obtain ⟨l, m, rfl, hP, hT, hx, hy⟩ := h
  have hpn := prows_len hP
  have htn := pairs_len hT
  obtain ⟨np, hnp⟩ : ∃ n, pss.length = n := ⟨_, rfl⟩
  obtain ⟨nt, hnt⟩ : ∃ n, ps.length = n := ⟨_, rfl⟩
  rw [hnp] at hpn
  rw [hnt] at htn
  have HNP := hide hnp
  have HNT := hide hnt
  have HPCV : Hid (pcv l m x y = .agg #[.slice l.a np l.c, .slice m.a nt m.c, .int .i64 x, .int .i64 y]) := by show pcv l m x y = _; unfold pcv; rw [hpn, htn]
  rw [unhide HPCV] at HPC ⊢
  have hPv : l.val = .slice l.a np l.c := by show Value.slice l.a l.n l.c = _; rw [hpn]
  rw [hPv] at hP
  have b0 := alloc_below w (.cells #[.slice l.a np l.c, .slice m.a nt m.c, .int .i64 x, .int .i64 y] 27)
  have n0 := heap_alloc_new w (.cells #[.slice l.a np l.c, .slice m.a nt m.c, .int .i64 x, .int .i64 y] 27)
  obtain ⟨W0, hW0⟩ : ∃ W, w.alloc (.cells #[.slice l.a np l.c, .slice m.a nt m.c, .int .i64 x, .int .i64 y] 27) = W := ⟨_, rfl⟩
  obtain ⟨bx, hbx⟩ : ∃ b, w.heap.size = b := ⟨_, rfl⟩
  rw [hW0] at b0 n0
  rw [hbx] at n0
  have hbl : bx < W0.heap.size := (Array.getElem?_eq_some_iff.1 n0).1
  have HCB : Hid (∀ W, Below W0.heap.size W0 W → W.cell? ⟨bx, 0, none⟩ = some (.slice l.a np l.c) ∧ W.cell? ⟨bx, 1, none⟩ = some (.slice m.a nt m.c) ∧ W.cell? ⟨bx, 2, none⟩ = some (.int .i64 x) ∧ W.cell? ⟨bx, 3, none⟩ = some (.int .i64 y)) := fun W hW => by
    have h' := heap_kept n0 hW
    simp [World.cell?, h']
  have ⟨i0, i1, i2, i3⟩ := unhide HCB _ (Below.refl _ _)
  have HWI := hide (wide_any (.slice l.a np l.c) pss 40 W0 (hP.below b0) sm (by decide))
  have HB0 := hide b0
  clear hP hT hx hy hpn htn hnp hnt hPv b0 n0 hbl sm hps htab
  go_enter Tryd.func4, Tryd.ntmps4
  go_wp2_with fail
  clear hW0 hbx i0 i1 i2 i3
  refine (unhide HWI).mono ?_
  rintro e w1 ⟨(⟨hw, rfl⟩ | ⟨hw, rfl⟩), hb1⟩
  · have HB1 := hide (below_step (unhide HB0) hb1)
    clear hw hb1 HWI
    go_wp2
    go_ret
    exact ⟨rfl, unhide HB1⟩
  have HTOT : Hid (tot pss ≤ 40) := Nat.le_of_not_lt hw
  have HB1 := hide (below_step (unhide HB0) hb1)
  have HW01 := hide hb1
  have ⟨i0, i1, i2, i3⟩ := unhide HCB w1 hb1
  have hnt0 : nt ≤ 9223372036854775807 := by have := unhide HNT; have := unhide HPS; omega
  clear hw hb1 HWI
  by_cases h6 : (6 : Int) < (nt : Int)
  · go_wp2
    go_ret
    exact ⟨rfl, unhide HB1⟩
  by_cases hbn : nb = nt
  rotate_left
  · have e3 : ((nb : Int) == (nt : Int)) = false := by rw [beq_eq_false_iff_ne]; omega
    have e4 : ((nb : Int) != (nt : Int)) = true := by rw [bne_iff_ne]; omega
    go_wp2
    go_ret
    exact ⟨rfl, unhide HB1⟩
  obtain rfl := hbn.symm
  have e3 : ((nt : Int) == (nt : Int)) = true := by rw [beq_iff_eq]
  go_wp2_with fail
  refine (pick_any tm 5 (by decide) (by decide) w1).mono ?_
  rintro e w1 ⟨times, rfl, htm, rfl⟩
  go_wp2_with fail
  clear i0 i1 i2 i3
  have HST := hide (pstop_any _ pss ps x y w1 ((unhide HPC).below (unhide HB1)) (unhide HSP) (unhide HPS))
  refine (unhide HST).mono ?_
  rintro e w3 ⟨v3, rfl, hv3, hb3⟩
  have hSmC : SmC (pqss pss) (pqs ps) (pq (x, y)) := smC_of (unhide HPC) (unhide HTOT) (by have := unhide HNT; omega)
  have hPl : (pqss pss).length = np := by rw [pqss_length]; exact unhide HNP
  have hgl : (pqs ps).length = nt := by rw [pqs_length]; exact unhide HNT
  obtain ⟨P, eP⟩ : ∃ P, pqss pss = P := ⟨_, rfl⟩
  obtain ⟨gs, eg⟩ : ∃ g, pqs ps = g := ⟨_, rfl⟩
  obtain ⟨c, ec⟩ : ∃ c, pq (x, y) = c := ⟨_, rfl⟩
  rw [eP, eg, ec] at hv3 hSmC
  rw [eP] at hPl
  rw [eg] at hgl
  have HSM := hide hSmC
  have HPL := hide hPl
  have HGL := hide hgl
  obtain ⟨lc, mc, tc, rfl, hS, hT, hR⟩ := hv3
  have hln := rows_len hS
  have hmn := law_len hT
  rw [hPl] at hln
  rw [hgl] at hmn
  have HLN := hide hln
  have HMN := hide hmn
  have X3 := CBox.new hS hT hR
  have b3 := alloc_below w3 (.cells #[.slice lc.a lc.n lc.c, .slice mc.a mc.n mc.c, .bool tc.s, .slice tc.a1 tc.n1 tc.c1, .slice tc.a2 tc.n2 tc.c2] 37)
  unfold cval
  rw [hln, hmn] at b3 ⊢
  obtain ⟨W3, hW3⟩ : ∃ W, w3.alloc (.cells #[.slice lc.a np lc.c, .slice mc.a nt mc.c, .bool tc.s, .slice tc.a1 tc.n1 tc.c1, .slice tc.a2 tc.n2 tc.c2] 37) = W := ⟨_, rfl⟩
  obtain ⟨bc, hbc⟩ : ∃ b, w3.heap.size = b := ⟨_, rfl⟩
  have X3' : CBox W3 bc lc mc tc P gs c := by rw [← hW3, ← hbc, ← hln, ← hmn]; exact X3
  rw [hW3] at b3
  have ⟨j0, j1, j2, j3, j4⟩ := X3'.cells _ (Below.refl _ _)
  rw [hln] at j0
  rw [hmn] at j1
  have HXC := hide X3'
  have HB3 := hide (below_step (unhide HB1) (below_step hb3 b3))
  have HW03 := hide (below_step (unhide HW01) (below_step hb3 b3))
  have HEV := hide (Envelope_any (cval lc mc tc) P gs c times W3 X3'.chain hSmC (by omega))
  have HCV : Hid (cval lc mc tc = .agg #[.slice lc.a np lc.c, .slice mc.a nt mc.c, .bool tc.s, .slice tc.a1 tc.n1 tc.c1, .slice tc.a2 tc.n2 tc.c2]) := by show cval lc mc tc = _; unfold cval; rw [hln, hmn]
  rw [unhide HCV] at HEV
  clear hSmC hPl hgl eP eg ec hS hT hR hln hmn X3 X3' b3 hb3 HST
  go_wp2_with fail
  clear hW3 hbc j0 j1 j2 j3 j4
  refine (unhide HEV).mono ?_
  rintro e w4 (⟨gm, hcode, v4, rfl, hv4, hb4⟩ | ⟨hcode, kz, rfl, hb4⟩)
  rotate_left
  · have HB4 := hide (below_step (unhide HB3) hb4)
    have X4 := (unhide HXC).keep hb4
    have ⟨j0, j1, j2, j3, j4⟩ := X4.cells _ (Below.refl _ _)
    rw [unhide HLN] at j0
    rw [unhide HMN] at j1
    have HFO := hide (follow_any (cval lc mc tc) (.slice aq nt cq) P gs c times fb w4 X4.chain (unhide HSM) (by rw [unhide HGL]; exact (unhide HBR).below (unhide HB4)) (by omega))
    rw [unhide HCV] at HFO
    have HCD := hide hcode
    clear hcode hb4 HEV X4
    go_wp2_with fail
    clear j0 j1 j2 j3 j4
    refine (unhide HFO).mono ?_
    rintro e w5 (⟨h0, _⟩ | ⟨_, kz2, rfl, hb5⟩)
    · exact absurd h0 (unhide HCD)
    have HB5 := hide (below_step (unhide HB4) hb5)
    clear hb5 HB4
    go_wp2_with fail
    refine (stopped_any w5 (tab_below (unhide HTB) (unhide HB5))).mono ?_
    rintro e w6 ⟨rfl, hb6⟩
    have HB6 := hide (below_step (unhide HB5) hb6)
    clear hb6 HB5
    go_wp2_with fail
    refine (stopped_any w6 (tab_below (unhide HTB) (unhide HB6))).mono ?_
    rintro e w7 ⟨rfl, hb7⟩
    have HB7 := hide (below_step (unhide HB6) hb7)
    clear hb7 HB6
    go_wp2
    go_ret
    exact ⟨rfl, unhide HB7⟩
  have hnp : nt = np := by have h1 := gm.gl; have h2 := unhide HPL; have h3 := unhide HGL; omega
  subst hnp
  obtain ⟨T, hT⟩ : ∃ T, times + 1 = T := ⟨_, rfl⟩
  obtain ⟨M, hM⟩ : ∃ M, chn P gs c = M := ⟨_, rfl⟩
  rw [hM, hT, unhide HPL] at hv4
  have HM := hide hM
  have HMn : Hid (M.n = nt) := by show M.n = nt; rw [← hM]; exact unhide HPL
  have HGM := hide gm
  have HCD := hide hcode
  have hn1 : 1 ≤ nt := by have := gm.n1; have := unhide HPL; omega
  obtain ⟨av, cv, rfl, _⟩ := id hv4
  rw [emat_length] at hv4 ⊢
  have HV := hide hv4
  have HXc := hide ((unhide HXC).keep hb4)
  have HB4 := hide (below_step (unhide HB3) hb4)
  have HBW := hide (below_step (unhide HW03) hb4)
  clear hcode gm hM hv4 hb4 HEV HXC HB3
  have ⟨j0, j1, j2, j3, j4⟩ := (unhide HXc).cells _ (Below.refl _ _)
  rw [unhide HLN] at j0
  rw [unhide HMN] at j1
  have HFO := hide (follow_any (cval lc mc tc) (.slice aq nt cq) P gs c times fb w4 (unhide HXc).chain (unhide HSM) (by rw [unhide HGL]; exact (unhide HBR).below (unhide HB4)) (by omega))
  rw [unhide HCV] at HFO
  go_wp2_with fail
  clear j0 j1 j2 j3 j4
  refine (unhide HFO).mono ?_
  rintro e w5 (⟨_, v5, rfl, hv5, hb5⟩ | ⟨h0, _⟩)
  rotate_left
  · exact absurd (unhide HCD) h0
  rw [unhide HM, unhide HPL] at hv5
  obtain ⟨aw, cw, rfl, _⟩ := id hv5
  rw [row_length] at hv5 ⊢
  have HX_1 := hide ((unhide HXc).keep hb5)
  have HB_1 := hide (below_step (unhide HB4) hb5)
  have HW_1 := hide (below_step (unhide HBW) hb5)
  have HV_1 := hide ((unhide HV).below hb5)
  clear HXc HB4 HBW HV
  have HWL := hide hv5
  clear hv5 hb5 HFO
  go_wp2_with fail
  refine (stopped_any w5 (tab_below (unhide HTB) (unhide HB_1))).mono ?_
  rintro e w6 ⟨rfl, hb6⟩
  have HX_2 := hide ((unhide HX_1).keep hb6)
  have HB_2 := hide (below_step (unhide HB_1) hb6)
  have HW_2 := hide (below_step (unhide HW_1) hb6)
  have HV_2 := hide ((unhide HV_1).below hb6)
  have HWL_2 := hide ((unhide HWL).below hb6)
  clear HX_1 HB_1 HW_1 HV_1 HWL
  clear hb6
  have ⟨j0, j1, j2, j3, j4⟩ := (unhide HX_2).cells _ (Below.refl _ _)
  rw [unhide HLN] at j0
  rw [unhide HMN] at j1
  have HTK := hide (takes_any (cval lc mc tc) P gs c 1 w6 (unhide HX_2).chain (unhide HSM) (unhide HCD) (by decide) (by decide))
  rw [unhide HCV, unhide HM, unhide HPL] at HTK
  go_wp2_with fail
  clear j0 j1 j2 j3 j4
  refine (unhide HTK).mono ?_
  rintro e w7 ⟨v7, fl, rfl, hv7, hfl, hb7⟩
  obtain ⟨al, cl_, rfl, _⟩ := id hv7
  have HX_3 := hide ((unhide HX_2).keep hb7)
  have HB_3 := hide (below_step (unhide HB_2) hb7)
  have HW_3 := hide (below_step (unhide HW_2) hb7)
  have HV_3 := hide ((unhide HV_2).below hb7)
  have HWL_3 := hide ((unhide HWL_2).below hb7)
  clear HX_2 HB_2 HW_2 HV_2 HWL_2
  have HBL := hide hv7
  have HFL := hide hfl
  clear hv7 hb7 hfl HTK
  have ⟨j0, j1, j2, j3, j4⟩ := (unhide HX_3).cells _ (Below.refl _ _)
  rw [unhide HLN] at j0
  rw [unhide HMN] at j1
  have HEV := hide (Envelope_any (cval lc mc tc) P gs c 1 w7 (unhide HX_3).chain (unhide HSM) (by decide))
  rw [unhide HCV] at HEV
  go_wp2_with fail
  clear j0 j1 j2 j3 j4
  refine (unhide HEV).mono ?_
  rintro e w8 (⟨_, _, v8, rfl, hv8, hb8⟩ | ⟨h0, _⟩)
  rotate_left
  · exact absurd (unhide HCD) h0
  rw [unhide HM, unhide HPL] at hv8
  obtain ⟨ax, cx, rfl, _⟩ := id hv8
  rw [emat_length] at hv8 ⊢
  have HX_4 := hide ((unhide HX_3).keep hb8)
  have HB_4 := hide (below_step (unhide HB_3) hb8)
  have HW_4 := hide (below_step (unhide HW_3) hb8)
  have HV_4 := hide ((unhide HV_3).below hb8)
  have HWL_4 := hide ((unhide HWL_3).below hb8)
  have HBL_4 := hide ((unhide HBL).below hb8)
  clear HX_3 HB_3 HW_3 HV_3 HWL_3 HBL
  have HXR := hide hv8
  clear hv8 hb8 HEV
  have ⟨j0, j1, j2, j3, j4⟩ := (unhide HX_4).cells _ (Below.refl _ _)
  rw [unhide HLN] at j0
  rw [unhide HMN] at j1
  have ⟨i0, i1, i2, i3⟩ := unhide HCB w8 (unhide HW_4)
  obtain ⟨bv, ov, la_, eav, hbv, kv, hLv⟩ := (unhide HV_4).at (l := (av, T, cv)) (i := times) (by rw [emat_length]; omega)
  rw [emat_get (by omega)] at hLv
  have hlan := law_len hLv
  rw [row_length] at hlan
  rw [hlan] at kv
  obtain ⟨la, ela⟩ : ∃ a, la_.a = a := ⟨_, rfl⟩
  obtain ⟨ld, eld⟩ : ∃ a, la_.c = a := ⟨_, rfl⟩
  simp only [Sl.val] at hLv
  rw [hlan, ela, eld] at hLv
  rw [ela, eld] at kv
  have HLV := hide hLv
  have HKV : Hid (∀ W, Below w8.heap.size w8 W → W.cell? ⟨bv, ov + times, none⟩ = some (.slice la nt ld)) := fun W hW => by rw [hW.cell (p := ⟨bv, ov + times, none⟩) hbv]; exact kv
  have eav' : av = some ⟨bv, ov, none⟩ := eav
  have eT : IntKind.i64.wrap ((times : Int) + 1) = (T : Int) := by rw [IntKind.wrap_i64]; omega
  have ft : (times : Int) < (T : Int) := by omega
  have ft0 : (0 : Int) ≤ (times : Int) := by omega
  have HFO := hide (follow_any (cval lc mc tc) (.slice al nt cl_) P gs c 1 fl w8 (unhide HX_4).chain (unhide HSM) (by rw [unhide HGL]; exact (unhide HBL_4)) (by decide))
  rw [unhide HCV] at HFO
  have HW8 := hide (Below.refl w8.heap.size w8)
  rw [eav']
  clear hLv hlan ela eld eav hbv
  go_wp2_with fail
  clear i0 i1 i2 i3 kv
  clear j0 j1 j2 j3 j4
  refine (unhide HFO).mono ?_
  rintro e w9 (⟨_, v9, rfl, hv9, hb9⟩ | ⟨h0, _⟩)
  rotate_left
  · exact absurd (unhide HCD) h0
  rw [unhide HM, unhide HPL] at hv9
  have e91 : row (Stp.fol M fl 1) nt = row (Stp.env M 1) nt := row_congr (fun i hi => Stp.fol_one (unhide HFL i hi))
  rw [e91] at hv9
  obtain ⟨ay, cy, rfl, _⟩ := id hv9
  rw [row_length] at hv9 ⊢
  have HX_5 := hide ((unhide HX_4).keep hb9)
  have HB_5 := hide (below_step (unhide HB_4) hb9)
  have HW_5 := hide (below_step (unhide HW_4) hb9)
  have HV_5 := hide ((unhide HV_4).below hb9)
  have HWL_5 := hide ((unhide HWL_4).below hb9)
  have HBL_5 := hide ((unhide HBL_4).below hb9)
  have HXR_5 := hide ((unhide HXR).below hb9)
  have HW8_5 := hide (below_step (unhide HW8) hb9)
  have HLV_5 := hide ((unhide HLV).below hb9)
  clear HX_4 HB_4 HW_4 HV_4 HWL_4 HBL_4 HXR HW8 HLV
  have HYL := hide hv9
  clear hv9 hb9 HFO e91
  obtain ⟨bz, oz, lz_, eaz, hbz, kz, hLz⟩ := (unhide HXR_5).at (l := (ax, 2, cx)) (i := 1) (by rw [emat_length]; decide)
  rw [emat_get (by decide)] at hLz
  have hlzn := law_len hLz
  rw [row_length] at hlzn
  simp only [Sl.val] at hLz
  rw [hlzn] at kz hLz
  have eaz' : ax = some ⟨bz, oz, none⟩ := eaz
  have HLK := hide (likes_any (.slice ay nt cy) (.slice lz_.a nt lz_.c) (row (Stp.env M 1) nt) w9 (unhide HYL) hLz 200000 (by rw [KKe]; omega) (fun j hj => by
    rw [row_length] at hj
    rw [row_get hj, ← unhide HM]
    exact env_small (unhide HSM) (unhide HGM) (by decide) (by rw [unhide HPL]; exact hj)) (tab_below (unhide HTB) (unhide HB_5)))
  rw [eaz']
  clear hLz hlzn eaz hbz
  go_wp2_with fail
  clear kz eaz'
  refine (unhide HLK).mono ?_
  rintro e w10 ⟨rfl, hb10⟩
  have HX_6 := hide ((unhide HX_5).keep hb10)
  have HB_6 := hide (below_step (unhide HB_5) hb10)
  have HW_6 := hide (below_step (unhide HW_5) hb10)
  have HV_6 := hide ((unhide HV_5).below hb10)
  have HWL_6 := hide ((unhide HWL_5).below hb10)
  have HBL_6 := hide ((unhide HBL_5).below hb10)
  have HXR_6 := hide ((unhide HXR_5).below hb10)
  have HW8_6 := hide (below_step (unhide HW8_5) hb10)
  have HLV_6 := hide ((unhide HLV_5).below hb10)
  have HYL_6 := hide ((unhide HYL).below hb10)
  clear HX_5 HB_5 HW_5 HV_5 HWL_5 HBL_5 HXR_5 HW8_5 HLV_5 HYL
  clear hb10 HLK
  go_wp2_with fail
  go_loopw [17] (fun vi wr => ∃ i : Nat, vi = .int .i64 (i : Int) ∧ i ≤ nt ∧ Below w10.heap.size w10 wr) (fun vi _ => nt - (intOf vi).toNat)
  case atStart => exact ⟨0, rfl, Nat.zero_le _, Below.refl _ _⟩
  case round =>
    obtain ⟨i, rfl, hi, hB⟩ := hrel
    have HBB := hide hB
    by_cases hlt : i < nt
    rotate_left
    · obtain rfl : i = nt := by omega
      have f1 : ¬ (i : Int) < (i : Int) := by omega
      clear hB
      go_wp2
      go_ret
      exact ⟨rfl, below_step (unhide HB_6) (unhide HBB)⟩
    have f1 : (i : Int) < (nt : Int) := by omega
    have f0 : (0 : Int) ≤ (i : Int) := by omega
    obtain ⟨a_w, c_w, e_w, _, _, h_w⟩ := (unhide HWL_6).below hB
    obtain ⟨bw, ow, eb_w, hl_w, hc_w⟩ := h_w (by rw [row_length]; omega)
    have ea_w : aw = some ⟨bw, ow, none⟩ := by injection e_w with e1; rw [e1, eb_w]
    obtain ⟨w_s, w_p1, w_p2, w_n1, w_d1, w_n2, w_d2, kw0, kw1, kw2, r_w⟩ := hc_w i (by rw [row_length]; omega)
    obtain ⟨tw, rfl, rfl, rfl, rfl, rfl, rfl, rfl⟩ : ∃ t : Tri, w_s = t.s ∧ w_p1 = t.a1 ∧ w_p2 = t.a2 ∧ w_n1 = t.n1 ∧ w_d1 = t.c1 ∧ w_n2 = t.n2 ∧ w_d2 = t.c2 := ⟨⟨w_s, w_p1, w_p2, w_n1, w_d1, w_n2, w_d2⟩, rfl, rfl, rfl, rfl, rfl, rfl, rfl⟩
    clear e_w eb_w h_w hc_w
    rw [row_get hlt] at r_w
    obtain ⟨a_v, c_v, e_v, _, _, h_v⟩ := (unhide HLV_6).below hB
    obtain ⟨b1, o1, eb_v, hl_v, hc_v⟩ := h_v (by rw [row_length]; omega)
    have ea_v : la = some ⟨b1, o1, none⟩ := by injection e_v with e1; rw [e1, eb_v]
    obtain ⟨v_s, v_p1, v_p2, v_n1, v_d1, v_n2, v_d2, kv0, kv1, kv2, r_v⟩ := hc_v i (by rw [row_length]; omega)
    obtain ⟨tv, rfl, rfl, rfl, rfl, rfl, rfl, rfl⟩ : ∃ t : Tri, v_s = t.s ∧ v_p1 = t.a1 ∧ v_p2 = t.a2 ∧ v_n1 = t.n1 ∧ v_d1 = t.c1 ∧ v_n2 = t.n2 ∧ v_d2 = t.c2 := ⟨⟨v_s, v_p1, v_p2, v_n1, v_d1, v_n2, v_d2⟩, rfl, rfl, rfl, rfl, rfl, rfl, rfl⟩
    clear e_v eb_v h_v hc_v
    rw [row_get hlt] at r_v
    have HLP : Hid (i < P.length) := by show _ < _; rw [unhide HPL]; exact hlt
    have HCC : Hid (∀ W, Below wr.heap.size wr W → (fun w' : World => (w'.cell? ⟨bw, ow + i * 3, none⟩ = some (.bool tw.s) ∧ w'.cell? ⟨bw, ow + i * 3 + 1, none⟩ = some (.slice tw.a1 tw.n1 tw.c1) ∧ w'.cell? ⟨bw, ow + i * 3 + 2, none⟩ = some (.slice tw.a2 tw.n2 tw.c2)) ∧ w'.cell? ⟨bv, ov + times, none⟩ = some (.slice (some ⟨b1, o1, none⟩) nt ld) ∧ w'.cell? ⟨b1, o1 + i * 3, none⟩ = some (.bool tv.s) ∧ w'.cell? ⟨b1, o1 + i * 3 + 1, none⟩ = some (.slice tv.a1 tv.n1 tv.c1) ∧ w'.cell? ⟨b1, o1 + i * 3 + 2, none⟩ = some (.slice tv.a2 tv.n2 tv.c2)) W) := fun W hW => by
      have hv := unhide HKV W (below_step (unhide HW8_6) (below_step hB hW))
      rw [ea_v] at hv
      refine ⟨?_, hv, ?_⟩
      · rw [hW.cell (p := ⟨bw, ow + i * 3, none⟩) hl_w, hW.cell (p := ⟨bw, ow + i * 3 + 1, none⟩) hl_w, hW.cell (p := ⟨bw, ow + i * 3 + 2, none⟩) hl_w]; exact ⟨kw0, kw1, kw2⟩
      · rw [hW.cell (p := ⟨b1, o1 + i * 3, none⟩) hl_v, hW.cell (p := ⟨b1, o1 + i * 3 + 1, none⟩) hl_v, hW.cell (p := ⟨b1, o1 + i * 3 + 2, none⟩) hl_v]; exact ⟨kv0, kv1, kv2⟩
    have hfe : Stp.fol M fb times i ≤ Stp.env M times i := Stp.fol_le (fun a b ha hb => by
      rw [← unhide HM] at ha hb ⊢
      exact (unhide HGM).nn a b ha hb) fb times i (by rw [unhide HMn]; exact hlt)
    have hle := cmpv_le hfe
    obtain ⟨yy, hyy⟩ : ∃ y, cmpv (Stp.fol M fb times i) (Stp.env M times i) = y := ⟨_, rfl⟩
    rw [hyy] at hle
    have hd : decide (0 < yy) = false := decide_eq_false (by omega)
    have HC1 : Hid (∀ W, Below wr.heap.size wr W → Calls Tryd.prog 12 #[.agg #[.bool tw.s, .slice tw.a1 tw.n1 tw.c1, .slice tw.a2 tw.n2 tw.c2], .agg #[.bool tv.s, .slice tv.a1 tv.n1 tv.c1, .slice tv.a2 tv.n2 tv.c2]] W fun e w' => e = .returned (.int .i64 yy) ∧ Below W.heap.size W w') := fun W hW => by
      have h1 : RS (Stp.fol M fb times i) 200000 := by rw [← unhide HM]; exact fol_small (unhide HSM) (unhide HGM) (by omega) (unhide HLP)
      have h2 : RS (Stp.env M times i) 200000 := by rw [← unhide HM]; exact env_small (unhide HSM) (unhide HGM) (by omega) (unhide HLP)
      have := cmpR_all tw.val tv.val _ _ W (RatIs.below r_w hW) (RatIs.below r_v hW) 200000 h1 h2 (by rw [KKe]; omega)
      rw [hyy] at this
      exact this
    rw [ea_w]
    clear hB kw0 kw1 kw2 kv0 kv1 kv2 ea_v r_v r_w hfe hle hyy
    go_wp2_with fail
    refine wp_region_hold (fun w' : World => (w'.cell? ⟨bw, ow + i * 3, none⟩ = some (.bool tw.s) ∧ w'.cell? ⟨bw, ow + i * 3 + 1, none⟩ = some (.slice tw.a1 tw.n1 tw.c1) ∧ w'.cell? ⟨bw, ow + i * 3 + 2, none⟩ = some (.slice tw.a2 tw.n2 tw.c2)) ∧ w'.cell? ⟨bv, ov + times, none⟩ = some (.slice (some ⟨b1, o1, none⟩) nt ld) ∧ w'.cell? ⟨b1, o1 + i * 3, none⟩ = some (.bool tv.s) ∧ w'.cell? ⟨b1, o1 + i * 3 + 1, none⟩ = some (.slice tv.a1 tv.n1 tv.c1) ∧ w'.cell? ⟨b1, o1 + i * 3 + 2, none⟩ = some (.slice tv.a2 tv.n2 tv.c2)) (by kernel_rfl) ?_
    have bd0 : Below wr.heap.size wr wr.drew := (Below.refl _ _).drew
    have hC0 : (fun w' : World => (w'.cell? ⟨bw, ow + i * 3, none⟩ = some (.bool tw.s) ∧ w'.cell? ⟨bw, ow + i * 3 + 1, none⟩ = some (.slice tw.a1 tw.n1 tw.c1) ∧ w'.cell? ⟨bw, ow + i * 3 + 2, none⟩ = some (.slice tw.a2 tw.n2 tw.c2)) ∧ w'.cell? ⟨bv, ov + times, none⟩ = some (.slice (some ⟨b1, o1, none⟩) nt ld) ∧ w'.cell? ⟨b1, o1 + i * 3, none⟩ = some (.bool tv.s) ∧ w'.cell? ⟨b1, o1 + i * 3 + 1, none⟩ = some (.slice tv.a1 tv.n1 tv.c1) ∧ w'.cell? ⟨b1, o1 + i * 3 + 2, none⟩ = some (.slice tv.a2 tv.n2 tv.c2)) wr.drew := unhide HCC _ bd0
    refine wpHold_take (i := 0) (v := ?_) rfl (by kernel_rfl) (by kernel_rfl) (by kernel_rfl) (fun _ _ _ h => h) (Or.inl ⟨by rfl, ?_⟩) hC0 ?_
    rotate_left
    · intro w hSw; clear hSw; go_simp; (try with_reducible rfl)
    (try simp only [List.getElem_toArray, List.getElem_cons_succ, List.getElem_cons_zero])
    (try simp only [Act.put, List.setIfInBounds_toArray, List.set_cons_zero, List.set_cons_succ])
    refine wpHold_take (i := 1) (v := ?_) rfl (by kernel_rfl) (by kernel_rfl) (by kernel_rfl) (fun _ _ _ h => h) (Or.inl ⟨by rfl, ?_⟩) hC0 ?_
    rotate_left
    · intro w hSw; clear hSw; go_simp; (try with_reducible rfl)
    (try simp only [List.getElem_toArray, List.getElem_cons_succ, List.getElem_cons_zero])
    (try simp only [Act.put, List.setIfInBounds_toArray, List.set_cons_zero, List.set_cons_succ])
    refine wpHold_take (i := 2) (v := ?_) rfl (by kernel_rfl) (by kernel_rfl) (by kernel_rfl) (fun _ _ _ h => h) (Or.inl ⟨by rfl, ?_⟩) hC0 ?_
    rotate_left
    · intro w hSw; clear hSw; go_simp; (try with_reducible rfl)
    (try simp only [List.getElem_toArray, List.getElem_cons_succ, List.getElem_cons_zero])
    (try simp only [Act.put, List.setIfInBounds_toArray, List.set_cons_zero, List.set_cons_succ])
    refine wpHold_take (i := 3) (v := ?_) rfl (by kernel_rfl) (by kernel_rfl) (by kernel_rfl) (fun _ _ _ h => h) (Or.inl ⟨by rfl, ?_⟩) hC0 ?_
    rotate_left
    · intro w hSw; (try dsimp only at hSw); obtain ⟨⟨z0, z1, z2⟩, z3, z4, z5, z6⟩ := hSw; go_simp; (try with_reducible rfl)
    (try simp only [List.getElem_toArray, List.getElem_cons_succ, List.getElem_cons_zero])
    (try simp only [Act.put, List.setIfInBounds_toArray, List.set_cons_zero, List.set_cons_succ])
    refine wpHold_take (i := 4) (v := ?_) rfl (by kernel_rfl) (by kernel_rfl) (by kernel_rfl) (fun _ _ _ h => h) (Or.inl ⟨by rfl, ?_⟩) hC0 ?_
    rotate_left
    · intro w hSw; clear hSw; go_simp; (try with_reducible rfl)
    (try simp only [List.getElem_toArray, List.getElem_cons_succ, List.getElem_cons_zero])
    (try simp only [Act.put, List.setIfInBounds_toArray, List.set_cons_zero, List.set_cons_succ])
    refine wpHold_take (i := 5) (v := ?_) rfl (by kernel_rfl) (by kernel_rfl) (by kernel_rfl) (fun _ _ _ h => h) (Or.inl ⟨by rfl, ?_⟩) hC0 ?_
    rotate_left
    · intro w hSw; clear hSw; go_simp; (try with_reducible rfl)
    (try simp only [List.getElem_toArray, List.getElem_cons_succ, List.getElem_cons_zero])
    (try simp only [Act.put, List.setIfInBounds_toArray, List.set_cons_zero, List.set_cons_succ])
    refine wpHold_take (i := 6) (v := ?_) rfl (by kernel_rfl) (by kernel_rfl) (by kernel_rfl) (fun _ _ _ h => h) (Or.inl ⟨by rfl, ?_⟩) hC0 ?_
    rotate_left
    · intro w hSw; clear hSw; go_simp; (try with_reducible rfl)
    (try simp only [List.getElem_toArray, List.getElem_cons_succ, List.getElem_cons_zero])
    (try simp only [Act.put, List.setIfInBounds_toArray, List.set_cons_zero, List.set_cons_succ])
    refine wpHold_take (i := 7) (v := ?_) rfl (by kernel_rfl) (by kernel_rfl) (by kernel_rfl) (fun _ _ _ h => h) (Or.inl ⟨by rfl, ?_⟩) hC0 ?_
    rotate_left
    · intro w hSw; (try dsimp only at hSw); obtain ⟨⟨z0, z1, z2⟩, z3, z4, z5, z6⟩ := hSw; go_simp; (try with_reducible rfl)
    (try simp only [List.getElem_toArray, List.getElem_cons_succ, List.getElem_cons_zero])
    (try simp only [Act.put, List.setIfInBounds_toArray, List.set_cons_zero, List.set_cons_succ])
    refine wpHold_take (i := 8) (v := ?_) rfl (by kernel_rfl) (by kernel_rfl) (by kernel_rfl) (fun _ _ _ h => h) (Or.inl ⟨by rfl, ?_⟩) hC0 ?_
    rotate_left
    · intro w hSw; clear hSw; go_simp; (try with_reducible rfl)
    (try simp only [List.getElem_toArray, List.getElem_cons_succ, List.getElem_cons_zero])
    (try simp only [Act.put, List.setIfInBounds_toArray, List.set_cons_zero, List.set_cons_succ])
    refine wpHold_take (i := 9) (v := ?_) rfl (by kernel_rfl) (by kernel_rfl) (by kernel_rfl) (fun _ _ _ h => h) (Or.inl ⟨by rfl, ?_⟩) hC0 ?_
    rotate_left
    · intro w hSw; clear hSw; go_simp; (try with_reducible rfl)
    (try simp only [List.getElem_toArray, List.getElem_cons_succ, List.getElem_cons_zero])
    (try simp only [Act.put, List.setIfInBounds_toArray, List.set_cons_zero, List.set_cons_succ])
    refine wpHold_take (i := 10) (v := ?_) rfl (by kernel_rfl) (by kernel_rfl) (by kernel_rfl) (fun _ _ _ h => h) (Or.inl ⟨by rfl, ?_⟩) hC0 ?_
    rotate_left
    · intro w hSw; (try dsimp only at hSw); obtain ⟨⟨z0, z1, z2⟩, z3, z4, z5, z6⟩ := hSw; go_simp; (try with_reducible rfl)
    (try simp only [List.getElem_toArray, List.getElem_cons_succ, List.getElem_cons_zero])
    (try simp only [Act.put, List.setIfInBounds_toArray, List.set_cons_zero, List.set_cons_succ])
    refine wpHold_one (k := 11) (by kernel_rfl) rfl (fun K hK => ?_)
    (try simp only [List.getElem_toArray, List.getElem_cons_succ, List.getElem_cons_zero])
    go_simp
    refine (unhide HC1 _ bd0).mono ?_
    rintro e xw_1 ⟨rfl, hb_1⟩
    have cc_1 := below_step bd0 hb_1
    have hC_1 : (fun w' : World => (w'.cell? ⟨bw, ow + i * 3, none⟩ = some (.bool tw.s) ∧ w'.cell? ⟨bw, ow + i * 3 + 1, none⟩ = some (.slice tw.a1 tw.n1 tw.c1) ∧ w'.cell? ⟨bw, ow + i * 3 + 2, none⟩ = some (.slice tw.a2 tw.n2 tw.c2)) ∧ w'.cell? ⟨bv, ov + times, none⟩ = some (.slice (some ⟨b1, o1, none⟩) nt ld) ∧ w'.cell? ⟨b1, o1 + i * 3, none⟩ = some (.bool tv.s) ∧ w'.cell? ⟨b1, o1 + i * 3 + 1, none⟩ = some (.slice tv.a1 tv.n1 tv.c1) ∧ w'.cell? ⟨b1, o1 + i * 3 + 2, none⟩ = some (.slice tv.a2 tv.n2 tv.c2)) xw_1 := unhide HCC _ cc_1
    refine hK.out _ _ hC_1 ?_
    clear hK K
    (try simp only [Act.put, List.setIfInBounds_toArray, List.set_cons_zero, List.set_cons_succ])
    refine wpHold_take (i := 12) (v := ?_) rfl (by kernel_rfl) (by kernel_rfl) (by kernel_rfl) (fun _ _ _ h => h) (Or.inl ⟨by rfl, ?_⟩) hC_1 ?_
    rotate_left
    · intro w hSw; clear hSw; go_simp; (try with_reducible rfl)
    (try simp only [List.getElem_toArray, List.getElem_cons_succ, List.getElem_cons_zero])
    (try simp only [Act.put, List.setIfInBounds_toArray, List.set_cons_zero, List.set_cons_succ])
    refine wpHold_done (by kernel_rfl) ?_ _
    have HB3 := hide (below_step (unhide HBB) cc_1)
    clear hC0 hC_1 cc_1 bd0 hb_1 HCC HC1
    go_wp2_with fail
    exact ⟨⟨i + 1, by go_num, hlt, unhide HB3⟩, by simp [intOf]; omega⟩

end Go.Proofs.YtgpolilpgkhlkaaDoor
