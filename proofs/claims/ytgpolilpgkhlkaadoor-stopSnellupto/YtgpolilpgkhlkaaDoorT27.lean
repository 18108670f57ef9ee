/- StopSnell: the walk. -/
import Derived.Test.YtgpolilpgkhlkaaDoorT26
namespace Go.Proofs.YtgpolilpgkhlkaaDoor
open Go.RowKit Go.Sort Go.Shelf

set_option maxHeartbeats 16000000 in
set_option maxRecDepth 100000 in
set_option linter.unusedSimpArgs false in
theorem stopSnell_any (v vq : Value) (pss : List (List (Int × Int))) (ps : List (Int × Int)) (x y tm : Int) (qs : List (Int × Int)) (w : World) (htab : Tab w) (h : PChainIs w v pss ps x y) (sm : SmP pss) (hps : ps.length ≤ 1048576) (hq : PairsAre w vq qs) :
    Calls Tryd.prog 3 #[v, .int .i64 tm, vq] w fun e w' => e = .returned (.bool true) ∧ Below w.heap.size w w' := by
  have HMR := hide (mor_RS hq)
  obtain ⟨aq, cq, rfl, hq1, hq2, hq4, hq3⟩ := hq
  have HQ4 := hide hq4
  have HQ3 := hide hq3
  obtain ⟨nq, hnq⟩ : ∃ n, qs.length = n := ⟨_, rfl⟩
  have HNQ := hide hnq
  rw [hnq] at hq1 ⊢
  obtain ⟨ti, hti, hz0, hz1, hz2⟩ := info_parts Tryd.infoR
  have HI := hide hti
  have HZ := hide hz0
  clear hq4 hq3 hnq hti hz0
  have KKe : KK = 1099511627776 := rfl
  have HTB := hide htab
  have HPC := hide h
  have HSP := hide sm
  have HPS := hide hps
  obtain ⟨l, m, rfl, hP, hT, hx, hy⟩ := h
  have hpn := prows_len hP
  have htn := pairs_len hT
  obtain ⟨np, hnp⟩ : ∃ n, pss.length = n := ⟨_, rfl⟩
  obtain ⟨nt, hnt⟩ : ∃ n, ps.length = n := ⟨_, rfl⟩
  rw [hnp] at hpn
  rw [hnt] at htn
  have HNP := hide hnp
  have HNT := hide hnt
  have HPCV : Hid (pcv l m x y = .agg #[.slice l.a np l.c, .slice m.a nt m.c, .int .i64 x, .int .i64 y]) := by show pcv l m x y = _; unfold pcv; rw [hpn, htn]
  rw [unhide HPCV] at HPC ⊢
  have hPv : l.val = .slice l.a np l.c := by show Value.slice l.a l.n l.c = _; rw [hpn]
  rw [hPv] at hP
  have b0 := alloc_below w (.cells #[.slice l.a np l.c, .slice m.a nt m.c, .int .i64 x, .int .i64 y] 27)
  have n0 := heap_alloc_new w (.cells #[.slice l.a np l.c, .slice m.a nt m.c, .int .i64 x, .int .i64 y] 27)
  obtain ⟨W0, hW0⟩ : ∃ W, w.alloc (.cells #[.slice l.a np l.c, .slice m.a nt m.c, .int .i64 x, .int .i64 y] 27) = W := ⟨_, rfl⟩
  obtain ⟨bx, hbx⟩ : ∃ b, w.heap.size = b := ⟨_, rfl⟩
  rw [hW0] at b0 n0
  rw [hbx] at n0
  have hbl : bx < W0.heap.size := (Array.getElem?_eq_some_iff.1 n0).1
  have HCB : Hid (∀ W, Below W0.heap.size W0 W → W.cell? ⟨bx, 0, none⟩ = some (.slice l.a np l.c) ∧ W.cell? ⟨bx, 1, none⟩ = some (.slice m.a nt m.c) ∧ W.cell? ⟨bx, 2, none⟩ = some (.int .i64 x) ∧ W.cell? ⟨bx, 3, none⟩ = some (.int .i64 y)) := fun W hW => by
    have h' := heap_kept n0 hW
    simp [World.cell?, h']
  have ⟨i0, i1, i2, i3⟩ := unhide HCB _ (Below.refl _ _)
  have HWI := hide (wide_any (.slice l.a np l.c) pss 40 W0 (hP.below b0) sm (by decide))
  have HB0 := hide b0
  clear hP hT hx hy hpn htn hnp hnt hPv b0 n0 hbl sm hps htab
  go_enter Tryd.func3, Tryd.ntmps3
  go_wp2_with fail
  clear hW0 hbx i0 i1 i2 i3
  refine (unhide HWI).mono ?_
  rintro e w1 ⟨(⟨hw, rfl⟩ | ⟨hw, rfl⟩), hb1⟩
  · have HB1 := hide (below_step (unhide HB0) hb1)
    clear hw hb1 HWI
    go_wp2
    go_ret
    exact ⟨rfl, unhide HB1⟩
  have HTOT : Hid (tot pss ≤ 40) := Nat.le_of_not_lt hw
  have HB1 := hide (below_step (unhide HB0) hb1)
  have HW01 := hide hb1
  have ⟨i0, i1, i2, i3⟩ := unhide HCB w1 hb1
  have hnt0 : nt ≤ 9223372036854775807 := by have := unhide HNT; have := unhide HPS; omega
  clear hw hb1 HWI
  by_cases h6 : (6 : Int) < (nt : Int)
  · go_wp2
    go_ret
    exact ⟨rfl, unhide HB1⟩
  go_wp2_with fail
  refine (pick_any tm 5 (by decide) (by decide) w1).mono ?_
  rintro e w1 ⟨times, rfl, htm, rfl⟩
  go_wp2_with fail
  clear i0 i1 i2 i3
  have HST := hide (pstop_any _ pss ps x y w1 ((unhide HPC).below (unhide HB1)) (unhide HSP) (unhide HPS))
  refine (unhide HST).mono ?_
  rintro e w3 ⟨v3, rfl, hv3, hb3⟩
  have hSmC : SmC (pqss pss) (pqs ps) (pq (x, y)) := smC_of (unhide HPC) (unhide HTOT) (by have := unhide HNT; omega)
  have hPl : (pqss pss).length = np := by rw [pqss_length]; exact unhide HNP
  have hgl : (pqs ps).length = nt := by rw [pqs_length]; exact unhide HNT
  obtain ⟨P, eP⟩ : ∃ P, pqss pss = P := ⟨_, rfl⟩
  obtain ⟨gs, eg⟩ : ∃ g, pqs ps = g := ⟨_, rfl⟩
  obtain ⟨c, ec⟩ : ∃ c, pq (x, y) = c := ⟨_, rfl⟩
  rw [eP, eg, ec] at hv3 hSmC
  rw [eP] at hPl
  rw [eg] at hgl
  have HSM := hide hSmC
  have HPL := hide hPl
  have HGL := hide hgl
  obtain ⟨lc, mc, tc, rfl, hS, hT, hR⟩ := hv3
  have hln := rows_len hS
  have hmn := law_len hT
  rw [hPl] at hln
  rw [hgl] at hmn
  have HLN := hide hln
  have HMN := hide hmn
  have X3 := CBox.new hS hT hR
  have b3 := alloc_below w3 (.cells #[.slice lc.a lc.n lc.c, .slice mc.a mc.n mc.c, .bool tc.s, .slice tc.a1 tc.n1 tc.c1, .slice tc.a2 tc.n2 tc.c2] 37)
  unfold cval
  rw [hln, hmn] at b3 ⊢
  obtain ⟨W3, hW3⟩ : ∃ W, w3.alloc (.cells #[.slice lc.a np lc.c, .slice mc.a nt mc.c, .bool tc.s, .slice tc.a1 tc.n1 tc.c1, .slice tc.a2 tc.n2 tc.c2] 37) = W := ⟨_, rfl⟩
  obtain ⟨bc, hbc⟩ : ∃ b, w3.heap.size = b := ⟨_, rfl⟩
  have X3' : CBox W3 bc lc mc tc P gs c := by rw [← hW3, ← hbc, ← hln, ← hmn]; exact X3
  rw [hW3] at b3
  have ⟨j0, j1, j2, j3, j4⟩ := X3'.cells _ (Below.refl _ _)
  rw [hln] at j0
  rw [hmn] at j1
  have HXC := hide X3'
  have HB3 := hide (below_step (unhide HB1) (below_step hb3 b3))
  have HW03 := hide (below_step (unhide HW01) (below_step hb3 b3))
  have HEV := hide (Envelope_any (cval lc mc tc) P gs c times W3 X3'.chain hSmC (by omega))
  have HCV : Hid (cval lc mc tc = .agg #[.slice lc.a np lc.c, .slice mc.a nt mc.c, .bool tc.s, .slice tc.a1 tc.n1 tc.c1, .slice tc.a2 tc.n2 tc.c2]) := by show cval lc mc tc = _; unfold cval; rw [hln, hmn]
  rw [unhide HCV] at HEV
  clear hSmC hPl hgl eP eg ec hS hT hR hln hmn X3 X3' b3 hb3 HST
  go_wp2_with fail
  clear hW3 hbc j0 j1 j2 j3 j4
  refine (unhide HEV).mono ?_
  rintro e w4 (⟨gm, hcode, v4, rfl, hv4, hb4⟩ | ⟨hcode, kz, rfl, hb4⟩)
  rotate_left
  · have HB4 := hide (below_step (unhide HB3) hb4)
    clear hcode hb4 HEV
    go_wp2_with fail
    refine (stopped_any w4 (tab_below (unhide HTB) (unhide HB4))).mono ?_
    rintro e w5 ⟨rfl, hb5⟩
    have HB5 := hide (below_step (unhide HB4) hb5)
    clear hb5 HB4
    go_wp2_with fail
    refine (stopped_any w5 (tab_below (unhide HTB) (unhide HB5))).mono ?_
    rintro e w6 ⟨rfl, hb6⟩
    have HB6 := hide (below_step (unhide HB5) hb6)
    clear hb6 HB5
    go_wp2
    go_ret
    exact ⟨rfl, unhide HB6⟩
  obtain rfl : nt = np := by have h1 := gm.gl; have h2 := unhide HPL; have h3 := unhide HGL; omega
  obtain ⟨n, hn⟩ : ∃ n, nt = n := ⟨_, rfl⟩
  subst hn
  obtain ⟨T, hT⟩ : ∃ T, times + 1 = T := ⟨_, rfl⟩
  obtain ⟨M, hM⟩ : ∃ M, chn P gs c = M := ⟨_, rfl⟩
  rw [hM, hT, unhide HPL] at hv4
  have HM := hide hM
  have HMn : Hid (M.n = nt) := by show M.n = nt; rw [← hM]; exact unhide HPL
  have HGM := hide gm
  have hn1 : 1 ≤ nt := by have := gm.n1; have := unhide HPL; omega
  obtain ⟨av, cv, rfl, _⟩ := id hv4
  rw [emat_length] at hv4 ⊢
  have HV4 := hide hv4
  have HX4 := hide ((unhide HXC).keep hb4)
  have HB4 := hide (below_step (unhide HB3) hb4)
  clear hcode gm hM hv4 hb4 HEV HXC HB3
  go_wp2_with fail
  refine (stopped_any w4 (tab_below (unhide HTB) (unhide HB4))).mono ?_
  rintro e w5 ⟨rfl, hb5⟩
  have HV5 := hide ((unhide HV4).below hb5)
  have X5 := (unhide HX4).keep hb5
  have HX5 := hide X5
  have HB5 := hide (below_step (unhide HB4) hb5)
  have eT : IntKind.i64.wrap ((times : Int) + 1) = (T : Int) := by rw [IntKind.wrap_i64]; omega
  have eT2 : ((T : Int) == (T : Int)) = true := by rw [beq_iff_eq]
  have bE := alloc_below w5 (.cells #[] 35)
  have ⟨j0, j1, j2, j3, j4⟩ := X5.cells _ bE
  have ⟨p0, p1, p2, p3, p4⟩ := X5.cells _ (Below.refl _ _)
  rw [unhide HLN] at j0 p0
  rw [unhide HMN] at j1 p1
  have hmlaw := X5.2.2.1
  simp only [Sl.val] at hmlaw
  rw [unhide HMN] at hmlaw
  have hgl := unhide HGL
  obtain ⟨bm, om, us, ema, hmlt, hus, hnews, hru⟩ := law_tris (a := mc.a) (c := mc.c) (qs := gs) (by rw [hgl]; exact hmlaw) (by omega)
  have hnews' : ∀ j u, (tcells us)[j]? = some u → (w5.alloc (.cells #[] 35)).cell? ((⟨bm, om, none⟩ : Addr).add j) = some u := fun j u hu => by
    have := hnews j u hu
    rw [addr_add] at this ⊢
    rw [bE.cell (p := ⟨bm, om + j, none⟩) hmlt]
    exact this
  have HNW := hide hnews'
  have HUS : Hid (us.length = nt) := by show _ = _; rw [hus, hgl]
  have HTL : Hid ((tcells us).length = nt * 3) := by show _ = _; rw [tcells_length, unhide HUS]
  have HRU : Hid (∀ j, j < nt → RatIs w5 (us[j]!).val gs[j]!) := fun j hj => hru j (by rw [hgl]; exact hj)
  have HMA := hide ema
  rw [ema] at j1 p1
  clear hb5 HV4 HX4 HB4 X5 bE hmlaw hus hnews hnews' hru hgl
  rw [ema]
  go_wp2_with (at_builtin; go_loud (refine wpList_append_new _ rfl _ _ _ rfl 35 ti _ 56 Tryd.underlying31 (unhide HI) (unhide HZ) hz1 hz2 ⟨w5.heap.size, 0, none⟩ rfl ⟨bm, om, none⟩ nt mc.c (tcells us) rfl (unhide HTL) (unhide HNW) (by omega) (by unfold maxLen; omega) (by omega) ?_; intro cap hcap hmx))
  clear j0 j1 j2 j3 j4 p0 p1 p2 p3 p4 eT eT2
  have HCL := hide (cloned_law (w := w5) (us := us) (qs := gs) (n := nt) (cap := cap) (unhide HUS) (unhide HGL) (unhide HRU) hcap hmx)
  obtain ⟨n, hn⟩ : ∃ n, nt = n := ⟨_, rfl⟩
  subst hn
  go_loopw [10, 11] (fun vo vt wr => ∃ (tt : Nat) (ao : Option Addr) (co : Nat), vo = .slice ao nt co ∧ vt = .int .i64 (tt : Int) ∧ tt ≤ T ∧ LawIs wr (.slice ao nt co) (row (pvr M (mor qs) tt) nt) ∧ Below w5.heap.size w5 wr) (fun _ vt _ => T - (intOf vt).toNat)
  case atStart => exact ⟨0, some ⟨w5.heap.size + 1, 0, none⟩, cap, rfl, rfl, Nat.zero_le _, by
    have e : row (pvr M (mor qs) 0) nt = gs := (row_eq (unhide HGL) (fun j hj => by show gs[j]! = M.g j; rw [← unhide HM]; rfl)).symm
    rw [e]; exact (unhide HCL).1, (unhide HCL).2⟩
  case round =>
    obtain ⟨tt, ao, co, rfl, rfl, htt, hO, hB⟩ := hrel
    clear HCL HRU
    by_cases hlt0 : tt < T
    rotate_left
    · have f1 : ¬ (tt : Int) ≤ (times : Int) := by omega
      have HBf := hide (below_step (unhide HB5) hB)
      clear hO hB
      go_wp2
      go_ret
      exact ⟨rfl, unhide HBf⟩
    have f1 : (tt : Int) ≤ (times : Int) := by omega
    have ft : (tt : Int) < (T : Int) := by omega
    have ft0 : (0 : Int) ≤ (tt : Int) := by omega
    have eTT : ((nt : Int) == (nt : Int)) = true := by rw [beq_iff_eq]
    obtain ⟨bv, ov, la_, eav, hbv, kv, hLv⟩ := ((unhide HV5).below hB).at (l := (av, T, cv)) (i := tt) (by rw [emat_length]; exact hlt0)
    rw [emat_get hlt0] at hLv
    have hlan := law_len hLv
    rw [row_length] at hlan
    rw [hlan] at kv
    obtain ⟨la, ela⟩ : ∃ a, la_.a = a := ⟨_, rfl⟩
    obtain ⟨ld, eld⟩ : ∃ a, la_.c = a := ⟨_, rfl⟩
    simp only [Sl.val] at hLv
    rw [hlan, ela, eld] at hLv
    rw [ela, eld] at kv
    have XW := (unhide HX5).keep hB
    have HC14 : Hid (∀ W, Below wr.heap.size wr W → (fun w' : World => (w'.cell? ⟨bc, 0, none⟩ = some (.slice lc.a nt lc.c) ∧ w'.cell? ⟨bc, 1, none⟩ = some (.slice (some ⟨bm, om, none⟩) nt mc.c) ∧ w'.cell? ⟨bc, 2, none⟩ = some (.bool tc.s) ∧ w'.cell? ⟨bc, 3, none⟩ = some (.slice tc.a1 tc.n1 tc.c1) ∧ w'.cell? ⟨bc, 4, none⟩ = some (.slice tc.a2 tc.n2 tc.c2)) ∧ w'.cell? ⟨bv, ov + tt, none⟩ = some (.slice la nt ld)) W) := fun W hW => by
      have mcc := XW.cells W hW
      rw [unhide HLN, unhide HMN, unhide HMA] at mcc
      exact ⟨mcc, by rw [hW.cell (p := ⟨bv, ov + tt, none⟩) hbv]; exact kv⟩
    have HAV : Hid (av = some ⟨bv, ov, none⟩) := eav
    have HOL0 := hide hO
    have HBW := hide hB
    have HLV0 := hide hLv
    have HXW := hide XW
    have HVW := hide ((unhide HV5).below hB)
    have eav' : av = some ⟨bv, ov, none⟩ := eav
    rw [eav']
    clear hO hB hLv XW hlan ela eld eav kv hbv
    go_wp2_with fail
    refine wp_region_hold (fun w' : World => (w'.cell? ⟨bc, 0, none⟩ = some (.slice lc.a nt lc.c) ∧ w'.cell? ⟨bc, 1, none⟩ = some (.slice (some ⟨bm, om, none⟩) nt mc.c) ∧ w'.cell? ⟨bc, 2, none⟩ = some (.bool tc.s) ∧ w'.cell? ⟨bc, 3, none⟩ = some (.slice tc.a1 tc.n1 tc.c1) ∧ w'.cell? ⟨bc, 4, none⟩ = some (.slice tc.a2 tc.n2 tc.c2)) ∧ w'.cell? ⟨bv, ov + tt, none⟩ = some (.slice la nt ld)) (by kernel_rfl) ?_
    have bd0 : Below wr.heap.size wr wr.drew := (Below.refl _ _).drew
    have hC0 : (fun w' : World => (w'.cell? ⟨bc, 0, none⟩ = some (.slice lc.a nt lc.c) ∧ w'.cell? ⟨bc, 1, none⟩ = some (.slice (some ⟨bm, om, none⟩) nt mc.c) ∧ w'.cell? ⟨bc, 2, none⟩ = some (.bool tc.s) ∧ w'.cell? ⟨bc, 3, none⟩ = some (.slice tc.a1 tc.n1 tc.c1) ∧ w'.cell? ⟨bc, 4, none⟩ = some (.slice tc.a2 tc.n2 tc.c2)) ∧ w'.cell? ⟨bv, ov + tt, none⟩ = some (.slice la nt ld)) wr.drew := unhide HC14 _ bd0
    refine wpHold_take (i := 0) (v := ?_) rfl (by kernel_rfl) (by kernel_rfl) (by kernel_rfl) (fun _ _ _ h => h) (Or.inl ⟨by rfl, ?_⟩) hC0 ?_
    rotate_left
    · intro w hSw; clear hSw; go_simp; (try with_reducible rfl)
    (try simp only [List.getElem_toArray, List.getElem_cons_succ, List.getElem_cons_zero])
    (try simp only [Act.put, List.setIfInBounds_toArray, List.set_cons_zero, List.set_cons_succ])
    refine wpHold_take (i := 1) (v := ?_) rfl (by kernel_rfl) (by kernel_rfl) (by kernel_rfl) (fun _ _ _ h => h) (Or.inl ⟨by rfl, ?_⟩) hC0 ?_
    rotate_left
    · intro w hSw; clear hSw; go_simp; (try with_reducible rfl)
    (try simp only [List.getElem_toArray, List.getElem_cons_succ, List.getElem_cons_zero])
    (try simp only [Act.put, List.setIfInBounds_toArray, List.set_cons_zero, List.set_cons_succ])
    refine wpHold_take (i := 2) (v := ?_) rfl (by kernel_rfl) (by kernel_rfl) (by kernel_rfl) (fun _ _ _ h => h) (Or.inl ⟨by rfl, ?_⟩) hC0 ?_
    rotate_left
    · intro w hSw; clear hSw; go_simp; (try with_reducible rfl)
    (try simp only [List.getElem_toArray, List.getElem_cons_succ, List.getElem_cons_zero])
    (try simp only [Act.put, List.setIfInBounds_toArray, List.set_cons_zero, List.set_cons_succ])
    refine wpHold_take (i := 3) (v := ?_) rfl (by kernel_rfl) (by kernel_rfl) (by kernel_rfl) (fun _ _ _ h => h) (Or.inl ⟨by rfl, ?_⟩) hC0 ?_
    rotate_left
    · intro w hSw; (try dsimp only at hSw); obtain ⟨⟨z0, z1, z2, z3, z4⟩, z5⟩ := hSw; go_simp; (try with_reducible rfl)
    (try simp only [List.getElem_toArray, List.getElem_cons_succ, List.getElem_cons_zero])
    (try simp only [Act.put, List.setIfInBounds_toArray, List.set_cons_zero, List.set_cons_succ])
    refine wpHold_take (i := 4) (v := ?_) rfl (by kernel_rfl) (by kernel_rfl) (by kernel_rfl) (fun _ _ _ h => h) (Or.inl ⟨by rfl, ?_⟩) hC0 ?_
    rotate_left
    · intro w hSw; clear hSw; go_simp; (try with_reducible rfl)
    (try simp only [List.getElem_toArray, List.getElem_cons_succ, List.getElem_cons_zero])
    (try simp only [Act.put, List.setIfInBounds_toArray, List.set_cons_zero, List.set_cons_succ])
    refine wpHold_take (i := 5) (v := ?_) rfl (by kernel_rfl) (by kernel_rfl) (by kernel_rfl) (fun _ _ _ h => h) (Or.inl ⟨by rfl, ?_⟩) hC0 ?_
    rotate_left
    · intro w hSw; clear hSw; go_simp; (try with_reducible rfl)
    (try simp only [List.getElem_toArray, List.getElem_cons_succ, List.getElem_cons_zero])
    (try simp only [Act.put, List.setIfInBounds_toArray, List.set_cons_zero, List.set_cons_succ])
    refine wpHold_take (i := 6) (v := ?_) rfl (by kernel_rfl) (by kernel_rfl) (by kernel_rfl) (fun _ _ _ h => h) (Or.inl ⟨by rfl, ?_⟩) hC0 ?_
    rotate_left
    · intro w hSw; (try dsimp only at hSw); obtain ⟨⟨z0, z1, z2, z3, z4⟩, z5⟩ := hSw; go_simp; (try with_reducible rfl)
    (try simp only [List.getElem_toArray, List.getElem_cons_succ, List.getElem_cons_zero])
    (try simp only [Act.put, List.setIfInBounds_toArray, List.set_cons_zero, List.set_cons_succ])
    refine wpHold_take (i := 7) (v := ?_) rfl (by kernel_rfl) (by kernel_rfl) (by kernel_rfl) (fun _ _ _ h => h) (Or.inl ⟨by rfl, ?_⟩) hC0 ?_
    rotate_left
    · intro w hSw; clear hSw; go_simp; (try with_reducible rfl)
    (try simp only [List.getElem_toArray, List.getElem_cons_succ, List.getElem_cons_zero])
    (try simp only [Act.put, List.setIfInBounds_toArray, List.set_cons_zero, List.set_cons_succ])
    refine wpHold_take (i := 8) (v := ?_) rfl (by kernel_rfl) (by kernel_rfl) (by kernel_rfl) (fun _ _ _ h => h) (Or.inl ⟨by rfl, ?_⟩) hC0 ?_
    rotate_left
    · intro w hSw; clear hSw; go_simp; (try with_reducible rfl)
    (try simp only [List.getElem_toArray, List.getElem_cons_succ, List.getElem_cons_zero])
    (try simp only [Act.put, List.setIfInBounds_toArray, List.set_cons_zero, List.set_cons_succ])
    refine wpHold_done (by kernel_rfl) ?_ _
    obtain ⟨V, hV⟩ : ∃ V, wr.drew = V := ⟨_, rfl⟩
    rw [hV] at bd0 ⊢
    have HXV := hide ((unhide HXW).keep bd0)
    have HVV := hide ((unhide HVW).below bd0)
    have HOL := hide ((unhide HOL0).below bd0)
    have HLV := hide ((unhide HLV0).below bd0)
    have HBV := hide (below_step (unhide HB5) (below_step (unhide HBW) bd0))
    have HB5V := hide (below_step (unhide HBW) bd0)
    have HHV : Hid (∀ W, Below V.heap.size V W → W.cell? ⟨bv, ov + tt, none⟩ = some (.slice la nt ld)) := fun W hW => (unhide HC14 W (below_step bd0 hW)).2
    clear hC0 bd0 hV HC14 HOL0 HBW HLV0 HXW HVW
    go_wp2_with fail
    go_loopw [12, 13] (fun vn vi wv => ∃ (i : Nat) (ts : List Tri), vi = .int .i64 (i : Int) ∧ i ≤ nt ∧ ts.length = i ∧ FsAt V wv V.heap.size vn ts (row (ovr M (mor qs) tt) nt)) (fun _ vi _ => nt - (intOf vi).toNat)
    case atStart => exact ⟨0, [], rfl, Nat.zero_le _, rfl, FsAt.start V _⟩
    case round =>
      obtain ⟨i, ts, rfl, hi, hts, T3⟩ := hrel
      have HCA : Hid (∀ W, Below wr.heap.size wr W → W.cell? ⟨bc, 0, none⟩ = some (.slice lc.a nt lc.c) ∧ W.cell? ⟨bc, 1, none⟩ = some (.slice (some ⟨bm, om, none⟩) nt mc.c) ∧ W.cell? ⟨bc, 2, none⟩ = some (.bool tc.s) ∧ W.cell? ⟨bc, 3, none⟩ = some (.slice tc.a1 tc.n1 tc.c1) ∧ W.cell? ⟨bc, 4, none⟩ = some (.slice tc.a2 tc.n2 tc.c2)) := fun W hW => by
        have mcc := (unhide HXV).cells W (below_step T3.bl hW)
        rw [unhide HLN, unhide HMN, unhide HMA] at mcc
        exact mcc
      have ⟨k0, k1, k2, k3, k4⟩ := unhide HCA wr (Below.refl _ _)
      by_cases hlt : i < nt
      rotate_left
      · obtain rfl : i = nt := by omega
        have fi : ¬ (i : Int) < (i : Int) := by omega
        have L := law_of_owns T3.own (by rw [hts, row_length]) T3.rat
        have HBf := hide (below_step (unhide HB5V) T3.bl)
        obtain ⟨an, cn, en, _⟩ := id L
        rw [row_length] at en
        have HL := hide L
        clear T3 L
        go_wp2_with fail
        exact ⟨⟨tt + 1, an, cn, en, by go_num, hlt0, by rw [← en]; exact unhide HL, unhide HBf⟩, by simp [intOf]; omega⟩
      have fi : (i : Int) < (nt : Int) := by omega
      have fi0 : (0 : Int) ≤ (i : Int) := by omega
      have HT := hide T3
      have HTS := hide hts
      have HLP : Hid (i < P.length) := by show _ < _; rw [unhide HPL]; exact hlt
      obtain ⟨a_v, c_v, e_v, _, _, h_v⟩ := unhide HLV
      obtain ⟨b1, o1, eb_v, hl_v, hc_v⟩ := h_v (by rw [row_length]; omega)
      have ea_v : la = some ⟨b1, o1, none⟩ := by injection e_v with e1; rw [e1, eb_v]
      obtain ⟨v_s, v_p1, v_p2, v_n1, v_d1, v_n2, v_d2, kv0, kv1, kv2, r_v⟩ := hc_v i (by rw [row_length]; omega)
      obtain ⟨tv, rfl, rfl, rfl, rfl, rfl, rfl, rfl⟩ : ∃ t : Tri, v_s = t.s ∧ v_p1 = t.a1 ∧ v_p2 = t.a2 ∧ v_n1 = t.n1 ∧ v_d1 = t.c1 ∧ v_n2 = t.n2 ∧ v_d2 = t.c2 := ⟨⟨v_s, v_p1, v_p2, v_n1, v_d1, v_n2, v_d2⟩, rfl, rfl, rfl, rfl, rfl, rfl, rfl⟩
      clear e_v eb_v h_v hc_v
      rw [row_get hlt] at r_v
      obtain ⟨am_, cm_, em_, _, _, hm3⟩ := (unhide HXV).2.2.1
      obtain ⟨bm', om', eam, hmlt', hcm⟩ := hm3 (by rw [unhide HGL]; omega)
      have ebm : bm = bm' ∧ om = om' := by
        have h1 := unhide HMA
        have h2 : mc.a = am_ := by injection em_
        rw [h2, eam] at h1
        injection h1 with h1
        injection h1 with h3 h4
        exact ⟨h3.symm, h4.symm⟩
      obtain ⟨rfl, rfl⟩ := ebm
      obtain ⟨k_s, k_p1, k_p2, k_n1, k_d1, k_n2, k_d2, km0, km1, km2, r_k⟩ := hcm i (by rw [unhide HGL]; exact hlt)
      obtain ⟨tk, rfl, rfl, rfl, rfl, rfl, rfl, rfl⟩ : ∃ t : Tri, k_s = t.s ∧ k_p1 = t.a1 ∧ k_p2 = t.a2 ∧ k_n1 = t.n1 ∧ k_d1 = t.c1 ∧ k_n2 = t.n2 ∧ k_d2 = t.c2 := ⟨⟨k_s, k_p1, k_p2, k_n1, k_d1, k_n2, k_d2⟩, rfl, rfl, rfl, rfl, rfl, rfl, rfl⟩
      have HVC : Hid (∀ W, Below V.heap.size V W → W.cell? ⟨bv, ov + tt, none⟩ = some (.slice (some ⟨b1, o1, none⟩) nt ld) ∧ W.cell? ⟨b1, o1 + i * 3, none⟩ = some (.bool tv.s) ∧ W.cell? ⟨b1, o1 + i * 3 + 1, none⟩ = some (.slice tv.a1 tv.n1 tv.c1) ∧ W.cell? ⟨b1, o1 + i * 3 + 2, none⟩ = some (.slice tv.a2 tv.n2 tv.c2)) := fun W hW => by
        have h1 := unhide HHV W hW
        rw [ea_v] at h1
        refine ⟨h1, ?_⟩
        rw [hW.cell (p := ⟨b1, o1 + i * 3, none⟩) hl_v, hW.cell (p := ⟨b1, o1 + i * 3 + 1, none⟩) hl_v, hW.cell (p := ⟨b1, o1 + i * 3 + 2, none⟩) hl_v]
        exact ⟨kv0, kv1, kv2⟩
      have HVR : Hid (∀ W, Below V.heap.size V W → RatIs W tv.val (Stp.env M tt i)) := fun W hW => r_v.below hW
      have HKR : Hid (∀ W, Below wr.heap.size wr W → RatIs W tk.val gs[i]!) := fun W hW => RatIs.below r_k (below_step T3.bl hW)
      have HC20 : Hid (∀ W, Below wr.heap.size wr W → (fun w' : World => (w'.cell? ⟨bc, 0, none⟩ = some (.slice lc.a nt lc.c) ∧ w'.cell? ⟨bc, 1, none⟩ = some (.slice (some ⟨bm, om, none⟩) nt mc.c) ∧ w'.cell? ⟨bc, 2, none⟩ = some (.bool tc.s) ∧ w'.cell? ⟨bc, 3, none⟩ = some (.slice tc.a1 tc.n1 tc.c1) ∧ w'.cell? ⟨bc, 4, none⟩ = some (.slice tc.a2 tc.n2 tc.c2)) ∧ w'.cell? ⟨bv, ov + tt, none⟩ = some (.slice (some ⟨b1, o1, none⟩) nt ld) ∧ (w'.cell? ⟨b1, o1 + i * 3, none⟩ = some (.bool tv.s) ∧ w'.cell? ⟨b1, o1 + i * 3 + 1, none⟩ = some (.slice tv.a1 tv.n1 tv.c1) ∧ w'.cell? ⟨b1, o1 + i * 3 + 2, none⟩ = some (.slice tv.a2 tv.n2 tv.c2)) ∧ (w'.cell? ⟨bm, om + i * 3, none⟩ = some (.bool tk.s) ∧ w'.cell? ⟨bm, om + i * 3 + 1, none⟩ = some (.slice tk.a1 tk.n1 tk.c1) ∧ w'.cell? ⟨bm, om + i * 3 + 2, none⟩ = some (.slice tk.a2 tk.n2 tk.c2))) W) := fun W hW => by
        have hb := below_step T3.bl hW
        have hv := unhide HVC W hb
        refine ⟨unhide HCA W hW, hv.1, hv.2, ?_⟩
        rw [hb.cell (p := ⟨bm, om + i * 3, none⟩) hmlt', hb.cell (p := ⟨bm, om + i * 3 + 1, none⟩) hmlt', hb.cell (p := ⟨bm, om + i * 3 + 2, none⟩) hmlt']
        exact ⟨km0, km1, km2⟩
      obtain ⟨tn, htn⟩ : ∃ x, tt * nt = x := ⟨_, rfl⟩
      obtain ⟨kk, hkk⟩ : ∃ x, tn + i = x := ⟨_, rfl⟩
      have htn1 : tn ≤ 5 * 6 := by rw [← htn]; exact Nat.mul_le_mul (by omega) (by omega)
      have ek1 : IntKind.i64.wrap ((tt : Int) * (nt : Int)) = (tn : Int) := by
        have e : (tt : Int) * (nt : Int) = (tn : Int) := by rw [← htn]; exact (Int.natCast_mul tt nt).symm
        rw [e, IntKind.wrap_i64]; omega
      have ek2 : IntKind.i64.wrap ((tn : Int) + (i : Int)) = (kk : Int) := by rw [IntKind.wrap_i64]; omega
      have HOV : Hid (bsr M (mor qs) tt i + mor qs kk = ovr M (mor qs) tt i) := by
        show _ = bsr M (mor qs) tt i + mor qs (tt * M.n + i)
        rw [unhide HMn, htn, hkk]
      have HENV : Hid (Stp.env M tt i ≤ ovr M (mor qs) tt i) := env_ovr (fun a b ha hb => by
        rw [← unhide HM] at ha hb ⊢
        exact (unhide HGM).nn a b ha hb) (mor_nn qs) tt i (by rw [unhide HMn]; exact hlt)
      have HRO : Hid (RS (ovr M (mor qs) tt i) 300000) := by show RS _ _; rw [← unhide HM]; exact ovr_small (unhide HSM) (unhide HGM) (unhide HMR) (by omega) (unhide HLP)
      have HRB : Hid (RS (bsr M (mor qs) tt i) 300000) := by show RS _ _; rw [← unhide HM]; exact bsr_small (unhide HSM) (unhide HGM) (unhide HMR) (by omega) (unhide HLP)
      have HRE : Hid (RS (Stp.env M tt i) 300000) := by show RS _ _; rw [← unhide HM]; exact (env_small (unhide HSM) (unhide HGM) (by omega) (unhide HLP)).mono (by omega)
      have HRG := hide ((unhide HSM).rg i (by rw [unhide HGL]; exact hlt))
      have HJ3 : Hid (300000 + 300000 + 1 ≤ KK) := by show _ ≤ _; rw [KKe]; omega
      have hg1 : gs[i]! ≤ Stp.env M tt i := by rw [← unhide HM]; exact Stp.env_take (chn P gs c) tt i
      have hle1 := cmpv_ge hg1
      obtain ⟨y1, hy1⟩ : ∃ y, cmpv (Stp.env M tt i) gs[i]! = y := ⟨_, rfl⟩
      rw [hy1] at hle1
      have hd1 : decide (y1 < 0) = false := decide_eq_false (by omega)
      have HC1 : Hid (∀ W, Below wr.heap.size wr W → Calls Tryd.prog 12 #[.agg #[.bool tv.s, .slice tv.a1 tv.n1 tv.c1, .slice tv.a2 tv.n2 tv.c2], .agg #[.bool tk.s, .slice tk.a1 tk.n1 tk.c1, .slice tk.a2 tk.n2 tk.c2]] W fun e w' => e = .returned (.int .i64 y1) ∧ Below W.heap.size W w') := fun W hW => by
        have := cmpR_all tv.val tk.val _ _ W (unhide HVR W (below_step T3.bl hW)) (unhide HKR W hW) 300000 (unhide HRE) ((unhide HRG).mono (by omega)) (by rw [KKe]; omega)
        rw [hy1] at this
        exact this
      clear T3 hts hm3 hcm em_ eam hmlt' km0 km1 km2 r_k r_v kv0 kv1 kv2 hl_v ea_v htn hkk htn1 hg1 hle1 hy1
      by_cases hk : kk < nq
      · have fk : (kk : Int) < (nq : Int) := by omega
        have fk0 : (0 : Int) ≤ (kk : Int) := by omega
        obtain ⟨bq, oq, eq1, hqlt, hcq⟩ := unhide HQ3 (by have := unhide HNQ; omega)
        have ⟨qc0, qc1⟩ := hcq kk (by have := unhide HNQ; omega)
        have ⟨qi1, qi2⟩ := unhide HQ4 kk (by have := unhide HNQ; omega)
        obtain ⟨qx, eqx⟩ : ∃ x, (qs[kk]!).1 = x := ⟨_, rfl⟩
        obtain ⟨qy, eqy⟩ : ∃ y, (qs[kk]!).2 = y := ⟨_, rfl⟩
        rw [eqx] at qc0 qi1
        rw [eqy] at qc1 qi2
        have HEQ : Hid (pq qs[kk]! = Rat.divInt qx (if qy = 0 then 1 else qy)) := by show _ = _; rw [← eqx, ← eqy]; rfl
        have HI1 := hide qi1
        have HI2 := hide qi2
        have HQLT := hide hqlt
        have HQC : Hid (∀ W, Below w.heap.size w W → W.cell? ⟨bq, oq + kk * 2, none⟩ = some (.int .i64 qx) ∧ W.cell? ⟨bq, oq + kk * 2 + 1, none⟩ = some (.int .i64 qy)) := fun W hW => by
          rw [hW.cell (p := ⟨bq, oq + kk * 2, none⟩) hqlt, hW.cell (p := ⟨bq, oq + kk * 2 + 1, none⟩) hqlt]
          exact ⟨qc0, qc1⟩
        rw [eq1]
        clear hcq eqx eqy qi1 qi2 qc0 qc1 hqlt
        by_cases h0 : (0 : Int) < (tt : Int)
        rotate_left
        · have hd0 : decide (0 < tt) = false := decide_eq_false (by omega)
          have HCC : Hid (∀ W, Below wr.heap.size wr W → (fun w' : World => (w'.cell? ⟨bc, 0, none⟩ = some (.slice lc.a nt lc.c) ∧ w'.cell? ⟨bc, 1, none⟩ = some (.slice (some ⟨bm, om, none⟩) nt mc.c) ∧ w'.cell? ⟨bc, 2, none⟩ = some (.bool tc.s) ∧ w'.cell? ⟨bc, 3, none⟩ = some (.slice tc.a1 tc.n1 tc.c1) ∧ w'.cell? ⟨bc, 4, none⟩ = some (.slice tc.a2 tc.n2 tc.c2)) ∧ w'.cell? ⟨bv, ov + tt, none⟩ = some (.slice (some ⟨b1, o1, none⟩) nt ld) ∧ (w'.cell? ⟨b1, o1 + i * 3, none⟩ = some (.bool tv.s) ∧ w'.cell? ⟨b1, o1 + i * 3 + 1, none⟩ = some (.slice tv.a1 tv.n1 tv.c1) ∧ w'.cell? ⟨b1, o1 + i * 3 + 2, none⟩ = some (.slice tv.a2 tv.n2 tv.c2)) ∧ (w'.cell? ⟨bm, om + i * 3, none⟩ = some (.bool tk.s) ∧ w'.cell? ⟨bm, om + i * 3 + 1, none⟩ = some (.slice tk.a1 tk.n1 tk.c1) ∧ w'.cell? ⟨bm, om + i * 3 + 2, none⟩ = some (.slice tk.a2 tk.n2 tk.c2))) W) := fun W hW => unhide HC20 W hW
          have HBSR : Hid (gs[i]! = bsr M (mor qs) tt i) := by
            show _ = _
            obtain rfl : tt = 0 := by omega
            rw [← unhide HM]
            rfl
          go_wp2_with fail
          refine wp_region_hold (fun w' : World => (w'.cell? ⟨bc, 0, none⟩ = some (.slice lc.a nt lc.c) ∧ w'.cell? ⟨bc, 1, none⟩ = some (.slice (some ⟨bm, om, none⟩) nt mc.c) ∧ w'.cell? ⟨bc, 2, none⟩ = some (.bool tc.s) ∧ w'.cell? ⟨bc, 3, none⟩ = some (.slice tc.a1 tc.n1 tc.c1) ∧ w'.cell? ⟨bc, 4, none⟩ = some (.slice tc.a2 tc.n2 tc.c2)) ∧ w'.cell? ⟨bv, ov + tt, none⟩ = some (.slice (some ⟨b1, o1, none⟩) nt ld) ∧ (w'.cell? ⟨b1, o1 + i * 3, none⟩ = some (.bool tv.s) ∧ w'.cell? ⟨b1, o1 + i * 3 + 1, none⟩ = some (.slice tv.a1 tv.n1 tv.c1) ∧ w'.cell? ⟨b1, o1 + i * 3 + 2, none⟩ = some (.slice tv.a2 tv.n2 tv.c2)) ∧ (w'.cell? ⟨bm, om + i * 3, none⟩ = some (.bool tk.s) ∧ w'.cell? ⟨bm, om + i * 3 + 1, none⟩ = some (.slice tk.a1 tk.n1 tk.c1) ∧ w'.cell? ⟨bm, om + i * 3 + 2, none⟩ = some (.slice tk.a2 tk.n2 tk.c2))) (by kernel_rfl) ?_
          have bd0 : Below wr.heap.size wr wr.drew := (Below.refl _ _).drew
          have hC0 : (fun w' : World => (w'.cell? ⟨bc, 0, none⟩ = some (.slice lc.a nt lc.c) ∧ w'.cell? ⟨bc, 1, none⟩ = some (.slice (some ⟨bm, om, none⟩) nt mc.c) ∧ w'.cell? ⟨bc, 2, none⟩ = some (.bool tc.s) ∧ w'.cell? ⟨bc, 3, none⟩ = some (.slice tc.a1 tc.n1 tc.c1) ∧ w'.cell? ⟨bc, 4, none⟩ = some (.slice tc.a2 tc.n2 tc.c2)) ∧ w'.cell? ⟨bv, ov + tt, none⟩ = some (.slice (some ⟨b1, o1, none⟩) nt ld) ∧ (w'.cell? ⟨b1, o1 + i * 3, none⟩ = some (.bool tv.s) ∧ w'.cell? ⟨b1, o1 + i * 3 + 1, none⟩ = some (.slice tv.a1 tv.n1 tv.c1) ∧ w'.cell? ⟨b1, o1 + i * 3 + 2, none⟩ = some (.slice tv.a2 tv.n2 tv.c2)) ∧ (w'.cell? ⟨bm, om + i * 3, none⟩ = some (.bool tk.s) ∧ w'.cell? ⟨bm, om + i * 3 + 1, none⟩ = some (.slice tk.a1 tk.n1 tk.c1) ∧ w'.cell? ⟨bm, om + i * 3 + 2, none⟩ = some (.slice tk.a2 tk.n2 tk.c2))) wr.drew := unhide HCC _ bd0
          refine wpHold_take (i := 0) (v := ?_) rfl (by kernel_rfl) (by kernel_rfl) (by kernel_rfl) (fun _ _ _ h => h) (Or.inl ⟨by rfl, ?_⟩) hC0 ?_
          rotate_left
          · intro w hSw; clear hSw; go_simp; (try with_reducible rfl)
          (try simp only [List.getElem_toArray, List.getElem_cons_succ, List.getElem_cons_zero])
          (try simp only [Act.put, List.setIfInBounds_toArray, List.set_cons_zero, List.set_cons_succ])
          refine wpHold_take (i := 1) (v := ?_) rfl (by kernel_rfl) (by kernel_rfl) (by kernel_rfl) (fun _ _ _ h => h) (Or.inl ⟨by rfl, ?_⟩) hC0 ?_
          rotate_left
          · intro w hSw; clear hSw; go_simp; (try with_reducible rfl)
          (try simp only [List.getElem_toArray, List.getElem_cons_succ, List.getElem_cons_zero])
          (try simp only [Act.put, List.setIfInBounds_toArray, List.set_cons_zero, List.set_cons_succ])
          refine wpHold_take (i := 2) (v := ?_) rfl (by kernel_rfl) (by kernel_rfl) (by kernel_rfl) (fun _ _ _ h => h) (Or.inl ⟨by rfl, ?_⟩) hC0 ?_
          rotate_left
          · intro w hSw; clear hSw; go_simp; (try with_reducible rfl)
          (try simp only [List.getElem_toArray, List.getElem_cons_succ, List.getElem_cons_zero])
          (try simp only [Act.put, List.setIfInBounds_toArray, List.set_cons_zero, List.set_cons_succ])
          refine wpHold_take (i := 3) (v := ?_) rfl (by kernel_rfl) (by kernel_rfl) (by kernel_rfl) (fun _ _ _ h => h) (Or.inl ⟨by rfl, ?_⟩) hC0 ?_
          rotate_left
          · intro w hSw; (try dsimp only at hSw); obtain ⟨⟨z0, z1, z2, z3, z4⟩, z5, ⟨z6, z7, z8⟩, z9, z10, z11⟩ := hSw; go_simp; (try with_reducible rfl)
          (try simp only [List.getElem_toArray, List.getElem_cons_succ, List.getElem_cons_zero])
          (try simp only [Act.put, List.setIfInBounds_toArray, List.set_cons_zero, List.set_cons_succ])
          refine wpHold_take (i := 4) (v := ?_) rfl (by kernel_rfl) (by kernel_rfl) (by kernel_rfl) (fun _ _ _ h => h) (Or.inl ⟨by rfl, ?_⟩) hC0 ?_
          rotate_left
          · intro w hSw; clear hSw; go_simp; (try with_reducible rfl)
          (try simp only [List.getElem_toArray, List.getElem_cons_succ, List.getElem_cons_zero])
          (try simp only [Act.put, List.setIfInBounds_toArray, List.set_cons_zero, List.set_cons_succ])
          refine wpHold_take (i := 5) (v := ?_) rfl (by kernel_rfl) (by kernel_rfl) (by kernel_rfl) (fun _ _ _ h => h) (Or.inl ⟨by rfl, ?_⟩) hC0 ?_
          rotate_left
          · intro w hSw; clear hSw; go_simp; (try with_reducible rfl)
          (try simp only [List.getElem_toArray, List.getElem_cons_succ, List.getElem_cons_zero])
          (try simp only [Act.put, List.setIfInBounds_toArray, List.set_cons_zero, List.set_cons_succ])
          refine wpHold_take (i := 6) (v := ?_) rfl (by kernel_rfl) (by kernel_rfl) (by kernel_rfl) (fun _ _ _ h => h) (Or.inl ⟨by rfl, ?_⟩) hC0 ?_
          rotate_left
          · intro w hSw; (try dsimp only at hSw); obtain ⟨⟨z0, z1, z2, z3, z4⟩, z5, ⟨z6, z7, z8⟩, z9, z10, z11⟩ := hSw; go_simp; (try with_reducible rfl)
          (try simp only [List.getElem_toArray, List.getElem_cons_succ, List.getElem_cons_zero])
          (try simp only [Act.put, List.setIfInBounds_toArray, List.set_cons_zero, List.set_cons_succ])
          refine wpHold_take (i := 7) (v := ?_) rfl (by kernel_rfl) (by kernel_rfl) (by kernel_rfl) (fun _ _ _ h => h) (Or.inl ⟨by rfl, ?_⟩) hC0 ?_
          rotate_left
          · intro w hSw; clear hSw; go_simp; (try with_reducible rfl)
          (try simp only [List.getElem_toArray, List.getElem_cons_succ, List.getElem_cons_zero])
          (try simp only [Act.put, List.setIfInBounds_toArray, List.set_cons_zero, List.set_cons_succ])
          refine wpHold_take (i := 8) (v := ?_) rfl (by kernel_rfl) (by kernel_rfl) (by kernel_rfl) (fun _ _ _ h => h) (Or.inl ⟨by rfl, ?_⟩) hC0 ?_
          rotate_left
          · intro w hSw; (try dsimp only at hSw); obtain ⟨⟨z0, z1, z2, z3, z4⟩, z5, ⟨z6, z7, z8⟩, z9, z10, z11⟩ := hSw; go_simp; (try with_reducible rfl)
          (try simp only [List.getElem_toArray, List.getElem_cons_succ, List.getElem_cons_zero])
          (try simp only [Act.put, List.setIfInBounds_toArray, List.set_cons_zero, List.set_cons_succ])
          refine wpHold_take (i := 9) (v := ?_) rfl (by kernel_rfl) (by kernel_rfl) (by kernel_rfl) (fun _ _ _ h => h) (Or.inl ⟨by rfl, ?_⟩) hC0 ?_
          rotate_left
          · intro w hSw; clear hSw; go_simp; (try with_reducible rfl)
          (try simp only [List.getElem_toArray, List.getElem_cons_succ, List.getElem_cons_zero])
          (try simp only [Act.put, List.setIfInBounds_toArray, List.set_cons_zero, List.set_cons_succ])
          refine wpHold_take (i := 10) (v := ?_) rfl (by kernel_rfl) (by kernel_rfl) (by kernel_rfl) (fun _ _ _ h => h) (Or.inl ⟨by rfl, ?_⟩) hC0 ?_
          rotate_left
          · intro w hSw; clear hSw; go_simp; (try with_reducible rfl)
          (try simp only [List.getElem_toArray, List.getElem_cons_succ, List.getElem_cons_zero])
          (try simp only [Act.put, List.setIfInBounds_toArray, List.set_cons_zero, List.set_cons_succ])
          refine wpHold_take (i := 11) (v := ?_) rfl (by kernel_rfl) (by kernel_rfl) (by kernel_rfl) (fun _ _ _ h => h) (Or.inl ⟨by rfl, ?_⟩) hC0 ?_
          rotate_left
          · intro w hSw; (try dsimp only at hSw); obtain ⟨⟨z0, z1, z2, z3, z4⟩, z5, ⟨z6, z7, z8⟩, z9, z10, z11⟩ := hSw; go_simp; (try with_reducible rfl)
          (try simp only [List.getElem_toArray, List.getElem_cons_succ, List.getElem_cons_zero])
          (try simp only [Act.put, List.setIfInBounds_toArray, List.set_cons_zero, List.set_cons_succ])
          refine wpHold_one (k := 12) (by kernel_rfl) rfl (fun K hK => ?_)
          (try simp only [List.getElem_toArray, List.getElem_cons_succ, List.getElem_cons_zero])
          go_simp
          refine (unhide HC1 _ bd0).mono ?_
          rintro e xw_1 ⟨rfl, hb_1⟩
          have cc_1 := below_step bd0 hb_1
          have hC_1 : (fun w' : World => (w'.cell? ⟨bc, 0, none⟩ = some (.slice lc.a nt lc.c) ∧ w'.cell? ⟨bc, 1, none⟩ = some (.slice (some ⟨bm, om, none⟩) nt mc.c) ∧ w'.cell? ⟨bc, 2, none⟩ = some (.bool tc.s) ∧ w'.cell? ⟨bc, 3, none⟩ = some (.slice tc.a1 tc.n1 tc.c1) ∧ w'.cell? ⟨bc, 4, none⟩ = some (.slice tc.a2 tc.n2 tc.c2)) ∧ w'.cell? ⟨bv, ov + tt, none⟩ = some (.slice (some ⟨b1, o1, none⟩) nt ld) ∧ (w'.cell? ⟨b1, o1 + i * 3, none⟩ = some (.bool tv.s) ∧ w'.cell? ⟨b1, o1 + i * 3 + 1, none⟩ = some (.slice tv.a1 tv.n1 tv.c1) ∧ w'.cell? ⟨b1, o1 + i * 3 + 2, none⟩ = some (.slice tv.a2 tv.n2 tv.c2)) ∧ (w'.cell? ⟨bm, om + i * 3, none⟩ = some (.bool tk.s) ∧ w'.cell? ⟨bm, om + i * 3 + 1, none⟩ = some (.slice tk.a1 tk.n1 tk.c1) ∧ w'.cell? ⟨bm, om + i * 3 + 2, none⟩ = some (.slice tk.a2 tk.n2 tk.c2))) xw_1 := unhide HCC _ cc_1
          refine hK.out _ _ hC_1 ?_
          clear hK K
          (try simp only [Act.put, List.setIfInBounds_toArray, List.set_cons_zero, List.set_cons_succ])
          refine wpHold_take (i := 13) (v := ?_) rfl (by kernel_rfl) (by kernel_rfl) (by kernel_rfl) (fun _ _ _ h => h) (Or.inl ⟨by rfl, ?_⟩) hC_1 ?_
          rotate_left
          · intro w hSw; clear hSw; go_simp; (try with_reducible rfl)
          (try simp only [List.getElem_toArray, List.getElem_cons_succ, List.getElem_cons_zero])
          (try simp only [Act.put, List.setIfInBounds_toArray, List.set_cons_zero, List.set_cons_succ])
          refine wpHold_take (i := 14) (v := ?_) rfl (by kernel_rfl) (by kernel_rfl) (by kernel_rfl) (fun _ _ _ h => h) (Or.inl ⟨by rfl, ?_⟩) hC_1 ?_
          rotate_left
          · intro w hSw; clear hSw; go_simp; (try with_reducible rfl)
          (try simp only [List.getElem_toArray, List.getElem_cons_succ, List.getElem_cons_zero])
          (try simp only [Act.put, List.setIfInBounds_toArray, List.set_cons_zero, List.set_cons_succ])
          refine wpHold_take (i := 15) (v := ?_) rfl (by kernel_rfl) (by kernel_rfl) (by kernel_rfl) (fun _ _ _ h => h) (Or.inl ⟨by rfl, ?_⟩) hC_1 ?_
          rotate_left
          · intro w hSw; clear hSw; go_simp; (try with_reducible rfl)
          (try simp only [List.getElem_toArray, List.getElem_cons_succ, List.getElem_cons_zero])
          (try simp only [Act.put, List.setIfInBounds_toArray, List.set_cons_zero, List.set_cons_succ])
          refine wpHold_take (i := 16) (v := ?_) rfl (by kernel_rfl) (by kernel_rfl) (by kernel_rfl) (fun _ _ _ h => h) (Or.inl ⟨by rfl, ?_⟩) hC_1 ?_
          rotate_left
          · intro w hSw; clear hSw; go_simp; (try with_reducible rfl)
          (try simp only [List.getElem_toArray, List.getElem_cons_succ, List.getElem_cons_zero])
          (try simp only [Act.put, List.setIfInBounds_toArray, List.set_cons_zero, List.set_cons_succ])
          refine wpHold_take (i := 17) (v := ?_) rfl (by kernel_rfl) (by kernel_rfl) (by kernel_rfl) (fun _ _ _ h => h) (Or.inl ⟨by rfl, ?_⟩) hC_1 ?_
          rotate_left
          · intro w hSw; clear hSw; go_simp; (try with_reducible rfl)
          (try simp only [List.getElem_toArray, List.getElem_cons_succ, List.getElem_cons_zero])
          (try simp only [Act.put, List.setIfInBounds_toArray, List.set_cons_zero, List.set_cons_succ])
          (try simp only [hd0])
          refine wpHold_take (i := 18) (v := undef) rfl (by kernel_rfl) (by kernel_rfl) (by kernel_rfl) (fun _ _ _ h => h) (Or.inr ⟨by rfl, rfl⟩) hC_1 ?_
          (try simp only [List.getElem_toArray, List.getElem_cons_succ, List.getElem_cons_zero])
          (try simp only [Act.put, List.setIfInBounds_toArray, List.set_cons_zero, List.set_cons_succ])
          refine wpHold_take (i := 19) (v := undef) rfl (by kernel_rfl) (by kernel_rfl) (by kernel_rfl) (fun _ _ _ h => h) (Or.inr ⟨by rfl, rfl⟩) hC_1 ?_
          (try simp only [List.getElem_toArray, List.getElem_cons_succ, List.getElem_cons_zero])
          (try simp only [Act.put, List.setIfInBounds_toArray, List.set_cons_zero, List.set_cons_succ])
          refine wpHold_take (i := 20) (v := undef) rfl (by kernel_rfl) (by kernel_rfl) (by kernel_rfl) (fun _ _ _ h => h) (Or.inr ⟨by rfl, rfl⟩) hC_1 ?_
          (try simp only [List.getElem_toArray, List.getElem_cons_succ, List.getElem_cons_zero])
          (try simp only [Act.put, List.setIfInBounds_toArray, List.set_cons_zero, List.set_cons_succ])
          refine wpHold_take (i := 21) (v := undef) rfl (by kernel_rfl) (by kernel_rfl) (by kernel_rfl) (fun _ _ _ h => h) (Or.inr ⟨by rfl, rfl⟩) hC_1 ?_
          (try simp only [List.getElem_toArray, List.getElem_cons_succ, List.getElem_cons_zero])
          (try simp only [Act.put, List.setIfInBounds_toArray, List.set_cons_zero, List.set_cons_succ])
          refine wpHold_take (i := 22) (v := undef) rfl (by kernel_rfl) (by kernel_rfl) (by kernel_rfl) (fun _ _ _ h => h) (Or.inr ⟨by rfl, rfl⟩) hC_1 ?_
          (try simp only [List.getElem_toArray, List.getElem_cons_succ, List.getElem_cons_zero])
          (try simp only [Act.put, List.setIfInBounds_toArray, List.set_cons_zero, List.set_cons_succ])
          refine wpHold_take (i := 23) (v := undef) rfl (by kernel_rfl) (by kernel_rfl) (by kernel_rfl) (fun _ _ _ h => h) (Or.inr ⟨by rfl, rfl⟩) hC_1 ?_
          (try simp only [List.getElem_toArray, List.getElem_cons_succ, List.getElem_cons_zero])
          (try simp only [Act.put, List.setIfInBounds_toArray, List.set_cons_zero, List.set_cons_succ])
          refine wpHold_take (i := 24) (v := undef) rfl (by kernel_rfl) (by kernel_rfl) (by kernel_rfl) (fun _ _ _ h => h) (Or.inr ⟨by rfl, rfl⟩) hC_1 ?_
          (try simp only [List.getElem_toArray, List.getElem_cons_succ, List.getElem_cons_zero])
          (try simp only [Act.put, List.setIfInBounds_toArray, List.set_cons_zero, List.set_cons_succ])
          refine wpHold_take (i := 25) (v := undef) rfl (by kernel_rfl) (by kernel_rfl) (by kernel_rfl) (fun _ _ _ h => h) (Or.inr ⟨by rfl, rfl⟩) hC_1 ?_
          (try simp only [List.getElem_toArray, List.getElem_cons_succ, List.getElem_cons_zero])
          (try simp only [Act.put, List.setIfInBounds_toArray, List.set_cons_zero, List.set_cons_succ])
          refine wpHold_take (i := 26) (v := undef) rfl (by kernel_rfl) (by kernel_rfl) (by kernel_rfl) (fun _ _ _ h => h) (Or.inr ⟨by rfl, rfl⟩) hC_1 ?_
          (try simp only [List.getElem_toArray, List.getElem_cons_succ, List.getElem_cons_zero])
          (try simp only [Act.put, List.setIfInBounds_toArray, List.set_cons_zero, List.set_cons_succ])
          refine wpHold_take (i := 27) (v := undef) rfl (by kernel_rfl) (by kernel_rfl) (by kernel_rfl) (fun _ _ _ h => h) (Or.inr ⟨by rfl, rfl⟩) hC_1 ?_
          (try simp only [List.getElem_toArray, List.getElem_cons_succ, List.getElem_cons_zero])
          (try simp only [Act.put, List.setIfInBounds_toArray, List.set_cons_zero, List.set_cons_succ])
          refine wpHold_take (i := 28) (v := undef) rfl (by kernel_rfl) (by kernel_rfl) (by kernel_rfl) (fun _ _ _ h => h) (Or.inr ⟨by rfl, rfl⟩) hC_1 ?_
          (try simp only [List.getElem_toArray, List.getElem_cons_succ, List.getElem_cons_zero])
          (try simp only [Act.put, List.setIfInBounds_toArray, List.set_cons_zero, List.set_cons_succ])
          refine wpHold_take (i := 29) (v := undef) rfl (by kernel_rfl) (by kernel_rfl) (by kernel_rfl) (fun _ _ _ h => h) (Or.inr ⟨by rfl, rfl⟩) hC_1 ?_
          (try simp only [List.getElem_toArray, List.getElem_cons_succ, List.getElem_cons_zero])
          (try simp only [Act.put, List.setIfInBounds_toArray, List.set_cons_zero, List.set_cons_succ])
          refine wpHold_take (i := 30) (v := undef) rfl (by kernel_rfl) (by kernel_rfl) (by kernel_rfl) (fun _ _ _ h => h) (Or.inr ⟨by rfl, rfl⟩) hC_1 ?_
          (try simp only [List.getElem_toArray, List.getElem_cons_succ, List.getElem_cons_zero])
          (try simp only [Act.put, List.setIfInBounds_toArray, List.set_cons_zero, List.set_cons_succ])
          refine wpHold_take (i := 31) (v := undef) rfl (by kernel_rfl) (by kernel_rfl) (by kernel_rfl) (fun _ _ _ h => h) (Or.inr ⟨by rfl, rfl⟩) hC_1 ?_
          (try simp only [List.getElem_toArray, List.getElem_cons_succ, List.getElem_cons_zero])
          (try simp only [Act.put, List.setIfInBounds_toArray, List.set_cons_zero, List.set_cons_succ])
          refine wpHold_take (i := 32) (v := undef) rfl (by kernel_rfl) (by kernel_rfl) (by kernel_rfl) (fun _ _ _ h => h) (Or.inr ⟨by rfl, rfl⟩) hC_1 ?_
          (try simp only [List.getElem_toArray, List.getElem_cons_succ, List.getElem_cons_zero])
          (try simp only [Act.put, List.setIfInBounds_toArray, List.set_cons_zero, List.set_cons_succ])
          refine wpHold_take (i := 33) (v := undef) rfl (by kernel_rfl) (by kernel_rfl) (by kernel_rfl) (fun _ _ _ h => h) (Or.inr ⟨by rfl, rfl⟩) hC_1 ?_
          (try simp only [List.getElem_toArray, List.getElem_cons_succ, List.getElem_cons_zero])
          (try simp only [Act.put, List.setIfInBounds_toArray, List.set_cons_zero, List.set_cons_succ])
          refine wpHold_take (i := 34) (v := undef) rfl (by kernel_rfl) (by kernel_rfl) (by kernel_rfl) (fun _ _ _ h => h) (Or.inr ⟨by rfl, rfl⟩) hC_1 ?_
          (try simp only [List.getElem_toArray, List.getElem_cons_succ, List.getElem_cons_zero])
          (try simp only [Act.put, List.setIfInBounds_toArray, List.set_cons_zero, List.set_cons_succ])
          refine wpHold_take (i := 35) (v := ?_) rfl (by kernel_rfl) (by kernel_rfl) (by kernel_rfl) (fun _ _ _ h => h) (Or.inl ⟨by rfl, ?_⟩) hC_1 ?_
          rotate_left
          · intro w hSw; clear hSw; go_simp; (try with_reducible rfl)
          (try simp only [List.getElem_toArray, List.getElem_cons_succ, List.getElem_cons_zero])
          (try simp only [Act.put, List.setIfInBounds_toArray, List.set_cons_zero, List.set_cons_succ])
          refine wpHold_take (i := 36) (v := ?_) rfl (by kernel_rfl) (by kernel_rfl) (by kernel_rfl) (fun _ _ _ h => h) (Or.inl ⟨by rfl, ?_⟩) hC_1 ?_
          rotate_left
          · intro w hSw; clear hSw; go_simp; (try with_reducible rfl)
          (try simp only [List.getElem_toArray, List.getElem_cons_succ, List.getElem_cons_zero])
          (try simp only [Act.put, List.setIfInBounds_toArray, List.set_cons_zero, List.set_cons_succ])
          refine wpHold_done (by kernel_rfl) ?_ _
          have HWc := hide cc_1
          have ⟨⟨z0, z1, z2, z3, z4⟩, z5, ⟨z6, z7, z8⟩, z9, z10, z11⟩ := hC_1
          clear hC0 hC_1 cc_1 bd0 hb_1 HCC
          have bA := alloc_below xw_1 (.cells #[.bool tk.s, .slice tk.a1 tk.n1 tk.c1, .slice tk.a2 tk.n2 tk.c2] 35)
          have X14 := BoxIs.new (unhide HKR xw_1 (unhide HWc))
          obtain ⟨W14, hW14⟩ : ∃ W, xw_1.alloc (.cells #[.bool tk.s, .slice tk.a1 tk.n1 tk.c1, .slice tk.a2 tk.n2 tk.c2] 35) = W := ⟨_, rfl⟩
          obtain ⟨b14, hb14⟩ : ∃ b, xw_1.heap.size = b := ⟨_, rfl⟩
          rw [hW14] at bA X14
          rw [hb14] at X14
          have HX14 := hide X14
          have HGX : Hid (wr.heap.size ≤ b14) := by show _ ≤ b14; rw [← hb14]; exact (unhide HWc).size
          have HW14 := hide (below_step (unhide HWc) bA)
          clear bA X14
          have ⟨k0, k1, k2, k3, k4⟩ := unhide HCA W14 (unhide HW14)
          have HXB0 : Hid (BoxIs W14 b14 tk (bsr M (mor qs) tt i)) := by show BoxIs _ _ _ _; rw [← unhide HBSR]; exact unhide HX14
          have HW := HW14
          clear HX14
          have bwW := below_step (unhide HBV) (below_step (unhide HT).bl (unhide HW))
          have ⟨q0, q1⟩ := unhide HQC W14 bwW
          have hql : bq < W14.heap.size := Nat.lt_of_lt_of_le (unhide HQLT) bwW.size
          clear bwW
          go_wp2_with fail
          refine (f_any qx qy (unhide HI1).1 (unhide HI1).2 (unhide HI2).1 (unhide HI2).2 W14).mono ?_
          rintro e wf ⟨vf, rfl, hvf, hbf⟩
          obtain ⟨tf, rfl, rf⟩ := tri_of hvf
          rw [← unhide HEQ] at rf
          simp only [Tri.val]
          have HSG := hide (sign_any tf.val _ wf rf)
          have q0f : wf.cell? ⟨bq, oq + kk * 2, none⟩ = some (.int .i64 qx) := by rw [hbf.cell (p := ⟨bq, oq + kk * 2, none⟩) hql]; exact q0
          have q1f : wf.cell? ⟨bq, oq + kk * 2 + 1, none⟩ = some (.int .i64 qy) := by rw [hbf.cell (p := ⟨bq, oq + kk * 2 + 1, none⟩) hql]; exact q1
          have hqf : bq < wf.heap.size := Nat.lt_of_lt_of_le hql hbf.size
          have HXf := hide ((unhide HXB0).keep hbf)
          have HWf := hide (below_step (unhide HW) hbf)
          clear HXB0 HW q0 q1 hql hvf rf hbf
          by_cases hs : 0 < pq qs[kk]!
          · rw [sign_ps hs] at HSG
            have HMO := hide (mor_pos (by have := unhide HNQ; omega) hs)
            clear hs
            go_wp2_with fail
            refine (unhide HSG).mono ?_
            rintro e ws ⟨rfl, hbs⟩
            have q0s : ws.cell? ⟨bq, oq + kk * 2, none⟩ = some (.int .i64 qx) := by rw [hbs.cell (p := ⟨bq, oq + kk * 2, none⟩) hqf]; exact q0f
            have q1s : ws.cell? ⟨bq, oq + kk * 2 + 1, none⟩ = some (.int .i64 qy) := by rw [hbs.cell (p := ⟨bq, oq + kk * 2 + 1, none⟩) hqf]; exact q1f
            have hqs : bq < ws.heap.size := Nat.lt_of_lt_of_le hqf hbs.size
            have Xs := (unhide HXf).keep hbs
            have HXs := hide Xs
            have HWs := hide (below_step (unhide HWf) hbs)
            have HCC : Hid (∀ W, Below ws.heap.size ws W → (fun w' : World => (w'.cell? ⟨b14, 0, none⟩ = some (.bool tk.s) ∧ w'.cell? ⟨b14, 1, none⟩ = some (.slice tk.a1 tk.n1 tk.c1) ∧ w'.cell? ⟨b14, 2, none⟩ = some (.slice tk.a2 tk.n2 tk.c2)) ∧ w'.cell? ⟨bq, oq + kk * 2, none⟩ = some (.int .i64 qx) ∧ w'.cell? ⟨bq, oq + kk * 2 + 1, none⟩ = some (.int .i64 qy)) W) := fun W hW => by
              refine ⟨Xs.cells W hW, ?_⟩
              rw [hW.cell (p := ⟨bq, oq + kk * 2, none⟩) hqs, hW.cell (p := ⟨bq, oq + kk * 2 + 1, none⟩) hqs]
              exact ⟨q0s, q1s⟩
            have HRM : Hid (RS (pq qs[kk]!) 300000) := by
              show RS _ _
              rw [← unhide HMO]
              exact (unhide HMR kk).mono (by omega)
            rw [unhide HEQ] at HRM
            clear Xs hbs HSG HXf HWf q0f q1f hqf
            go_wp2_with fail
            refine wp_region_till (fun w' : World => (w'.cell? ⟨b14, 0, none⟩ = some (.bool tk.s) ∧ w'.cell? ⟨b14, 1, none⟩ = some (.slice tk.a1 tk.n1 tk.c1) ∧ w'.cell? ⟨b14, 2, none⟩ = some (.slice tk.a2 tk.n2 tk.c2)) ∧ w'.cell? ⟨bq, oq + kk * 2, none⟩ = some (.int .i64 qx) ∧ w'.cell? ⟨bq, oq + kk * 2 + 1, none⟩ = some (.int .i64 qy)) 7 (by kernel_rfl) ?_
            have bd0 : Below ws.heap.size ws ws.drew := (Below.refl _ _).drew
            have hC0 : (fun w' : World => (w'.cell? ⟨b14, 0, none⟩ = some (.bool tk.s) ∧ w'.cell? ⟨b14, 1, none⟩ = some (.slice tk.a1 tk.n1 tk.c1) ∧ w'.cell? ⟨b14, 2, none⟩ = some (.slice tk.a2 tk.n2 tk.c2)) ∧ w'.cell? ⟨bq, oq + kk * 2, none⟩ = some (.int .i64 qx) ∧ w'.cell? ⟨bq, oq + kk * 2 + 1, none⟩ = some (.int .i64 qy)) ws.drew := unhide HCC _ bd0
            refine wpTill_take (i := 0) (v := ?_) rfl (by kernel_rfl) (by kernel_rfl) (by kernel_rfl) (by kernel_rfl) (by kernel_rfl) (by kernel_rfl) (fun _ _ _ h => h) (Or.inl ⟨by rfl, ?_⟩) hC0 ?_
            rotate_left
            · intro w hSw; (try dsimp only at hSw); obtain ⟨⟨z0, z1, z2⟩, z3, z4⟩ := hSw; go_simp; (try with_reducible rfl)
            (try simp only [List.getElem_toArray, List.getElem_cons_succ, List.getElem_cons_zero])
            (try simp only [Act.put, List.setIfInBounds_toArray, List.set_cons_zero, List.set_cons_succ])
            refine wpTill_pure (i := 1) (v := ?_) rfl (by kernel_rfl) (by kernel_rfl) (by kernel_rfl) (by kernel_rfl) (fun _ _ _ h => h) (Or.inl ⟨by rfl, ?_⟩) (fun _ => hC0) ?_
            rotate_left
            · intro w hSw; clear hSw; go_simp; (try with_reducible rfl)
            (try simp only [List.getElem_toArray, List.getElem_cons_succ, List.getElem_cons_zero])
            (try simp only [Act.put, List.setIfInBounds_toArray, List.set_cons_zero, List.set_cons_succ])
            refine wpTill_pure (i := 2) (v := ?_) rfl (by kernel_rfl) (by kernel_rfl) (by kernel_rfl) (by kernel_rfl) (fun _ _ _ h => h) (Or.inl ⟨by rfl, ?_⟩) (fun _ => hC0) ?_
            rotate_left
            · intro w hSw; clear hSw; go_simp; (try with_reducible rfl)
            (try simp only [List.getElem_toArray, List.getElem_cons_succ, List.getElem_cons_zero])
            (try simp only [Act.put, List.setIfInBounds_toArray, List.set_cons_zero, List.set_cons_succ])
            refine wpTill_pure (i := 3) (v := ?_) rfl (by kernel_rfl) (by kernel_rfl) (by kernel_rfl) (by kernel_rfl) (fun _ _ _ h => h) (Or.inl ⟨by rfl, ?_⟩) (fun _ => hC0) ?_
            rotate_left
            · intro w hSw; clear hSw; go_simp; (try with_reducible rfl)
            (try simp only [List.getElem_toArray, List.getElem_cons_succ, List.getElem_cons_zero])
            (try simp only [Act.put, List.setIfInBounds_toArray, List.set_cons_zero, List.set_cons_succ])
            refine wpTill_take (i := 4) (v := ?_) rfl (by kernel_rfl) (by kernel_rfl) (by kernel_rfl) (by kernel_rfl) (by kernel_rfl) (by kernel_rfl) (fun _ _ _ h => h) (Or.inl ⟨by rfl, ?_⟩) hC0 ?_
            rotate_left
            · intro w hSw; (try dsimp only at hSw); obtain ⟨⟨z0, z1, z2⟩, z3, z4⟩ := hSw; go_simp; (try with_reducible rfl)
            (try simp only [List.getElem_toArray, List.getElem_cons_succ, List.getElem_cons_zero])
            (try simp only [Act.put, List.setIfInBounds_toArray, List.set_cons_zero, List.set_cons_succ])
            refine wpTill_one (k := 5) (by kernel_rfl) rfl (fun K hK => ?_)
            (try simp only [List.getElem_toArray, List.getElem_cons_succ, List.getElem_cons_zero])
            go_simp
            refine (f_any qx qy (unhide HI1).1 (unhide HI1).2 (unhide HI2).1 (unhide HI2).2 _).mono ?_
            rintro e xw_1 ⟨xv_1, rfl, hv_1, hb_1⟩
            have cc_1 := below_step bd0 hb_1
            have hC_1 : (fun w' : World => (w'.cell? ⟨b14, 0, none⟩ = some (.bool tk.s) ∧ w'.cell? ⟨b14, 1, none⟩ = some (.slice tk.a1 tk.n1 tk.c1) ∧ w'.cell? ⟨b14, 2, none⟩ = some (.slice tk.a2 tk.n2 tk.c2)) ∧ w'.cell? ⟨bq, oq + kk * 2, none⟩ = some (.int .i64 qx) ∧ w'.cell? ⟨bq, oq + kk * 2 + 1, none⟩ = some (.int .i64 qy)) xw_1 := unhide HCC _ cc_1
            refine hK.out _ _ (fun _ => hC_1) ?_
            clear hK K
            (try simp only [Act.put, List.setIfInBounds_toArray, List.set_cons_zero, List.set_cons_succ])
            refine wpTill_one (k := 6) (by kernel_rfl) rfl (fun K hK => ?_)
            (try simp only [List.getElem_toArray, List.getElem_cons_succ, List.getElem_cons_zero])
            go_simp
            refine (addR_any tk.val _ _ _ _ ((unhide HXs).2.below cc_1) hv_1 _ (unhide HRB) (unhide HRM) (unhide HJ3)).mono ?_
            rintro e xw_2 ⟨xv_2, rfl, hv_2, hb_2⟩
            have cc_2 := below_step cc_1 hb_2
            have hC_2 : (fun w' : World => (w'.cell? ⟨b14, 0, none⟩ = some (.bool tk.s) ∧ w'.cell? ⟨b14, 1, none⟩ = some (.slice tk.a1 tk.n1 tk.c1) ∧ w'.cell? ⟨b14, 2, none⟩ = some (.slice tk.a2 tk.n2 tk.c2)) ∧ w'.cell? ⟨bq, oq + kk * 2, none⟩ = some (.int .i64 qx) ∧ w'.cell? ⟨bq, oq + kk * 2 + 1, none⟩ = some (.int .i64 qy)) xw_2 := unhide HCC _ cc_2
            refine hK.out _ _ (fun _ => hC_2) ?_
            clear hK K
            (try simp only [Act.put, List.setIfInBounds_toArray, List.set_cons_zero, List.set_cons_succ])
            obtain ⟨tz, rfl, rz⟩ := tri_of hv_2
            rw [← unhide HEQ, ← unhide HMO, unhide HOV] at rz
            simp only [Tri.val]
            have X9 := (unhide HXs).keep cc_2
            have ⟨l0, l1, l2⟩ := X9.free
            have ⟨y0, y1, y2⟩ := X9.cells _ (Below.refl _ _)
            have X10 := X9.set rz
            have B10 := (((below_step (unhide HWs) cc_2).setCell (p := ⟨b14, 0, none⟩) (unhide HGX) (.bool tz.s)).setCell (p := ⟨b14, 1, none⟩) (unhide HGX) (.slice tz.a1 tz.n1 tz.c1)).setCell (p := ⟨b14, 2, none⟩) (unhide HGX) (.slice tz.a2 tz.n2 tz.c2)
            obtain ⟨W9, hW9⟩ : ∃ W, ((xw_2.setCell ⟨b14, 0, none⟩ (.bool tz.s)).setCell ⟨b14, 1, none⟩ (.slice tz.a1 tz.n1 tz.c1)).setCell ⟨b14, 2, none⟩ (.slice tz.a2 tz.n2 tz.c2) = W := ⟨_, rfl⟩
            rw [hW9] at X10 B10
            have HXB := hide X10
            have HW := hide B10
            clear X9 X10 B10 rz hv_1 hv_2
            refine wpTill_one (k := 7) (by kernel_rfl) rfl (fun K hK => ?_)
            (try simp only [List.getElem_toArray, List.getElem_cons_succ, List.getElem_cons_zero])
            go_simp
            refine hK.out _ _ (fun h => absurd (h.symm.trans (by kernel_rfl)) Bool.false_ne_true) ?_
            clear hK K
            (try simp only [Act.put, List.setIfInBounds_toArray, List.set_cons_zero, List.set_cons_succ])
            refine wpTill_done (by kernel_rfl) ?_ _
            clear hC0 hC_1 hC_2 cc_1 cc_2 bd0 hb_1 hb_2 y0 y1 y2 l0 l1 l2 hW9 HCC HXs HWs
            have bL := alloc_below W9 (.cells #[.bool tz.s, .slice tz.a1 tz.n1 tz.c1, .slice tz.a2 tz.n2 tz.c2] 35)
            have T2 := ((unhide HT).keep (unhide HW)).keep bL
            have hr3 := (unhide HXB).2.below bL
            have XB3 := (unhide HXB).keep bL
            have ⟨x0, x1, x2⟩ := (unhide HXB).cells _ (Below.refl _ _)
            have hlen56 : (ts.length + 1) * 56 ≤ 140737488355328 := by have := unhide HTS; omega
            have hlen63 : ts.length + 1 ≤ maxLen := by have := unhide HTS; unfold maxLen; omega
            have hsz2 : (W9.alloc (.cells #[.bool tz.s, .slice tz.a1 tz.n1 tz.c1, .slice tz.a2 tz.n2 tz.c2] 35)).heap.size = W9.heap.size + 1 := by rw [alloc_heap, Array.size_push]
            have HT2 := hide T2
            have HR3 := hide hr3
            have HXB3 := hide XB3
            have HSZ := hide hsz2
            have HL56 := hide hlen56
            have HL63 := hide hlen63
            have HBA := hide T2.bl.size
            clear T2 hr3 XB3 hsz2 hlen56 hlen63 bL
            go_wp2_with (at_builtin; go_loud (refine wpList_append_tri _ rfl _ _ _ rfl V.heap.size 35 ti 56 Tryd.underlying31 (unhide HI) (unhide HZ) hz1 hz2 _ ts.length (tcells ts) rfl (unhide HT2).own (unhide HT2).no ⟨W9.heap.size, 0, none⟩ 1 1 tz.cells rfl rfl (news_tri W9 tz _) (tri_one tz) tz.notWord (by decide) (unhide HL63) (unhide HL56) (unhide HBA) (W9.heap.size + 1) (unhide HSZ) ?_; intro g cap w4 hown4 hgrow hat hlt4 hno4))
            have FIN := (unhide HT2).push (by rw [unhide HTS, row_get hlt]; exact unhide HR3) hown4 hgrow hno4 (unhide HBA)
            have hgx : b14 < (W9.alloc (.cells #[.bool tz.s, .slice tz.a1 tz.n1 tz.c1, .slice tz.a2 tz.n2 tz.c2] 35)).heap.size := (unhide HXB3).lt
            have hnex : ∀ k, u12.ownBlock = some k → k ≠ b14 := fun k hk e => by
              have h1 := (ownsR_block (unhide HT).own k hk).2
              have h2 := unhide HGX
              omega
            have cfar : ∀ o : Nat, w4.cell? ⟨b14, o, none⟩ = (W9.alloc (.cells #[.bool tz.s, .slice tz.a1 tz.n1 tz.c1, .slice tz.a2 tz.n2 tz.c2] 35)).cell? ⟨b14, o, none⟩ := fun o => hgrow.cell_far ⟨b14, o, none⟩ hgx (fun e => hnex b14 e.symm rfl)
            have rfar : RatIs w4 tz.val (ovr M (mor qs) tt i) := (unhide HXB3).2.far hgrow (unhide HT2).no
            have xc := (unhide HXB3).cells _ (Below.refl _ _)
            have hb14 : b14 < w4.heap.size := Nat.lt_of_lt_of_le hgx hgrow.size
            have vc := unhide HVC w4 FIN.bl
            have HCC : Hid (∀ W, Below w4.heap.size w4 W → (fun w' : World => (w'.cell? ⟨b14, 0, none⟩ = some (.bool tz.s) ∧ w'.cell? ⟨b14, 1, none⟩ = some (.slice tz.a1 tz.n1 tz.c1) ∧ w'.cell? ⟨b14, 2, none⟩ = some (.slice tz.a2 tz.n2 tz.c2)) ∧ w'.cell? ⟨bv, ov + tt, none⟩ = some (.slice (some ⟨b1, o1, none⟩) nt ld) ∧ w'.cell? ⟨b1, o1 + i * 3, none⟩ = some (.bool tv.s) ∧ w'.cell? ⟨b1, o1 + i * 3 + 1, none⟩ = some (.slice tv.a1 tv.n1 tv.c1) ∧ w'.cell? ⟨b1, o1 + i * 3 + 2, none⟩ = some (.slice tv.a2 tv.n2 tv.c2)) W) := fun W hW => by
              refine ⟨?_, unhide HVC W (below_step FIN.bl hW)⟩
              rw [hW.cell (p := ⟨b14, 0, none⟩) hb14, hW.cell (p := ⟨b14, 1, none⟩) hb14, hW.cell (p := ⟨b14, 2, none⟩) hb14, cfar, cfar, cfar]
              exact xc
            have hle := cmpv_ge (unhide HENV)
            obtain ⟨y3, hy3⟩ : ∃ y, cmpv (ovr M (mor qs) tt i) (Stp.env M tt i) = y := ⟨_, rfl⟩
            rw [hy3] at hle
            have hd3 : decide (y3 < 0) = false := decide_eq_false (by omega)
            have HC3 : Hid (∀ W, Below w4.heap.size w4 W → Calls Tryd.prog 12 #[.agg #[.bool tz.s, .slice tz.a1 tz.n1 tz.c1, .slice tz.a2 tz.n2 tz.c2], .agg #[.bool tv.s, .slice tv.a1 tv.n1 tv.c1, .slice tv.a2 tv.n2 tv.c2]] W fun e w' => e = .returned (.int .i64 y3) ∧ Below W.heap.size W w') := fun W hW => by
              have := cmpR_all tz.val tv.val _ _ W (rfar.below hW) ((unhide HVR _ (below_step FIN.bl hW))) 300000 (unhide HRO) (unhide HRE) (by rw [KKe]; omega)
              rw [hy3] at this
              exact this
            have HFI := hide FIN
            clear FIN hown4 hgrow hat hlt4 hno4 HT2 HR3 HXB3 hgx hnex cfar rfar xc hb14 vc hle hy3 x0 x1 x2
            go_wp2_with fail
            refine wp_region_hold (fun w' : World => (w'.cell? ⟨b14, 0, none⟩ = some (.bool tz.s) ∧ w'.cell? ⟨b14, 1, none⟩ = some (.slice tz.a1 tz.n1 tz.c1) ∧ w'.cell? ⟨b14, 2, none⟩ = some (.slice tz.a2 tz.n2 tz.c2)) ∧ w'.cell? ⟨bv, ov + tt, none⟩ = some (.slice (some ⟨b1, o1, none⟩) nt ld) ∧ w'.cell? ⟨b1, o1 + i * 3, none⟩ = some (.bool tv.s) ∧ w'.cell? ⟨b1, o1 + i * 3 + 1, none⟩ = some (.slice tv.a1 tv.n1 tv.c1) ∧ w'.cell? ⟨b1, o1 + i * 3 + 2, none⟩ = some (.slice tv.a2 tv.n2 tv.c2)) (by kernel_rfl) ?_
            have bd0 : Below w4.heap.size w4 w4.drew := (Below.refl _ _).drew
            have hC0 : (fun w' : World => (w'.cell? ⟨b14, 0, none⟩ = some (.bool tz.s) ∧ w'.cell? ⟨b14, 1, none⟩ = some (.slice tz.a1 tz.n1 tz.c1) ∧ w'.cell? ⟨b14, 2, none⟩ = some (.slice tz.a2 tz.n2 tz.c2)) ∧ w'.cell? ⟨bv, ov + tt, none⟩ = some (.slice (some ⟨b1, o1, none⟩) nt ld) ∧ w'.cell? ⟨b1, o1 + i * 3, none⟩ = some (.bool tv.s) ∧ w'.cell? ⟨b1, o1 + i * 3 + 1, none⟩ = some (.slice tv.a1 tv.n1 tv.c1) ∧ w'.cell? ⟨b1, o1 + i * 3 + 2, none⟩ = some (.slice tv.a2 tv.n2 tv.c2)) w4.drew := unhide HCC _ bd0
            refine wpHold_take (i := 0) (v := ?_) rfl (by kernel_rfl) (by kernel_rfl) (by kernel_rfl) (fun _ _ _ h => h) (Or.inl ⟨by rfl, ?_⟩) hC0 ?_
            rotate_left
            · intro w hSw; (try dsimp only at hSw); obtain ⟨⟨z0, z1, z2⟩, z3, z4, z5, z6⟩ := hSw; go_simp; (try with_reducible rfl)
            (try simp only [List.getElem_toArray, List.getElem_cons_succ, List.getElem_cons_zero])
            (try simp only [Act.put, List.setIfInBounds_toArray, List.set_cons_zero, List.set_cons_succ])
            refine wpHold_take (i := 1) (v := ?_) rfl (by kernel_rfl) (by kernel_rfl) (by kernel_rfl) (fun _ _ _ h => h) (Or.inl ⟨by rfl, ?_⟩) hC0 ?_
            rotate_left
            · intro w hSw; clear hSw; go_simp; (try with_reducible rfl)
            (try simp only [List.getElem_toArray, List.getElem_cons_succ, List.getElem_cons_zero])
            (try simp only [Act.put, List.setIfInBounds_toArray, List.set_cons_zero, List.set_cons_succ])
            refine wpHold_take (i := 2) (v := ?_) rfl (by kernel_rfl) (by kernel_rfl) (by kernel_rfl) (fun _ _ _ h => h) (Or.inl ⟨by rfl, ?_⟩) hC0 ?_
            rotate_left
            · intro w hSw; clear hSw; go_simp; (try with_reducible rfl)
            (try simp only [List.getElem_toArray, List.getElem_cons_succ, List.getElem_cons_zero])
            (try simp only [Act.put, List.setIfInBounds_toArray, List.set_cons_zero, List.set_cons_succ])
            refine wpHold_take (i := 3) (v := ?_) rfl (by kernel_rfl) (by kernel_rfl) (by kernel_rfl) (fun _ _ _ h => h) (Or.inl ⟨by rfl, ?_⟩) hC0 ?_
            rotate_left
            · intro w hSw; clear hSw; go_simp; (try with_reducible rfl)
            (try simp only [List.getElem_toArray, List.getElem_cons_succ, List.getElem_cons_zero])
            (try simp only [Act.put, List.setIfInBounds_toArray, List.set_cons_zero, List.set_cons_succ])
            refine wpHold_take (i := 4) (v := ?_) rfl (by kernel_rfl) (by kernel_rfl) (by kernel_rfl) (fun _ _ _ h => h) (Or.inl ⟨by rfl, ?_⟩) hC0 ?_
            rotate_left
            · intro w hSw; (try dsimp only at hSw); obtain ⟨⟨z0, z1, z2⟩, z3, z4, z5, z6⟩ := hSw; go_simp; (try with_reducible rfl)
            (try simp only [List.getElem_toArray, List.getElem_cons_succ, List.getElem_cons_zero])
            (try simp only [Act.put, List.setIfInBounds_toArray, List.set_cons_zero, List.set_cons_succ])
            refine wpHold_take (i := 5) (v := ?_) rfl (by kernel_rfl) (by kernel_rfl) (by kernel_rfl) (fun _ _ _ h => h) (Or.inl ⟨by rfl, ?_⟩) hC0 ?_
            rotate_left
            · intro w hSw; clear hSw; go_simp; (try with_reducible rfl)
            (try simp only [List.getElem_toArray, List.getElem_cons_succ, List.getElem_cons_zero])
            (try simp only [Act.put, List.setIfInBounds_toArray, List.set_cons_zero, List.set_cons_succ])
            refine wpHold_take (i := 6) (v := ?_) rfl (by kernel_rfl) (by kernel_rfl) (by kernel_rfl) (fun _ _ _ h => h) (Or.inl ⟨by rfl, ?_⟩) hC0 ?_
            rotate_left
            · intro w hSw; clear hSw; go_simp; (try with_reducible rfl)
            (try simp only [List.getElem_toArray, List.getElem_cons_succ, List.getElem_cons_zero])
            (try simp only [Act.put, List.setIfInBounds_toArray, List.set_cons_zero, List.set_cons_succ])
            refine wpHold_take (i := 7) (v := ?_) rfl (by kernel_rfl) (by kernel_rfl) (by kernel_rfl) (fun _ _ _ h => h) (Or.inl ⟨by rfl, ?_⟩) hC0 ?_
            rotate_left
            · intro w hSw; (try dsimp only at hSw); obtain ⟨⟨z0, z1, z2⟩, z3, z4, z5, z6⟩ := hSw; go_simp; (try with_reducible rfl)
            (try simp only [List.getElem_toArray, List.getElem_cons_succ, List.getElem_cons_zero])
            (try simp only [Act.put, List.setIfInBounds_toArray, List.set_cons_zero, List.set_cons_succ])
            refine wpHold_one (k := 8) (by kernel_rfl) rfl (fun K hK => ?_)
            (try simp only [List.getElem_toArray, List.getElem_cons_succ, List.getElem_cons_zero])
            go_simp
            refine (unhide HC3 _ bd0).mono ?_
            rintro e xw_1 ⟨rfl, hb_1⟩
            have cc_1 := below_step bd0 hb_1
            have hC_1 : (fun w' : World => (w'.cell? ⟨b14, 0, none⟩ = some (.bool tz.s) ∧ w'.cell? ⟨b14, 1, none⟩ = some (.slice tz.a1 tz.n1 tz.c1) ∧ w'.cell? ⟨b14, 2, none⟩ = some (.slice tz.a2 tz.n2 tz.c2)) ∧ w'.cell? ⟨bv, ov + tt, none⟩ = some (.slice (some ⟨b1, o1, none⟩) nt ld) ∧ w'.cell? ⟨b1, o1 + i * 3, none⟩ = some (.bool tv.s) ∧ w'.cell? ⟨b1, o1 + i * 3 + 1, none⟩ = some (.slice tv.a1 tv.n1 tv.c1) ∧ w'.cell? ⟨b1, o1 + i * 3 + 2, none⟩ = some (.slice tv.a2 tv.n2 tv.c2)) xw_1 := unhide HCC _ cc_1
            refine hK.out _ _ hC_1 ?_
            clear hK K
            (try simp only [Act.put, List.setIfInBounds_toArray, List.set_cons_zero, List.set_cons_succ])
            refine wpHold_take (i := 9) (v := ?_) rfl (by kernel_rfl) (by kernel_rfl) (by kernel_rfl) (fun _ _ _ h => h) (Or.inl ⟨by rfl, ?_⟩) hC_1 ?_
            rotate_left
            · intro w hSw; clear hSw; go_simp; (try with_reducible rfl)
            (try simp only [List.getElem_toArray, List.getElem_cons_succ, List.getElem_cons_zero])
            (try simp only [Act.put, List.setIfInBounds_toArray, List.set_cons_zero, List.set_cons_succ])
            refine wpHold_done (by kernel_rfl) ?_ _
            have HFK := hide ((unhide HFI).keep cc_1)
            clear hC0 hC_1 cc_1 bd0 hb_1 HCC HC3 HFI
            go_wp2_with fail
            exact ⟨⟨i + 1, ts ++ [tz], by go_num, hlt, by rw [List.length_append, unhide HTS]; rfl, unhide HFK⟩, by simp [intOf]; omega⟩
          · have hs0 := sign_np hs
            have HMO := hide (mor_not (qs := qs) (k := kk) (fun h => hs h.2))
            obtain ⟨sg, hsg⟩ : ∃ s, (pq qs[kk]!).num.sign = s := ⟨_, rfl⟩
            rw [hsg] at HSG hs0
            have hs1 : ¬ 0 < sg := by omega
            clear hs hsg hs0
            go_wp2_with fail
            refine (unhide HSG).mono ?_
            rintro e ws ⟨rfl, hbs⟩
            have HXB : Hid (BoxIs ws b14 tk (ovr M (mor qs) tt i)) := by
              show BoxIs _ _ _ _
              rw [← unhide HOV, unhide HMO, Rat.add_zero]
              exact (unhide HXf).keep hbs
            have HW := hide (below_step (unhide HWf) hbs)
            clear hbs HSG HXf HWf q0f q1f hqf
            have bL := alloc_below ws (.cells #[.bool tk.s, .slice tk.a1 tk.n1 tk.c1, .slice tk.a2 tk.n2 tk.c2] 35)
            have T2 := ((unhide HT).keep (unhide HW)).keep bL
            have hr3 := (unhide HXB).2.below bL
            have XB3 := (unhide HXB).keep bL
            have ⟨x0, x1, x2⟩ := (unhide HXB).cells _ (Below.refl _ _)
            have hlen56 : (ts.length + 1) * 56 ≤ 140737488355328 := by have := unhide HTS; omega
            have hlen63 : ts.length + 1 ≤ maxLen := by have := unhide HTS; unfold maxLen; omega
            have hsz2 : (ws.alloc (.cells #[.bool tk.s, .slice tk.a1 tk.n1 tk.c1, .slice tk.a2 tk.n2 tk.c2] 35)).heap.size = ws.heap.size + 1 := by rw [alloc_heap, Array.size_push]
            have HT2 := hide T2
            have HR3 := hide hr3
            have HXB3 := hide XB3
            have HSZ := hide hsz2
            have HL56 := hide hlen56
            have HL63 := hide hlen63
            have HBA := hide T2.bl.size
            clear T2 hr3 XB3 hsz2 hlen56 hlen63 bL
            go_wp2_with (at_builtin; go_loud (refine wpList_append_tri _ rfl _ _ _ rfl V.heap.size 35 ti 56 Tryd.underlying31 (unhide HI) (unhide HZ) hz1 hz2 _ ts.length (tcells ts) rfl (unhide HT2).own (unhide HT2).no ⟨ws.heap.size, 0, none⟩ 1 1 tk.cells rfl rfl (news_tri ws tk _) (tri_one tk) tk.notWord (by decide) (unhide HL63) (unhide HL56) (unhide HBA) (ws.heap.size + 1) (unhide HSZ) ?_; intro g cap w4 hown4 hgrow hat hlt4 hno4))
            have FIN := (unhide HT2).push (by rw [unhide HTS, row_get hlt]; exact unhide HR3) hown4 hgrow hno4 (unhide HBA)
            have hgx : b14 < (ws.alloc (.cells #[.bool tk.s, .slice tk.a1 tk.n1 tk.c1, .slice tk.a2 tk.n2 tk.c2] 35)).heap.size := (unhide HXB3).lt
            have hnex : ∀ k, u12.ownBlock = some k → k ≠ b14 := fun k hk e => by
              have h1 := (ownsR_block (unhide HT).own k hk).2
              have h2 := unhide HGX
              omega
            have cfar : ∀ o : Nat, w4.cell? ⟨b14, o, none⟩ = (ws.alloc (.cells #[.bool tk.s, .slice tk.a1 tk.n1 tk.c1, .slice tk.a2 tk.n2 tk.c2] 35)).cell? ⟨b14, o, none⟩ := fun o => hgrow.cell_far ⟨b14, o, none⟩ hgx (fun e => hnex b14 e.symm rfl)
            have rfar : RatIs w4 tk.val (ovr M (mor qs) tt i) := (unhide HXB3).2.far hgrow (unhide HT2).no
            have xc := (unhide HXB3).cells _ (Below.refl _ _)
            have hb14 : b14 < w4.heap.size := Nat.lt_of_lt_of_le hgx hgrow.size
            have vc := unhide HVC w4 FIN.bl
            have HCC : Hid (∀ W, Below w4.heap.size w4 W → (fun w' : World => (w'.cell? ⟨b14, 0, none⟩ = some (.bool tk.s) ∧ w'.cell? ⟨b14, 1, none⟩ = some (.slice tk.a1 tk.n1 tk.c1) ∧ w'.cell? ⟨b14, 2, none⟩ = some (.slice tk.a2 tk.n2 tk.c2)) ∧ w'.cell? ⟨bv, ov + tt, none⟩ = some (.slice (some ⟨b1, o1, none⟩) nt ld) ∧ w'.cell? ⟨b1, o1 + i * 3, none⟩ = some (.bool tv.s) ∧ w'.cell? ⟨b1, o1 + i * 3 + 1, none⟩ = some (.slice tv.a1 tv.n1 tv.c1) ∧ w'.cell? ⟨b1, o1 + i * 3 + 2, none⟩ = some (.slice tv.a2 tv.n2 tv.c2)) W) := fun W hW => by
              refine ⟨?_, unhide HVC W (below_step FIN.bl hW)⟩
              rw [hW.cell (p := ⟨b14, 0, none⟩) hb14, hW.cell (p := ⟨b14, 1, none⟩) hb14, hW.cell (p := ⟨b14, 2, none⟩) hb14, cfar, cfar, cfar]
              exact xc
            have hle := cmpv_ge (unhide HENV)
            obtain ⟨y3, hy3⟩ : ∃ y, cmpv (ovr M (mor qs) tt i) (Stp.env M tt i) = y := ⟨_, rfl⟩
            rw [hy3] at hle
            have hd3 : decide (y3 < 0) = false := decide_eq_false (by omega)
            have HC3 : Hid (∀ W, Below w4.heap.size w4 W → Calls Tryd.prog 12 #[.agg #[.bool tk.s, .slice tk.a1 tk.n1 tk.c1, .slice tk.a2 tk.n2 tk.c2], .agg #[.bool tv.s, .slice tv.a1 tv.n1 tv.c1, .slice tv.a2 tv.n2 tv.c2]] W fun e w' => e = .returned (.int .i64 y3) ∧ Below W.heap.size W w') := fun W hW => by
              have := cmpR_all tk.val tv.val _ _ W (rfar.below hW) ((unhide HVR _ (below_step FIN.bl hW))) 300000 (unhide HRO) (unhide HRE) (by rw [KKe]; omega)
              rw [hy3] at this
              exact this
            have HFI := hide FIN
            clear FIN hown4 hgrow hat hlt4 hno4 HT2 HR3 HXB3 hgx hnex cfar rfar xc hb14 vc hle hy3 x0 x1 x2
            go_wp2_with fail
            refine wp_region_hold (fun w' : World => (w'.cell? ⟨b14, 0, none⟩ = some (.bool tk.s) ∧ w'.cell? ⟨b14, 1, none⟩ = some (.slice tk.a1 tk.n1 tk.c1) ∧ w'.cell? ⟨b14, 2, none⟩ = some (.slice tk.a2 tk.n2 tk.c2)) ∧ w'.cell? ⟨bv, ov + tt, none⟩ = some (.slice (some ⟨b1, o1, none⟩) nt ld) ∧ w'.cell? ⟨b1, o1 + i * 3, none⟩ = some (.bool tv.s) ∧ w'.cell? ⟨b1, o1 + i * 3 + 1, none⟩ = some (.slice tv.a1 tv.n1 tv.c1) ∧ w'.cell? ⟨b1, o1 + i * 3 + 2, none⟩ = some (.slice tv.a2 tv.n2 tv.c2)) (by kernel_rfl) ?_
            have bd0 : Below w4.heap.size w4 w4.drew := (Below.refl _ _).drew
            have hC0 : (fun w' : World => (w'.cell? ⟨b14, 0, none⟩ = some (.bool tk.s) ∧ w'.cell? ⟨b14, 1, none⟩ = some (.slice tk.a1 tk.n1 tk.c1) ∧ w'.cell? ⟨b14, 2, none⟩ = some (.slice tk.a2 tk.n2 tk.c2)) ∧ w'.cell? ⟨bv, ov + tt, none⟩ = some (.slice (some ⟨b1, o1, none⟩) nt ld) ∧ w'.cell? ⟨b1, o1 + i * 3, none⟩ = some (.bool tv.s) ∧ w'.cell? ⟨b1, o1 + i * 3 + 1, none⟩ = some (.slice tv.a1 tv.n1 tv.c1) ∧ w'.cell? ⟨b1, o1 + i * 3 + 2, none⟩ = some (.slice tv.a2 tv.n2 tv.c2)) w4.drew := unhide HCC _ bd0
            refine wpHold_take (i := 0) (v := ?_) rfl (by kernel_rfl) (by kernel_rfl) (by kernel_rfl) (fun _ _ _ h => h) (Or.inl ⟨by rfl, ?_⟩) hC0 ?_
            rotate_left
            · intro w hSw; (try dsimp only at hSw); obtain ⟨⟨z0, z1, z2⟩, z3, z4, z5, z6⟩ := hSw; go_simp; (try with_reducible rfl)
            (try simp only [List.getElem_toArray, List.getElem_cons_succ, List.getElem_cons_zero])
            (try simp only [Act.put, List.setIfInBounds_toArray, List.set_cons_zero, List.set_cons_succ])
            refine wpHold_take (i := 1) (v := ?_) rfl (by kernel_rfl) (by kernel_rfl) (by kernel_rfl) (fun _ _ _ h => h) (Or.inl ⟨by rfl, ?_⟩) hC0 ?_
            rotate_left
            · intro w hSw; clear hSw; go_simp; (try with_reducible rfl)
            (try simp only [List.getElem_toArray, List.getElem_cons_succ, List.getElem_cons_zero])
            (try simp only [Act.put, List.setIfInBounds_toArray, List.set_cons_zero, List.set_cons_succ])
            refine wpHold_take (i := 2) (v := ?_) rfl (by kernel_rfl) (by kernel_rfl) (by kernel_rfl) (fun _ _ _ h => h) (Or.inl ⟨by rfl, ?_⟩) hC0 ?_
            rotate_left
            · intro w hSw; clear hSw; go_simp; (try with_reducible rfl)
            (try simp only [List.getElem_toArray, List.getElem_cons_succ, List.getElem_cons_zero])
            (try simp only [Act.put, List.setIfInBounds_toArray, List.set_cons_zero, List.set_cons_succ])
            refine wpHold_take (i := 3) (v := ?_) rfl (by kernel_rfl) (by kernel_rfl) (by kernel_rfl) (fun _ _ _ h => h) (Or.inl ⟨by rfl, ?_⟩) hC0 ?_
            rotate_left
            · intro w hSw; clear hSw; go_simp; (try with_reducible rfl)
            (try simp only [List.getElem_toArray, List.getElem_cons_succ, List.getElem_cons_zero])
            (try simp only [Act.put, List.setIfInBounds_toArray, List.set_cons_zero, List.set_cons_succ])
            refine wpHold_take (i := 4) (v := ?_) rfl (by kernel_rfl) (by kernel_rfl) (by kernel_rfl) (fun _ _ _ h => h) (Or.inl ⟨by rfl, ?_⟩) hC0 ?_
            rotate_left
            · intro w hSw; (try dsimp only at hSw); obtain ⟨⟨z0, z1, z2⟩, z3, z4, z5, z6⟩ := hSw; go_simp; (try with_reducible rfl)
            (try simp only [List.getElem_toArray, List.getElem_cons_succ, List.getElem_cons_zero])
            (try simp only [Act.put, List.setIfInBounds_toArray, List.set_cons_zero, List.set_cons_succ])
            refine wpHold_take (i := 5) (v := ?_) rfl (by kernel_rfl) (by kernel_rfl) (by kernel_rfl) (fun _ _ _ h => h) (Or.inl ⟨by rfl, ?_⟩) hC0 ?_
            rotate_left
            · intro w hSw; clear hSw; go_simp; (try with_reducible rfl)
            (try simp only [List.getElem_toArray, List.getElem_cons_succ, List.getElem_cons_zero])
            (try simp only [Act.put, List.setIfInBounds_toArray, List.set_cons_zero, List.set_cons_succ])
            refine wpHold_take (i := 6) (v := ?_) rfl (by kernel_rfl) (by kernel_rfl) (by kernel_rfl) (fun _ _ _ h => h) (Or.inl ⟨by rfl, ?_⟩) hC0 ?_
            rotate_left
            · intro w hSw; clear hSw; go_simp; (try with_reducible rfl)
            (try simp only [List.getElem_toArray, List.getElem_cons_succ, List.getElem_cons_zero])
            (try simp only [Act.put, List.setIfInBounds_toArray, List.set_cons_zero, List.set_cons_succ])
            refine wpHold_take (i := 7) (v := ?_) rfl (by kernel_rfl) (by kernel_rfl) (by kernel_rfl) (fun _ _ _ h => h) (Or.inl ⟨by rfl, ?_⟩) hC0 ?_
            rotate_left
            · intro w hSw; (try dsimp only at hSw); obtain ⟨⟨z0, z1, z2⟩, z3, z4, z5, z6⟩ := hSw; go_simp; (try with_reducible rfl)
            (try simp only [List.getElem_toArray, List.getElem_cons_succ, List.getElem_cons_zero])
            (try simp only [Act.put, List.setIfInBounds_toArray, List.set_cons_zero, List.set_cons_succ])
            refine wpHold_one (k := 8) (by kernel_rfl) rfl (fun K hK => ?_)
            (try simp only [List.getElem_toArray, List.getElem_cons_succ, List.getElem_cons_zero])
            go_simp
            refine (unhide HC3 _ bd0).mono ?_
            rintro e xw_1 ⟨rfl, hb_1⟩
            have cc_1 := below_step bd0 hb_1
            have hC_1 : (fun w' : World => (w'.cell? ⟨b14, 0, none⟩ = some (.bool tk.s) ∧ w'.cell? ⟨b14, 1, none⟩ = some (.slice tk.a1 tk.n1 tk.c1) ∧ w'.cell? ⟨b14, 2, none⟩ = some (.slice tk.a2 tk.n2 tk.c2)) ∧ w'.cell? ⟨bv, ov + tt, none⟩ = some (.slice (some ⟨b1, o1, none⟩) nt ld) ∧ w'.cell? ⟨b1, o1 + i * 3, none⟩ = some (.bool tv.s) ∧ w'.cell? ⟨b1, o1 + i * 3 + 1, none⟩ = some (.slice tv.a1 tv.n1 tv.c1) ∧ w'.cell? ⟨b1, o1 + i * 3 + 2, none⟩ = some (.slice tv.a2 tv.n2 tv.c2)) xw_1 := unhide HCC _ cc_1
            refine hK.out _ _ hC_1 ?_
            clear hK K
            (try simp only [Act.put, List.setIfInBounds_toArray, List.set_cons_zero, List.set_cons_succ])
            refine wpHold_take (i := 9) (v := ?_) rfl (by kernel_rfl) (by kernel_rfl) (by kernel_rfl) (fun _ _ _ h => h) (Or.inl ⟨by rfl, ?_⟩) hC_1 ?_
            rotate_left
            · intro w hSw; clear hSw; go_simp; (try with_reducible rfl)
            (try simp only [List.getElem_toArray, List.getElem_cons_succ, List.getElem_cons_zero])
            (try simp only [Act.put, List.setIfInBounds_toArray, List.set_cons_zero, List.set_cons_succ])
            refine wpHold_done (by kernel_rfl) ?_ _
            have HFK := hide ((unhide HFI).keep cc_1)
            clear hC0 hC_1 cc_1 bd0 hb_1 HCC HC3 HFI
            go_wp2_with fail
            exact ⟨⟨i + 1, ts ++ [tk], by go_num, hlt, by rw [List.length_append, unhide HTS]; rfl, unhide HFK⟩, by simp [intOf]; omega⟩
        have hd0 : decide (0 < tt) = true := decide_eq_true (by omega)
        obtain ⟨u, hu⟩ : ∃ u, u + 1 = tt := ⟨tt - 1, by omega⟩
        have et : IntKind.i64.wrap ((tt : Int) - 1) = (u : Int) := by rw [IntKind.wrap_i64]; omega
        have fu : (u : Int) < (T : Int) := by omega
        have fu0 : (0 : Int) ≤ (u : Int) := by omega
        obtain ⟨b_u, o_u, lu, ebu, hbu, ku, hLu⟩ := ((unhide HVV).below (unhide HT).bl).at (l := (av, T, cv)) (i := u) (by rw [emat_length]; omega)
        rw [emat_get (by omega)] at hLu
        have hlun := law_len hLu
        rw [row_length] at hlun
        rw [hlun] at ku
        obtain ⟨lb, elb⟩ : ∃ a, lu.a = a := ⟨_, rfl⟩
        obtain ⟨le, ele⟩ : ∃ a, lu.c = a := ⟨_, rfl⟩
        simp only [Sl.val] at hLu
        rw [hlun, elb, ele] at hLu
        rw [elb, ele] at ku
        have ebv : bv = b_u ∧ ov = o_u := by
          have h1 := unhide HAV
          have h2 : av = some ⟨b_u, o_u, none⟩ := ebu
          rw [h1] at h2
          injection h2 with h2
          injection h2 with h3 h4
          exact ⟨h3, h4⟩
        obtain ⟨rfl, rfl⟩ := ebv
        have HCC : Hid (∀ W, Below wr.heap.size wr W → (fun w' : World => ((w'.cell? ⟨bc, 0, none⟩ = some (.slice lc.a nt lc.c) ∧ w'.cell? ⟨bc, 1, none⟩ = some (.slice (some ⟨bm, om, none⟩) nt mc.c) ∧ w'.cell? ⟨bc, 2, none⟩ = some (.bool tc.s) ∧ w'.cell? ⟨bc, 3, none⟩ = some (.slice tc.a1 tc.n1 tc.c1) ∧ w'.cell? ⟨bc, 4, none⟩ = some (.slice tc.a2 tc.n2 tc.c2)) ∧ w'.cell? ⟨bv, ov + tt, none⟩ = some (.slice (some ⟨b1, o1, none⟩) nt ld) ∧ (w'.cell? ⟨b1, o1 + i * 3, none⟩ = some (.bool tv.s) ∧ w'.cell? ⟨b1, o1 + i * 3 + 1, none⟩ = some (.slice tv.a1 tv.n1 tv.c1) ∧ w'.cell? ⟨b1, o1 + i * 3 + 2, none⟩ = some (.slice tv.a2 tv.n2 tv.c2)) ∧ (w'.cell? ⟨bm, om + i * 3, none⟩ = some (.bool tk.s) ∧ w'.cell? ⟨bm, om + i * 3 + 1, none⟩ = some (.slice tk.a1 tk.n1 tk.c1) ∧ w'.cell? ⟨bm, om + i * 3 + 2, none⟩ = some (.slice tk.a2 tk.n2 tk.c2))) ∧ w'.cell? ⟨bv, ov + u, none⟩ = some (.slice lb nt le)) W) := fun W hW => ⟨unhide HC20 W hW, by rw [hW.cell (p := ⟨bv, ov + u, none⟩) hbu]; exact ku⟩
        have hon1 : Stp.on (chn P gs c) (bf (row (Stp.env M u) nt)) i = Stp.on M (Stp.env M u) i := by
          rw [unhide HM]
          exact on_congr (fun k hk => row_get (by rw [unhide HMn] at hk; exact hk)) i
        have HON1 : Hid (∀ W, Below wr.heap.size wr W → Calls Tryd.prog 13 #[.agg #[.slice lc.a nt lc.c, .slice (some ⟨bm, om, none⟩) nt mc.c, .bool tc.s, .slice tc.a1 tc.n1 tc.c1, .slice tc.a2 tc.n2 tc.c2], .slice lb nt le, .int .i64 (i : Int)] W fun e w' => ∃ v, e = .returned v ∧ RatIs w' v (Stp.on M (Stp.env M u) i) ∧ Below W.heap.size W w') := fun W hW => by
          have := on_any (cval lc mc tc) (.slice lb nt le) P gs c (row (Stp.env M u) nt) i 200000 W (((unhide HXV).keep (unhide HT).bl).keep hW).chain (unhide HSM) (unhide HGM) (unhide HLP) (hLu.below hW) (by rw [row_length]; exact (unhide HPL).symm) (fun j hj => by
            rw [row_get (by rw [← unhide HPL]; exact hj), ← unhide HM]
            exact env_small (unhide HSM) (unhide HGM) (by omega) hj) (by rw [KKe]; omega)
          rw [unhide HCV, unhide HMA, hon1] at this
          exact this
        have hle2 := cmpv_ge (show Stp.on M (Stp.env M u) i ≤ Stp.env M tt i by rw [← hu]; exact Stp.env_on M u i)
        obtain ⟨y2, hy2⟩ : ∃ y, cmpv (Stp.env M tt i) (Stp.on M (Stp.env M u) i) = y := ⟨_, rfl⟩
        rw [hy2] at hle2
        have hd2 : decide (y2 < 0) = false := decide_eq_false (by omega)
        have hRon : RS (Stp.on M (Stp.env M u) i) 3000000 := by
          rw [← unhide HM]
          exact (on_RS (unhide HSM) (unhide HGM) (unhide HLP) (fun j hj => env_small (unhide HSM) (unhide HGM) (t := u) (by omega) hj)).mono (by omega)
        have HC2 : Hid (∀ W v, Below wr.heap.size wr W → RatIs W v (Stp.on M (Stp.env M u) i) → Calls Tryd.prog 12 #[.agg #[.bool tv.s, .slice tv.a1 tv.n1 tv.c1, .slice tv.a2 tv.n2 tv.c2], v] W fun e w' => e = .returned (.int .i64 y2) ∧ Below W.heap.size W w') := fun W v hW hv => by
          have := cmpR_all tv.val v _ _ W (unhide HVR W (below_step (unhide HT).bl hW)) hv 3000000 ((unhide HRE).mono (by omega)) hRon (by rw [KKe]; omega)
          rw [hy2] at this
          exact this
        have HU := hide hu
        clear hLu hlun elb ele hon1 hle2 hy2 hRon hu ku hbu ebu
        go_wp2_with fail
        refine wp_region_hold (fun w' : World => ((w'.cell? ⟨bc, 0, none⟩ = some (.slice lc.a nt lc.c) ∧ w'.cell? ⟨bc, 1, none⟩ = some (.slice (some ⟨bm, om, none⟩) nt mc.c) ∧ w'.cell? ⟨bc, 2, none⟩ = some (.bool tc.s) ∧ w'.cell? ⟨bc, 3, none⟩ = some (.slice tc.a1 tc.n1 tc.c1) ∧ w'.cell? ⟨bc, 4, none⟩ = some (.slice tc.a2 tc.n2 tc.c2)) ∧ w'.cell? ⟨bv, ov + tt, none⟩ = some (.slice (some ⟨b1, o1, none⟩) nt ld) ∧ (w'.cell? ⟨b1, o1 + i * 3, none⟩ = some (.bool tv.s) ∧ w'.cell? ⟨b1, o1 + i * 3 + 1, none⟩ = some (.slice tv.a1 tv.n1 tv.c1) ∧ w'.cell? ⟨b1, o1 + i * 3 + 2, none⟩ = some (.slice tv.a2 tv.n2 tv.c2)) ∧ (w'.cell? ⟨bm, om + i * 3, none⟩ = some (.bool tk.s) ∧ w'.cell? ⟨bm, om + i * 3 + 1, none⟩ = some (.slice tk.a1 tk.n1 tk.c1) ∧ w'.cell? ⟨bm, om + i * 3 + 2, none⟩ = some (.slice tk.a2 tk.n2 tk.c2))) ∧ w'.cell? ⟨bv, ov + u, none⟩ = some (.slice lb nt le)) (by kernel_rfl) ?_
        have bd0 : Below wr.heap.size wr wr.drew := (Below.refl _ _).drew
        have hC0 : (fun w' : World => ((w'.cell? ⟨bc, 0, none⟩ = some (.slice lc.a nt lc.c) ∧ w'.cell? ⟨bc, 1, none⟩ = some (.slice (some ⟨bm, om, none⟩) nt mc.c) ∧ w'.cell? ⟨bc, 2, none⟩ = some (.bool tc.s) ∧ w'.cell? ⟨bc, 3, none⟩ = some (.slice tc.a1 tc.n1 tc.c1) ∧ w'.cell? ⟨bc, 4, none⟩ = some (.slice tc.a2 tc.n2 tc.c2)) ∧ w'.cell? ⟨bv, ov + tt, none⟩ = some (.slice (some ⟨b1, o1, none⟩) nt ld) ∧ (w'.cell? ⟨b1, o1 + i * 3, none⟩ = some (.bool tv.s) ∧ w'.cell? ⟨b1, o1 + i * 3 + 1, none⟩ = some (.slice tv.a1 tv.n1 tv.c1) ∧ w'.cell? ⟨b1, o1 + i * 3 + 2, none⟩ = some (.slice tv.a2 tv.n2 tv.c2)) ∧ (w'.cell? ⟨bm, om + i * 3, none⟩ = some (.bool tk.s) ∧ w'.cell? ⟨bm, om + i * 3 + 1, none⟩ = some (.slice tk.a1 tk.n1 tk.c1) ∧ w'.cell? ⟨bm, om + i * 3 + 2, none⟩ = some (.slice tk.a2 tk.n2 tk.c2))) ∧ w'.cell? ⟨bv, ov + u, none⟩ = some (.slice lb nt le)) wr.drew := unhide HCC _ bd0
        refine wpHold_take (i := 0) (v := ?_) rfl (by kernel_rfl) (by kernel_rfl) (by kernel_rfl) (fun _ _ _ h => h) (Or.inl ⟨by rfl, ?_⟩) hC0 ?_
        rotate_left
        · intro w hSw; clear hSw; go_simp; (try with_reducible rfl)
        (try simp only [List.getElem_toArray, List.getElem_cons_succ, List.getElem_cons_zero])
        (try simp only [Act.put, List.setIfInBounds_toArray, List.set_cons_zero, List.set_cons_succ])
        refine wpHold_take (i := 1) (v := ?_) rfl (by kernel_rfl) (by kernel_rfl) (by kernel_rfl) (fun _ _ _ h => h) (Or.inl ⟨by rfl, ?_⟩) hC0 ?_
        rotate_left
        · intro w hSw; clear hSw; go_simp; (try with_reducible rfl)
        (try simp only [List.getElem_toArray, List.getElem_cons_succ, List.getElem_cons_zero])
        (try simp only [Act.put, List.setIfInBounds_toArray, List.set_cons_zero, List.set_cons_succ])
        refine wpHold_take (i := 2) (v := ?_) rfl (by kernel_rfl) (by kernel_rfl) (by kernel_rfl) (fun _ _ _ h => h) (Or.inl ⟨by rfl, ?_⟩) hC0 ?_
        rotate_left
        · intro w hSw; clear hSw; go_simp; (try with_reducible rfl)
        (try simp only [List.getElem_toArray, List.getElem_cons_succ, List.getElem_cons_zero])
        (try simp only [Act.put, List.setIfInBounds_toArray, List.set_cons_zero, List.set_cons_succ])
        refine wpHold_take (i := 3) (v := ?_) rfl (by kernel_rfl) (by kernel_rfl) (by kernel_rfl) (fun _ _ _ h => h) (Or.inl ⟨by rfl, ?_⟩) hC0 ?_
        rotate_left
        · intro w hSw; (try dsimp only at hSw); obtain ⟨⟨⟨z0, z1, z2, z3, z4⟩, z5, ⟨z6, z7, z8⟩, z9, z10, z11⟩, z12⟩ := hSw; go_simp; (try with_reducible rfl)
        (try simp only [List.getElem_toArray, List.getElem_cons_succ, List.getElem_cons_zero])
        (try simp only [Act.put, List.setIfInBounds_toArray, List.set_cons_zero, List.set_cons_succ])
        refine wpHold_take (i := 4) (v := ?_) rfl (by kernel_rfl) (by kernel_rfl) (by kernel_rfl) (fun _ _ _ h => h) (Or.inl ⟨by rfl, ?_⟩) hC0 ?_
        rotate_left
        · intro w hSw; clear hSw; go_simp; (try with_reducible rfl)
        (try simp only [List.getElem_toArray, List.getElem_cons_succ, List.getElem_cons_zero])
        (try simp only [Act.put, List.setIfInBounds_toArray, List.set_cons_zero, List.set_cons_succ])
        refine wpHold_take (i := 5) (v := ?_) rfl (by kernel_rfl) (by kernel_rfl) (by kernel_rfl) (fun _ _ _ h => h) (Or.inl ⟨by rfl, ?_⟩) hC0 ?_
        rotate_left
        · intro w hSw; clear hSw; go_simp; (try with_reducible rfl)
        (try simp only [List.getElem_toArray, List.getElem_cons_succ, List.getElem_cons_zero])
        (try simp only [Act.put, List.setIfInBounds_toArray, List.set_cons_zero, List.set_cons_succ])
        refine wpHold_take (i := 6) (v := ?_) rfl (by kernel_rfl) (by kernel_rfl) (by kernel_rfl) (fun _ _ _ h => h) (Or.inl ⟨by rfl, ?_⟩) hC0 ?_
        rotate_left
        · intro w hSw; (try dsimp only at hSw); obtain ⟨⟨⟨z0, z1, z2, z3, z4⟩, z5, ⟨z6, z7, z8⟩, z9, z10, z11⟩, z12⟩ := hSw; go_simp; (try with_reducible rfl)
        (try simp only [List.getElem_toArray, List.getElem_cons_succ, List.getElem_cons_zero])
        (try simp only [Act.put, List.setIfInBounds_toArray, List.set_cons_zero, List.set_cons_succ])
        refine wpHold_take (i := 7) (v := ?_) rfl (by kernel_rfl) (by kernel_rfl) (by kernel_rfl) (fun _ _ _ h => h) (Or.inl ⟨by rfl, ?_⟩) hC0 ?_
        rotate_left
        · intro w hSw; clear hSw; go_simp; (try with_reducible rfl)
        (try simp only [List.getElem_toArray, List.getElem_cons_succ, List.getElem_cons_zero])
        (try simp only [Act.put, List.setIfInBounds_toArray, List.set_cons_zero, List.set_cons_succ])
        refine wpHold_take (i := 8) (v := ?_) rfl (by kernel_rfl) (by kernel_rfl) (by kernel_rfl) (fun _ _ _ h => h) (Or.inl ⟨by rfl, ?_⟩) hC0 ?_
        rotate_left
        · intro w hSw; (try dsimp only at hSw); obtain ⟨⟨⟨z0, z1, z2, z3, z4⟩, z5, ⟨z6, z7, z8⟩, z9, z10, z11⟩, z12⟩ := hSw; go_simp; (try with_reducible rfl)
        (try simp only [List.getElem_toArray, List.getElem_cons_succ, List.getElem_cons_zero])
        (try simp only [Act.put, List.setIfInBounds_toArray, List.set_cons_zero, List.set_cons_succ])
        refine wpHold_take (i := 9) (v := ?_) rfl (by kernel_rfl) (by kernel_rfl) (by kernel_rfl) (fun _ _ _ h => h) (Or.inl ⟨by rfl, ?_⟩) hC0 ?_
        rotate_left
        · intro w hSw; clear hSw; go_simp; (try with_reducible rfl)
        (try simp only [List.getElem_toArray, List.getElem_cons_succ, List.getElem_cons_zero])
        (try simp only [Act.put, List.setIfInBounds_toArray, List.set_cons_zero, List.set_cons_succ])
        refine wpHold_take (i := 10) (v := ?_) rfl (by kernel_rfl) (by kernel_rfl) (by kernel_rfl) (fun _ _ _ h => h) (Or.inl ⟨by rfl, ?_⟩) hC0 ?_
        rotate_left
        · intro w hSw; clear hSw; go_simp; (try with_reducible rfl)
        (try simp only [List.getElem_toArray, List.getElem_cons_succ, List.getElem_cons_zero])
        (try simp only [Act.put, List.setIfInBounds_toArray, List.set_cons_zero, List.set_cons_succ])
        refine wpHold_take (i := 11) (v := ?_) rfl (by kernel_rfl) (by kernel_rfl) (by kernel_rfl) (fun _ _ _ h => h) (Or.inl ⟨by rfl, ?_⟩) hC0 ?_
        rotate_left
        · intro w hSw; (try dsimp only at hSw); obtain ⟨⟨⟨z0, z1, z2, z3, z4⟩, z5, ⟨z6, z7, z8⟩, z9, z10, z11⟩, z12⟩ := hSw; go_simp; (try with_reducible rfl)
        (try simp only [List.getElem_toArray, List.getElem_cons_succ, List.getElem_cons_zero])
        (try simp only [Act.put, List.setIfInBounds_toArray, List.set_cons_zero, List.set_cons_succ])
        refine wpHold_one (k := 12) (by kernel_rfl) rfl (fun K hK => ?_)
        (try simp only [List.getElem_toArray, List.getElem_cons_succ, List.getElem_cons_zero])
        go_simp
        refine (unhide HC1 _ bd0).mono ?_
        rintro e xw_1 ⟨rfl, hb_1⟩
        have cc_1 := below_step bd0 hb_1
        have hC_1 : (fun w' : World => ((w'.cell? ⟨bc, 0, none⟩ = some (.slice lc.a nt lc.c) ∧ w'.cell? ⟨bc, 1, none⟩ = some (.slice (some ⟨bm, om, none⟩) nt mc.c) ∧ w'.cell? ⟨bc, 2, none⟩ = some (.bool tc.s) ∧ w'.cell? ⟨bc, 3, none⟩ = some (.slice tc.a1 tc.n1 tc.c1) ∧ w'.cell? ⟨bc, 4, none⟩ = some (.slice tc.a2 tc.n2 tc.c2)) ∧ w'.cell? ⟨bv, ov + tt, none⟩ = some (.slice (some ⟨b1, o1, none⟩) nt ld) ∧ (w'.cell? ⟨b1, o1 + i * 3, none⟩ = some (.bool tv.s) ∧ w'.cell? ⟨b1, o1 + i * 3 + 1, none⟩ = some (.slice tv.a1 tv.n1 tv.c1) ∧ w'.cell? ⟨b1, o1 + i * 3 + 2, none⟩ = some (.slice tv.a2 tv.n2 tv.c2)) ∧ (w'.cell? ⟨bm, om + i * 3, none⟩ = some (.bool tk.s) ∧ w'.cell? ⟨bm, om + i * 3 + 1, none⟩ = some (.slice tk.a1 tk.n1 tk.c1) ∧ w'.cell? ⟨bm, om + i * 3 + 2, none⟩ = some (.slice tk.a2 tk.n2 tk.c2))) ∧ w'.cell? ⟨bv, ov + u, none⟩ = some (.slice lb nt le)) xw_1 := unhide HCC _ cc_1
        refine hK.out _ _ hC_1 ?_
        clear hK K
        (try simp only [Act.put, List.setIfInBounds_toArray, List.set_cons_zero, List.set_cons_succ])
        refine wpHold_take (i := 13) (v := ?_) rfl (by kernel_rfl) (by kernel_rfl) (by kernel_rfl) (fun _ _ _ h => h) (Or.inl ⟨by rfl, ?_⟩) hC_1 ?_
        rotate_left
        · intro w hSw; clear hSw; go_simp; (try with_reducible rfl)
        (try simp only [List.getElem_toArray, List.getElem_cons_succ, List.getElem_cons_zero])
        (try simp only [Act.put, List.setIfInBounds_toArray, List.set_cons_zero, List.set_cons_succ])
        refine wpHold_take (i := 14) (v := ?_) rfl (by kernel_rfl) (by kernel_rfl) (by kernel_rfl) (fun _ _ _ h => h) (Or.inl ⟨by rfl, ?_⟩) hC_1 ?_
        rotate_left
        · intro w hSw; clear hSw; go_simp; (try with_reducible rfl)
        (try simp only [List.getElem_toArray, List.getElem_cons_succ, List.getElem_cons_zero])
        (try simp only [Act.put, List.setIfInBounds_toArray, List.set_cons_zero, List.set_cons_succ])
        refine wpHold_take (i := 15) (v := ?_) rfl (by kernel_rfl) (by kernel_rfl) (by kernel_rfl) (fun _ _ _ h => h) (Or.inl ⟨by rfl, ?_⟩) hC_1 ?_
        rotate_left
        · intro w hSw; clear hSw; go_simp; (try with_reducible rfl)
        (try simp only [List.getElem_toArray, List.getElem_cons_succ, List.getElem_cons_zero])
        (try simp only [Act.put, List.setIfInBounds_toArray, List.set_cons_zero, List.set_cons_succ])
        refine wpHold_take (i := 16) (v := ?_) rfl (by kernel_rfl) (by kernel_rfl) (by kernel_rfl) (fun _ _ _ h => h) (Or.inl ⟨by rfl, ?_⟩) hC_1 ?_
        rotate_left
        · intro w hSw; clear hSw; go_simp; (try with_reducible rfl)
        (try simp only [List.getElem_toArray, List.getElem_cons_succ, List.getElem_cons_zero])
        (try simp only [Act.put, List.setIfInBounds_toArray, List.set_cons_zero, List.set_cons_succ])
        refine wpHold_take (i := 17) (v := ?_) rfl (by kernel_rfl) (by kernel_rfl) (by kernel_rfl) (fun _ _ _ h => h) (Or.inl ⟨by rfl, ?_⟩) hC_1 ?_
        rotate_left
        · intro w hSw; clear hSw; go_simp; (try with_reducible rfl)
        (try simp only [List.getElem_toArray, List.getElem_cons_succ, List.getElem_cons_zero])
        (try simp only [Act.put, List.setIfInBounds_toArray, List.set_cons_zero, List.set_cons_succ])
        (try simp only [hd0])
        refine wpHold_take (i := 18) (v := ?_) rfl (by kernel_rfl) (by kernel_rfl) (by kernel_rfl) (fun _ _ _ h => h) (Or.inl ⟨by rfl, ?_⟩) hC_1 ?_
        rotate_left
        · intro w hSw; clear hSw; go_simp; (try with_reducible rfl)
        (try simp only [List.getElem_toArray, List.getElem_cons_succ, List.getElem_cons_zero])
        (try simp only [Act.put, List.setIfInBounds_toArray, List.set_cons_zero, List.set_cons_succ])
        refine wpHold_take (i := 19) (v := ?_) rfl (by kernel_rfl) (by kernel_rfl) (by kernel_rfl) (fun _ _ _ h => h) (Or.inl ⟨by rfl, ?_⟩) hC_1 ?_
        rotate_left
        · intro w hSw; clear hSw; go_simp; (try with_reducible rfl)
        (try simp only [List.getElem_toArray, List.getElem_cons_succ, List.getElem_cons_zero])
        (try simp only [Act.put, List.setIfInBounds_toArray, List.set_cons_zero, List.set_cons_succ])
        refine wpHold_take (i := 20) (v := ?_) rfl (by kernel_rfl) (by kernel_rfl) (by kernel_rfl) (fun _ _ _ h => h) (Or.inl ⟨by rfl, ?_⟩) hC_1 ?_
        rotate_left
        · intro w hSw; clear hSw; go_simp; (try with_reducible rfl)
        (try simp only [List.getElem_toArray, List.getElem_cons_succ, List.getElem_cons_zero])
        (try simp only [Act.put, List.setIfInBounds_toArray, List.set_cons_zero, List.set_cons_succ])
        refine wpHold_take (i := 21) (v := ?_) rfl (by kernel_rfl) (by kernel_rfl) (by kernel_rfl) (fun _ _ _ h => h) (Or.inl ⟨by rfl, ?_⟩) hC_1 ?_
        rotate_left
        · intro w hSw; (try dsimp only at hSw); obtain ⟨⟨⟨z0, z1, z2, z3, z4⟩, z5, ⟨z6, z7, z8⟩, z9, z10, z11⟩, z12⟩ := hSw; go_simp; (try with_reducible rfl)
        (try simp only [List.getElem_toArray, List.getElem_cons_succ, List.getElem_cons_zero])
        (try simp only [Act.put, List.setIfInBounds_toArray, List.set_cons_zero, List.set_cons_succ])
        refine wpHold_take (i := 22) (v := ?_) rfl (by kernel_rfl) (by kernel_rfl) (by kernel_rfl) (fun _ _ _ h => h) (Or.inl ⟨by rfl, ?_⟩) hC_1 ?_
        rotate_left
        · intro w hSw; clear hSw; go_simp; (try with_reducible rfl)
        (try simp only [List.getElem_toArray, List.getElem_cons_succ, List.getElem_cons_zero])
        (try simp only [Act.put, List.setIfInBounds_toArray, List.set_cons_zero, List.set_cons_succ])
        refine wpHold_take (i := 23) (v := ?_) rfl (by kernel_rfl) (by kernel_rfl) (by kernel_rfl) (fun _ _ _ h => h) (Or.inl ⟨by rfl, ?_⟩) hC_1 ?_
        rotate_left
        · intro w hSw; clear hSw; go_simp; (try with_reducible rfl)
        (try simp only [List.getElem_toArray, List.getElem_cons_succ, List.getElem_cons_zero])
        (try simp only [Act.put, List.setIfInBounds_toArray, List.set_cons_zero, List.set_cons_succ])
        refine wpHold_take (i := 24) (v := ?_) rfl (by kernel_rfl) (by kernel_rfl) (by kernel_rfl) (fun _ _ _ h => h) (Or.inl ⟨by rfl, ?_⟩) hC_1 ?_
        rotate_left
        · intro w hSw; (try dsimp only at hSw); obtain ⟨⟨⟨z0, z1, z2, z3, z4⟩, z5, ⟨z6, z7, z8⟩, z9, z10, z11⟩, z12⟩ := hSw; go_simp; (try with_reducible rfl)
        (try simp only [List.getElem_toArray, List.getElem_cons_succ, List.getElem_cons_zero])
        (try simp only [Act.put, List.setIfInBounds_toArray, List.set_cons_zero, List.set_cons_succ])
        refine wpHold_take (i := 25) (v := ?_) rfl (by kernel_rfl) (by kernel_rfl) (by kernel_rfl) (fun _ _ _ h => h) (Or.inl ⟨by rfl, ?_⟩) hC_1 ?_
        rotate_left
        · intro w hSw; (try dsimp only at hSw); obtain ⟨⟨⟨z0, z1, z2, z3, z4⟩, z5, ⟨z6, z7, z8⟩, z9, z10, z11⟩, z12⟩ := hSw; go_simp; (try with_reducible rfl)
        (try simp only [List.getElem_toArray, List.getElem_cons_succ, List.getElem_cons_zero])
        (try simp only [Act.put, List.setIfInBounds_toArray, List.set_cons_zero, List.set_cons_succ])
        refine wpHold_take (i := 26) (v := ?_) rfl (by kernel_rfl) (by kernel_rfl) (by kernel_rfl) (fun _ _ _ h => h) (Or.inl ⟨by rfl, ?_⟩) hC_1 ?_
        rotate_left
        · intro w hSw; clear hSw; go_simp; (try with_reducible rfl)
        (try simp only [List.getElem_toArray, List.getElem_cons_succ, List.getElem_cons_zero])
        (try simp only [Act.put, List.setIfInBounds_toArray, List.set_cons_zero, List.set_cons_succ])
        refine wpHold_take (i := 27) (v := ?_) rfl (by kernel_rfl) (by kernel_rfl) (by kernel_rfl) (fun _ _ _ h => h) (Or.inl ⟨by rfl, ?_⟩) hC_1 ?_
        rotate_left
        · intro w hSw; clear hSw; go_simp; (try with_reducible rfl)
        (try simp only [List.getElem_toArray, List.getElem_cons_succ, List.getElem_cons_zero])
        (try simp only [Act.put, List.setIfInBounds_toArray, List.set_cons_zero, List.set_cons_succ])
        refine wpHold_take (i := 28) (v := ?_) rfl (by kernel_rfl) (by kernel_rfl) (by kernel_rfl) (fun _ _ _ h => h) (Or.inl ⟨by rfl, ?_⟩) hC_1 ?_
        rotate_left
        · intro w hSw; clear hSw; go_simp; (try with_reducible rfl)
        (try simp only [List.getElem_toArray, List.getElem_cons_succ, List.getElem_cons_zero])
        (try simp only [Act.put, List.setIfInBounds_toArray, List.set_cons_zero, List.set_cons_succ])
        refine wpHold_take (i := 29) (v := ?_) rfl (by kernel_rfl) (by kernel_rfl) (by kernel_rfl) (fun _ _ _ h => h) (Or.inl ⟨by rfl, ?_⟩) hC_1 ?_
        rotate_left
        · intro w hSw; clear hSw; go_simp; (try with_reducible rfl)
        (try simp only [List.getElem_toArray, List.getElem_cons_succ, List.getElem_cons_zero])
        (try simp only [Act.put, List.setIfInBounds_toArray, List.set_cons_zero, List.set_cons_succ])
        refine wpHold_take (i := 30) (v := ?_) rfl (by kernel_rfl) (by kernel_rfl) (by kernel_rfl) (fun _ _ _ h => h) (Or.inl ⟨by rfl, ?_⟩) hC_1 ?_
        rotate_left
        · intro w hSw; (try dsimp only at hSw); obtain ⟨⟨⟨z0, z1, z2, z3, z4⟩, z5, ⟨z6, z7, z8⟩, z9, z10, z11⟩, z12⟩ := hSw; go_simp; (try with_reducible rfl)
        (try simp only [List.getElem_toArray, List.getElem_cons_succ, List.getElem_cons_zero])
        (try simp only [Act.put, List.setIfInBounds_toArray, List.set_cons_zero, List.set_cons_succ])
        refine wpHold_take (i := 31) (v := ?_) rfl (by kernel_rfl) (by kernel_rfl) (by kernel_rfl) (fun _ _ _ h => h) (Or.inl ⟨by rfl, ?_⟩) hC_1 ?_
        rotate_left
        · intro w hSw; clear hSw; go_simp; (try with_reducible rfl)
        (try simp only [List.getElem_toArray, List.getElem_cons_succ, List.getElem_cons_zero])
        (try simp only [Act.put, List.setIfInBounds_toArray, List.set_cons_zero, List.set_cons_succ])
        refine wpHold_one (k := 32) (by kernel_rfl) rfl (fun K hK => ?_)
        (try simp only [List.getElem_toArray, List.getElem_cons_succ, List.getElem_cons_zero])
        go_simp
        refine (unhide HON1 _ cc_1).mono ?_
        rintro e xw_2 ⟨xv_2, rfl, hv_2, hb_2⟩
        have cc_2 := below_step cc_1 hb_2
        have hC_2 : (fun w' : World => ((w'.cell? ⟨bc, 0, none⟩ = some (.slice lc.a nt lc.c) ∧ w'.cell? ⟨bc, 1, none⟩ = some (.slice (some ⟨bm, om, none⟩) nt mc.c) ∧ w'.cell? ⟨bc, 2, none⟩ = some (.bool tc.s) ∧ w'.cell? ⟨bc, 3, none⟩ = some (.slice tc.a1 tc.n1 tc.c1) ∧ w'.cell? ⟨bc, 4, none⟩ = some (.slice tc.a2 tc.n2 tc.c2)) ∧ w'.cell? ⟨bv, ov + tt, none⟩ = some (.slice (some ⟨b1, o1, none⟩) nt ld) ∧ (w'.cell? ⟨b1, o1 + i * 3, none⟩ = some (.bool tv.s) ∧ w'.cell? ⟨b1, o1 + i * 3 + 1, none⟩ = some (.slice tv.a1 tv.n1 tv.c1) ∧ w'.cell? ⟨b1, o1 + i * 3 + 2, none⟩ = some (.slice tv.a2 tv.n2 tv.c2)) ∧ (w'.cell? ⟨bm, om + i * 3, none⟩ = some (.bool tk.s) ∧ w'.cell? ⟨bm, om + i * 3 + 1, none⟩ = some (.slice tk.a1 tk.n1 tk.c1) ∧ w'.cell? ⟨bm, om + i * 3 + 2, none⟩ = some (.slice tk.a2 tk.n2 tk.c2))) ∧ w'.cell? ⟨bv, ov + u, none⟩ = some (.slice lb nt le)) xw_2 := unhide HCC _ cc_2
        refine hK.out _ _ hC_2 ?_
        clear hK K
        (try simp only [Act.put, List.setIfInBounds_toArray, List.set_cons_zero, List.set_cons_succ])
        refine wpHold_one (k := 33) (by kernel_rfl) rfl (fun K hK => ?_)
        (try simp only [List.getElem_toArray, List.getElem_cons_succ, List.getElem_cons_zero])
        go_simp
        refine (unhide HC2 _ _ cc_2 hv_2).mono ?_
        rintro e xw_3 ⟨rfl, hb_3⟩
        have cc_3 := below_step cc_2 hb_3
        have hC_3 : (fun w' : World => ((w'.cell? ⟨bc, 0, none⟩ = some (.slice lc.a nt lc.c) ∧ w'.cell? ⟨bc, 1, none⟩ = some (.slice (some ⟨bm, om, none⟩) nt mc.c) ∧ w'.cell? ⟨bc, 2, none⟩ = some (.bool tc.s) ∧ w'.cell? ⟨bc, 3, none⟩ = some (.slice tc.a1 tc.n1 tc.c1) ∧ w'.cell? ⟨bc, 4, none⟩ = some (.slice tc.a2 tc.n2 tc.c2)) ∧ w'.cell? ⟨bv, ov + tt, none⟩ = some (.slice (some ⟨b1, o1, none⟩) nt ld) ∧ (w'.cell? ⟨b1, o1 + i * 3, none⟩ = some (.bool tv.s) ∧ w'.cell? ⟨b1, o1 + i * 3 + 1, none⟩ = some (.slice tv.a1 tv.n1 tv.c1) ∧ w'.cell? ⟨b1, o1 + i * 3 + 2, none⟩ = some (.slice tv.a2 tv.n2 tv.c2)) ∧ (w'.cell? ⟨bm, om + i * 3, none⟩ = some (.bool tk.s) ∧ w'.cell? ⟨bm, om + i * 3 + 1, none⟩ = some (.slice tk.a1 tk.n1 tk.c1) ∧ w'.cell? ⟨bm, om + i * 3 + 2, none⟩ = some (.slice tk.a2 tk.n2 tk.c2))) ∧ w'.cell? ⟨bv, ov + u, none⟩ = some (.slice lb nt le)) xw_3 := unhide HCC _ cc_3
        refine hK.out _ _ hC_3 ?_
        clear hK K
        (try simp only [Act.put, List.setIfInBounds_toArray, List.set_cons_zero, List.set_cons_succ])
        refine wpHold_take (i := 34) (v := ?_) rfl (by kernel_rfl) (by kernel_rfl) (by kernel_rfl) (fun _ _ _ h => h) (Or.inl ⟨by rfl, ?_⟩) hC_3 ?_
        rotate_left
        · intro w hSw; clear hSw; go_simp; (try with_reducible rfl)
        (try simp only [List.getElem_toArray, List.getElem_cons_succ, List.getElem_cons_zero])
        (try simp only [Act.put, List.setIfInBounds_toArray, List.set_cons_zero, List.set_cons_succ])
        refine wpHold_take (i := 35) (v := ?_) rfl (by kernel_rfl) (by kernel_rfl) (by kernel_rfl) (fun _ _ _ h => h) (Or.inl ⟨by rfl, ?_⟩) hC_3 ?_
        rotate_left
        · intro w hSw; clear hSw; go_simp; (try with_reducible rfl)
        (try simp only [List.getElem_toArray, List.getElem_cons_succ, List.getElem_cons_zero])
        (try simp only [Act.put, List.setIfInBounds_toArray, List.set_cons_zero, List.set_cons_succ])
        refine wpHold_take (i := 36) (v := ?_) rfl (by kernel_rfl) (by kernel_rfl) (by kernel_rfl) (fun _ _ _ h => h) (Or.inl ⟨by rfl, ?_⟩) hC_3 ?_
        rotate_left
        · intro w hSw; clear hSw; go_simp; (try with_reducible rfl)
        (try simp only [List.getElem_toArray, List.getElem_cons_succ, List.getElem_cons_zero])
        (try simp only [Act.put, List.setIfInBounds_toArray, List.set_cons_zero, List.set_cons_succ])
        refine wpHold_done (by kernel_rfl) ?_ _
        have HWc := hide cc_3
        have ⟨⟨⟨z0, z1, z2, z3, z4⟩, z5, ⟨z6, z7, z8⟩, z9, z10, z11⟩, z12⟩ := hC_3
        clear hC0 hC_1 hC_2 hC_3 cc_1 cc_2 cc_3 bd0 hb_1 hb_2 hb_3 hv_2 HCC HON1 HC2
        have bA := alloc_below xw_3 (.cells #[.bool tk.s, .slice tk.a1 tk.n1 tk.c1, .slice tk.a2 tk.n2 tk.c2] 35)
        have X14 := BoxIs.new (unhide HKR xw_3 (unhide HWc))
        obtain ⟨W14, hW14⟩ : ∃ W, xw_3.alloc (.cells #[.bool tk.s, .slice tk.a1 tk.n1 tk.c1, .slice tk.a2 tk.n2 tk.c2] 35) = W := ⟨_, rfl⟩
        obtain ⟨b14, hb14⟩ : ∃ b, xw_3.heap.size = b := ⟨_, rfl⟩
        rw [hW14] at bA X14
        rw [hb14] at X14
        have HX14 := hide X14
        have HGX : Hid (wr.heap.size ≤ b14) := by show _ ≤ b14; rw [← hb14]; exact (unhide HWc).size
        have HW14 := hide (below_step (unhide HWc) bA)
        clear bA X14
        have ⟨k0, k1, k2, k3, k4⟩ := unhide HCA W14 (unhide HW14)
        have bVW := below_step (unhide HT).bl (unhide HW14)
        have hov : LawIs W14 (.slice ao nt co) (row (ovr M (mor qs) u) nt) := by
          have := (unhide HOL).below bVW
          rw [← unhide HU] at this
          exact this
        have hon2 : Stp.on (chn P gs c) (bf (row (ovr M (mor qs) u) nt)) i = Stp.on M (ovr M (mor qs) u) i := by
          rw [unhide HM]
          exact on_congr (fun k hk => row_get (by rw [unhide HMn] at hk; exact hk)) i
        have HON2 := hide (on_any (cval lc mc tc) (.slice ao nt co) P gs c (row (ovr M (mor qs) u) nt) i 300000 W14 ((unhide HXV).keep bVW).chain (unhide HSM) (unhide HGM) (unhide HLP) hov (by rw [row_length]; exact (unhide HPL).symm) (fun j hj => by
          rw [row_get (by rw [← unhide HPL]; exact hj), ← unhide HM]
          have := unhide HU
          exact ovr_small (unhide HSM) (unhide HGM) (unhide HMR) (by omega) hj) (by rw [KKe]; omega))
        rw [unhide HCV, unhide HMA, hon2] at HON2
        clear hov hon2 bVW
        go_wp2_with fail
        clear z0 z1 z2 z3 z4 z5 z6 z7 z8 z9 z10 z11 z12 hW14 hb14 k0 k1 k2 k3 k4
        refine (unhide HON2).mono ?_
        rintro e w15 ⟨v15, rfl, hv15, hb15⟩
        obtain ⟨ty, rfl, ry⟩ := tri_of hv15
        simp only [Tri.val]
        have bA := alloc_below w15 (.cells #[.bool ty.s, .slice ty.a1 ty.n1 ty.c1, .slice ty.a2 ty.n2 ty.c2] 35)
        have X15 := BoxIs.new ry
        have X14 := ((unhide HX14).keep hb15).keep bA
        obtain ⟨W15, hW15⟩ : ∃ W, w15.alloc (.cells #[.bool ty.s, .slice ty.a1 ty.n1 ty.c1, .slice ty.a2 ty.n2 ty.c2] 35) = W := ⟨_, rfl⟩
        obtain ⟨b15, hb15'⟩ : ∃ b, w15.heap.size = b := ⟨_, rfl⟩
        rw [hW15] at bA X15 X14
        rw [hb15'] at X15
        have ⟨m0, m1, m2⟩ := X15.cells _ (Below.refl _ _)
        have ⟨m3, m4, m5⟩ := X14.cells _ (Below.refl _ _)
        have hRy : RS (Stp.on M (ovr M (mor qs) u) i) 3000000 := by
          rw [← unhide HM]
          exact (on_RS (unhide HSM) (unhide HGM) (unhide HLP) (fun j hj => ovr_small (unhide HSM) (unhide HGM) (unhide HMR) (t := u) (by have := unhide HU; omega) hj)).mono (by omega)
        have HC4 := hide (cmpR_all ty.val tk.val _ _ W15 X15.2 X14.2 3000000 hRy ((unhide HRG).mono (by omega)) (by rw [KKe]; omega))
        have HX15 := hide X15
        have HX14' := hide X14
        have HW15 := hide (below_step (unhide HW14) (below_step hb15 bA))
        clear hv15 ry hb15 bA X15 X14 hRy HX14 HW14 HON2
        by_cases hgt : gs[i]! < Stp.on M (ovr M (mor qs) u) i
        · rw [cmpv_gt hgt] at HC4
          have HBSR : Hid (Stp.on M (ovr M (mor qs) u) i = bsr M (mor qs) tt i) := by
            show _ = _
            rw [← unhide HU, bsr_succ, ← unhide HM]
            unfold Stp.mx
            rw [← unhide HM] at hgt
            exact (if_pos hgt).symm
          clear hgt
          go_wp2_with fail
          refine (unhide HC4).mono ?_
          rintro e w16 ⟨rfl, hb16⟩
          have X15 := (unhide HX15).keep hb16
          have X14 := (unhide HX14').keep hb16
          have ⟨n0, n1, n2⟩ := X15.cells _ (Below.refl _ _)
          have ⟨n3, n4, n5⟩ := X14.cells _ (Below.refl _ _)
          have ⟨l0, l1, l2⟩ := X14.free
          have X17 := X14.set (t' := ty) (X15.2)
          have B17 := (((below_step (unhide HW15) hb16).setCell (p := ⟨b14, 0, none⟩) (unhide HGX) (.bool ty.s)).setCell (p := ⟨b14, 1, none⟩) (unhide HGX) (.slice ty.a1 ty.n1 ty.c1)).setCell (p := ⟨b14, 2, none⟩) (unhide HGX) (.slice ty.a2 ty.n2 ty.c2)
          obtain ⟨W17, hW17⟩ : ∃ W, ((w16.setCell ⟨b14, 0, none⟩ (.bool ty.s)).setCell ⟨b14, 1, none⟩ (.slice ty.a1 ty.n1 ty.c1)).setCell ⟨b14, 2, none⟩ (.slice ty.a2 ty.n2 ty.c2) = W := ⟨_, rfl⟩
          rw [hW17] at X17 B17
          rw [unhide HBSR] at X17
          have HXB0 := hide X17
          have HW := hide B17
          have ⟨k0, k1, k2, k3, k4⟩ := unhide HCA W17 B17
          clear X15 X14 X17 B17 hb16 HC4 HX15 HX14' HW15 m0 m1 m2 m3 m4 m5 hW15 hb15'
          have bwW := below_step (unhide HBV) (below_step (unhide HT).bl (unhide HW))
          have ⟨q0, q1⟩ := unhide HQC W17 bwW
          have hql : bq < W17.heap.size := Nat.lt_of_lt_of_le (unhide HQLT) bwW.size
          clear bwW
          go_wp2_with fail
          refine (f_any qx qy (unhide HI1).1 (unhide HI1).2 (unhide HI2).1 (unhide HI2).2 W17).mono ?_
          rintro e wf ⟨vf, rfl, hvf, hbf⟩
          obtain ⟨tf, rfl, rf⟩ := tri_of hvf
          rw [← unhide HEQ] at rf
          simp only [Tri.val]
          have HSG := hide (sign_any tf.val _ wf rf)
          have q0f : wf.cell? ⟨bq, oq + kk * 2, none⟩ = some (.int .i64 qx) := by rw [hbf.cell (p := ⟨bq, oq + kk * 2, none⟩) hql]; exact q0
          have q1f : wf.cell? ⟨bq, oq + kk * 2 + 1, none⟩ = some (.int .i64 qy) := by rw [hbf.cell (p := ⟨bq, oq + kk * 2 + 1, none⟩) hql]; exact q1
          have hqf : bq < wf.heap.size := Nat.lt_of_lt_of_le hql hbf.size
          have HXf := hide ((unhide HXB0).keep hbf)
          have HWf := hide (below_step (unhide HW) hbf)
          clear HXB0 HW q0 q1 hql hvf rf hbf
          by_cases hs : 0 < pq qs[kk]!
          · rw [sign_ps hs] at HSG
            have HMO := hide (mor_pos (by have := unhide HNQ; omega) hs)
            clear hs
            go_wp2_with fail
            refine (unhide HSG).mono ?_
            rintro e ws ⟨rfl, hbs⟩
            have q0s : ws.cell? ⟨bq, oq + kk * 2, none⟩ = some (.int .i64 qx) := by rw [hbs.cell (p := ⟨bq, oq + kk * 2, none⟩) hqf]; exact q0f
            have q1s : ws.cell? ⟨bq, oq + kk * 2 + 1, none⟩ = some (.int .i64 qy) := by rw [hbs.cell (p := ⟨bq, oq + kk * 2 + 1, none⟩) hqf]; exact q1f
            have hqs : bq < ws.heap.size := Nat.lt_of_lt_of_le hqf hbs.size
            have Xs := (unhide HXf).keep hbs
            have HXs := hide Xs
            have HWs := hide (below_step (unhide HWf) hbs)
            have HCC : Hid (∀ W, Below ws.heap.size ws W → (fun w' : World => (w'.cell? ⟨b14, 0, none⟩ = some (.bool ty.s) ∧ w'.cell? ⟨b14, 1, none⟩ = some (.slice ty.a1 ty.n1 ty.c1) ∧ w'.cell? ⟨b14, 2, none⟩ = some (.slice ty.a2 ty.n2 ty.c2)) ∧ w'.cell? ⟨bq, oq + kk * 2, none⟩ = some (.int .i64 qx) ∧ w'.cell? ⟨bq, oq + kk * 2 + 1, none⟩ = some (.int .i64 qy)) W) := fun W hW => by
              refine ⟨Xs.cells W hW, ?_⟩
              rw [hW.cell (p := ⟨bq, oq + kk * 2, none⟩) hqs, hW.cell (p := ⟨bq, oq + kk * 2 + 1, none⟩) hqs]
              exact ⟨q0s, q1s⟩
            have HRM : Hid (RS (pq qs[kk]!) 300000) := by
              show RS _ _
              rw [← unhide HMO]
              exact (unhide HMR kk).mono (by omega)
            rw [unhide HEQ] at HRM
            clear Xs hbs HSG HXf HWf q0f q1f hqf
            go_wp2_with fail
            refine wp_region_till (fun w' : World => (w'.cell? ⟨b14, 0, none⟩ = some (.bool ty.s) ∧ w'.cell? ⟨b14, 1, none⟩ = some (.slice ty.a1 ty.n1 ty.c1) ∧ w'.cell? ⟨b14, 2, none⟩ = some (.slice ty.a2 ty.n2 ty.c2)) ∧ w'.cell? ⟨bq, oq + kk * 2, none⟩ = some (.int .i64 qx) ∧ w'.cell? ⟨bq, oq + kk * 2 + 1, none⟩ = some (.int .i64 qy)) 7 (by kernel_rfl) ?_
            have bd0 : Below ws.heap.size ws ws.drew := (Below.refl _ _).drew
            have hC0 : (fun w' : World => (w'.cell? ⟨b14, 0, none⟩ = some (.bool ty.s) ∧ w'.cell? ⟨b14, 1, none⟩ = some (.slice ty.a1 ty.n1 ty.c1) ∧ w'.cell? ⟨b14, 2, none⟩ = some (.slice ty.a2 ty.n2 ty.c2)) ∧ w'.cell? ⟨bq, oq + kk * 2, none⟩ = some (.int .i64 qx) ∧ w'.cell? ⟨bq, oq + kk * 2 + 1, none⟩ = some (.int .i64 qy)) ws.drew := unhide HCC _ bd0
            refine wpTill_take (i := 0) (v := ?_) rfl (by kernel_rfl) (by kernel_rfl) (by kernel_rfl) (by kernel_rfl) (by kernel_rfl) (by kernel_rfl) (fun _ _ _ h => h) (Or.inl ⟨by rfl, ?_⟩) hC0 ?_
            rotate_left
            · intro w hSw; (try dsimp only at hSw); obtain ⟨⟨z0, z1, z2⟩, z3, z4⟩ := hSw; go_simp; (try with_reducible rfl)
            (try simp only [List.getElem_toArray, List.getElem_cons_succ, List.getElem_cons_zero])
            (try simp only [Act.put, List.setIfInBounds_toArray, List.set_cons_zero, List.set_cons_succ])
            refine wpTill_pure (i := 1) (v := ?_) rfl (by kernel_rfl) (by kernel_rfl) (by kernel_rfl) (by kernel_rfl) (fun _ _ _ h => h) (Or.inl ⟨by rfl, ?_⟩) (fun _ => hC0) ?_
            rotate_left
            · intro w hSw; clear hSw; go_simp; (try with_reducible rfl)
            (try simp only [List.getElem_toArray, List.getElem_cons_succ, List.getElem_cons_zero])
            (try simp only [Act.put, List.setIfInBounds_toArray, List.set_cons_zero, List.set_cons_succ])
            refine wpTill_pure (i := 2) (v := ?_) rfl (by kernel_rfl) (by kernel_rfl) (by kernel_rfl) (by kernel_rfl) (fun _ _ _ h => h) (Or.inl ⟨by rfl, ?_⟩) (fun _ => hC0) ?_
            rotate_left
            · intro w hSw; clear hSw; go_simp; (try with_reducible rfl)
            (try simp only [List.getElem_toArray, List.getElem_cons_succ, List.getElem_cons_zero])
            (try simp only [Act.put, List.setIfInBounds_toArray, List.set_cons_zero, List.set_cons_succ])
            refine wpTill_pure (i := 3) (v := ?_) rfl (by kernel_rfl) (by kernel_rfl) (by kernel_rfl) (by kernel_rfl) (fun _ _ _ h => h) (Or.inl ⟨by rfl, ?_⟩) (fun _ => hC0) ?_
            rotate_left
            · intro w hSw; clear hSw; go_simp; (try with_reducible rfl)
            (try simp only [List.getElem_toArray, List.getElem_cons_succ, List.getElem_cons_zero])
            (try simp only [Act.put, List.setIfInBounds_toArray, List.set_cons_zero, List.set_cons_succ])
            refine wpTill_take (i := 4) (v := ?_) rfl (by kernel_rfl) (by kernel_rfl) (by kernel_rfl) (by kernel_rfl) (by kernel_rfl) (by kernel_rfl) (fun _ _ _ h => h) (Or.inl ⟨by rfl, ?_⟩) hC0 ?_
            rotate_left
            · intro w hSw; (try dsimp only at hSw); obtain ⟨⟨z0, z1, z2⟩, z3, z4⟩ := hSw; go_simp; (try with_reducible rfl)
            (try simp only [List.getElem_toArray, List.getElem_cons_succ, List.getElem_cons_zero])
            (try simp only [Act.put, List.setIfInBounds_toArray, List.set_cons_zero, List.set_cons_succ])
            refine wpTill_one (k := 5) (by kernel_rfl) rfl (fun K hK => ?_)
            (try simp only [List.getElem_toArray, List.getElem_cons_succ, List.getElem_cons_zero])
            go_simp
            refine (f_any qx qy (unhide HI1).1 (unhide HI1).2 (unhide HI2).1 (unhide HI2).2 _).mono ?_
            rintro e xw_1 ⟨xv_1, rfl, hv_1, hb_1⟩
            have cc_1 := below_step bd0 hb_1
            have hC_1 : (fun w' : World => (w'.cell? ⟨b14, 0, none⟩ = some (.bool ty.s) ∧ w'.cell? ⟨b14, 1, none⟩ = some (.slice ty.a1 ty.n1 ty.c1) ∧ w'.cell? ⟨b14, 2, none⟩ = some (.slice ty.a2 ty.n2 ty.c2)) ∧ w'.cell? ⟨bq, oq + kk * 2, none⟩ = some (.int .i64 qx) ∧ w'.cell? ⟨bq, oq + kk * 2 + 1, none⟩ = some (.int .i64 qy)) xw_1 := unhide HCC _ cc_1
            refine hK.out _ _ (fun _ => hC_1) ?_
            clear hK K
            (try simp only [Act.put, List.setIfInBounds_toArray, List.set_cons_zero, List.set_cons_succ])
            refine wpTill_one (k := 6) (by kernel_rfl) rfl (fun K hK => ?_)
            (try simp only [List.getElem_toArray, List.getElem_cons_succ, List.getElem_cons_zero])
            go_simp
            refine (addR_any ty.val _ _ _ _ ((unhide HXs).2.below cc_1) hv_1 _ (unhide HRB) (unhide HRM) (unhide HJ3)).mono ?_
            rintro e xw_2 ⟨xv_2, rfl, hv_2, hb_2⟩
            have cc_2 := below_step cc_1 hb_2
            have hC_2 : (fun w' : World => (w'.cell? ⟨b14, 0, none⟩ = some (.bool ty.s) ∧ w'.cell? ⟨b14, 1, none⟩ = some (.slice ty.a1 ty.n1 ty.c1) ∧ w'.cell? ⟨b14, 2, none⟩ = some (.slice ty.a2 ty.n2 ty.c2)) ∧ w'.cell? ⟨bq, oq + kk * 2, none⟩ = some (.int .i64 qx) ∧ w'.cell? ⟨bq, oq + kk * 2 + 1, none⟩ = some (.int .i64 qy)) xw_2 := unhide HCC _ cc_2
            refine hK.out _ _ (fun _ => hC_2) ?_
            clear hK K
            (try simp only [Act.put, List.setIfInBounds_toArray, List.set_cons_zero, List.set_cons_succ])
            obtain ⟨tz, rfl, rz⟩ := tri_of hv_2
            rw [← unhide HEQ, ← unhide HMO, unhide HOV] at rz
            simp only [Tri.val]
            have X9 := (unhide HXs).keep cc_2
            have ⟨l0, l1, l2⟩ := X9.free
            have ⟨y0, y1, y2⟩ := X9.cells _ (Below.refl _ _)
            have X10 := X9.set rz
            have B10 := (((below_step (unhide HWs) cc_2).setCell (p := ⟨b14, 0, none⟩) (unhide HGX) (.bool tz.s)).setCell (p := ⟨b14, 1, none⟩) (unhide HGX) (.slice tz.a1 tz.n1 tz.c1)).setCell (p := ⟨b14, 2, none⟩) (unhide HGX) (.slice tz.a2 tz.n2 tz.c2)
            obtain ⟨W9, hW9⟩ : ∃ W, ((xw_2.setCell ⟨b14, 0, none⟩ (.bool tz.s)).setCell ⟨b14, 1, none⟩ (.slice tz.a1 tz.n1 tz.c1)).setCell ⟨b14, 2, none⟩ (.slice tz.a2 tz.n2 tz.c2) = W := ⟨_, rfl⟩
            rw [hW9] at X10 B10
            have HXB := hide X10
            have HW := hide B10
            clear X9 X10 B10 rz hv_1 hv_2
            refine wpTill_one (k := 7) (by kernel_rfl) rfl (fun K hK => ?_)
            (try simp only [List.getElem_toArray, List.getElem_cons_succ, List.getElem_cons_zero])
            go_simp
            refine hK.out _ _ (fun h => absurd (h.symm.trans (by kernel_rfl)) Bool.false_ne_true) ?_
            clear hK K
            (try simp only [Act.put, List.setIfInBounds_toArray, List.set_cons_zero, List.set_cons_succ])
            refine wpTill_done (by kernel_rfl) ?_ _
            clear hC0 hC_1 hC_2 cc_1 cc_2 bd0 hb_1 hb_2 y0 y1 y2 l0 l1 l2 hW9 HCC HXs HWs
            have bL := alloc_below W9 (.cells #[.bool tz.s, .slice tz.a1 tz.n1 tz.c1, .slice tz.a2 tz.n2 tz.c2] 35)
            have T2 := ((unhide HT).keep (unhide HW)).keep bL
            have hr3 := (unhide HXB).2.below bL
            have XB3 := (unhide HXB).keep bL
            have ⟨x0, x1, x2⟩ := (unhide HXB).cells _ (Below.refl _ _)
            have hlen56 : (ts.length + 1) * 56 ≤ 140737488355328 := by have := unhide HTS; omega
            have hlen63 : ts.length + 1 ≤ maxLen := by have := unhide HTS; unfold maxLen; omega
            have hsz2 : (W9.alloc (.cells #[.bool tz.s, .slice tz.a1 tz.n1 tz.c1, .slice tz.a2 tz.n2 tz.c2] 35)).heap.size = W9.heap.size + 1 := by rw [alloc_heap, Array.size_push]
            have HT2 := hide T2
            have HR3 := hide hr3
            have HXB3 := hide XB3
            have HSZ := hide hsz2
            have HL56 := hide hlen56
            have HL63 := hide hlen63
            have HBA := hide T2.bl.size
            clear T2 hr3 XB3 hsz2 hlen56 hlen63 bL
            go_wp2_with (at_builtin; go_loud (refine wpList_append_tri _ rfl _ _ _ rfl V.heap.size 35 ti 56 Tryd.underlying31 (unhide HI) (unhide HZ) hz1 hz2 _ ts.length (tcells ts) rfl (unhide HT2).own (unhide HT2).no ⟨W9.heap.size, 0, none⟩ 1 1 tz.cells rfl rfl (news_tri W9 tz _) (tri_one tz) tz.notWord (by decide) (unhide HL63) (unhide HL56) (unhide HBA) (W9.heap.size + 1) (unhide HSZ) ?_; intro g cap w4 hown4 hgrow hat hlt4 hno4))
            have FIN := (unhide HT2).push (by rw [unhide HTS, row_get hlt]; exact unhide HR3) hown4 hgrow hno4 (unhide HBA)
            have hgx : b14 < (W9.alloc (.cells #[.bool tz.s, .slice tz.a1 tz.n1 tz.c1, .slice tz.a2 tz.n2 tz.c2] 35)).heap.size := (unhide HXB3).lt
            have hnex : ∀ k, u12.ownBlock = some k → k ≠ b14 := fun k hk e => by
              have h1 := (ownsR_block (unhide HT).own k hk).2
              have h2 := unhide HGX
              omega
            have cfar : ∀ o : Nat, w4.cell? ⟨b14, o, none⟩ = (W9.alloc (.cells #[.bool tz.s, .slice tz.a1 tz.n1 tz.c1, .slice tz.a2 tz.n2 tz.c2] 35)).cell? ⟨b14, o, none⟩ := fun o => hgrow.cell_far ⟨b14, o, none⟩ hgx (fun e => hnex b14 e.symm rfl)
            have rfar : RatIs w4 tz.val (ovr M (mor qs) tt i) := (unhide HXB3).2.far hgrow (unhide HT2).no
            have xc := (unhide HXB3).cells _ (Below.refl _ _)
            have hb14 : b14 < w4.heap.size := Nat.lt_of_lt_of_le hgx hgrow.size
            have vc := unhide HVC w4 FIN.bl
            have HCC : Hid (∀ W, Below w4.heap.size w4 W → (fun w' : World => (w'.cell? ⟨b14, 0, none⟩ = some (.bool tz.s) ∧ w'.cell? ⟨b14, 1, none⟩ = some (.slice tz.a1 tz.n1 tz.c1) ∧ w'.cell? ⟨b14, 2, none⟩ = some (.slice tz.a2 tz.n2 tz.c2)) ∧ w'.cell? ⟨bv, ov + tt, none⟩ = some (.slice (some ⟨b1, o1, none⟩) nt ld) ∧ w'.cell? ⟨b1, o1 + i * 3, none⟩ = some (.bool tv.s) ∧ w'.cell? ⟨b1, o1 + i * 3 + 1, none⟩ = some (.slice tv.a1 tv.n1 tv.c1) ∧ w'.cell? ⟨b1, o1 + i * 3 + 2, none⟩ = some (.slice tv.a2 tv.n2 tv.c2)) W) := fun W hW => by
              refine ⟨?_, unhide HVC W (below_step FIN.bl hW)⟩
              rw [hW.cell (p := ⟨b14, 0, none⟩) hb14, hW.cell (p := ⟨b14, 1, none⟩) hb14, hW.cell (p := ⟨b14, 2, none⟩) hb14, cfar, cfar, cfar]
              exact xc
            have hle := cmpv_ge (unhide HENV)
            obtain ⟨y3, hy3⟩ : ∃ y, cmpv (ovr M (mor qs) tt i) (Stp.env M tt i) = y := ⟨_, rfl⟩
            rw [hy3] at hle
            have hd3 : decide (y3 < 0) = false := decide_eq_false (by omega)
            have HC3 : Hid (∀ W, Below w4.heap.size w4 W → Calls Tryd.prog 12 #[.agg #[.bool tz.s, .slice tz.a1 tz.n1 tz.c1, .slice tz.a2 tz.n2 tz.c2], .agg #[.bool tv.s, .slice tv.a1 tv.n1 tv.c1, .slice tv.a2 tv.n2 tv.c2]] W fun e w' => e = .returned (.int .i64 y3) ∧ Below W.heap.size W w') := fun W hW => by
              have := cmpR_all tz.val tv.val _ _ W (rfar.below hW) ((unhide HVR _ (below_step FIN.bl hW))) 300000 (unhide HRO) (unhide HRE) (by rw [KKe]; omega)
              rw [hy3] at this
              exact this
            have HFI := hide FIN
            clear FIN hown4 hgrow hat hlt4 hno4 HT2 HR3 HXB3 hgx hnex cfar rfar xc hb14 vc hle hy3 x0 x1 x2
            go_wp2_with fail
            refine wp_region_hold (fun w' : World => (w'.cell? ⟨b14, 0, none⟩ = some (.bool tz.s) ∧ w'.cell? ⟨b14, 1, none⟩ = some (.slice tz.a1 tz.n1 tz.c1) ∧ w'.cell? ⟨b14, 2, none⟩ = some (.slice tz.a2 tz.n2 tz.c2)) ∧ w'.cell? ⟨bv, ov + tt, none⟩ = some (.slice (some ⟨b1, o1, none⟩) nt ld) ∧ w'.cell? ⟨b1, o1 + i * 3, none⟩ = some (.bool tv.s) ∧ w'.cell? ⟨b1, o1 + i * 3 + 1, none⟩ = some (.slice tv.a1 tv.n1 tv.c1) ∧ w'.cell? ⟨b1, o1 + i * 3 + 2, none⟩ = some (.slice tv.a2 tv.n2 tv.c2)) (by kernel_rfl) ?_
            have bd0 : Below w4.heap.size w4 w4.drew := (Below.refl _ _).drew
            have hC0 : (fun w' : World => (w'.cell? ⟨b14, 0, none⟩ = some (.bool tz.s) ∧ w'.cell? ⟨b14, 1, none⟩ = some (.slice tz.a1 tz.n1 tz.c1) ∧ w'.cell? ⟨b14, 2, none⟩ = some (.slice tz.a2 tz.n2 tz.c2)) ∧ w'.cell? ⟨bv, ov + tt, none⟩ = some (.slice (some ⟨b1, o1, none⟩) nt ld) ∧ w'.cell? ⟨b1, o1 + i * 3, none⟩ = some (.bool tv.s) ∧ w'.cell? ⟨b1, o1 + i * 3 + 1, none⟩ = some (.slice tv.a1 tv.n1 tv.c1) ∧ w'.cell? ⟨b1, o1 + i * 3 + 2, none⟩ = some (.slice tv.a2 tv.n2 tv.c2)) w4.drew := unhide HCC _ bd0
            refine wpHold_take (i := 0) (v := ?_) rfl (by kernel_rfl) (by kernel_rfl) (by kernel_rfl) (fun _ _ _ h => h) (Or.inl ⟨by rfl, ?_⟩) hC0 ?_
            rotate_left
            · intro w hSw; (try dsimp only at hSw); obtain ⟨⟨z0, z1, z2⟩, z3, z4, z5, z6⟩ := hSw; go_simp; (try with_reducible rfl)
            (try simp only [List.getElem_toArray, List.getElem_cons_succ, List.getElem_cons_zero])
            (try simp only [Act.put, List.setIfInBounds_toArray, List.set_cons_zero, List.set_cons_succ])
            refine wpHold_take (i := 1) (v := ?_) rfl (by kernel_rfl) (by kernel_rfl) (by kernel_rfl) (fun _ _ _ h => h) (Or.inl ⟨by rfl, ?_⟩) hC0 ?_
            rotate_left
            · intro w hSw; clear hSw; go_simp; (try with_reducible rfl)
            (try simp only [List.getElem_toArray, List.getElem_cons_succ, List.getElem_cons_zero])
            (try simp only [Act.put, List.setIfInBounds_toArray, List.set_cons_zero, List.set_cons_succ])
            refine wpHold_take (i := 2) (v := ?_) rfl (by kernel_rfl) (by kernel_rfl) (by kernel_rfl) (fun _ _ _ h => h) (Or.inl ⟨by rfl, ?_⟩) hC0 ?_
            rotate_left
            · intro w hSw; clear hSw; go_simp; (try with_reducible rfl)
            (try simp only [List.getElem_toArray, List.getElem_cons_succ, List.getElem_cons_zero])
            (try simp only [Act.put, List.setIfInBounds_toArray, List.set_cons_zero, List.set_cons_succ])
            refine wpHold_take (i := 3) (v := ?_) rfl (by kernel_rfl) (by kernel_rfl) (by kernel_rfl) (fun _ _ _ h => h) (Or.inl ⟨by rfl, ?_⟩) hC0 ?_
            rotate_left
            · intro w hSw; clear hSw; go_simp; (try with_reducible rfl)
            (try simp only [List.getElem_toArray, List.getElem_cons_succ, List.getElem_cons_zero])
            (try simp only [Act.put, List.setIfInBounds_toArray, List.set_cons_zero, List.set_cons_succ])
            refine wpHold_take (i := 4) (v := ?_) rfl (by kernel_rfl) (by kernel_rfl) (by kernel_rfl) (fun _ _ _ h => h) (Or.inl ⟨by rfl, ?_⟩) hC0 ?_
            rotate_left
            · intro w hSw; (try dsimp only at hSw); obtain ⟨⟨z0, z1, z2⟩, z3, z4, z5, z6⟩ := hSw; go_simp; (try with_reducible rfl)
            (try simp only [List.getElem_toArray, List.getElem_cons_succ, List.getElem_cons_zero])
            (try simp only [Act.put, List.setIfInBounds_toArray, List.set_cons_zero, List.set_cons_succ])
            refine wpHold_take (i := 5) (v := ?_) rfl (by kernel_rfl) (by kernel_rfl) (by kernel_rfl) (fun _ _ _ h => h) (Or.inl ⟨by rfl, ?_⟩) hC0 ?_
            rotate_left
            · intro w hSw; clear hSw; go_simp; (try with_reducible rfl)
            (try simp only [List.getElem_toArray, List.getElem_cons_succ, List.getElem_cons_zero])
            (try simp only [Act.put, List.setIfInBounds_toArray, List.set_cons_zero, List.set_cons_succ])
            refine wpHold_take (i := 6) (v := ?_) rfl (by kernel_rfl) (by kernel_rfl) (by kernel_rfl) (fun _ _ _ h => h) (Or.inl ⟨by rfl, ?_⟩) hC0 ?_
            rotate_left
            · intro w hSw; clear hSw; go_simp; (try with_reducible rfl)
            (try simp only [List.getElem_toArray, List.getElem_cons_succ, List.getElem_cons_zero])
            (try simp only [Act.put, List.setIfInBounds_toArray, List.set_cons_zero, List.set_cons_succ])
            refine wpHold_take (i := 7) (v := ?_) rfl (by kernel_rfl) (by kernel_rfl) (by kernel_rfl) (fun _ _ _ h => h) (Or.inl ⟨by rfl, ?_⟩) hC0 ?_
            rotate_left
            · intro w hSw; (try dsimp only at hSw); obtain ⟨⟨z0, z1, z2⟩, z3, z4, z5, z6⟩ := hSw; go_simp; (try with_reducible rfl)
            (try simp only [List.getElem_toArray, List.getElem_cons_succ, List.getElem_cons_zero])
            (try simp only [Act.put, List.setIfInBounds_toArray, List.set_cons_zero, List.set_cons_succ])
            refine wpHold_one (k := 8) (by kernel_rfl) rfl (fun K hK => ?_)
            (try simp only [List.getElem_toArray, List.getElem_cons_succ, List.getElem_cons_zero])
            go_simp
            refine (unhide HC3 _ bd0).mono ?_
            rintro e xw_1 ⟨rfl, hb_1⟩
            have cc_1 := below_step bd0 hb_1
            have hC_1 : (fun w' : World => (w'.cell? ⟨b14, 0, none⟩ = some (.bool tz.s) ∧ w'.cell? ⟨b14, 1, none⟩ = some (.slice tz.a1 tz.n1 tz.c1) ∧ w'.cell? ⟨b14, 2, none⟩ = some (.slice tz.a2 tz.n2 tz.c2)) ∧ w'.cell? ⟨bv, ov + tt, none⟩ = some (.slice (some ⟨b1, o1, none⟩) nt ld) ∧ w'.cell? ⟨b1, o1 + i * 3, none⟩ = some (.bool tv.s) ∧ w'.cell? ⟨b1, o1 + i * 3 + 1, none⟩ = some (.slice tv.a1 tv.n1 tv.c1) ∧ w'.cell? ⟨b1, o1 + i * 3 + 2, none⟩ = some (.slice tv.a2 tv.n2 tv.c2)) xw_1 := unhide HCC _ cc_1
            refine hK.out _ _ hC_1 ?_
            clear hK K
            (try simp only [Act.put, List.setIfInBounds_toArray, List.set_cons_zero, List.set_cons_succ])
            refine wpHold_take (i := 9) (v := ?_) rfl (by kernel_rfl) (by kernel_rfl) (by kernel_rfl) (fun _ _ _ h => h) (Or.inl ⟨by rfl, ?_⟩) hC_1 ?_
            rotate_left
            · intro w hSw; clear hSw; go_simp; (try with_reducible rfl)
            (try simp only [List.getElem_toArray, List.getElem_cons_succ, List.getElem_cons_zero])
            (try simp only [Act.put, List.setIfInBounds_toArray, List.set_cons_zero, List.set_cons_succ])
            refine wpHold_done (by kernel_rfl) ?_ _
            have HFK := hide ((unhide HFI).keep cc_1)
            clear hC0 hC_1 cc_1 bd0 hb_1 HCC HC3 HFI
            go_wp2_with fail
            exact ⟨⟨i + 1, ts ++ [tz], by go_num, hlt, by rw [List.length_append, unhide HTS]; rfl, unhide HFK⟩, by simp [intOf]; omega⟩
          · have hs0 := sign_np hs
            have HMO := hide (mor_not (qs := qs) (k := kk) (fun h => hs h.2))
            obtain ⟨sg, hsg⟩ : ∃ s, (pq qs[kk]!).num.sign = s := ⟨_, rfl⟩
            rw [hsg] at HSG hs0
            have hs1 : ¬ 0 < sg := by omega
            clear hs hsg hs0
            go_wp2_with fail
            refine (unhide HSG).mono ?_
            rintro e ws ⟨rfl, hbs⟩
            have HXB : Hid (BoxIs ws b14 ty (ovr M (mor qs) tt i)) := by
              show BoxIs _ _ _ _
              rw [← unhide HOV, unhide HMO, Rat.add_zero]
              exact (unhide HXf).keep hbs
            have HW := hide (below_step (unhide HWf) hbs)
            clear hbs HSG HXf HWf q0f q1f hqf
            have bL := alloc_below ws (.cells #[.bool ty.s, .slice ty.a1 ty.n1 ty.c1, .slice ty.a2 ty.n2 ty.c2] 35)
            have T2 := ((unhide HT).keep (unhide HW)).keep bL
            have hr3 := (unhide HXB).2.below bL
            have XB3 := (unhide HXB).keep bL
            have ⟨x0, x1, x2⟩ := (unhide HXB).cells _ (Below.refl _ _)
            have hlen56 : (ts.length + 1) * 56 ≤ 140737488355328 := by have := unhide HTS; omega
            have hlen63 : ts.length + 1 ≤ maxLen := by have := unhide HTS; unfold maxLen; omega
            have hsz2 : (ws.alloc (.cells #[.bool ty.s, .slice ty.a1 ty.n1 ty.c1, .slice ty.a2 ty.n2 ty.c2] 35)).heap.size = ws.heap.size + 1 := by rw [alloc_heap, Array.size_push]
            have HT2 := hide T2
            have HR3 := hide hr3
            have HXB3 := hide XB3
            have HSZ := hide hsz2
            have HL56 := hide hlen56
            have HL63 := hide hlen63
            have HBA := hide T2.bl.size
            clear T2 hr3 XB3 hsz2 hlen56 hlen63 bL
            go_wp2_with (at_builtin; go_loud (refine wpList_append_tri _ rfl _ _ _ rfl V.heap.size 35 ti 56 Tryd.underlying31 (unhide HI) (unhide HZ) hz1 hz2 _ ts.length (tcells ts) rfl (unhide HT2).own (unhide HT2).no ⟨ws.heap.size, 0, none⟩ 1 1 ty.cells rfl rfl (news_tri ws ty _) (tri_one ty) ty.notWord (by decide) (unhide HL63) (unhide HL56) (unhide HBA) (ws.heap.size + 1) (unhide HSZ) ?_; intro g cap w4 hown4 hgrow hat hlt4 hno4))
            have FIN := (unhide HT2).push (by rw [unhide HTS, row_get hlt]; exact unhide HR3) hown4 hgrow hno4 (unhide HBA)
            have hgx : b14 < (ws.alloc (.cells #[.bool ty.s, .slice ty.a1 ty.n1 ty.c1, .slice ty.a2 ty.n2 ty.c2] 35)).heap.size := (unhide HXB3).lt
            have hnex : ∀ k, u12.ownBlock = some k → k ≠ b14 := fun k hk e => by
              have h1 := (ownsR_block (unhide HT).own k hk).2
              have h2 := unhide HGX
              omega
            have cfar : ∀ o : Nat, w4.cell? ⟨b14, o, none⟩ = (ws.alloc (.cells #[.bool ty.s, .slice ty.a1 ty.n1 ty.c1, .slice ty.a2 ty.n2 ty.c2] 35)).cell? ⟨b14, o, none⟩ := fun o => hgrow.cell_far ⟨b14, o, none⟩ hgx (fun e => hnex b14 e.symm rfl)
            have rfar : RatIs w4 ty.val (ovr M (mor qs) tt i) := (unhide HXB3).2.far hgrow (unhide HT2).no
            have xc := (unhide HXB3).cells _ (Below.refl _ _)
            have hb14 : b14 < w4.heap.size := Nat.lt_of_lt_of_le hgx hgrow.size
            have vc := unhide HVC w4 FIN.bl
            have HCC : Hid (∀ W, Below w4.heap.size w4 W → (fun w' : World => (w'.cell? ⟨b14, 0, none⟩ = some (.bool ty.s) ∧ w'.cell? ⟨b14, 1, none⟩ = some (.slice ty.a1 ty.n1 ty.c1) ∧ w'.cell? ⟨b14, 2, none⟩ = some (.slice ty.a2 ty.n2 ty.c2)) ∧ w'.cell? ⟨bv, ov + tt, none⟩ = some (.slice (some ⟨b1, o1, none⟩) nt ld) ∧ w'.cell? ⟨b1, o1 + i * 3, none⟩ = some (.bool tv.s) ∧ w'.cell? ⟨b1, o1 + i * 3 + 1, none⟩ = some (.slice tv.a1 tv.n1 tv.c1) ∧ w'.cell? ⟨b1, o1 + i * 3 + 2, none⟩ = some (.slice tv.a2 tv.n2 tv.c2)) W) := fun W hW => by
              refine ⟨?_, unhide HVC W (below_step FIN.bl hW)⟩
              rw [hW.cell (p := ⟨b14, 0, none⟩) hb14, hW.cell (p := ⟨b14, 1, none⟩) hb14, hW.cell (p := ⟨b14, 2, none⟩) hb14, cfar, cfar, cfar]
              exact xc
            have hle := cmpv_ge (unhide HENV)
            obtain ⟨y3, hy3⟩ : ∃ y, cmpv (ovr M (mor qs) tt i) (Stp.env M tt i) = y := ⟨_, rfl⟩
            rw [hy3] at hle
            have hd3 : decide (y3 < 0) = false := decide_eq_false (by omega)
            have HC3 : Hid (∀ W, Below w4.heap.size w4 W → Calls Tryd.prog 12 #[.agg #[.bool ty.s, .slice ty.a1 ty.n1 ty.c1, .slice ty.a2 ty.n2 ty.c2], .agg #[.bool tv.s, .slice tv.a1 tv.n1 tv.c1, .slice tv.a2 tv.n2 tv.c2]] W fun e w' => e = .returned (.int .i64 y3) ∧ Below W.heap.size W w') := fun W hW => by
              have := cmpR_all ty.val tv.val _ _ W (rfar.below hW) ((unhide HVR _ (below_step FIN.bl hW))) 300000 (unhide HRO) (unhide HRE) (by rw [KKe]; omega)
              rw [hy3] at this
              exact this
            have HFI := hide FIN
            clear FIN hown4 hgrow hat hlt4 hno4 HT2 HR3 HXB3 hgx hnex cfar rfar xc hb14 vc hle hy3 x0 x1 x2
            go_wp2_with fail
            refine wp_region_hold (fun w' : World => (w'.cell? ⟨b14, 0, none⟩ = some (.bool ty.s) ∧ w'.cell? ⟨b14, 1, none⟩ = some (.slice ty.a1 ty.n1 ty.c1) ∧ w'.cell? ⟨b14, 2, none⟩ = some (.slice ty.a2 ty.n2 ty.c2)) ∧ w'.cell? ⟨bv, ov + tt, none⟩ = some (.slice (some ⟨b1, o1, none⟩) nt ld) ∧ w'.cell? ⟨b1, o1 + i * 3, none⟩ = some (.bool tv.s) ∧ w'.cell? ⟨b1, o1 + i * 3 + 1, none⟩ = some (.slice tv.a1 tv.n1 tv.c1) ∧ w'.cell? ⟨b1, o1 + i * 3 + 2, none⟩ = some (.slice tv.a2 tv.n2 tv.c2)) (by kernel_rfl) ?_
            have bd0 : Below w4.heap.size w4 w4.drew := (Below.refl _ _).drew
            have hC0 : (fun w' : World => (w'.cell? ⟨b14, 0, none⟩ = some (.bool ty.s) ∧ w'.cell? ⟨b14, 1, none⟩ = some (.slice ty.a1 ty.n1 ty.c1) ∧ w'.cell? ⟨b14, 2, none⟩ = some (.slice ty.a2 ty.n2 ty.c2)) ∧ w'.cell? ⟨bv, ov + tt, none⟩ = some (.slice (some ⟨b1, o1, none⟩) nt ld) ∧ w'.cell? ⟨b1, o1 + i * 3, none⟩ = some (.bool tv.s) ∧ w'.cell? ⟨b1, o1 + i * 3 + 1, none⟩ = some (.slice tv.a1 tv.n1 tv.c1) ∧ w'.cell? ⟨b1, o1 + i * 3 + 2, none⟩ = some (.slice tv.a2 tv.n2 tv.c2)) w4.drew := unhide HCC _ bd0
            refine wpHold_take (i := 0) (v := ?_) rfl (by kernel_rfl) (by kernel_rfl) (by kernel_rfl) (fun _ _ _ h => h) (Or.inl ⟨by rfl, ?_⟩) hC0 ?_
            rotate_left
            · intro w hSw; (try dsimp only at hSw); obtain ⟨⟨z0, z1, z2⟩, z3, z4, z5, z6⟩ := hSw; go_simp; (try with_reducible rfl)
            (try simp only [List.getElem_toArray, List.getElem_cons_succ, List.getElem_cons_zero])
            (try simp only [Act.put, List.setIfInBounds_toArray, List.set_cons_zero, List.set_cons_succ])
            refine wpHold_take (i := 1) (v := ?_) rfl (by kernel_rfl) (by kernel_rfl) (by kernel_rfl) (fun _ _ _ h => h) (Or.inl ⟨by rfl, ?_⟩) hC0 ?_
            rotate_left
            · intro w hSw; clear hSw; go_simp; (try with_reducible rfl)
            (try simp only [List.getElem_toArray, List.getElem_cons_succ, List.getElem_cons_zero])
            (try simp only [Act.put, List.setIfInBounds_toArray, List.set_cons_zero, List.set_cons_succ])
            refine wpHold_take (i := 2) (v := ?_) rfl (by kernel_rfl) (by kernel_rfl) (by kernel_rfl) (fun _ _ _ h => h) (Or.inl ⟨by rfl, ?_⟩) hC0 ?_
            rotate_left
            · intro w hSw; clear hSw; go_simp; (try with_reducible rfl)
            (try simp only [List.getElem_toArray, List.getElem_cons_succ, List.getElem_cons_zero])
            (try simp only [Act.put, List.setIfInBounds_toArray, List.set_cons_zero, List.set_cons_succ])
            refine wpHold_take (i := 3) (v := ?_) rfl (by kernel_rfl) (by kernel_rfl) (by kernel_rfl) (fun _ _ _ h => h) (Or.inl ⟨by rfl, ?_⟩) hC0 ?_
            rotate_left
            · intro w hSw; clear hSw; go_simp; (try with_reducible rfl)
            (try simp only [List.getElem_toArray, List.getElem_cons_succ, List.getElem_cons_zero])
            (try simp only [Act.put, List.setIfInBounds_toArray, List.set_cons_zero, List.set_cons_succ])
            refine wpHold_take (i := 4) (v := ?_) rfl (by kernel_rfl) (by kernel_rfl) (by kernel_rfl) (fun _ _ _ h => h) (Or.inl ⟨by rfl, ?_⟩) hC0 ?_
            rotate_left
            · intro w hSw; (try dsimp only at hSw); obtain ⟨⟨z0, z1, z2⟩, z3, z4, z5, z6⟩ := hSw; go_simp; (try with_reducible rfl)
            (try simp only [List.getElem_toArray, List.getElem_cons_succ, List.getElem_cons_zero])
            (try simp only [Act.put, List.setIfInBounds_toArray, List.set_cons_zero, List.set_cons_succ])
            refine wpHold_take (i := 5) (v := ?_) rfl (by kernel_rfl) (by kernel_rfl) (by kernel_rfl) (fun _ _ _ h => h) (Or.inl ⟨by rfl, ?_⟩) hC0 ?_
            rotate_left
            · intro w hSw; clear hSw; go_simp; (try with_reducible rfl)
            (try simp only [List.getElem_toArray, List.getElem_cons_succ, List.getElem_cons_zero])
            (try simp only [Act.put, List.setIfInBounds_toArray, List.set_cons_zero, List.set_cons_succ])
            refine wpHold_take (i := 6) (v := ?_) rfl (by kernel_rfl) (by kernel_rfl) (by kernel_rfl) (fun _ _ _ h => h) (Or.inl ⟨by rfl, ?_⟩) hC0 ?_
            rotate_left
            · intro w hSw; clear hSw; go_simp; (try with_reducible rfl)
            (try simp only [List.getElem_toArray, List.getElem_cons_succ, List.getElem_cons_zero])
            (try simp only [Act.put, List.setIfInBounds_toArray, List.set_cons_zero, List.set_cons_succ])
            refine wpHold_take (i := 7) (v := ?_) rfl (by kernel_rfl) (by kernel_rfl) (by kernel_rfl) (fun _ _ _ h => h) (Or.inl ⟨by rfl, ?_⟩) hC0 ?_
            rotate_left
            · intro w hSw; (try dsimp only at hSw); obtain ⟨⟨z0, z1, z2⟩, z3, z4, z5, z6⟩ := hSw; go_simp; (try with_reducible rfl)
            (try simp only [List.getElem_toArray, List.getElem_cons_succ, List.getElem_cons_zero])
            (try simp only [Act.put, List.setIfInBounds_toArray, List.set_cons_zero, List.set_cons_succ])
            refine wpHold_one (k := 8) (by kernel_rfl) rfl (fun K hK => ?_)
            (try simp only [List.getElem_toArray, List.getElem_cons_succ, List.getElem_cons_zero])
            go_simp
            refine (unhide HC3 _ bd0).mono ?_
            rintro e xw_1 ⟨rfl, hb_1⟩
            have cc_1 := below_step bd0 hb_1
            have hC_1 : (fun w' : World => (w'.cell? ⟨b14, 0, none⟩ = some (.bool ty.s) ∧ w'.cell? ⟨b14, 1, none⟩ = some (.slice ty.a1 ty.n1 ty.c1) ∧ w'.cell? ⟨b14, 2, none⟩ = some (.slice ty.a2 ty.n2 ty.c2)) ∧ w'.cell? ⟨bv, ov + tt, none⟩ = some (.slice (some ⟨b1, o1, none⟩) nt ld) ∧ w'.cell? ⟨b1, o1 + i * 3, none⟩ = some (.bool tv.s) ∧ w'.cell? ⟨b1, o1 + i * 3 + 1, none⟩ = some (.slice tv.a1 tv.n1 tv.c1) ∧ w'.cell? ⟨b1, o1 + i * 3 + 2, none⟩ = some (.slice tv.a2 tv.n2 tv.c2)) xw_1 := unhide HCC _ cc_1
            refine hK.out _ _ hC_1 ?_
            clear hK K
            (try simp only [Act.put, List.setIfInBounds_toArray, List.set_cons_zero, List.set_cons_succ])
            refine wpHold_take (i := 9) (v := ?_) rfl (by kernel_rfl) (by kernel_rfl) (by kernel_rfl) (fun _ _ _ h => h) (Or.inl ⟨by rfl, ?_⟩) hC_1 ?_
            rotate_left
            · intro w hSw; clear hSw; go_simp; (try with_reducible rfl)
            (try simp only [List.getElem_toArray, List.getElem_cons_succ, List.getElem_cons_zero])
            (try simp only [Act.put, List.setIfInBounds_toArray, List.set_cons_zero, List.set_cons_succ])
            refine wpHold_done (by kernel_rfl) ?_ _
            have HFK := hide ((unhide HFI).keep cc_1)
            clear hC0 hC_1 cc_1 bd0 hb_1 HCC HC3 HFI
            go_wp2_with fail
            exact ⟨⟨i + 1, ts ++ [ty], by go_num, hlt, by rw [List.length_append, unhide HTS]; rfl, unhide HFK⟩, by simp [intOf]; omega⟩
        · have hy4 := cmpv_le (Rat.not_lt.1 hgt)
          obtain ⟨y4, hy4'⟩ : ∃ y, cmpv (Stp.on M (ovr M (mor qs) u) i) gs[i]! = y := ⟨_, rfl⟩
          rw [hy4'] at HC4 hy4
          have hy5 : ¬ 0 < y4 := by omega
          have HBSR : Hid (gs[i]! = bsr M (mor qs) tt i) := by
            show _ = _
            rw [← unhide HU, bsr_succ, ← unhide HM]
            unfold Stp.mx
            rw [← unhide HM] at hgt
            exact (if_neg hgt).symm
          clear hgt hy4 hy4'
          go_wp2_with fail
          refine (unhide HC4).mono ?_
          rintro e w16 ⟨rfl, hb16⟩
          have X14 := (unhide HX14').keep hb16
          rw [unhide HBSR] at X14
          have HXB0 := hide X14
          have B17 := below_step (unhide HW15) hb16
          have HW := hide B17
          have ⟨k0, k1, k2, k3, k4⟩ := unhide HCA w16 B17
          clear X14 B17 hb16 HC4 HX15 HX14' HW15 m0 m1 m2 m3 m4 m5 hW15 hb15'
          have bwW := below_step (unhide HBV) (below_step (unhide HT).bl (unhide HW))
          have ⟨q0, q1⟩ := unhide HQC w16 bwW
          have hql : bq < w16.heap.size := Nat.lt_of_lt_of_le (unhide HQLT) bwW.size
          clear bwW
          go_wp2_with fail
          refine (f_any qx qy (unhide HI1).1 (unhide HI1).2 (unhide HI2).1 (unhide HI2).2 w16).mono ?_
          rintro e wf ⟨vf, rfl, hvf, hbf⟩
          obtain ⟨tf, rfl, rf⟩ := tri_of hvf
          rw [← unhide HEQ] at rf
          simp only [Tri.val]
          have HSG := hide (sign_any tf.val _ wf rf)
          have q0f : wf.cell? ⟨bq, oq + kk * 2, none⟩ = some (.int .i64 qx) := by rw [hbf.cell (p := ⟨bq, oq + kk * 2, none⟩) hql]; exact q0
          have q1f : wf.cell? ⟨bq, oq + kk * 2 + 1, none⟩ = some (.int .i64 qy) := by rw [hbf.cell (p := ⟨bq, oq + kk * 2 + 1, none⟩) hql]; exact q1
          have hqf : bq < wf.heap.size := Nat.lt_of_lt_of_le hql hbf.size
          have HXf := hide ((unhide HXB0).keep hbf)
          have HWf := hide (below_step (unhide HW) hbf)
          clear HXB0 HW q0 q1 hql hvf rf hbf
          by_cases hs : 0 < pq qs[kk]!
          · rw [sign_ps hs] at HSG
            have HMO := hide (mor_pos (by have := unhide HNQ; omega) hs)
            clear hs
            go_wp2_with fail
            refine (unhide HSG).mono ?_
            rintro e ws ⟨rfl, hbs⟩
            have q0s : ws.cell? ⟨bq, oq + kk * 2, none⟩ = some (.int .i64 qx) := by rw [hbs.cell (p := ⟨bq, oq + kk * 2, none⟩) hqf]; exact q0f
            have q1s : ws.cell? ⟨bq, oq + kk * 2 + 1, none⟩ = some (.int .i64 qy) := by rw [hbs.cell (p := ⟨bq, oq + kk * 2 + 1, none⟩) hqf]; exact q1f
            have hqs : bq < ws.heap.size := Nat.lt_of_lt_of_le hqf hbs.size
            have Xs := (unhide HXf).keep hbs
            have HXs := hide Xs
            have HWs := hide (below_step (unhide HWf) hbs)
            have HCC : Hid (∀ W, Below ws.heap.size ws W → (fun w' : World => (w'.cell? ⟨b14, 0, none⟩ = some (.bool tk.s) ∧ w'.cell? ⟨b14, 1, none⟩ = some (.slice tk.a1 tk.n1 tk.c1) ∧ w'.cell? ⟨b14, 2, none⟩ = some (.slice tk.a2 tk.n2 tk.c2)) ∧ w'.cell? ⟨bq, oq + kk * 2, none⟩ = some (.int .i64 qx) ∧ w'.cell? ⟨bq, oq + kk * 2 + 1, none⟩ = some (.int .i64 qy)) W) := fun W hW => by
              refine ⟨Xs.cells W hW, ?_⟩
              rw [hW.cell (p := ⟨bq, oq + kk * 2, none⟩) hqs, hW.cell (p := ⟨bq, oq + kk * 2 + 1, none⟩) hqs]
              exact ⟨q0s, q1s⟩
            have HRM : Hid (RS (pq qs[kk]!) 300000) := by
              show RS _ _
              rw [← unhide HMO]
              exact (unhide HMR kk).mono (by omega)
            rw [unhide HEQ] at HRM
            clear Xs hbs HSG HXf HWf q0f q1f hqf
            go_wp2_with fail
            refine wp_region_till (fun w' : World => (w'.cell? ⟨b14, 0, none⟩ = some (.bool tk.s) ∧ w'.cell? ⟨b14, 1, none⟩ = some (.slice tk.a1 tk.n1 tk.c1) ∧ w'.cell? ⟨b14, 2, none⟩ = some (.slice tk.a2 tk.n2 tk.c2)) ∧ w'.cell? ⟨bq, oq + kk * 2, none⟩ = some (.int .i64 qx) ∧ w'.cell? ⟨bq, oq + kk * 2 + 1, none⟩ = some (.int .i64 qy)) 7 (by kernel_rfl) ?_
            have bd0 : Below ws.heap.size ws ws.drew := (Below.refl _ _).drew
            have hC0 : (fun w' : World => (w'.cell? ⟨b14, 0, none⟩ = some (.bool tk.s) ∧ w'.cell? ⟨b14, 1, none⟩ = some (.slice tk.a1 tk.n1 tk.c1) ∧ w'.cell? ⟨b14, 2, none⟩ = some (.slice tk.a2 tk.n2 tk.c2)) ∧ w'.cell? ⟨bq, oq + kk * 2, none⟩ = some (.int .i64 qx) ∧ w'.cell? ⟨bq, oq + kk * 2 + 1, none⟩ = some (.int .i64 qy)) ws.drew := unhide HCC _ bd0
            refine wpTill_take (i := 0) (v := ?_) rfl (by kernel_rfl) (by kernel_rfl) (by kernel_rfl) (by kernel_rfl) (by kernel_rfl) (by kernel_rfl) (fun _ _ _ h => h) (Or.inl ⟨by rfl, ?_⟩) hC0 ?_
            rotate_left
            · intro w hSw; (try dsimp only at hSw); obtain ⟨⟨z0, z1, z2⟩, z3, z4⟩ := hSw; go_simp; (try with_reducible rfl)
            (try simp only [List.getElem_toArray, List.getElem_cons_succ, List.getElem_cons_zero])
            (try simp only [Act.put, List.setIfInBounds_toArray, List.set_cons_zero, List.set_cons_succ])
            refine wpTill_pure (i := 1) (v := ?_) rfl (by kernel_rfl) (by kernel_rfl) (by kernel_rfl) (by kernel_rfl) (fun _ _ _ h => h) (Or.inl ⟨by rfl, ?_⟩) (fun _ => hC0) ?_
            rotate_left
            · intro w hSw; clear hSw; go_simp; (try with_reducible rfl)
            (try simp only [List.getElem_toArray, List.getElem_cons_succ, List.getElem_cons_zero])
            (try simp only [Act.put, List.setIfInBounds_toArray, List.set_cons_zero, List.set_cons_succ])
            refine wpTill_pure (i := 2) (v := ?_) rfl (by kernel_rfl) (by kernel_rfl) (by kernel_rfl) (by kernel_rfl) (fun _ _ _ h => h) (Or.inl ⟨by rfl, ?_⟩) (fun _ => hC0) ?_
            rotate_left
            · intro w hSw; clear hSw; go_simp; (try with_reducible rfl)
            (try simp only [List.getElem_toArray, List.getElem_cons_succ, List.getElem_cons_zero])
            (try simp only [Act.put, List.setIfInBounds_toArray, List.set_cons_zero, List.set_cons_succ])
            refine wpTill_pure (i := 3) (v := ?_) rfl (by kernel_rfl) (by kernel_rfl) (by kernel_rfl) (by kernel_rfl) (fun _ _ _ h => h) (Or.inl ⟨by rfl, ?_⟩) (fun _ => hC0) ?_
            rotate_left
            · intro w hSw; clear hSw; go_simp; (try with_reducible rfl)
            (try simp only [List.getElem_toArray, List.getElem_cons_succ, List.getElem_cons_zero])
            (try simp only [Act.put, List.setIfInBounds_toArray, List.set_cons_zero, List.set_cons_succ])
            refine wpTill_take (i := 4) (v := ?_) rfl (by kernel_rfl) (by kernel_rfl) (by kernel_rfl) (by kernel_rfl) (by kernel_rfl) (by kernel_rfl) (fun _ _ _ h => h) (Or.inl ⟨by rfl, ?_⟩) hC0 ?_
            rotate_left
            · intro w hSw; (try dsimp only at hSw); obtain ⟨⟨z0, z1, z2⟩, z3, z4⟩ := hSw; go_simp; (try with_reducible rfl)
            (try simp only [List.getElem_toArray, List.getElem_cons_succ, List.getElem_cons_zero])
            (try simp only [Act.put, List.setIfInBounds_toArray, List.set_cons_zero, List.set_cons_succ])
            refine wpTill_one (k := 5) (by kernel_rfl) rfl (fun K hK => ?_)
            (try simp only [List.getElem_toArray, List.getElem_cons_succ, List.getElem_cons_zero])
            go_simp
            refine (f_any qx qy (unhide HI1).1 (unhide HI1).2 (unhide HI2).1 (unhide HI2).2 _).mono ?_
            rintro e xw_1 ⟨xv_1, rfl, hv_1, hb_1⟩
            have cc_1 := below_step bd0 hb_1
            have hC_1 : (fun w' : World => (w'.cell? ⟨b14, 0, none⟩ = some (.bool tk.s) ∧ w'.cell? ⟨b14, 1, none⟩ = some (.slice tk.a1 tk.n1 tk.c1) ∧ w'.cell? ⟨b14, 2, none⟩ = some (.slice tk.a2 tk.n2 tk.c2)) ∧ w'.cell? ⟨bq, oq + kk * 2, none⟩ = some (.int .i64 qx) ∧ w'.cell? ⟨bq, oq + kk * 2 + 1, none⟩ = some (.int .i64 qy)) xw_1 := unhide HCC _ cc_1
            refine hK.out _ _ (fun _ => hC_1) ?_
            clear hK K
            (try simp only [Act.put, List.setIfInBounds_toArray, List.set_cons_zero, List.set_cons_succ])
            refine wpTill_one (k := 6) (by kernel_rfl) rfl (fun K hK => ?_)
            (try simp only [List.getElem_toArray, List.getElem_cons_succ, List.getElem_cons_zero])
            go_simp
            refine (addR_any tk.val _ _ _ _ ((unhide HXs).2.below cc_1) hv_1 _ (unhide HRB) (unhide HRM) (unhide HJ3)).mono ?_
            rintro e xw_2 ⟨xv_2, rfl, hv_2, hb_2⟩
            have cc_2 := below_step cc_1 hb_2
            have hC_2 : (fun w' : World => (w'.cell? ⟨b14, 0, none⟩ = some (.bool tk.s) ∧ w'.cell? ⟨b14, 1, none⟩ = some (.slice tk.a1 tk.n1 tk.c1) ∧ w'.cell? ⟨b14, 2, none⟩ = some (.slice tk.a2 tk.n2 tk.c2)) ∧ w'.cell? ⟨bq, oq + kk * 2, none⟩ = some (.int .i64 qx) ∧ w'.cell? ⟨bq, oq + kk * 2 + 1, none⟩ = some (.int .i64 qy)) xw_2 := unhide HCC _ cc_2
            refine hK.out _ _ (fun _ => hC_2) ?_
            clear hK K
            (try simp only [Act.put, List.setIfInBounds_toArray, List.set_cons_zero, List.set_cons_succ])
            obtain ⟨tz, rfl, rz⟩ := tri_of hv_2
            rw [← unhide HEQ, ← unhide HMO, unhide HOV] at rz
            simp only [Tri.val]
            have X9 := (unhide HXs).keep cc_2
            have ⟨l0, l1, l2⟩ := X9.free
            have ⟨y0, y1, y2⟩ := X9.cells _ (Below.refl _ _)
            have X10 := X9.set rz
            have B10 := (((below_step (unhide HWs) cc_2).setCell (p := ⟨b14, 0, none⟩) (unhide HGX) (.bool tz.s)).setCell (p := ⟨b14, 1, none⟩) (unhide HGX) (.slice tz.a1 tz.n1 tz.c1)).setCell (p := ⟨b14, 2, none⟩) (unhide HGX) (.slice tz.a2 tz.n2 tz.c2)
            obtain ⟨W9, hW9⟩ : ∃ W, ((xw_2.setCell ⟨b14, 0, none⟩ (.bool tz.s)).setCell ⟨b14, 1, none⟩ (.slice tz.a1 tz.n1 tz.c1)).setCell ⟨b14, 2, none⟩ (.slice tz.a2 tz.n2 tz.c2) = W := ⟨_, rfl⟩
            rw [hW9] at X10 B10
            have HXB := hide X10
            have HW := hide B10
            clear X9 X10 B10 rz hv_1 hv_2
            refine wpTill_one (k := 7) (by kernel_rfl) rfl (fun K hK => ?_)
            (try simp only [List.getElem_toArray, List.getElem_cons_succ, List.getElem_cons_zero])
            go_simp
            refine hK.out _ _ (fun h => absurd (h.symm.trans (by kernel_rfl)) Bool.false_ne_true) ?_
            clear hK K
            (try simp only [Act.put, List.setIfInBounds_toArray, List.set_cons_zero, List.set_cons_succ])
            refine wpTill_done (by kernel_rfl) ?_ _
            clear hC0 hC_1 hC_2 cc_1 cc_2 bd0 hb_1 hb_2 y0 y1 y2 l0 l1 l2 hW9 HCC HXs HWs
            have bL := alloc_below W9 (.cells #[.bool tz.s, .slice tz.a1 tz.n1 tz.c1, .slice tz.a2 tz.n2 tz.c2] 35)
            have T2 := ((unhide HT).keep (unhide HW)).keep bL
            have hr3 := (unhide HXB).2.below bL
            have XB3 := (unhide HXB).keep bL
            have ⟨x0, x1, x2⟩ := (unhide HXB).cells _ (Below.refl _ _)
            have hlen56 : (ts.length + 1) * 56 ≤ 140737488355328 := by have := unhide HTS; omega
            have hlen63 : ts.length + 1 ≤ maxLen := by have := unhide HTS; unfold maxLen; omega
            have hsz2 : (W9.alloc (.cells #[.bool tz.s, .slice tz.a1 tz.n1 tz.c1, .slice tz.a2 tz.n2 tz.c2] 35)).heap.size = W9.heap.size + 1 := by rw [alloc_heap, Array.size_push]
            have HT2 := hide T2
            have HR3 := hide hr3
            have HXB3 := hide XB3
            have HSZ := hide hsz2
            have HL56 := hide hlen56
            have HL63 := hide hlen63
            have HBA := hide T2.bl.size
            clear T2 hr3 XB3 hsz2 hlen56 hlen63 bL
            go_wp2_with (at_builtin; go_loud (refine wpList_append_tri _ rfl _ _ _ rfl V.heap.size 35 ti 56 Tryd.underlying31 (unhide HI) (unhide HZ) hz1 hz2 _ ts.length (tcells ts) rfl (unhide HT2).own (unhide HT2).no ⟨W9.heap.size, 0, none⟩ 1 1 tz.cells rfl rfl (news_tri W9 tz _) (tri_one tz) tz.notWord (by decide) (unhide HL63) (unhide HL56) (unhide HBA) (W9.heap.size + 1) (unhide HSZ) ?_; intro g cap w4 hown4 hgrow hat hlt4 hno4))
            have FIN := (unhide HT2).push (by rw [unhide HTS, row_get hlt]; exact unhide HR3) hown4 hgrow hno4 (unhide HBA)
            have hgx : b14 < (W9.alloc (.cells #[.bool tz.s, .slice tz.a1 tz.n1 tz.c1, .slice tz.a2 tz.n2 tz.c2] 35)).heap.size := (unhide HXB3).lt
            have hnex : ∀ k, u12.ownBlock = some k → k ≠ b14 := fun k hk e => by
              have h1 := (ownsR_block (unhide HT).own k hk).2
              have h2 := unhide HGX
              omega
            have cfar : ∀ o : Nat, w4.cell? ⟨b14, o, none⟩ = (W9.alloc (.cells #[.bool tz.s, .slice tz.a1 tz.n1 tz.c1, .slice tz.a2 tz.n2 tz.c2] 35)).cell? ⟨b14, o, none⟩ := fun o => hgrow.cell_far ⟨b14, o, none⟩ hgx (fun e => hnex b14 e.symm rfl)
            have rfar : RatIs w4 tz.val (ovr M (mor qs) tt i) := (unhide HXB3).2.far hgrow (unhide HT2).no
            have xc := (unhide HXB3).cells _ (Below.refl _ _)
            have hb14 : b14 < w4.heap.size := Nat.lt_of_lt_of_le hgx hgrow.size
            have vc := unhide HVC w4 FIN.bl
            have HCC : Hid (∀ W, Below w4.heap.size w4 W → (fun w' : World => (w'.cell? ⟨b14, 0, none⟩ = some (.bool tz.s) ∧ w'.cell? ⟨b14, 1, none⟩ = some (.slice tz.a1 tz.n1 tz.c1) ∧ w'.cell? ⟨b14, 2, none⟩ = some (.slice tz.a2 tz.n2 tz.c2)) ∧ w'.cell? ⟨bv, ov + tt, none⟩ = some (.slice (some ⟨b1, o1, none⟩) nt ld) ∧ w'.cell? ⟨b1, o1 + i * 3, none⟩ = some (.bool tv.s) ∧ w'.cell? ⟨b1, o1 + i * 3 + 1, none⟩ = some (.slice tv.a1 tv.n1 tv.c1) ∧ w'.cell? ⟨b1, o1 + i * 3 + 2, none⟩ = some (.slice tv.a2 tv.n2 tv.c2)) W) := fun W hW => by
              refine ⟨?_, unhide HVC W (below_step FIN.bl hW)⟩
              rw [hW.cell (p := ⟨b14, 0, none⟩) hb14, hW.cell (p := ⟨b14, 1, none⟩) hb14, hW.cell (p := ⟨b14, 2, none⟩) hb14, cfar, cfar, cfar]
              exact xc
            have hle := cmpv_ge (unhide HENV)
            obtain ⟨y3, hy3⟩ : ∃ y, cmpv (ovr M (mor qs) tt i) (Stp.env M tt i) = y := ⟨_, rfl⟩
            rw [hy3] at hle
            have hd3 : decide (y3 < 0) = false := decide_eq_false (by omega)
            have HC3 : Hid (∀ W, Below w4.heap.size w4 W → Calls Tryd.prog 12 #[.agg #[.bool tz.s, .slice tz.a1 tz.n1 tz.c1, .slice tz.a2 tz.n2 tz.c2], .agg #[.bool tv.s, .slice tv.a1 tv.n1 tv.c1, .slice tv.a2 tv.n2 tv.c2]] W fun e w' => e = .returned (.int .i64 y3) ∧ Below W.heap.size W w') := fun W hW => by
              have := cmpR_all tz.val tv.val _ _ W (rfar.below hW) ((unhide HVR _ (below_step FIN.bl hW))) 300000 (unhide HRO) (unhide HRE) (by rw [KKe]; omega)
              rw [hy3] at this
              exact this
            have HFI := hide FIN
            clear FIN hown4 hgrow hat hlt4 hno4 HT2 HR3 HXB3 hgx hnex cfar rfar xc hb14 vc hle hy3 x0 x1 x2
            go_wp2_with fail
            refine wp_region_hold (fun w' : World => (w'.cell? ⟨b14, 0, none⟩ = some (.bool tz.s) ∧ w'.cell? ⟨b14, 1, none⟩ = some (.slice tz.a1 tz.n1 tz.c1) ∧ w'.cell? ⟨b14, 2, none⟩ = some (.slice tz.a2 tz.n2 tz.c2)) ∧ w'.cell? ⟨bv, ov + tt, none⟩ = some (.slice (some ⟨b1, o1, none⟩) nt ld) ∧ w'.cell? ⟨b1, o1 + i * 3, none⟩ = some (.bool tv.s) ∧ w'.cell? ⟨b1, o1 + i * 3 + 1, none⟩ = some (.slice tv.a1 tv.n1 tv.c1) ∧ w'.cell? ⟨b1, o1 + i * 3 + 2, none⟩ = some (.slice tv.a2 tv.n2 tv.c2)) (by kernel_rfl) ?_
            have bd0 : Below w4.heap.size w4 w4.drew := (Below.refl _ _).drew
            have hC0 : (fun w' : World => (w'.cell? ⟨b14, 0, none⟩ = some (.bool tz.s) ∧ w'.cell? ⟨b14, 1, none⟩ = some (.slice tz.a1 tz.n1 tz.c1) ∧ w'.cell? ⟨b14, 2, none⟩ = some (.slice tz.a2 tz.n2 tz.c2)) ∧ w'.cell? ⟨bv, ov + tt, none⟩ = some (.slice (some ⟨b1, o1, none⟩) nt ld) ∧ w'.cell? ⟨b1, o1 + i * 3, none⟩ = some (.bool tv.s) ∧ w'.cell? ⟨b1, o1 + i * 3 + 1, none⟩ = some (.slice tv.a1 tv.n1 tv.c1) ∧ w'.cell? ⟨b1, o1 + i * 3 + 2, none⟩ = some (.slice tv.a2 tv.n2 tv.c2)) w4.drew := unhide HCC _ bd0
            refine wpHold_take (i := 0) (v := ?_) rfl (by kernel_rfl) (by kernel_rfl) (by kernel_rfl) (fun _ _ _ h => h) (Or.inl ⟨by rfl, ?_⟩) hC0 ?_
            rotate_left
            · intro w hSw; (try dsimp only at hSw); obtain ⟨⟨z0, z1, z2⟩, z3, z4, z5, z6⟩ := hSw; go_simp; (try with_reducible rfl)
            (try simp only [List.getElem_toArray, List.getElem_cons_succ, List.getElem_cons_zero])
            (try simp only [Act.put, List.setIfInBounds_toArray, List.set_cons_zero, List.set_cons_succ])
            refine wpHold_take (i := 1) (v := ?_) rfl (by kernel_rfl) (by kernel_rfl) (by kernel_rfl) (fun _ _ _ h => h) (Or.inl ⟨by rfl, ?_⟩) hC0 ?_
            rotate_left
            · intro w hSw; clear hSw; go_simp; (try with_reducible rfl)
            (try simp only [List.getElem_toArray, List.getElem_cons_succ, List.getElem_cons_zero])
            (try simp only [Act.put, List.setIfInBounds_toArray, List.set_cons_zero, List.set_cons_succ])
            refine wpHold_take (i := 2) (v := ?_) rfl (by kernel_rfl) (by kernel_rfl) (by kernel_rfl) (fun _ _ _ h => h) (Or.inl ⟨by rfl, ?_⟩) hC0 ?_
            rotate_left
            · intro w hSw; clear hSw; go_simp; (try with_reducible rfl)
            (try simp only [List.getElem_toArray, List.getElem_cons_succ, List.getElem_cons_zero])
            (try simp only [Act.put, List.setIfInBounds_toArray, List.set_cons_zero, List.set_cons_succ])
            refine wpHold_take (i := 3) (v := ?_) rfl (by kernel_rfl) (by kernel_rfl) (by kernel_rfl) (fun _ _ _ h => h) (Or.inl ⟨by rfl, ?_⟩) hC0 ?_
            rotate_left
            · intro w hSw; clear hSw; go_simp; (try with_reducible rfl)
            (try simp only [List.getElem_toArray, List.getElem_cons_succ, List.getElem_cons_zero])
            (try simp only [Act.put, List.setIfInBounds_toArray, List.set_cons_zero, List.set_cons_succ])
            refine wpHold_take (i := 4) (v := ?_) rfl (by kernel_rfl) (by kernel_rfl) (by kernel_rfl) (fun _ _ _ h => h) (Or.inl ⟨by rfl, ?_⟩) hC0 ?_
            rotate_left
            · intro w hSw; (try dsimp only at hSw); obtain ⟨⟨z0, z1, z2⟩, z3, z4, z5, z6⟩ := hSw; go_simp; (try with_reducible rfl)
            (try simp only [List.getElem_toArray, List.getElem_cons_succ, List.getElem_cons_zero])
            (try simp only [Act.put, List.setIfInBounds_toArray, List.set_cons_zero, List.set_cons_succ])
            refine wpHold_take (i := 5) (v := ?_) rfl (by kernel_rfl) (by kernel_rfl) (by kernel_rfl) (fun _ _ _ h => h) (Or.inl ⟨by rfl, ?_⟩) hC0 ?_
            rotate_left
            · intro w hSw; clear hSw; go_simp; (try with_reducible rfl)
            (try simp only [List.getElem_toArray, List.getElem_cons_succ, List.getElem_cons_zero])
            (try simp only [Act.put, List.setIfInBounds_toArray, List.set_cons_zero, List.set_cons_succ])
            refine wpHold_take (i := 6) (v := ?_) rfl (by kernel_rfl) (by kernel_rfl) (by kernel_rfl) (fun _ _ _ h => h) (Or.inl ⟨by rfl, ?_⟩) hC0 ?_
            rotate_left
            · intro w hSw; clear hSw; go_simp; (try with_reducible rfl)
            (try simp only [List.getElem_toArray, List.getElem_cons_succ, List.getElem_cons_zero])
            (try simp only [Act.put, List.setIfInBounds_toArray, List.set_cons_zero, List.set_cons_succ])
            refine wpHold_take (i := 7) (v := ?_) rfl (by kernel_rfl) (by kernel_rfl) (by kernel_rfl) (fun _ _ _ h => h) (Or.inl ⟨by rfl, ?_⟩) hC0 ?_
            rotate_left
            · intro w hSw; (try dsimp only at hSw); obtain ⟨⟨z0, z1, z2⟩, z3, z4, z5, z6⟩ := hSw; go_simp; (try with_reducible rfl)
            (try simp only [List.getElem_toArray, List.getElem_cons_succ, List.getElem_cons_zero])
            (try simp only [Act.put, List.setIfInBounds_toArray, List.set_cons_zero, List.set_cons_succ])
            refine wpHold_one (k := 8) (by kernel_rfl) rfl (fun K hK => ?_)
            (try simp only [List.getElem_toArray, List.getElem_cons_succ, List.getElem_cons_zero])
            go_simp
            refine (unhide HC3 _ bd0).mono ?_
            rintro e xw_1 ⟨rfl, hb_1⟩
            have cc_1 := below_step bd0 hb_1
            have hC_1 : (fun w' : World => (w'.cell? ⟨b14, 0, none⟩ = some (.bool tz.s) ∧ w'.cell? ⟨b14, 1, none⟩ = some (.slice tz.a1 tz.n1 tz.c1) ∧ w'.cell? ⟨b14, 2, none⟩ = some (.slice tz.a2 tz.n2 tz.c2)) ∧ w'.cell? ⟨bv, ov + tt, none⟩ = some (.slice (some ⟨b1, o1, none⟩) nt ld) ∧ w'.cell? ⟨b1, o1 + i * 3, none⟩ = some (.bool tv.s) ∧ w'.cell? ⟨b1, o1 + i * 3 + 1, none⟩ = some (.slice tv.a1 tv.n1 tv.c1) ∧ w'.cell? ⟨b1, o1 + i * 3 + 2, none⟩ = some (.slice tv.a2 tv.n2 tv.c2)) xw_1 := unhide HCC _ cc_1
            refine hK.out _ _ hC_1 ?_
            clear hK K
            (try simp only [Act.put, List.setIfInBounds_toArray, List.set_cons_zero, List.set_cons_succ])
            refine wpHold_take (i := 9) (v := ?_) rfl (by kernel_rfl) (by kernel_rfl) (by kernel_rfl) (fun _ _ _ h => h) (Or.inl ⟨by rfl, ?_⟩) hC_1 ?_
            rotate_left
            · intro w hSw; clear hSw; go_simp; (try with_reducible rfl)
            (try simp only [List.getElem_toArray, List.getElem_cons_succ, List.getElem_cons_zero])
            (try simp only [Act.put, List.setIfInBounds_toArray, List.set_cons_zero, List.set_cons_succ])
            refine wpHold_done (by kernel_rfl) ?_ _
            have HFK := hide ((unhide HFI).keep cc_1)
            clear hC0 hC_1 cc_1 bd0 hb_1 HCC HC3 HFI
            go_wp2_with fail
            exact ⟨⟨i + 1, ts ++ [tz], by go_num, hlt, by rw [List.length_append, unhide HTS]; rfl, unhide HFK⟩, by simp [intOf]; omega⟩
          · have hs0 := sign_np hs
            have HMO := hide (mor_not (qs := qs) (k := kk) (fun h => hs h.2))
            obtain ⟨sg, hsg⟩ : ∃ s, (pq qs[kk]!).num.sign = s := ⟨_, rfl⟩
            rw [hsg] at HSG hs0
            have hs1 : ¬ 0 < sg := by omega
            clear hs hsg hs0
            go_wp2_with fail
            refine (unhide HSG).mono ?_
            rintro e ws ⟨rfl, hbs⟩
            have HXB : Hid (BoxIs ws b14 tk (ovr M (mor qs) tt i)) := by
              show BoxIs _ _ _ _
              rw [← unhide HOV, unhide HMO, Rat.add_zero]
              exact (unhide HXf).keep hbs
            have HW := hide (below_step (unhide HWf) hbs)
            clear hbs HSG HXf HWf q0f q1f hqf
            have bL := alloc_below ws (.cells #[.bool tk.s, .slice tk.a1 tk.n1 tk.c1, .slice tk.a2 tk.n2 tk.c2] 35)
            have T2 := ((unhide HT).keep (unhide HW)).keep bL
            have hr3 := (unhide HXB).2.below bL
            have XB3 := (unhide HXB).keep bL
            have ⟨x0, x1, x2⟩ := (unhide HXB).cells _ (Below.refl _ _)
            have hlen56 : (ts.length + 1) * 56 ≤ 140737488355328 := by have := unhide HTS; omega
            have hlen63 : ts.length + 1 ≤ maxLen := by have := unhide HTS; unfold maxLen; omega
            have hsz2 : (ws.alloc (.cells #[.bool tk.s, .slice tk.a1 tk.n1 tk.c1, .slice tk.a2 tk.n2 tk.c2] 35)).heap.size = ws.heap.size + 1 := by rw [alloc_heap, Array.size_push]
            have HT2 := hide T2
            have HR3 := hide hr3
            have HXB3 := hide XB3
            have HSZ := hide hsz2
            have HL56 := hide hlen56
            have HL63 := hide hlen63
            have HBA := hide T2.bl.size
            clear T2 hr3 XB3 hsz2 hlen56 hlen63 bL
            go_wp2_with (at_builtin; go_loud (refine wpList_append_tri _ rfl _ _ _ rfl V.heap.size 35 ti 56 Tryd.underlying31 (unhide HI) (unhide HZ) hz1 hz2 _ ts.length (tcells ts) rfl (unhide HT2).own (unhide HT2).no ⟨ws.heap.size, 0, none⟩ 1 1 tk.cells rfl rfl (news_tri ws tk _) (tri_one tk) tk.notWord (by decide) (unhide HL63) (unhide HL56) (unhide HBA) (ws.heap.size + 1) (unhide HSZ) ?_; intro g cap w4 hown4 hgrow hat hlt4 hno4))
            have FIN := (unhide HT2).push (by rw [unhide HTS, row_get hlt]; exact unhide HR3) hown4 hgrow hno4 (unhide HBA)
            have hgx : b14 < (ws.alloc (.cells #[.bool tk.s, .slice tk.a1 tk.n1 tk.c1, .slice tk.a2 tk.n2 tk.c2] 35)).heap.size := (unhide HXB3).lt
            have hnex : ∀ k, u12.ownBlock = some k → k ≠ b14 := fun k hk e => by
              have h1 := (ownsR_block (unhide HT).own k hk).2
              have h2 := unhide HGX
              omega
            have cfar : ∀ o : Nat, w4.cell? ⟨b14, o, none⟩ = (ws.alloc (.cells #[.bool tk.s, .slice tk.a1 tk.n1 tk.c1, .slice tk.a2 tk.n2 tk.c2] 35)).cell? ⟨b14, o, none⟩ := fun o => hgrow.cell_far ⟨b14, o, none⟩ hgx (fun e => hnex b14 e.symm rfl)
            have rfar : RatIs w4 tk.val (ovr M (mor qs) tt i) := (unhide HXB3).2.far hgrow (unhide HT2).no
            have xc := (unhide HXB3).cells _ (Below.refl _ _)
            have hb14 : b14 < w4.heap.size := Nat.lt_of_lt_of_le hgx hgrow.size
            have vc := unhide HVC w4 FIN.bl
            have HCC : Hid (∀ W, Below w4.heap.size w4 W → (fun w' : World => (w'.cell? ⟨b14, 0, none⟩ = some (.bool tk.s) ∧ w'.cell? ⟨b14, 1, none⟩ = some (.slice tk.a1 tk.n1 tk.c1) ∧ w'.cell? ⟨b14, 2, none⟩ = some (.slice tk.a2 tk.n2 tk.c2)) ∧ w'.cell? ⟨bv, ov + tt, none⟩ = some (.slice (some ⟨b1, o1, none⟩) nt ld) ∧ w'.cell? ⟨b1, o1 + i * 3, none⟩ = some (.bool tv.s) ∧ w'.cell? ⟨b1, o1 + i * 3 + 1, none⟩ = some (.slice tv.a1 tv.n1 tv.c1) ∧ w'.cell? ⟨b1, o1 + i * 3 + 2, none⟩ = some (.slice tv.a2 tv.n2 tv.c2)) W) := fun W hW => by
              refine ⟨?_, unhide HVC W (below_step FIN.bl hW)⟩
              rw [hW.cell (p := ⟨b14, 0, none⟩) hb14, hW.cell (p := ⟨b14, 1, none⟩) hb14, hW.cell (p := ⟨b14, 2, none⟩) hb14, cfar, cfar, cfar]
              exact xc
            have hle := cmpv_ge (unhide HENV)
            obtain ⟨y3, hy3⟩ : ∃ y, cmpv (ovr M (mor qs) tt i) (Stp.env M tt i) = y := ⟨_, rfl⟩
            rw [hy3] at hle
            have hd3 : decide (y3 < 0) = false := decide_eq_false (by omega)
            have HC3 : Hid (∀ W, Below w4.heap.size w4 W → Calls Tryd.prog 12 #[.agg #[.bool tk.s, .slice tk.a1 tk.n1 tk.c1, .slice tk.a2 tk.n2 tk.c2], .agg #[.bool tv.s, .slice tv.a1 tv.n1 tv.c1, .slice tv.a2 tv.n2 tv.c2]] W fun e w' => e = .returned (.int .i64 y3) ∧ Below W.heap.size W w') := fun W hW => by
              have := cmpR_all tk.val tv.val _ _ W (rfar.below hW) ((unhide HVR _ (below_step FIN.bl hW))) 300000 (unhide HRO) (unhide HRE) (by rw [KKe]; omega)
              rw [hy3] at this
              exact this
            have HFI := hide FIN
            clear FIN hown4 hgrow hat hlt4 hno4 HT2 HR3 HXB3 hgx hnex cfar rfar xc hb14 vc hle hy3 x0 x1 x2
            go_wp2_with fail
            refine wp_region_hold (fun w' : World => (w'.cell? ⟨b14, 0, none⟩ = some (.bool tk.s) ∧ w'.cell? ⟨b14, 1, none⟩ = some (.slice tk.a1 tk.n1 tk.c1) ∧ w'.cell? ⟨b14, 2, none⟩ = some (.slice tk.a2 tk.n2 tk.c2)) ∧ w'.cell? ⟨bv, ov + tt, none⟩ = some (.slice (some ⟨b1, o1, none⟩) nt ld) ∧ w'.cell? ⟨b1, o1 + i * 3, none⟩ = some (.bool tv.s) ∧ w'.cell? ⟨b1, o1 + i * 3 + 1, none⟩ = some (.slice tv.a1 tv.n1 tv.c1) ∧ w'.cell? ⟨b1, o1 + i * 3 + 2, none⟩ = some (.slice tv.a2 tv.n2 tv.c2)) (by kernel_rfl) ?_
            have bd0 : Below w4.heap.size w4 w4.drew := (Below.refl _ _).drew
            have hC0 : (fun w' : World => (w'.cell? ⟨b14, 0, none⟩ = some (.bool tk.s) ∧ w'.cell? ⟨b14, 1, none⟩ = some (.slice tk.a1 tk.n1 tk.c1) ∧ w'.cell? ⟨b14, 2, none⟩ = some (.slice tk.a2 tk.n2 tk.c2)) ∧ w'.cell? ⟨bv, ov + tt, none⟩ = some (.slice (some ⟨b1, o1, none⟩) nt ld) ∧ w'.cell? ⟨b1, o1 + i * 3, none⟩ = some (.bool tv.s) ∧ w'.cell? ⟨b1, o1 + i * 3 + 1, none⟩ = some (.slice tv.a1 tv.n1 tv.c1) ∧ w'.cell? ⟨b1, o1 + i * 3 + 2, none⟩ = some (.slice tv.a2 tv.n2 tv.c2)) w4.drew := unhide HCC _ bd0
            refine wpHold_take (i := 0) (v := ?_) rfl (by kernel_rfl) (by kernel_rfl) (by kernel_rfl) (fun _ _ _ h => h) (Or.inl ⟨by rfl, ?_⟩) hC0 ?_
            rotate_left
            · intro w hSw; (try dsimp only at hSw); obtain ⟨⟨z0, z1, z2⟩, z3, z4, z5, z6⟩ := hSw; go_simp; (try with_reducible rfl)
            (try simp only [List.getElem_toArray, List.getElem_cons_succ, List.getElem_cons_zero])
            (try simp only [Act.put, List.setIfInBounds_toArray, List.set_cons_zero, List.set_cons_succ])
            refine wpHold_take (i := 1) (v := ?_) rfl (by kernel_rfl) (by kernel_rfl) (by kernel_rfl) (fun _ _ _ h => h) (Or.inl ⟨by rfl, ?_⟩) hC0 ?_
            rotate_left
            · intro w hSw; clear hSw; go_simp; (try with_reducible rfl)
            (try simp only [List.getElem_toArray, List.getElem_cons_succ, List.getElem_cons_zero])
            (try simp only [Act.put, List.setIfInBounds_toArray, List.set_cons_zero, List.set_cons_succ])
            refine wpHold_take (i := 2) (v := ?_) rfl (by kernel_rfl) (by kernel_rfl) (by kernel_rfl) (fun _ _ _ h => h) (Or.inl ⟨by rfl, ?_⟩) hC0 ?_
            rotate_left
            · intro w hSw; clear hSw; go_simp; (try with_reducible rfl)
            (try simp only [List.getElem_toArray, List.getElem_cons_succ, List.getElem_cons_zero])
            (try simp only [Act.put, List.setIfInBounds_toArray, List.set_cons_zero, List.set_cons_succ])
            refine wpHold_take (i := 3) (v := ?_) rfl (by kernel_rfl) (by kernel_rfl) (by kernel_rfl) (fun _ _ _ h => h) (Or.inl ⟨by rfl, ?_⟩) hC0 ?_
            rotate_left
            · intro w hSw; clear hSw; go_simp; (try with_reducible rfl)
            (try simp only [List.getElem_toArray, List.getElem_cons_succ, List.getElem_cons_zero])
            (try simp only [Act.put, List.setIfInBounds_toArray, List.set_cons_zero, List.set_cons_succ])
            refine wpHold_take (i := 4) (v := ?_) rfl (by kernel_rfl) (by kernel_rfl) (by kernel_rfl) (fun _ _ _ h => h) (Or.inl ⟨by rfl, ?_⟩) hC0 ?_
            rotate_left
            · intro w hSw; (try dsimp only at hSw); obtain ⟨⟨z0, z1, z2⟩, z3, z4, z5, z6⟩ := hSw; go_simp; (try with_reducible rfl)
            (try simp only [List.getElem_toArray, List.getElem_cons_succ, List.getElem_cons_zero])
            (try simp only [Act.put, List.setIfInBounds_toArray, List.set_cons_zero, List.set_cons_succ])
            refine wpHold_take (i := 5) (v := ?_) rfl (by kernel_rfl) (by kernel_rfl) (by kernel_rfl) (fun _ _ _ h => h) (Or.inl ⟨by rfl, ?_⟩) hC0 ?_
            rotate_left
            · intro w hSw; clear hSw; go_simp; (try with_reducible rfl)
            (try simp only [List.getElem_toArray, List.getElem_cons_succ, List.getElem_cons_zero])
            (try simp only [Act.put, List.setIfInBounds_toArray, List.set_cons_zero, List.set_cons_succ])
            refine wpHold_take (i := 6) (v := ?_) rfl (by kernel_rfl) (by kernel_rfl) (by kernel_rfl) (fun _ _ _ h => h) (Or.inl ⟨by rfl, ?_⟩) hC0 ?_
            rotate_left
            · intro w hSw; clear hSw; go_simp; (try with_reducible rfl)
            (try simp only [List.getElem_toArray, List.getElem_cons_succ, List.getElem_cons_zero])
            (try simp only [Act.put, List.setIfInBounds_toArray, List.set_cons_zero, List.set_cons_succ])
            refine wpHold_take (i := 7) (v := ?_) rfl (by kernel_rfl) (by kernel_rfl) (by kernel_rfl) (fun _ _ _ h => h) (Or.inl ⟨by rfl, ?_⟩) hC0 ?_
            rotate_left
            · intro w hSw; (try dsimp only at hSw); obtain ⟨⟨z0, z1, z2⟩, z3, z4, z5, z6⟩ := hSw; go_simp; (try with_reducible rfl)
            (try simp only [List.getElem_toArray, List.getElem_cons_succ, List.getElem_cons_zero])
            (try simp only [Act.put, List.setIfInBounds_toArray, List.set_cons_zero, List.set_cons_succ])
            refine wpHold_one (k := 8) (by kernel_rfl) rfl (fun K hK => ?_)
            (try simp only [List.getElem_toArray, List.getElem_cons_succ, List.getElem_cons_zero])
            go_simp
            refine (unhide HC3 _ bd0).mono ?_
            rintro e xw_1 ⟨rfl, hb_1⟩
            have cc_1 := below_step bd0 hb_1
            have hC_1 : (fun w' : World => (w'.cell? ⟨b14, 0, none⟩ = some (.bool tk.s) ∧ w'.cell? ⟨b14, 1, none⟩ = some (.slice tk.a1 tk.n1 tk.c1) ∧ w'.cell? ⟨b14, 2, none⟩ = some (.slice tk.a2 tk.n2 tk.c2)) ∧ w'.cell? ⟨bv, ov + tt, none⟩ = some (.slice (some ⟨b1, o1, none⟩) nt ld) ∧ w'.cell? ⟨b1, o1 + i * 3, none⟩ = some (.bool tv.s) ∧ w'.cell? ⟨b1, o1 + i * 3 + 1, none⟩ = some (.slice tv.a1 tv.n1 tv.c1) ∧ w'.cell? ⟨b1, o1 + i * 3 + 2, none⟩ = some (.slice tv.a2 tv.n2 tv.c2)) xw_1 := unhide HCC _ cc_1
            refine hK.out _ _ hC_1 ?_
            clear hK K
            (try simp only [Act.put, List.setIfInBounds_toArray, List.set_cons_zero, List.set_cons_succ])
            refine wpHold_take (i := 9) (v := ?_) rfl (by kernel_rfl) (by kernel_rfl) (by kernel_rfl) (fun _ _ _ h => h) (Or.inl ⟨by rfl, ?_⟩) hC_1 ?_
            rotate_left
            · intro w hSw; clear hSw; go_simp; (try with_reducible rfl)
            (try simp only [List.getElem_toArray, List.getElem_cons_succ, List.getElem_cons_zero])
            (try simp only [Act.put, List.setIfInBounds_toArray, List.set_cons_zero, List.set_cons_succ])
            refine wpHold_done (by kernel_rfl) ?_ _
            have HFK := hide ((unhide HFI).keep cc_1)
            clear hC0 hC_1 cc_1 bd0 hb_1 HCC HC3 HFI
            go_wp2_with fail
            exact ⟨⟨i + 1, ts ++ [tk], by go_num, hlt, by rw [List.length_append, unhide HTS]; rfl, unhide HFK⟩, by simp [intOf]; omega⟩
      have fk : ¬ (kk : Int) < (nq : Int) := by omega
      by_cases h0 : (0 : Int) < (tt : Int)
      rotate_left
      · have hd0 : decide (0 < tt) = false := decide_eq_false (by omega)
        have HCC : Hid (∀ W, Below wr.heap.size wr W → (fun w' : World => (w'.cell? ⟨bc, 0, none⟩ = some (.slice lc.a nt lc.c) ∧ w'.cell? ⟨bc, 1, none⟩ = some (.slice (some ⟨bm, om, none⟩) nt mc.c) ∧ w'.cell? ⟨bc, 2, none⟩ = some (.bool tc.s) ∧ w'.cell? ⟨bc, 3, none⟩ = some (.slice tc.a1 tc.n1 tc.c1) ∧ w'.cell? ⟨bc, 4, none⟩ = some (.slice tc.a2 tc.n2 tc.c2)) ∧ w'.cell? ⟨bv, ov + tt, none⟩ = some (.slice (some ⟨b1, o1, none⟩) nt ld) ∧ (w'.cell? ⟨b1, o1 + i * 3, none⟩ = some (.bool tv.s) ∧ w'.cell? ⟨b1, o1 + i * 3 + 1, none⟩ = some (.slice tv.a1 tv.n1 tv.c1) ∧ w'.cell? ⟨b1, o1 + i * 3 + 2, none⟩ = some (.slice tv.a2 tv.n2 tv.c2)) ∧ (w'.cell? ⟨bm, om + i * 3, none⟩ = some (.bool tk.s) ∧ w'.cell? ⟨bm, om + i * 3 + 1, none⟩ = some (.slice tk.a1 tk.n1 tk.c1) ∧ w'.cell? ⟨bm, om + i * 3 + 2, none⟩ = some (.slice tk.a2 tk.n2 tk.c2))) W) := fun W hW => unhide HC20 W hW
        have HBSR : Hid (gs[i]! = bsr M (mor qs) tt i) := by
          show _ = _
          obtain rfl : tt = 0 := by omega
          rw [← unhide HM]
          rfl
        go_wp2_with fail
        refine wp_region_hold (fun w' : World => (w'.cell? ⟨bc, 0, none⟩ = some (.slice lc.a nt lc.c) ∧ w'.cell? ⟨bc, 1, none⟩ = some (.slice (some ⟨bm, om, none⟩) nt mc.c) ∧ w'.cell? ⟨bc, 2, none⟩ = some (.bool tc.s) ∧ w'.cell? ⟨bc, 3, none⟩ = some (.slice tc.a1 tc.n1 tc.c1) ∧ w'.cell? ⟨bc, 4, none⟩ = some (.slice tc.a2 tc.n2 tc.c2)) ∧ w'.cell? ⟨bv, ov + tt, none⟩ = some (.slice (some ⟨b1, o1, none⟩) nt ld) ∧ (w'.cell? ⟨b1, o1 + i * 3, none⟩ = some (.bool tv.s) ∧ w'.cell? ⟨b1, o1 + i * 3 + 1, none⟩ = some (.slice tv.a1 tv.n1 tv.c1) ∧ w'.cell? ⟨b1, o1 + i * 3 + 2, none⟩ = some (.slice tv.a2 tv.n2 tv.c2)) ∧ (w'.cell? ⟨bm, om + i * 3, none⟩ = some (.bool tk.s) ∧ w'.cell? ⟨bm, om + i * 3 + 1, none⟩ = some (.slice tk.a1 tk.n1 tk.c1) ∧ w'.cell? ⟨bm, om + i * 3 + 2, none⟩ = some (.slice tk.a2 tk.n2 tk.c2))) (by kernel_rfl) ?_
        have bd0 : Below wr.heap.size wr wr.drew := (Below.refl _ _).drew
        have hC0 : (fun w' : World => (w'.cell? ⟨bc, 0, none⟩ = some (.slice lc.a nt lc.c) ∧ w'.cell? ⟨bc, 1, none⟩ = some (.slice (some ⟨bm, om, none⟩) nt mc.c) ∧ w'.cell? ⟨bc, 2, none⟩ = some (.bool tc.s) ∧ w'.cell? ⟨bc, 3, none⟩ = some (.slice tc.a1 tc.n1 tc.c1) ∧ w'.cell? ⟨bc, 4, none⟩ = some (.slice tc.a2 tc.n2 tc.c2)) ∧ w'.cell? ⟨bv, ov + tt, none⟩ = some (.slice (some ⟨b1, o1, none⟩) nt ld) ∧ (w'.cell? ⟨b1, o1 + i * 3, none⟩ = some (.bool tv.s) ∧ w'.cell? ⟨b1, o1 + i * 3 + 1, none⟩ = some (.slice tv.a1 tv.n1 tv.c1) ∧ w'.cell? ⟨b1, o1 + i * 3 + 2, none⟩ = some (.slice tv.a2 tv.n2 tv.c2)) ∧ (w'.cell? ⟨bm, om + i * 3, none⟩ = some (.bool tk.s) ∧ w'.cell? ⟨bm, om + i * 3 + 1, none⟩ = some (.slice tk.a1 tk.n1 tk.c1) ∧ w'.cell? ⟨bm, om + i * 3 + 2, none⟩ = some (.slice tk.a2 tk.n2 tk.c2))) wr.drew := unhide HCC _ bd0
        refine wpHold_take (i := 0) (v := ?_) rfl (by kernel_rfl) (by kernel_rfl) (by kernel_rfl) (fun _ _ _ h => h) (Or.inl ⟨by rfl, ?_⟩) hC0 ?_
        rotate_left
        · intro w hSw; clear hSw; go_simp; (try with_reducible rfl)
        (try simp only [List.getElem_toArray, List.getElem_cons_succ, List.getElem_cons_zero])
        (try simp only [Act.put, List.setIfInBounds_toArray, List.set_cons_zero, List.set_cons_succ])
        refine wpHold_take (i := 1) (v := ?_) rfl (by kernel_rfl) (by kernel_rfl) (by kernel_rfl) (fun _ _ _ h => h) (Or.inl ⟨by rfl, ?_⟩) hC0 ?_
        rotate_left
        · intro w hSw; clear hSw; go_simp; (try with_reducible rfl)
        (try simp only [List.getElem_toArray, List.getElem_cons_succ, List.getElem_cons_zero])
        (try simp only [Act.put, List.setIfInBounds_toArray, List.set_cons_zero, List.set_cons_succ])
        refine wpHold_take (i := 2) (v := ?_) rfl (by kernel_rfl) (by kernel_rfl) (by kernel_rfl) (fun _ _ _ h => h) (Or.inl ⟨by rfl, ?_⟩) hC0 ?_
        rotate_left
        · intro w hSw; clear hSw; go_simp; (try with_reducible rfl)
        (try simp only [List.getElem_toArray, List.getElem_cons_succ, List.getElem_cons_zero])
        (try simp only [Act.put, List.setIfInBounds_toArray, List.set_cons_zero, List.set_cons_succ])
        refine wpHold_take (i := 3) (v := ?_) rfl (by kernel_rfl) (by kernel_rfl) (by kernel_rfl) (fun _ _ _ h => h) (Or.inl ⟨by rfl, ?_⟩) hC0 ?_
        rotate_left
        · intro w hSw; (try dsimp only at hSw); obtain ⟨⟨z0, z1, z2, z3, z4⟩, z5, ⟨z6, z7, z8⟩, z9, z10, z11⟩ := hSw; go_simp; (try with_reducible rfl)
        (try simp only [List.getElem_toArray, List.getElem_cons_succ, List.getElem_cons_zero])
        (try simp only [Act.put, List.setIfInBounds_toArray, List.set_cons_zero, List.set_cons_succ])
        refine wpHold_take (i := 4) (v := ?_) rfl (by kernel_rfl) (by kernel_rfl) (by kernel_rfl) (fun _ _ _ h => h) (Or.inl ⟨by rfl, ?_⟩) hC0 ?_
        rotate_left
        · intro w hSw; clear hSw; go_simp; (try with_reducible rfl)
        (try simp only [List.getElem_toArray, List.getElem_cons_succ, List.getElem_cons_zero])
        (try simp only [Act.put, List.setIfInBounds_toArray, List.set_cons_zero, List.set_cons_succ])
        refine wpHold_take (i := 5) (v := ?_) rfl (by kernel_rfl) (by kernel_rfl) (by kernel_rfl) (fun _ _ _ h => h) (Or.inl ⟨by rfl, ?_⟩) hC0 ?_
        rotate_left
        · intro w hSw; clear hSw; go_simp; (try with_reducible rfl)
        (try simp only [List.getElem_toArray, List.getElem_cons_succ, List.getElem_cons_zero])
        (try simp only [Act.put, List.setIfInBounds_toArray, List.set_cons_zero, List.set_cons_succ])
        refine wpHold_take (i := 6) (v := ?_) rfl (by kernel_rfl) (by kernel_rfl) (by kernel_rfl) (fun _ _ _ h => h) (Or.inl ⟨by rfl, ?_⟩) hC0 ?_
        rotate_left
        · intro w hSw; (try dsimp only at hSw); obtain ⟨⟨z0, z1, z2, z3, z4⟩, z5, ⟨z6, z7, z8⟩, z9, z10, z11⟩ := hSw; go_simp; (try with_reducible rfl)
        (try simp only [List.getElem_toArray, List.getElem_cons_succ, List.getElem_cons_zero])
        (try simp only [Act.put, List.setIfInBounds_toArray, List.set_cons_zero, List.set_cons_succ])
        refine wpHold_take (i := 7) (v := ?_) rfl (by kernel_rfl) (by kernel_rfl) (by kernel_rfl) (fun _ _ _ h => h) (Or.inl ⟨by rfl, ?_⟩) hC0 ?_
        rotate_left
        · intro w hSw; clear hSw; go_simp; (try with_reducible rfl)
        (try simp only [List.getElem_toArray, List.getElem_cons_succ, List.getElem_cons_zero])
        (try simp only [Act.put, List.setIfInBounds_toArray, List.set_cons_zero, List.set_cons_succ])
        refine wpHold_take (i := 8) (v := ?_) rfl (by kernel_rfl) (by kernel_rfl) (by kernel_rfl) (fun _ _ _ h => h) (Or.inl ⟨by rfl, ?_⟩) hC0 ?_
        rotate_left
        · intro w hSw; (try dsimp only at hSw); obtain ⟨⟨z0, z1, z2, z3, z4⟩, z5, ⟨z6, z7, z8⟩, z9, z10, z11⟩ := hSw; go_simp; (try with_reducible rfl)
        (try simp only [List.getElem_toArray, List.getElem_cons_succ, List.getElem_cons_zero])
        (try simp only [Act.put, List.setIfInBounds_toArray, List.set_cons_zero, List.set_cons_succ])
        refine wpHold_take (i := 9) (v := ?_) rfl (by kernel_rfl) (by kernel_rfl) (by kernel_rfl) (fun _ _ _ h => h) (Or.inl ⟨by rfl, ?_⟩) hC0 ?_
        rotate_left
        · intro w hSw; clear hSw; go_simp; (try with_reducible rfl)
        (try simp only [List.getElem_toArray, List.getElem_cons_succ, List.getElem_cons_zero])
        (try simp only [Act.put, List.setIfInBounds_toArray, List.set_cons_zero, List.set_cons_succ])
        refine wpHold_take (i := 10) (v := ?_) rfl (by kernel_rfl) (by kernel_rfl) (by kernel_rfl) (fun _ _ _ h => h) (Or.inl ⟨by rfl, ?_⟩) hC0 ?_
        rotate_left
        · intro w hSw; clear hSw; go_simp; (try with_reducible rfl)
        (try simp only [List.getElem_toArray, List.getElem_cons_succ, List.getElem_cons_zero])
        (try simp only [Act.put, List.setIfInBounds_toArray, List.set_cons_zero, List.set_cons_succ])
        refine wpHold_take (i := 11) (v := ?_) rfl (by kernel_rfl) (by kernel_rfl) (by kernel_rfl) (fun _ _ _ h => h) (Or.inl ⟨by rfl, ?_⟩) hC0 ?_
        rotate_left
        · intro w hSw; (try dsimp only at hSw); obtain ⟨⟨z0, z1, z2, z3, z4⟩, z5, ⟨z6, z7, z8⟩, z9, z10, z11⟩ := hSw; go_simp; (try with_reducible rfl)
        (try simp only [List.getElem_toArray, List.getElem_cons_succ, List.getElem_cons_zero])
        (try simp only [Act.put, List.setIfInBounds_toArray, List.set_cons_zero, List.set_cons_succ])
        refine wpHold_one (k := 12) (by kernel_rfl) rfl (fun K hK => ?_)
        (try simp only [List.getElem_toArray, List.getElem_cons_succ, List.getElem_cons_zero])
        go_simp
        refine (unhide HC1 _ bd0).mono ?_
        rintro e xw_1 ⟨rfl, hb_1⟩
        have cc_1 := below_step bd0 hb_1
        have hC_1 : (fun w' : World => (w'.cell? ⟨bc, 0, none⟩ = some (.slice lc.a nt lc.c) ∧ w'.cell? ⟨bc, 1, none⟩ = some (.slice (some ⟨bm, om, none⟩) nt mc.c) ∧ w'.cell? ⟨bc, 2, none⟩ = some (.bool tc.s) ∧ w'.cell? ⟨bc, 3, none⟩ = some (.slice tc.a1 tc.n1 tc.c1) ∧ w'.cell? ⟨bc, 4, none⟩ = some (.slice tc.a2 tc.n2 tc.c2)) ∧ w'.cell? ⟨bv, ov + tt, none⟩ = some (.slice (some ⟨b1, o1, none⟩) nt ld) ∧ (w'.cell? ⟨b1, o1 + i * 3, none⟩ = some (.bool tv.s) ∧ w'.cell? ⟨b1, o1 + i * 3 + 1, none⟩ = some (.slice tv.a1 tv.n1 tv.c1) ∧ w'.cell? ⟨b1, o1 + i * 3 + 2, none⟩ = some (.slice tv.a2 tv.n2 tv.c2)) ∧ (w'.cell? ⟨bm, om + i * 3, none⟩ = some (.bool tk.s) ∧ w'.cell? ⟨bm, om + i * 3 + 1, none⟩ = some (.slice tk.a1 tk.n1 tk.c1) ∧ w'.cell? ⟨bm, om + i * 3 + 2, none⟩ = some (.slice tk.a2 tk.n2 tk.c2))) xw_1 := unhide HCC _ cc_1
        refine hK.out _ _ hC_1 ?_
        clear hK K
        (try simp only [Act.put, List.setIfInBounds_toArray, List.set_cons_zero, List.set_cons_succ])
        refine wpHold_take (i := 13) (v := ?_) rfl (by kernel_rfl) (by kernel_rfl) (by kernel_rfl) (fun _ _ _ h => h) (Or.inl ⟨by rfl, ?_⟩) hC_1 ?_
        rotate_left
        · intro w hSw; clear hSw; go_simp; (try with_reducible rfl)
        (try simp only [List.getElem_toArray, List.getElem_cons_succ, List.getElem_cons_zero])
        (try simp only [Act.put, List.setIfInBounds_toArray, List.set_cons_zero, List.set_cons_succ])
        refine wpHold_take (i := 14) (v := ?_) rfl (by kernel_rfl) (by kernel_rfl) (by kernel_rfl) (fun _ _ _ h => h) (Or.inl ⟨by rfl, ?_⟩) hC_1 ?_
        rotate_left
        · intro w hSw; clear hSw; go_simp; (try with_reducible rfl)
        (try simp only [List.getElem_toArray, List.getElem_cons_succ, List.getElem_cons_zero])
        (try simp only [Act.put, List.setIfInBounds_toArray, List.set_cons_zero, List.set_cons_succ])
        refine wpHold_take (i := 15) (v := ?_) rfl (by kernel_rfl) (by kernel_rfl) (by kernel_rfl) (fun _ _ _ h => h) (Or.inl ⟨by rfl, ?_⟩) hC_1 ?_
        rotate_left
        · intro w hSw; clear hSw; go_simp; (try with_reducible rfl)
        (try simp only [List.getElem_toArray, List.getElem_cons_succ, List.getElem_cons_zero])
        (try simp only [Act.put, List.setIfInBounds_toArray, List.set_cons_zero, List.set_cons_succ])
        refine wpHold_take (i := 16) (v := ?_) rfl (by kernel_rfl) (by kernel_rfl) (by kernel_rfl) (fun _ _ _ h => h) (Or.inl ⟨by rfl, ?_⟩) hC_1 ?_
        rotate_left
        · intro w hSw; clear hSw; go_simp; (try with_reducible rfl)
        (try simp only [List.getElem_toArray, List.getElem_cons_succ, List.getElem_cons_zero])
        (try simp only [Act.put, List.setIfInBounds_toArray, List.set_cons_zero, List.set_cons_succ])
        refine wpHold_take (i := 17) (v := ?_) rfl (by kernel_rfl) (by kernel_rfl) (by kernel_rfl) (fun _ _ _ h => h) (Or.inl ⟨by rfl, ?_⟩) hC_1 ?_
        rotate_left
        · intro w hSw; clear hSw; go_simp; (try with_reducible rfl)
        (try simp only [List.getElem_toArray, List.getElem_cons_succ, List.getElem_cons_zero])
        (try simp only [Act.put, List.setIfInBounds_toArray, List.set_cons_zero, List.set_cons_succ])
        (try simp only [hd0])
        refine wpHold_take (i := 18) (v := undef) rfl (by kernel_rfl) (by kernel_rfl) (by kernel_rfl) (fun _ _ _ h => h) (Or.inr ⟨by rfl, rfl⟩) hC_1 ?_
        (try simp only [List.getElem_toArray, List.getElem_cons_succ, List.getElem_cons_zero])
        (try simp only [Act.put, List.setIfInBounds_toArray, List.set_cons_zero, List.set_cons_succ])
        refine wpHold_take (i := 19) (v := undef) rfl (by kernel_rfl) (by kernel_rfl) (by kernel_rfl) (fun _ _ _ h => h) (Or.inr ⟨by rfl, rfl⟩) hC_1 ?_
        (try simp only [List.getElem_toArray, List.getElem_cons_succ, List.getElem_cons_zero])
        (try simp only [Act.put, List.setIfInBounds_toArray, List.set_cons_zero, List.set_cons_succ])
        refine wpHold_take (i := 20) (v := undef) rfl (by kernel_rfl) (by kernel_rfl) (by kernel_rfl) (fun _ _ _ h => h) (Or.inr ⟨by rfl, rfl⟩) hC_1 ?_
        (try simp only [List.getElem_toArray, List.getElem_cons_succ, List.getElem_cons_zero])
        (try simp only [Act.put, List.setIfInBounds_toArray, List.set_cons_zero, List.set_cons_succ])
        refine wpHold_take (i := 21) (v := undef) rfl (by kernel_rfl) (by kernel_rfl) (by kernel_rfl) (fun _ _ _ h => h) (Or.inr ⟨by rfl, rfl⟩) hC_1 ?_
        (try simp only [List.getElem_toArray, List.getElem_cons_succ, List.getElem_cons_zero])
        (try simp only [Act.put, List.setIfInBounds_toArray, List.set_cons_zero, List.set_cons_succ])
        refine wpHold_take (i := 22) (v := undef) rfl (by kernel_rfl) (by kernel_rfl) (by kernel_rfl) (fun _ _ _ h => h) (Or.inr ⟨by rfl, rfl⟩) hC_1 ?_
        (try simp only [List.getElem_toArray, List.getElem_cons_succ, List.getElem_cons_zero])
        (try simp only [Act.put, List.setIfInBounds_toArray, List.set_cons_zero, List.set_cons_succ])
        refine wpHold_take (i := 23) (v := undef) rfl (by kernel_rfl) (by kernel_rfl) (by kernel_rfl) (fun _ _ _ h => h) (Or.inr ⟨by rfl, rfl⟩) hC_1 ?_
        (try simp only [List.getElem_toArray, List.getElem_cons_succ, List.getElem_cons_zero])
        (try simp only [Act.put, List.setIfInBounds_toArray, List.set_cons_zero, List.set_cons_succ])
        refine wpHold_take (i := 24) (v := undef) rfl (by kernel_rfl) (by kernel_rfl) (by kernel_rfl) (fun _ _ _ h => h) (Or.inr ⟨by rfl, rfl⟩) hC_1 ?_
        (try simp only [List.getElem_toArray, List.getElem_cons_succ, List.getElem_cons_zero])
        (try simp only [Act.put, List.setIfInBounds_toArray, List.set_cons_zero, List.set_cons_succ])
        refine wpHold_take (i := 25) (v := undef) rfl (by kernel_rfl) (by kernel_rfl) (by kernel_rfl) (fun _ _ _ h => h) (Or.inr ⟨by rfl, rfl⟩) hC_1 ?_
        (try simp only [List.getElem_toArray, List.getElem_cons_succ, List.getElem_cons_zero])
        (try simp only [Act.put, List.setIfInBounds_toArray, List.set_cons_zero, List.set_cons_succ])
        refine wpHold_take (i := 26) (v := undef) rfl (by kernel_rfl) (by kernel_rfl) (by kernel_rfl) (fun _ _ _ h => h) (Or.inr ⟨by rfl, rfl⟩) hC_1 ?_
        (try simp only [List.getElem_toArray, List.getElem_cons_succ, List.getElem_cons_zero])
        (try simp only [Act.put, List.setIfInBounds_toArray, List.set_cons_zero, List.set_cons_succ])
        refine wpHold_take (i := 27) (v := undef) rfl (by kernel_rfl) (by kernel_rfl) (by kernel_rfl) (fun _ _ _ h => h) (Or.inr ⟨by rfl, rfl⟩) hC_1 ?_
        (try simp only [List.getElem_toArray, List.getElem_cons_succ, List.getElem_cons_zero])
        (try simp only [Act.put, List.setIfInBounds_toArray, List.set_cons_zero, List.set_cons_succ])
        refine wpHold_take (i := 28) (v := undef) rfl (by kernel_rfl) (by kernel_rfl) (by kernel_rfl) (fun _ _ _ h => h) (Or.inr ⟨by rfl, rfl⟩) hC_1 ?_
        (try simp only [List.getElem_toArray, List.getElem_cons_succ, List.getElem_cons_zero])
        (try simp only [Act.put, List.setIfInBounds_toArray, List.set_cons_zero, List.set_cons_succ])
        refine wpHold_take (i := 29) (v := undef) rfl (by kernel_rfl) (by kernel_rfl) (by kernel_rfl) (fun _ _ _ h => h) (Or.inr ⟨by rfl, rfl⟩) hC_1 ?_
        (try simp only [List.getElem_toArray, List.getElem_cons_succ, List.getElem_cons_zero])
        (try simp only [Act.put, List.setIfInBounds_toArray, List.set_cons_zero, List.set_cons_succ])
        refine wpHold_take (i := 30) (v := undef) rfl (by kernel_rfl) (by kernel_rfl) (by kernel_rfl) (fun _ _ _ h => h) (Or.inr ⟨by rfl, rfl⟩) hC_1 ?_
        (try simp only [List.getElem_toArray, List.getElem_cons_succ, List.getElem_cons_zero])
        (try simp only [Act.put, List.setIfInBounds_toArray, List.set_cons_zero, List.set_cons_succ])
        refine wpHold_take (i := 31) (v := undef) rfl (by kernel_rfl) (by kernel_rfl) (by kernel_rfl) (fun _ _ _ h => h) (Or.inr ⟨by rfl, rfl⟩) hC_1 ?_
        (try simp only [List.getElem_toArray, List.getElem_cons_succ, List.getElem_cons_zero])
        (try simp only [Act.put, List.setIfInBounds_toArray, List.set_cons_zero, List.set_cons_succ])
        refine wpHold_take (i := 32) (v := undef) rfl (by kernel_rfl) (by kernel_rfl) (by kernel_rfl) (fun _ _ _ h => h) (Or.inr ⟨by rfl, rfl⟩) hC_1 ?_
        (try simp only [List.getElem_toArray, List.getElem_cons_succ, List.getElem_cons_zero])
        (try simp only [Act.put, List.setIfInBounds_toArray, List.set_cons_zero, List.set_cons_succ])
        refine wpHold_take (i := 33) (v := undef) rfl (by kernel_rfl) (by kernel_rfl) (by kernel_rfl) (fun _ _ _ h => h) (Or.inr ⟨by rfl, rfl⟩) hC_1 ?_
        (try simp only [List.getElem_toArray, List.getElem_cons_succ, List.getElem_cons_zero])
        (try simp only [Act.put, List.setIfInBounds_toArray, List.set_cons_zero, List.set_cons_succ])
        refine wpHold_take (i := 34) (v := undef) rfl (by kernel_rfl) (by kernel_rfl) (by kernel_rfl) (fun _ _ _ h => h) (Or.inr ⟨by rfl, rfl⟩) hC_1 ?_
        (try simp only [List.getElem_toArray, List.getElem_cons_succ, List.getElem_cons_zero])
        (try simp only [Act.put, List.setIfInBounds_toArray, List.set_cons_zero, List.set_cons_succ])
        refine wpHold_take (i := 35) (v := ?_) rfl (by kernel_rfl) (by kernel_rfl) (by kernel_rfl) (fun _ _ _ h => h) (Or.inl ⟨by rfl, ?_⟩) hC_1 ?_
        rotate_left
        · intro w hSw; clear hSw; go_simp; (try with_reducible rfl)
        (try simp only [List.getElem_toArray, List.getElem_cons_succ, List.getElem_cons_zero])
        (try simp only [Act.put, List.setIfInBounds_toArray, List.set_cons_zero, List.set_cons_succ])
        refine wpHold_take (i := 36) (v := ?_) rfl (by kernel_rfl) (by kernel_rfl) (by kernel_rfl) (fun _ _ _ h => h) (Or.inl ⟨by rfl, ?_⟩) hC_1 ?_
        rotate_left
        · intro w hSw; clear hSw; go_simp; (try with_reducible rfl)
        (try simp only [List.getElem_toArray, List.getElem_cons_succ, List.getElem_cons_zero])
        (try simp only [Act.put, List.setIfInBounds_toArray, List.set_cons_zero, List.set_cons_succ])
        refine wpHold_done (by kernel_rfl) ?_ _
        have HWc := hide cc_1
        have ⟨⟨z0, z1, z2, z3, z4⟩, z5, ⟨z6, z7, z8⟩, z9, z10, z11⟩ := hC_1
        clear hC0 hC_1 cc_1 bd0 hb_1 HCC
        have bA := alloc_below xw_1 (.cells #[.bool tk.s, .slice tk.a1 tk.n1 tk.c1, .slice tk.a2 tk.n2 tk.c2] 35)
        have X14 := BoxIs.new (unhide HKR xw_1 (unhide HWc))
        obtain ⟨W14, hW14⟩ : ∃ W, xw_1.alloc (.cells #[.bool tk.s, .slice tk.a1 tk.n1 tk.c1, .slice tk.a2 tk.n2 tk.c2] 35) = W := ⟨_, rfl⟩
        obtain ⟨b14, hb14⟩ : ∃ b, xw_1.heap.size = b := ⟨_, rfl⟩
        rw [hW14] at bA X14
        rw [hb14] at X14
        have HX14 := hide X14
        have HGX : Hid (wr.heap.size ≤ b14) := by show _ ≤ b14; rw [← hb14]; exact (unhide HWc).size
        have HW14 := hide (below_step (unhide HWc) bA)
        clear bA X14
        have ⟨k0, k1, k2, k3, k4⟩ := unhide HCA W14 (unhide HW14)
        have HXB0 : Hid (BoxIs W14 b14 tk (bsr M (mor qs) tt i)) := by show BoxIs _ _ _ _; rw [← unhide HBSR]; exact unhide HX14
        have HW := HW14
        clear HX14
        have HMO := hide (mor_not (qs := qs) (k := kk) (fun h => hk (by have := unhide HNQ; omega)))
        have HXB : Hid (BoxIs W14 b14 tk (ovr M (mor qs) tt i)) := by
          show BoxIs _ _ _ _
          rw [← unhide HOV, unhide HMO, Rat.add_zero]
          exact unhide HXB0
        clear HXB0
        have bL := alloc_below W14 (.cells #[.bool tk.s, .slice tk.a1 tk.n1 tk.c1, .slice tk.a2 tk.n2 tk.c2] 35)
        have T2 := ((unhide HT).keep (unhide HW)).keep bL
        have hr3 := (unhide HXB).2.below bL
        have XB3 := (unhide HXB).keep bL
        have ⟨x0, x1, x2⟩ := (unhide HXB).cells _ (Below.refl _ _)
        have hlen56 : (ts.length + 1) * 56 ≤ 140737488355328 := by have := unhide HTS; omega
        have hlen63 : ts.length + 1 ≤ maxLen := by have := unhide HTS; unfold maxLen; omega
        have hsz2 : (W14.alloc (.cells #[.bool tk.s, .slice tk.a1 tk.n1 tk.c1, .slice tk.a2 tk.n2 tk.c2] 35)).heap.size = W14.heap.size + 1 := by rw [alloc_heap, Array.size_push]
        have HT2 := hide T2
        have HR3 := hide hr3
        have HXB3 := hide XB3
        have HSZ := hide hsz2
        have HL56 := hide hlen56
        have HL63 := hide hlen63
        have HBA := hide T2.bl.size
        clear T2 hr3 XB3 hsz2 hlen56 hlen63 bL
        go_wp2_with (at_builtin; go_loud (refine wpList_append_tri _ rfl _ _ _ rfl V.heap.size 35 ti 56 Tryd.underlying31 (unhide HI) (unhide HZ) hz1 hz2 _ ts.length (tcells ts) rfl (unhide HT2).own (unhide HT2).no ⟨W14.heap.size, 0, none⟩ 1 1 tk.cells rfl rfl (news_tri W14 tk _) (tri_one tk) tk.notWord (by decide) (unhide HL63) (unhide HL56) (unhide HBA) (W14.heap.size + 1) (unhide HSZ) ?_; intro g cap w4 hown4 hgrow hat hlt4 hno4))
        have FIN := (unhide HT2).push (by rw [unhide HTS, row_get hlt]; exact unhide HR3) hown4 hgrow hno4 (unhide HBA)
        have hgx : b14 < (W14.alloc (.cells #[.bool tk.s, .slice tk.a1 tk.n1 tk.c1, .slice tk.a2 tk.n2 tk.c2] 35)).heap.size := (unhide HXB3).lt
        have hnex : ∀ k, u12.ownBlock = some k → k ≠ b14 := fun k hk e => by
          have h1 := (ownsR_block (unhide HT).own k hk).2
          have h2 := unhide HGX
          omega
        have cfar : ∀ o : Nat, w4.cell? ⟨b14, o, none⟩ = (W14.alloc (.cells #[.bool tk.s, .slice tk.a1 tk.n1 tk.c1, .slice tk.a2 tk.n2 tk.c2] 35)).cell? ⟨b14, o, none⟩ := fun o => hgrow.cell_far ⟨b14, o, none⟩ hgx (fun e => hnex b14 e.symm rfl)
        have rfar : RatIs w4 tk.val (ovr M (mor qs) tt i) := (unhide HXB3).2.far hgrow (unhide HT2).no
        have xc := (unhide HXB3).cells _ (Below.refl _ _)
        have hb14 : b14 < w4.heap.size := Nat.lt_of_lt_of_le hgx hgrow.size
        have vc := unhide HVC w4 FIN.bl
        have HCC : Hid (∀ W, Below w4.heap.size w4 W → (fun w' : World => (w'.cell? ⟨b14, 0, none⟩ = some (.bool tk.s) ∧ w'.cell? ⟨b14, 1, none⟩ = some (.slice tk.a1 tk.n1 tk.c1) ∧ w'.cell? ⟨b14, 2, none⟩ = some (.slice tk.a2 tk.n2 tk.c2)) ∧ w'.cell? ⟨bv, ov + tt, none⟩ = some (.slice (some ⟨b1, o1, none⟩) nt ld) ∧ w'.cell? ⟨b1, o1 + i * 3, none⟩ = some (.bool tv.s) ∧ w'.cell? ⟨b1, o1 + i * 3 + 1, none⟩ = some (.slice tv.a1 tv.n1 tv.c1) ∧ w'.cell? ⟨b1, o1 + i * 3 + 2, none⟩ = some (.slice tv.a2 tv.n2 tv.c2)) W) := fun W hW => by
          refine ⟨?_, unhide HVC W (below_step FIN.bl hW)⟩
          rw [hW.cell (p := ⟨b14, 0, none⟩) hb14, hW.cell (p := ⟨b14, 1, none⟩) hb14, hW.cell (p := ⟨b14, 2, none⟩) hb14, cfar, cfar, cfar]
          exact xc
        have hle := cmpv_ge (unhide HENV)
        obtain ⟨y3, hy3⟩ : ∃ y, cmpv (ovr M (mor qs) tt i) (Stp.env M tt i) = y := ⟨_, rfl⟩
        rw [hy3] at hle
        have hd3 : decide (y3 < 0) = false := decide_eq_false (by omega)
        have HC3 : Hid (∀ W, Below w4.heap.size w4 W → Calls Tryd.prog 12 #[.agg #[.bool tk.s, .slice tk.a1 tk.n1 tk.c1, .slice tk.a2 tk.n2 tk.c2], .agg #[.bool tv.s, .slice tv.a1 tv.n1 tv.c1, .slice tv.a2 tv.n2 tv.c2]] W fun e w' => e = .returned (.int .i64 y3) ∧ Below W.heap.size W w') := fun W hW => by
          have := cmpR_all tk.val tv.val _ _ W (rfar.below hW) ((unhide HVR _ (below_step FIN.bl hW))) 300000 (unhide HRO) (unhide HRE) (by rw [KKe]; omega)
          rw [hy3] at this
          exact this
        have HFI := hide FIN
        clear FIN hown4 hgrow hat hlt4 hno4 HT2 HR3 HXB3 hgx hnex cfar rfar xc hb14 vc hle hy3 x0 x1 x2
        go_wp2_with fail
        refine wp_region_hold (fun w' : World => (w'.cell? ⟨b14, 0, none⟩ = some (.bool tk.s) ∧ w'.cell? ⟨b14, 1, none⟩ = some (.slice tk.a1 tk.n1 tk.c1) ∧ w'.cell? ⟨b14, 2, none⟩ = some (.slice tk.a2 tk.n2 tk.c2)) ∧ w'.cell? ⟨bv, ov + tt, none⟩ = some (.slice (some ⟨b1, o1, none⟩) nt ld) ∧ w'.cell? ⟨b1, o1 + i * 3, none⟩ = some (.bool tv.s) ∧ w'.cell? ⟨b1, o1 + i * 3 + 1, none⟩ = some (.slice tv.a1 tv.n1 tv.c1) ∧ w'.cell? ⟨b1, o1 + i * 3 + 2, none⟩ = some (.slice tv.a2 tv.n2 tv.c2)) (by kernel_rfl) ?_
        have bd0 : Below w4.heap.size w4 w4.drew := (Below.refl _ _).drew
        have hC0 : (fun w' : World => (w'.cell? ⟨b14, 0, none⟩ = some (.bool tk.s) ∧ w'.cell? ⟨b14, 1, none⟩ = some (.slice tk.a1 tk.n1 tk.c1) ∧ w'.cell? ⟨b14, 2, none⟩ = some (.slice tk.a2 tk.n2 tk.c2)) ∧ w'.cell? ⟨bv, ov + tt, none⟩ = some (.slice (some ⟨b1, o1, none⟩) nt ld) ∧ w'.cell? ⟨b1, o1 + i * 3, none⟩ = some (.bool tv.s) ∧ w'.cell? ⟨b1, o1 + i * 3 + 1, none⟩ = some (.slice tv.a1 tv.n1 tv.c1) ∧ w'.cell? ⟨b1, o1 + i * 3 + 2, none⟩ = some (.slice tv.a2 tv.n2 tv.c2)) w4.drew := unhide HCC _ bd0
        refine wpHold_take (i := 0) (v := ?_) rfl (by kernel_rfl) (by kernel_rfl) (by kernel_rfl) (fun _ _ _ h => h) (Or.inl ⟨by rfl, ?_⟩) hC0 ?_
        rotate_left
        · intro w hSw; (try dsimp only at hSw); obtain ⟨⟨z0, z1, z2⟩, z3, z4, z5, z6⟩ := hSw; go_simp; (try with_reducible rfl)
        (try simp only [List.getElem_toArray, List.getElem_cons_succ, List.getElem_cons_zero])
        (try simp only [Act.put, List.setIfInBounds_toArray, List.set_cons_zero, List.set_cons_succ])
        refine wpHold_take (i := 1) (v := ?_) rfl (by kernel_rfl) (by kernel_rfl) (by kernel_rfl) (fun _ _ _ h => h) (Or.inl ⟨by rfl, ?_⟩) hC0 ?_
        rotate_left
        · intro w hSw; clear hSw; go_simp; (try with_reducible rfl)
        (try simp only [List.getElem_toArray, List.getElem_cons_succ, List.getElem_cons_zero])
        (try simp only [Act.put, List.setIfInBounds_toArray, List.set_cons_zero, List.set_cons_succ])
        refine wpHold_take (i := 2) (v := ?_) rfl (by kernel_rfl) (by kernel_rfl) (by kernel_rfl) (fun _ _ _ h => h) (Or.inl ⟨by rfl, ?_⟩) hC0 ?_
        rotate_left
        · intro w hSw; clear hSw; go_simp; (try with_reducible rfl)
        (try simp only [List.getElem_toArray, List.getElem_cons_succ, List.getElem_cons_zero])
        (try simp only [Act.put, List.setIfInBounds_toArray, List.set_cons_zero, List.set_cons_succ])
        refine wpHold_take (i := 3) (v := ?_) rfl (by kernel_rfl) (by kernel_rfl) (by kernel_rfl) (fun _ _ _ h => h) (Or.inl ⟨by rfl, ?_⟩) hC0 ?_
        rotate_left
        · intro w hSw; clear hSw; go_simp; (try with_reducible rfl)
        (try simp only [List.getElem_toArray, List.getElem_cons_succ, List.getElem_cons_zero])
        (try simp only [Act.put, List.setIfInBounds_toArray, List.set_cons_zero, List.set_cons_succ])
        refine wpHold_take (i := 4) (v := ?_) rfl (by kernel_rfl) (by kernel_rfl) (by kernel_rfl) (fun _ _ _ h => h) (Or.inl ⟨by rfl, ?_⟩) hC0 ?_
        rotate_left
        · intro w hSw; (try dsimp only at hSw); obtain ⟨⟨z0, z1, z2⟩, z3, z4, z5, z6⟩ := hSw; go_simp; (try with_reducible rfl)
        (try simp only [List.getElem_toArray, List.getElem_cons_succ, List.getElem_cons_zero])
        (try simp only [Act.put, List.setIfInBounds_toArray, List.set_cons_zero, List.set_cons_succ])
        refine wpHold_take (i := 5) (v := ?_) rfl (by kernel_rfl) (by kernel_rfl) (by kernel_rfl) (fun _ _ _ h => h) (Or.inl ⟨by rfl, ?_⟩) hC0 ?_
        rotate_left
        · intro w hSw; clear hSw; go_simp; (try with_reducible rfl)
        (try simp only [List.getElem_toArray, List.getElem_cons_succ, List.getElem_cons_zero])
        (try simp only [Act.put, List.setIfInBounds_toArray, List.set_cons_zero, List.set_cons_succ])
        refine wpHold_take (i := 6) (v := ?_) rfl (by kernel_rfl) (by kernel_rfl) (by kernel_rfl) (fun _ _ _ h => h) (Or.inl ⟨by rfl, ?_⟩) hC0 ?_
        rotate_left
        · intro w hSw; clear hSw; go_simp; (try with_reducible rfl)
        (try simp only [List.getElem_toArray, List.getElem_cons_succ, List.getElem_cons_zero])
        (try simp only [Act.put, List.setIfInBounds_toArray, List.set_cons_zero, List.set_cons_succ])
        refine wpHold_take (i := 7) (v := ?_) rfl (by kernel_rfl) (by kernel_rfl) (by kernel_rfl) (fun _ _ _ h => h) (Or.inl ⟨by rfl, ?_⟩) hC0 ?_
        rotate_left
        · intro w hSw; (try dsimp only at hSw); obtain ⟨⟨z0, z1, z2⟩, z3, z4, z5, z6⟩ := hSw; go_simp; (try with_reducible rfl)
        (try simp only [List.getElem_toArray, List.getElem_cons_succ, List.getElem_cons_zero])
        (try simp only [Act.put, List.setIfInBounds_toArray, List.set_cons_zero, List.set_cons_succ])
        refine wpHold_one (k := 8) (by kernel_rfl) rfl (fun K hK => ?_)
        (try simp only [List.getElem_toArray, List.getElem_cons_succ, List.getElem_cons_zero])
        go_simp
        refine (unhide HC3 _ bd0).mono ?_
        rintro e xw_1 ⟨rfl, hb_1⟩
        have cc_1 := below_step bd0 hb_1
        have hC_1 : (fun w' : World => (w'.cell? ⟨b14, 0, none⟩ = some (.bool tk.s) ∧ w'.cell? ⟨b14, 1, none⟩ = some (.slice tk.a1 tk.n1 tk.c1) ∧ w'.cell? ⟨b14, 2, none⟩ = some (.slice tk.a2 tk.n2 tk.c2)) ∧ w'.cell? ⟨bv, ov + tt, none⟩ = some (.slice (some ⟨b1, o1, none⟩) nt ld) ∧ w'.cell? ⟨b1, o1 + i * 3, none⟩ = some (.bool tv.s) ∧ w'.cell? ⟨b1, o1 + i * 3 + 1, none⟩ = some (.slice tv.a1 tv.n1 tv.c1) ∧ w'.cell? ⟨b1, o1 + i * 3 + 2, none⟩ = some (.slice tv.a2 tv.n2 tv.c2)) xw_1 := unhide HCC _ cc_1
        refine hK.out _ _ hC_1 ?_
        clear hK K
        (try simp only [Act.put, List.setIfInBounds_toArray, List.set_cons_zero, List.set_cons_succ])
        refine wpHold_take (i := 9) (v := ?_) rfl (by kernel_rfl) (by kernel_rfl) (by kernel_rfl) (fun _ _ _ h => h) (Or.inl ⟨by rfl, ?_⟩) hC_1 ?_
        rotate_left
        · intro w hSw; clear hSw; go_simp; (try with_reducible rfl)
        (try simp only [List.getElem_toArray, List.getElem_cons_succ, List.getElem_cons_zero])
        (try simp only [Act.put, List.setIfInBounds_toArray, List.set_cons_zero, List.set_cons_succ])
        refine wpHold_done (by kernel_rfl) ?_ _
        have HFK := hide ((unhide HFI).keep cc_1)
        clear hC0 hC_1 cc_1 bd0 hb_1 HCC HC3 HFI
        go_wp2_with fail
        exact ⟨⟨i + 1, ts ++ [tk], by go_num, hlt, by rw [List.length_append, unhide HTS]; rfl, unhide HFK⟩, by simp [intOf]; omega⟩
      have hd0 : decide (0 < tt) = true := decide_eq_true (by omega)
      obtain ⟨u, hu⟩ : ∃ u, u + 1 = tt := ⟨tt - 1, by omega⟩
      have et : IntKind.i64.wrap ((tt : Int) - 1) = (u : Int) := by rw [IntKind.wrap_i64]; omega
      have fu : (u : Int) < (T : Int) := by omega
      have fu0 : (0 : Int) ≤ (u : Int) := by omega
      obtain ⟨b_u, o_u, lu, ebu, hbu, ku, hLu⟩ := ((unhide HVV).below (unhide HT).bl).at (l := (av, T, cv)) (i := u) (by rw [emat_length]; omega)
      rw [emat_get (by omega)] at hLu
      have hlun := law_len hLu
      rw [row_length] at hlun
      rw [hlun] at ku
      obtain ⟨lb, elb⟩ : ∃ a, lu.a = a := ⟨_, rfl⟩
      obtain ⟨le, ele⟩ : ∃ a, lu.c = a := ⟨_, rfl⟩
      simp only [Sl.val] at hLu
      rw [hlun, elb, ele] at hLu
      rw [elb, ele] at ku
      have ebv : bv = b_u ∧ ov = o_u := by
        have h1 := unhide HAV
        have h2 : av = some ⟨b_u, o_u, none⟩ := ebu
        rw [h1] at h2
        injection h2 with h2
        injection h2 with h3 h4
        exact ⟨h3, h4⟩
      obtain ⟨rfl, rfl⟩ := ebv
      have HCC : Hid (∀ W, Below wr.heap.size wr W → (fun w' : World => ((w'.cell? ⟨bc, 0, none⟩ = some (.slice lc.a nt lc.c) ∧ w'.cell? ⟨bc, 1, none⟩ = some (.slice (some ⟨bm, om, none⟩) nt mc.c) ∧ w'.cell? ⟨bc, 2, none⟩ = some (.bool tc.s) ∧ w'.cell? ⟨bc, 3, none⟩ = some (.slice tc.a1 tc.n1 tc.c1) ∧ w'.cell? ⟨bc, 4, none⟩ = some (.slice tc.a2 tc.n2 tc.c2)) ∧ w'.cell? ⟨bv, ov + tt, none⟩ = some (.slice (some ⟨b1, o1, none⟩) nt ld) ∧ (w'.cell? ⟨b1, o1 + i * 3, none⟩ = some (.bool tv.s) ∧ w'.cell? ⟨b1, o1 + i * 3 + 1, none⟩ = some (.slice tv.a1 tv.n1 tv.c1) ∧ w'.cell? ⟨b1, o1 + i * 3 + 2, none⟩ = some (.slice tv.a2 tv.n2 tv.c2)) ∧ (w'.cell? ⟨bm, om + i * 3, none⟩ = some (.bool tk.s) ∧ w'.cell? ⟨bm, om + i * 3 + 1, none⟩ = some (.slice tk.a1 tk.n1 tk.c1) ∧ w'.cell? ⟨bm, om + i * 3 + 2, none⟩ = some (.slice tk.a2 tk.n2 tk.c2))) ∧ w'.cell? ⟨bv, ov + u, none⟩ = some (.slice lb nt le)) W) := fun W hW => ⟨unhide HC20 W hW, by rw [hW.cell (p := ⟨bv, ov + u, none⟩) hbu]; exact ku⟩
      have hon1 : Stp.on (chn P gs c) (bf (row (Stp.env M u) nt)) i = Stp.on M (Stp.env M u) i := by
        rw [unhide HM]
        exact on_congr (fun k hk => row_get (by rw [unhide HMn] at hk; exact hk)) i
      have HON1 : Hid (∀ W, Below wr.heap.size wr W → Calls Tryd.prog 13 #[.agg #[.slice lc.a nt lc.c, .slice (some ⟨bm, om, none⟩) nt mc.c, .bool tc.s, .slice tc.a1 tc.n1 tc.c1, .slice tc.a2 tc.n2 tc.c2], .slice lb nt le, .int .i64 (i : Int)] W fun e w' => ∃ v, e = .returned v ∧ RatIs w' v (Stp.on M (Stp.env M u) i) ∧ Below W.heap.size W w') := fun W hW => by
        have := on_any (cval lc mc tc) (.slice lb nt le) P gs c (row (Stp.env M u) nt) i 200000 W (((unhide HXV).keep (unhide HT).bl).keep hW).chain (unhide HSM) (unhide HGM) (unhide HLP) (hLu.below hW) (by rw [row_length]; exact (unhide HPL).symm) (fun j hj => by
          rw [row_get (by rw [← unhide HPL]; exact hj), ← unhide HM]
          exact env_small (unhide HSM) (unhide HGM) (by omega) hj) (by rw [KKe]; omega)
        rw [unhide HCV, unhide HMA, hon1] at this
        exact this
      have hle2 := cmpv_ge (show Stp.on M (Stp.env M u) i ≤ Stp.env M tt i by rw [← hu]; exact Stp.env_on M u i)
      obtain ⟨y2, hy2⟩ : ∃ y, cmpv (Stp.env M tt i) (Stp.on M (Stp.env M u) i) = y := ⟨_, rfl⟩
      rw [hy2] at hle2
      have hd2 : decide (y2 < 0) = false := decide_eq_false (by omega)
      have hRon : RS (Stp.on M (Stp.env M u) i) 3000000 := by
        rw [← unhide HM]
        exact (on_RS (unhide HSM) (unhide HGM) (unhide HLP) (fun j hj => env_small (unhide HSM) (unhide HGM) (t := u) (by omega) hj)).mono (by omega)
      have HC2 : Hid (∀ W v, Below wr.heap.size wr W → RatIs W v (Stp.on M (Stp.env M u) i) → Calls Tryd.prog 12 #[.agg #[.bool tv.s, .slice tv.a1 tv.n1 tv.c1, .slice tv.a2 tv.n2 tv.c2], v] W fun e w' => e = .returned (.int .i64 y2) ∧ Below W.heap.size W w') := fun W v hW hv => by
        have := cmpR_all tv.val v _ _ W (unhide HVR W (below_step (unhide HT).bl hW)) hv 3000000 ((unhide HRE).mono (by omega)) hRon (by rw [KKe]; omega)
        rw [hy2] at this
        exact this
      have HU := hide hu
      clear hLu hlun elb ele hon1 hle2 hy2 hRon hu ku hbu ebu
      go_wp2_with fail
      refine wp_region_hold (fun w' : World => ((w'.cell? ⟨bc, 0, none⟩ = some (.slice lc.a nt lc.c) ∧ w'.cell? ⟨bc, 1, none⟩ = some (.slice (some ⟨bm, om, none⟩) nt mc.c) ∧ w'.cell? ⟨bc, 2, none⟩ = some (.bool tc.s) ∧ w'.cell? ⟨bc, 3, none⟩ = some (.slice tc.a1 tc.n1 tc.c1) ∧ w'.cell? ⟨bc, 4, none⟩ = some (.slice tc.a2 tc.n2 tc.c2)) ∧ w'.cell? ⟨bv, ov + tt, none⟩ = some (.slice (some ⟨b1, o1, none⟩) nt ld) ∧ (w'.cell? ⟨b1, o1 + i * 3, none⟩ = some (.bool tv.s) ∧ w'.cell? ⟨b1, o1 + i * 3 + 1, none⟩ = some (.slice tv.a1 tv.n1 tv.c1) ∧ w'.cell? ⟨b1, o1 + i * 3 + 2, none⟩ = some (.slice tv.a2 tv.n2 tv.c2)) ∧ (w'.cell? ⟨bm, om + i * 3, none⟩ = some (.bool tk.s) ∧ w'.cell? ⟨bm, om + i * 3 + 1, none⟩ = some (.slice tk.a1 tk.n1 tk.c1) ∧ w'.cell? ⟨bm, om + i * 3 + 2, none⟩ = some (.slice tk.a2 tk.n2 tk.c2))) ∧ w'.cell? ⟨bv, ov + u, none⟩ = some (.slice lb nt le)) (by kernel_rfl) ?_
      have bd0 : Below wr.heap.size wr wr.drew := (Below.refl _ _).drew
      have hC0 : (fun w' : World => ((w'.cell? ⟨bc, 0, none⟩ = some (.slice lc.a nt lc.c) ∧ w'.cell? ⟨bc, 1, none⟩ = some (.slice (some ⟨bm, om, none⟩) nt mc.c) ∧ w'.cell? ⟨bc, 2, none⟩ = some (.bool tc.s) ∧ w'.cell? ⟨bc, 3, none⟩ = some (.slice tc.a1 tc.n1 tc.c1) ∧ w'.cell? ⟨bc, 4, none⟩ = some (.slice tc.a2 tc.n2 tc.c2)) ∧ w'.cell? ⟨bv, ov + tt, none⟩ = some (.slice (some ⟨b1, o1, none⟩) nt ld) ∧ (w'.cell? ⟨b1, o1 + i * 3, none⟩ = some (.bool tv.s) ∧ w'.cell? ⟨b1, o1 + i * 3 + 1, none⟩ = some (.slice tv.a1 tv.n1 tv.c1) ∧ w'.cell? ⟨b1, o1 + i * 3 + 2, none⟩ = some (.slice tv.a2 tv.n2 tv.c2)) ∧ (w'.cell? ⟨bm, om + i * 3, none⟩ = some (.bool tk.s) ∧ w'.cell? ⟨bm, om + i * 3 + 1, none⟩ = some (.slice tk.a1 tk.n1 tk.c1) ∧ w'.cell? ⟨bm, om + i * 3 + 2, none⟩ = some (.slice tk.a2 tk.n2 tk.c2))) ∧ w'.cell? ⟨bv, ov + u, none⟩ = some (.slice lb nt le)) wr.drew := unhide HCC _ bd0
      refine wpHold_take (i := 0) (v := ?_) rfl (by kernel_rfl) (by kernel_rfl) (by kernel_rfl) (fun _ _ _ h => h) (Or.inl ⟨by rfl, ?_⟩) hC0 ?_
      rotate_left
      · intro w hSw; clear hSw; go_simp; (try with_reducible rfl)
      (try simp only [List.getElem_toArray, List.getElem_cons_succ, List.getElem_cons_zero])
      (try simp only [Act.put, List.setIfInBounds_toArray, List.set_cons_zero, List.set_cons_succ])
      refine wpHold_take (i := 1) (v := ?_) rfl (by kernel_rfl) (by kernel_rfl) (by kernel_rfl) (fun _ _ _ h => h) (Or.inl ⟨by rfl, ?_⟩) hC0 ?_
      rotate_left
      · intro w hSw; clear hSw; go_simp; (try with_reducible rfl)
      (try simp only [List.getElem_toArray, List.getElem_cons_succ, List.getElem_cons_zero])
      (try simp only [Act.put, List.setIfInBounds_toArray, List.set_cons_zero, List.set_cons_succ])
      refine wpHold_take (i := 2) (v := ?_) rfl (by kernel_rfl) (by kernel_rfl) (by kernel_rfl) (fun _ _ _ h => h) (Or.inl ⟨by rfl, ?_⟩) hC0 ?_
      rotate_left
      · intro w hSw; clear hSw; go_simp; (try with_reducible rfl)
      (try simp only [List.getElem_toArray, List.getElem_cons_succ, List.getElem_cons_zero])
      (try simp only [Act.put, List.setIfInBounds_toArray, List.set_cons_zero, List.set_cons_succ])
      refine wpHold_take (i := 3) (v := ?_) rfl (by kernel_rfl) (by kernel_rfl) (by kernel_rfl) (fun _ _ _ h => h) (Or.inl ⟨by rfl, ?_⟩) hC0 ?_
      rotate_left
      · intro w hSw; (try dsimp only at hSw); obtain ⟨⟨⟨z0, z1, z2, z3, z4⟩, z5, ⟨z6, z7, z8⟩, z9, z10, z11⟩, z12⟩ := hSw; go_simp; (try with_reducible rfl)
      (try simp only [List.getElem_toArray, List.getElem_cons_succ, List.getElem_cons_zero])
      (try simp only [Act.put, List.setIfInBounds_toArray, List.set_cons_zero, List.set_cons_succ])
      refine wpHold_take (i := 4) (v := ?_) rfl (by kernel_rfl) (by kernel_rfl) (by kernel_rfl) (fun _ _ _ h => h) (Or.inl ⟨by rfl, ?_⟩) hC0 ?_
      rotate_left
      · intro w hSw; clear hSw; go_simp; (try with_reducible rfl)
      (try simp only [List.getElem_toArray, List.getElem_cons_succ, List.getElem_cons_zero])
      (try simp only [Act.put, List.setIfInBounds_toArray, List.set_cons_zero, List.set_cons_succ])
      refine wpHold_take (i := 5) (v := ?_) rfl (by kernel_rfl) (by kernel_rfl) (by kernel_rfl) (fun _ _ _ h => h) (Or.inl ⟨by rfl, ?_⟩) hC0 ?_
      rotate_left
      · intro w hSw; clear hSw; go_simp; (try with_reducible rfl)
      (try simp only [List.getElem_toArray, List.getElem_cons_succ, List.getElem_cons_zero])
      (try simp only [Act.put, List.setIfInBounds_toArray, List.set_cons_zero, List.set_cons_succ])
      refine wpHold_take (i := 6) (v := ?_) rfl (by kernel_rfl) (by kernel_rfl) (by kernel_rfl) (fun _ _ _ h => h) (Or.inl ⟨by rfl, ?_⟩) hC0 ?_
      rotate_left
      · intro w hSw; (try dsimp only at hSw); obtain ⟨⟨⟨z0, z1, z2, z3, z4⟩, z5, ⟨z6, z7, z8⟩, z9, z10, z11⟩, z12⟩ := hSw; go_simp; (try with_reducible rfl)
      (try simp only [List.getElem_toArray, List.getElem_cons_succ, List.getElem_cons_zero])
      (try simp only [Act.put, List.setIfInBounds_toArray, List.set_cons_zero, List.set_cons_succ])
      refine wpHold_take (i := 7) (v := ?_) rfl (by kernel_rfl) (by kernel_rfl) (by kernel_rfl) (fun _ _ _ h => h) (Or.inl ⟨by rfl, ?_⟩) hC0 ?_
      rotate_left
      · intro w hSw; clear hSw; go_simp; (try with_reducible rfl)
      (try simp only [List.getElem_toArray, List.getElem_cons_succ, List.getElem_cons_zero])
      (try simp only [Act.put, List.setIfInBounds_toArray, List.set_cons_zero, List.set_cons_succ])
      refine wpHold_take (i := 8) (v := ?_) rfl (by kernel_rfl) (by kernel_rfl) (by kernel_rfl) (fun _ _ _ h => h) (Or.inl ⟨by rfl, ?_⟩) hC0 ?_
      rotate_left
      · intro w hSw; (try dsimp only at hSw); obtain ⟨⟨⟨z0, z1, z2, z3, z4⟩, z5, ⟨z6, z7, z8⟩, z9, z10, z11⟩, z12⟩ := hSw; go_simp; (try with_reducible rfl)
      (try simp only [List.getElem_toArray, List.getElem_cons_succ, List.getElem_cons_zero])
      (try simp only [Act.put, List.setIfInBounds_toArray, List.set_cons_zero, List.set_cons_succ])
      refine wpHold_take (i := 9) (v := ?_) rfl (by kernel_rfl) (by kernel_rfl) (by kernel_rfl) (fun _ _ _ h => h) (Or.inl ⟨by rfl, ?_⟩) hC0 ?_
      rotate_left
      · intro w hSw; clear hSw; go_simp; (try with_reducible rfl)
      (try simp only [List.getElem_toArray, List.getElem_cons_succ, List.getElem_cons_zero])
      (try simp only [Act.put, List.setIfInBounds_toArray, List.set_cons_zero, List.set_cons_succ])
      refine wpHold_take (i := 10) (v := ?_) rfl (by kernel_rfl) (by kernel_rfl) (by kernel_rfl) (fun _ _ _ h => h) (Or.inl ⟨by rfl, ?_⟩) hC0 ?_
      rotate_left
      · intro w hSw; clear hSw; go_simp; (try with_reducible rfl)
      (try simp only [List.getElem_toArray, List.getElem_cons_succ, List.getElem_cons_zero])
      (try simp only [Act.put, List.setIfInBounds_toArray, List.set_cons_zero, List.set_cons_succ])
      refine wpHold_take (i := 11) (v := ?_) rfl (by kernel_rfl) (by kernel_rfl) (by kernel_rfl) (fun _ _ _ h => h) (Or.inl ⟨by rfl, ?_⟩) hC0 ?_
      rotate_left
      · intro w hSw; (try dsimp only at hSw); obtain ⟨⟨⟨z0, z1, z2, z3, z4⟩, z5, ⟨z6, z7, z8⟩, z9, z10, z11⟩, z12⟩ := hSw; go_simp; (try with_reducible rfl)
      (try simp only [List.getElem_toArray, List.getElem_cons_succ, List.getElem_cons_zero])
      (try simp only [Act.put, List.setIfInBounds_toArray, List.set_cons_zero, List.set_cons_succ])
      refine wpHold_one (k := 12) (by kernel_rfl) rfl (fun K hK => ?_)
      (try simp only [List.getElem_toArray, List.getElem_cons_succ, List.getElem_cons_zero])
      go_simp
      refine (unhide HC1 _ bd0).mono ?_
      rintro e xw_1 ⟨rfl, hb_1⟩
      have cc_1 := below_step bd0 hb_1
      have hC_1 : (fun w' : World => ((w'.cell? ⟨bc, 0, none⟩ = some (.slice lc.a nt lc.c) ∧ w'.cell? ⟨bc, 1, none⟩ = some (.slice (some ⟨bm, om, none⟩) nt mc.c) ∧ w'.cell? ⟨bc, 2, none⟩ = some (.bool tc.s) ∧ w'.cell? ⟨bc, 3, none⟩ = some (.slice tc.a1 tc.n1 tc.c1) ∧ w'.cell? ⟨bc, 4, none⟩ = some (.slice tc.a2 tc.n2 tc.c2)) ∧ w'.cell? ⟨bv, ov + tt, none⟩ = some (.slice (some ⟨b1, o1, none⟩) nt ld) ∧ (w'.cell? ⟨b1, o1 + i * 3, none⟩ = some (.bool tv.s) ∧ w'.cell? ⟨b1, o1 + i * 3 + 1, none⟩ = some (.slice tv.a1 tv.n1 tv.c1) ∧ w'.cell? ⟨b1, o1 + i * 3 + 2, none⟩ = some (.slice tv.a2 tv.n2 tv.c2)) ∧ (w'.cell? ⟨bm, om + i * 3, none⟩ = some (.bool tk.s) ∧ w'.cell? ⟨bm, om + i * 3 + 1, none⟩ = some (.slice tk.a1 tk.n1 tk.c1) ∧ w'.cell? ⟨bm, om + i * 3 + 2, none⟩ = some (.slice tk.a2 tk.n2 tk.c2))) ∧ w'.cell? ⟨bv, ov + u, none⟩ = some (.slice lb nt le)) xw_1 := unhide HCC _ cc_1
      refine hK.out _ _ hC_1 ?_
      clear hK K
      (try simp only [Act.put, List.setIfInBounds_toArray, List.set_cons_zero, List.set_cons_succ])
      refine wpHold_take (i := 13) (v := ?_) rfl (by kernel_rfl) (by kernel_rfl) (by kernel_rfl) (fun _ _ _ h => h) (Or.inl ⟨by rfl, ?_⟩) hC_1 ?_
      rotate_left
      · intro w hSw; clear hSw; go_simp; (try with_reducible rfl)
      (try simp only [List.getElem_toArray, List.getElem_cons_succ, List.getElem_cons_zero])
      (try simp only [Act.put, List.setIfInBounds_toArray, List.set_cons_zero, List.set_cons_succ])
      refine wpHold_take (i := 14) (v := ?_) rfl (by kernel_rfl) (by kernel_rfl) (by kernel_rfl) (fun _ _ _ h => h) (Or.inl ⟨by rfl, ?_⟩) hC_1 ?_
      rotate_left
      · intro w hSw; clear hSw; go_simp; (try with_reducible rfl)
      (try simp only [List.getElem_toArray, List.getElem_cons_succ, List.getElem_cons_zero])
      (try simp only [Act.put, List.setIfInBounds_toArray, List.set_cons_zero, List.set_cons_succ])
      refine wpHold_take (i := 15) (v := ?_) rfl (by kernel_rfl) (by kernel_rfl) (by kernel_rfl) (fun _ _ _ h => h) (Or.inl ⟨by rfl, ?_⟩) hC_1 ?_
      rotate_left
      · intro w hSw; clear hSw; go_simp; (try with_reducible rfl)
      (try simp only [List.getElem_toArray, List.getElem_cons_succ, List.getElem_cons_zero])
      (try simp only [Act.put, List.setIfInBounds_toArray, List.set_cons_zero, List.set_cons_succ])
      refine wpHold_take (i := 16) (v := ?_) rfl (by kernel_rfl) (by kernel_rfl) (by kernel_rfl) (fun _ _ _ h => h) (Or.inl ⟨by rfl, ?_⟩) hC_1 ?_
      rotate_left
      · intro w hSw; clear hSw; go_simp; (try with_reducible rfl)
      (try simp only [List.getElem_toArray, List.getElem_cons_succ, List.getElem_cons_zero])
      (try simp only [Act.put, List.setIfInBounds_toArray, List.set_cons_zero, List.set_cons_succ])
      refine wpHold_take (i := 17) (v := ?_) rfl (by kernel_rfl) (by kernel_rfl) (by kernel_rfl) (fun _ _ _ h => h) (Or.inl ⟨by rfl, ?_⟩) hC_1 ?_
      rotate_left
      · intro w hSw; clear hSw; go_simp; (try with_reducible rfl)
      (try simp only [List.getElem_toArray, List.getElem_cons_succ, List.getElem_cons_zero])
      (try simp only [Act.put, List.setIfInBounds_toArray, List.set_cons_zero, List.set_cons_succ])
      (try simp only [hd0])
      refine wpHold_take (i := 18) (v := ?_) rfl (by kernel_rfl) (by kernel_rfl) (by kernel_rfl) (fun _ _ _ h => h) (Or.inl ⟨by rfl, ?_⟩) hC_1 ?_
      rotate_left
      · intro w hSw; clear hSw; go_simp; (try with_reducible rfl)
      (try simp only [List.getElem_toArray, List.getElem_cons_succ, List.getElem_cons_zero])
      (try simp only [Act.put, List.setIfInBounds_toArray, List.set_cons_zero, List.set_cons_succ])
      refine wpHold_take (i := 19) (v := ?_) rfl (by kernel_rfl) (by kernel_rfl) (by kernel_rfl) (fun _ _ _ h => h) (Or.inl ⟨by rfl, ?_⟩) hC_1 ?_
      rotate_left
      · intro w hSw; clear hSw; go_simp; (try with_reducible rfl)
      (try simp only [List.getElem_toArray, List.getElem_cons_succ, List.getElem_cons_zero])
      (try simp only [Act.put, List.setIfInBounds_toArray, List.set_cons_zero, List.set_cons_succ])
      refine wpHold_take (i := 20) (v := ?_) rfl (by kernel_rfl) (by kernel_rfl) (by kernel_rfl) (fun _ _ _ h => h) (Or.inl ⟨by rfl, ?_⟩) hC_1 ?_
      rotate_left
      · intro w hSw; clear hSw; go_simp; (try with_reducible rfl)
      (try simp only [List.getElem_toArray, List.getElem_cons_succ, List.getElem_cons_zero])
      (try simp only [Act.put, List.setIfInBounds_toArray, List.set_cons_zero, List.set_cons_succ])
      refine wpHold_take (i := 21) (v := ?_) rfl (by kernel_rfl) (by kernel_rfl) (by kernel_rfl) (fun _ _ _ h => h) (Or.inl ⟨by rfl, ?_⟩) hC_1 ?_
      rotate_left
      · intro w hSw; (try dsimp only at hSw); obtain ⟨⟨⟨z0, z1, z2, z3, z4⟩, z5, ⟨z6, z7, z8⟩, z9, z10, z11⟩, z12⟩ := hSw; go_simp; (try with_reducible rfl)
      (try simp only [List.getElem_toArray, List.getElem_cons_succ, List.getElem_cons_zero])
      (try simp only [Act.put, List.setIfInBounds_toArray, List.set_cons_zero, List.set_cons_succ])
      refine wpHold_take (i := 22) (v := ?_) rfl (by kernel_rfl) (by kernel_rfl) (by kernel_rfl) (fun _ _ _ h => h) (Or.inl ⟨by rfl, ?_⟩) hC_1 ?_
      rotate_left
      · intro w hSw; clear hSw; go_simp; (try with_reducible rfl)
      (try simp only [List.getElem_toArray, List.getElem_cons_succ, List.getElem_cons_zero])
      (try simp only [Act.put, List.setIfInBounds_toArray, List.set_cons_zero, List.set_cons_succ])
      refine wpHold_take (i := 23) (v := ?_) rfl (by kernel_rfl) (by kernel_rfl) (by kernel_rfl) (fun _ _ _ h => h) (Or.inl ⟨by rfl, ?_⟩) hC_1 ?_
      rotate_left
      · intro w hSw; clear hSw; go_simp; (try with_reducible rfl)
      (try simp only [List.getElem_toArray, List.getElem_cons_succ, List.getElem_cons_zero])
      (try simp only [Act.put, List.setIfInBounds_toArray, List.set_cons_zero, List.set_cons_succ])
      refine wpHold_take (i := 24) (v := ?_) rfl (by kernel_rfl) (by kernel_rfl) (by kernel_rfl) (fun _ _ _ h => h) (Or.inl ⟨by rfl, ?_⟩) hC_1 ?_
      rotate_left
      · intro w hSw; (try dsimp only at hSw); obtain ⟨⟨⟨z0, z1, z2, z3, z4⟩, z5, ⟨z6, z7, z8⟩, z9, z10, z11⟩, z12⟩ := hSw; go_simp; (try with_reducible rfl)
      (try simp only [List.getElem_toArray, List.getElem_cons_succ, List.getElem_cons_zero])
      (try simp only [Act.put, List.setIfInBounds_toArray, List.set_cons_zero, List.set_cons_succ])
      refine wpHold_take (i := 25) (v := ?_) rfl (by kernel_rfl) (by kernel_rfl) (by kernel_rfl) (fun _ _ _ h => h) (Or.inl ⟨by rfl, ?_⟩) hC_1 ?_
      rotate_left
      · intro w hSw; (try dsimp only at hSw); obtain ⟨⟨⟨z0, z1, z2, z3, z4⟩, z5, ⟨z6, z7, z8⟩, z9, z10, z11⟩, z12⟩ := hSw; go_simp; (try with_reducible rfl)
      (try simp only [List.getElem_toArray, List.getElem_cons_succ, List.getElem_cons_zero])
      (try simp only [Act.put, List.setIfInBounds_toArray, List.set_cons_zero, List.set_cons_succ])
      refine wpHold_take (i := 26) (v := ?_) rfl (by kernel_rfl) (by kernel_rfl) (by kernel_rfl) (fun _ _ _ h => h) (Or.inl ⟨by rfl, ?_⟩) hC_1 ?_
      rotate_left
      · intro w hSw; clear hSw; go_simp; (try with_reducible rfl)
      (try simp only [List.getElem_toArray, List.getElem_cons_succ, List.getElem_cons_zero])
      (try simp only [Act.put, List.setIfInBounds_toArray, List.set_cons_zero, List.set_cons_succ])
      refine wpHold_take (i := 27) (v := ?_) rfl (by kernel_rfl) (by kernel_rfl) (by kernel_rfl) (fun _ _ _ h => h) (Or.inl ⟨by rfl, ?_⟩) hC_1 ?_
      rotate_left
      · intro w hSw; clear hSw; go_simp; (try with_reducible rfl)
      (try simp only [List.getElem_toArray, List.getElem_cons_succ, List.getElem_cons_zero])
      (try simp only [Act.put, List.setIfInBounds_toArray, List.set_cons_zero, List.set_cons_succ])
      refine wpHold_take (i := 28) (v := ?_) rfl (by kernel_rfl) (by kernel_rfl) (by kernel_rfl) (fun _ _ _ h => h) (Or.inl ⟨by rfl, ?_⟩) hC_1 ?_
      rotate_left
      · intro w hSw; clear hSw; go_simp; (try with_reducible rfl)
      (try simp only [List.getElem_toArray, List.getElem_cons_succ, List.getElem_cons_zero])
      (try simp only [Act.put, List.setIfInBounds_toArray, List.set_cons_zero, List.set_cons_succ])
      refine wpHold_take (i := 29) (v := ?_) rfl (by kernel_rfl) (by kernel_rfl) (by kernel_rfl) (fun _ _ _ h => h) (Or.inl ⟨by rfl, ?_⟩) hC_1 ?_
      rotate_left
      · intro w hSw; clear hSw; go_simp; (try with_reducible rfl)
      (try simp only [List.getElem_toArray, List.getElem_cons_succ, List.getElem_cons_zero])
      (try simp only [Act.put, List.setIfInBounds_toArray, List.set_cons_zero, List.set_cons_succ])
      refine wpHold_take (i := 30) (v := ?_) rfl (by kernel_rfl) (by kernel_rfl) (by kernel_rfl) (fun _ _ _ h => h) (Or.inl ⟨by rfl, ?_⟩) hC_1 ?_
      rotate_left
      · intro w hSw; (try dsimp only at hSw); obtain ⟨⟨⟨z0, z1, z2, z3, z4⟩, z5, ⟨z6, z7, z8⟩, z9, z10, z11⟩, z12⟩ := hSw; go_simp; (try with_reducible rfl)
      (try simp only [List.getElem_toArray, List.getElem_cons_succ, List.getElem_cons_zero])
      (try simp only [Act.put, List.setIfInBounds_toArray, List.set_cons_zero, List.set_cons_succ])
      refine wpHold_take (i := 31) (v := ?_) rfl (by kernel_rfl) (by kernel_rfl) (by kernel_rfl) (fun _ _ _ h => h) (Or.inl ⟨by rfl, ?_⟩) hC_1 ?_
      rotate_left
      · intro w hSw; clear hSw; go_simp; (try with_reducible rfl)
      (try simp only [List.getElem_toArray, List.getElem_cons_succ, List.getElem_cons_zero])
      (try simp only [Act.put, List.setIfInBounds_toArray, List.set_cons_zero, List.set_cons_succ])
      refine wpHold_one (k := 32) (by kernel_rfl) rfl (fun K hK => ?_)
      (try simp only [List.getElem_toArray, List.getElem_cons_succ, List.getElem_cons_zero])
      go_simp
      refine (unhide HON1 _ cc_1).mono ?_
      rintro e xw_2 ⟨xv_2, rfl, hv_2, hb_2⟩
      have cc_2 := below_step cc_1 hb_2
      have hC_2 : (fun w' : World => ((w'.cell? ⟨bc, 0, none⟩ = some (.slice lc.a nt lc.c) ∧ w'.cell? ⟨bc, 1, none⟩ = some (.slice (some ⟨bm, om, none⟩) nt mc.c) ∧ w'.cell? ⟨bc, 2, none⟩ = some (.bool tc.s) ∧ w'.cell? ⟨bc, 3, none⟩ = some (.slice tc.a1 tc.n1 tc.c1) ∧ w'.cell? ⟨bc, 4, none⟩ = some (.slice tc.a2 tc.n2 tc.c2)) ∧ w'.cell? ⟨bv, ov + tt, none⟩ = some (.slice (some ⟨b1, o1, none⟩) nt ld) ∧ (w'.cell? ⟨b1, o1 + i * 3, none⟩ = some (.bool tv.s) ∧ w'.cell? ⟨b1, o1 + i * 3 + 1, none⟩ = some (.slice tv.a1 tv.n1 tv.c1) ∧ w'.cell? ⟨b1, o1 + i * 3 + 2, none⟩ = some (.slice tv.a2 tv.n2 tv.c2)) ∧ (w'.cell? ⟨bm, om + i * 3, none⟩ = some (.bool tk.s) ∧ w'.cell? ⟨bm, om + i * 3 + 1, none⟩ = some (.slice tk.a1 tk.n1 tk.c1) ∧ w'.cell? ⟨bm, om + i * 3 + 2, none⟩ = some (.slice tk.a2 tk.n2 tk.c2))) ∧ w'.cell? ⟨bv, ov + u, none⟩ = some (.slice lb nt le)) xw_2 := unhide HCC _ cc_2
      refine hK.out _ _ hC_2 ?_
      clear hK K
      (try simp only [Act.put, List.setIfInBounds_toArray, List.set_cons_zero, List.set_cons_succ])
      refine wpHold_one (k := 33) (by kernel_rfl) rfl (fun K hK => ?_)
      (try simp only [List.getElem_toArray, List.getElem_cons_succ, List.getElem_cons_zero])
      go_simp
      refine (unhide HC2 _ _ cc_2 hv_2).mono ?_
      rintro e xw_3 ⟨rfl, hb_3⟩
      have cc_3 := below_step cc_2 hb_3
      have hC_3 : (fun w' : World => ((w'.cell? ⟨bc, 0, none⟩ = some (.slice lc.a nt lc.c) ∧ w'.cell? ⟨bc, 1, none⟩ = some (.slice (some ⟨bm, om, none⟩) nt mc.c) ∧ w'.cell? ⟨bc, 2, none⟩ = some (.bool tc.s) ∧ w'.cell? ⟨bc, 3, none⟩ = some (.slice tc.a1 tc.n1 tc.c1) ∧ w'.cell? ⟨bc, 4, none⟩ = some (.slice tc.a2 tc.n2 tc.c2)) ∧ w'.cell? ⟨bv, ov + tt, none⟩ = some (.slice (some ⟨b1, o1, none⟩) nt ld) ∧ (w'.cell? ⟨b1, o1 + i * 3, none⟩ = some (.bool tv.s) ∧ w'.cell? ⟨b1, o1 + i * 3 + 1, none⟩ = some (.slice tv.a1 tv.n1 tv.c1) ∧ w'.cell? ⟨b1, o1 + i * 3 + 2, none⟩ = some (.slice tv.a2 tv.n2 tv.c2)) ∧ (w'.cell? ⟨bm, om + i * 3, none⟩ = some (.bool tk.s) ∧ w'.cell? ⟨bm, om + i * 3 + 1, none⟩ = some (.slice tk.a1 tk.n1 tk.c1) ∧ w'.cell? ⟨bm, om + i * 3 + 2, none⟩ = some (.slice tk.a2 tk.n2 tk.c2))) ∧ w'.cell? ⟨bv, ov + u, none⟩ = some (.slice lb nt le)) xw_3 := unhide HCC _ cc_3
      refine hK.out _ _ hC_3 ?_
      clear hK K
      (try simp only [Act.put, List.setIfInBounds_toArray, List.set_cons_zero, List.set_cons_succ])
      refine wpHold_take (i := 34) (v := ?_) rfl (by kernel_rfl) (by kernel_rfl) (by kernel_rfl) (fun _ _ _ h => h) (Or.inl ⟨by rfl, ?_⟩) hC_3 ?_
      rotate_left
      · intro w hSw; clear hSw; go_simp; (try with_reducible rfl)
      (try simp only [List.getElem_toArray, List.getElem_cons_succ, List.getElem_cons_zero])
      (try simp only [Act.put, List.setIfInBounds_toArray, List.set_cons_zero, List.set_cons_succ])
      refine wpHold_take (i := 35) (v := ?_) rfl (by kernel_rfl) (by kernel_rfl) (by kernel_rfl) (fun _ _ _ h => h) (Or.inl ⟨by rfl, ?_⟩) hC_3 ?_
      rotate_left
      · intro w hSw; clear hSw; go_simp; (try with_reducible rfl)
      (try simp only [List.getElem_toArray, List.getElem_cons_succ, List.getElem_cons_zero])
      (try simp only [Act.put, List.setIfInBounds_toArray, List.set_cons_zero, List.set_cons_succ])
      refine wpHold_take (i := 36) (v := ?_) rfl (by kernel_rfl) (by kernel_rfl) (by kernel_rfl) (fun _ _ _ h => h) (Or.inl ⟨by rfl, ?_⟩) hC_3 ?_
      rotate_left
      · intro w hSw; clear hSw; go_simp; (try with_reducible rfl)
      (try simp only [List.getElem_toArray, List.getElem_cons_succ, List.getElem_cons_zero])
      (try simp only [Act.put, List.setIfInBounds_toArray, List.set_cons_zero, List.set_cons_succ])
      refine wpHold_done (by kernel_rfl) ?_ _
      have HWc := hide cc_3
      have ⟨⟨⟨z0, z1, z2, z3, z4⟩, z5, ⟨z6, z7, z8⟩, z9, z10, z11⟩, z12⟩ := hC_3
      clear hC0 hC_1 hC_2 hC_3 cc_1 cc_2 cc_3 bd0 hb_1 hb_2 hb_3 hv_2 HCC HON1 HC2
      have bA := alloc_below xw_3 (.cells #[.bool tk.s, .slice tk.a1 tk.n1 tk.c1, .slice tk.a2 tk.n2 tk.c2] 35)
      have X14 := BoxIs.new (unhide HKR xw_3 (unhide HWc))
      obtain ⟨W14, hW14⟩ : ∃ W, xw_3.alloc (.cells #[.bool tk.s, .slice tk.a1 tk.n1 tk.c1, .slice tk.a2 tk.n2 tk.c2] 35) = W := ⟨_, rfl⟩
      obtain ⟨b14, hb14⟩ : ∃ b, xw_3.heap.size = b := ⟨_, rfl⟩
      rw [hW14] at bA X14
      rw [hb14] at X14
      have HX14 := hide X14
      have HGX : Hid (wr.heap.size ≤ b14) := by show _ ≤ b14; rw [← hb14]; exact (unhide HWc).size
      have HW14 := hide (below_step (unhide HWc) bA)
      clear bA X14
      have ⟨k0, k1, k2, k3, k4⟩ := unhide HCA W14 (unhide HW14)
      have bVW := below_step (unhide HT).bl (unhide HW14)
      have hov : LawIs W14 (.slice ao nt co) (row (ovr M (mor qs) u) nt) := by
        have := (unhide HOL).below bVW
        rw [← unhide HU] at this
        exact this
      have hon2 : Stp.on (chn P gs c) (bf (row (ovr M (mor qs) u) nt)) i = Stp.on M (ovr M (mor qs) u) i := by
        rw [unhide HM]
        exact on_congr (fun k hk => row_get (by rw [unhide HMn] at hk; exact hk)) i
      have HON2 := hide (on_any (cval lc mc tc) (.slice ao nt co) P gs c (row (ovr M (mor qs) u) nt) i 300000 W14 ((unhide HXV).keep bVW).chain (unhide HSM) (unhide HGM) (unhide HLP) hov (by rw [row_length]; exact (unhide HPL).symm) (fun j hj => by
        rw [row_get (by rw [← unhide HPL]; exact hj), ← unhide HM]
        have := unhide HU
        exact ovr_small (unhide HSM) (unhide HGM) (unhide HMR) (by omega) hj) (by rw [KKe]; omega))
      rw [unhide HCV, unhide HMA, hon2] at HON2
      clear hov hon2 bVW
      go_wp2_with fail
      clear z0 z1 z2 z3 z4 z5 z6 z7 z8 z9 z10 z11 z12 hW14 hb14 k0 k1 k2 k3 k4
      refine (unhide HON2).mono ?_
      rintro e w15 ⟨v15, rfl, hv15, hb15⟩
      obtain ⟨ty, rfl, ry⟩ := tri_of hv15
      simp only [Tri.val]
      have bA := alloc_below w15 (.cells #[.bool ty.s, .slice ty.a1 ty.n1 ty.c1, .slice ty.a2 ty.n2 ty.c2] 35)
      have X15 := BoxIs.new ry
      have X14 := ((unhide HX14).keep hb15).keep bA
      obtain ⟨W15, hW15⟩ : ∃ W, w15.alloc (.cells #[.bool ty.s, .slice ty.a1 ty.n1 ty.c1, .slice ty.a2 ty.n2 ty.c2] 35) = W := ⟨_, rfl⟩
      obtain ⟨b15, hb15'⟩ : ∃ b, w15.heap.size = b := ⟨_, rfl⟩
      rw [hW15] at bA X15 X14
      rw [hb15'] at X15
      have ⟨m0, m1, m2⟩ := X15.cells _ (Below.refl _ _)
      have ⟨m3, m4, m5⟩ := X14.cells _ (Below.refl _ _)
      have hRy : RS (Stp.on M (ovr M (mor qs) u) i) 3000000 := by
        rw [← unhide HM]
        exact (on_RS (unhide HSM) (unhide HGM) (unhide HLP) (fun j hj => ovr_small (unhide HSM) (unhide HGM) (unhide HMR) (t := u) (by have := unhide HU; omega) hj)).mono (by omega)
      have HC4 := hide (cmpR_all ty.val tk.val _ _ W15 X15.2 X14.2 3000000 hRy ((unhide HRG).mono (by omega)) (by rw [KKe]; omega))
      have HX15 := hide X15
      have HX14' := hide X14
      have HW15 := hide (below_step (unhide HW14) (below_step hb15 bA))
      clear hv15 ry hb15 bA X15 X14 hRy HX14 HW14 HON2
      by_cases hgt : gs[i]! < Stp.on M (ovr M (mor qs) u) i
      · rw [cmpv_gt hgt] at HC4
        have HBSR : Hid (Stp.on M (ovr M (mor qs) u) i = bsr M (mor qs) tt i) := by
          show _ = _
          rw [← unhide HU, bsr_succ, ← unhide HM]
          unfold Stp.mx
          rw [← unhide HM] at hgt
          exact (if_pos hgt).symm
        clear hgt
        go_wp2_with fail
        refine (unhide HC4).mono ?_
        rintro e w16 ⟨rfl, hb16⟩
        have X15 := (unhide HX15).keep hb16
        have X14 := (unhide HX14').keep hb16
        have ⟨n0, n1, n2⟩ := X15.cells _ (Below.refl _ _)
        have ⟨n3, n4, n5⟩ := X14.cells _ (Below.refl _ _)
        have ⟨l0, l1, l2⟩ := X14.free
        have X17 := X14.set (t' := ty) (X15.2)
        have B17 := (((below_step (unhide HW15) hb16).setCell (p := ⟨b14, 0, none⟩) (unhide HGX) (.bool ty.s)).setCell (p := ⟨b14, 1, none⟩) (unhide HGX) (.slice ty.a1 ty.n1 ty.c1)).setCell (p := ⟨b14, 2, none⟩) (unhide HGX) (.slice ty.a2 ty.n2 ty.c2)
        obtain ⟨W17, hW17⟩ : ∃ W, ((w16.setCell ⟨b14, 0, none⟩ (.bool ty.s)).setCell ⟨b14, 1, none⟩ (.slice ty.a1 ty.n1 ty.c1)).setCell ⟨b14, 2, none⟩ (.slice ty.a2 ty.n2 ty.c2) = W := ⟨_, rfl⟩
        rw [hW17] at X17 B17
        rw [unhide HBSR] at X17
        have HXB0 := hide X17
        have HW := hide B17
        have ⟨k0, k1, k2, k3, k4⟩ := unhide HCA W17 B17
        clear X15 X14 X17 B17 hb16 HC4 HX15 HX14' HW15 m0 m1 m2 m3 m4 m5 hW15 hb15'
        have HMO := hide (mor_not (qs := qs) (k := kk) (fun h => hk (by have := unhide HNQ; omega)))
        have HXB : Hid (BoxIs W17 b14 ty (ovr M (mor qs) tt i)) := by
          show BoxIs _ _ _ _
          rw [← unhide HOV, unhide HMO, Rat.add_zero]
          exact unhide HXB0
        clear HXB0
        have bL := alloc_below W17 (.cells #[.bool ty.s, .slice ty.a1 ty.n1 ty.c1, .slice ty.a2 ty.n2 ty.c2] 35)
        have T2 := ((unhide HT).keep (unhide HW)).keep bL
        have hr3 := (unhide HXB).2.below bL
        have XB3 := (unhide HXB).keep bL
        have ⟨x0, x1, x2⟩ := (unhide HXB).cells _ (Below.refl _ _)
        have hlen56 : (ts.length + 1) * 56 ≤ 140737488355328 := by have := unhide HTS; omega
        have hlen63 : ts.length + 1 ≤ maxLen := by have := unhide HTS; unfold maxLen; omega
        have hsz2 : (W17.alloc (.cells #[.bool ty.s, .slice ty.a1 ty.n1 ty.c1, .slice ty.a2 ty.n2 ty.c2] 35)).heap.size = W17.heap.size + 1 := by rw [alloc_heap, Array.size_push]
        have HT2 := hide T2
        have HR3 := hide hr3
        have HXB3 := hide XB3
        have HSZ := hide hsz2
        have HL56 := hide hlen56
        have HL63 := hide hlen63
        have HBA := hide T2.bl.size
        clear T2 hr3 XB3 hsz2 hlen56 hlen63 bL
        go_wp2_with (at_builtin; go_loud (refine wpList_append_tri _ rfl _ _ _ rfl V.heap.size 35 ti 56 Tryd.underlying31 (unhide HI) (unhide HZ) hz1 hz2 _ ts.length (tcells ts) rfl (unhide HT2).own (unhide HT2).no ⟨W17.heap.size, 0, none⟩ 1 1 ty.cells rfl rfl (news_tri W17 ty _) (tri_one ty) ty.notWord (by decide) (unhide HL63) (unhide HL56) (unhide HBA) (W17.heap.size + 1) (unhide HSZ) ?_; intro g cap w4 hown4 hgrow hat hlt4 hno4))
        have FIN := (unhide HT2).push (by rw [unhide HTS, row_get hlt]; exact unhide HR3) hown4 hgrow hno4 (unhide HBA)
        have hgx : b14 < (W17.alloc (.cells #[.bool ty.s, .slice ty.a1 ty.n1 ty.c1, .slice ty.a2 ty.n2 ty.c2] 35)).heap.size := (unhide HXB3).lt
        have hnex : ∀ k, u12.ownBlock = some k → k ≠ b14 := fun k hk e => by
          have h1 := (ownsR_block (unhide HT).own k hk).2
          have h2 := unhide HGX
          omega
        have cfar : ∀ o : Nat, w4.cell? ⟨b14, o, none⟩ = (W17.alloc (.cells #[.bool ty.s, .slice ty.a1 ty.n1 ty.c1, .slice ty.a2 ty.n2 ty.c2] 35)).cell? ⟨b14, o, none⟩ := fun o => hgrow.cell_far ⟨b14, o, none⟩ hgx (fun e => hnex b14 e.symm rfl)
        have rfar : RatIs w4 ty.val (ovr M (mor qs) tt i) := (unhide HXB3).2.far hgrow (unhide HT2).no
        have xc := (unhide HXB3).cells _ (Below.refl _ _)
        have hb14 : b14 < w4.heap.size := Nat.lt_of_lt_of_le hgx hgrow.size
        have vc := unhide HVC w4 FIN.bl
        have HCC : Hid (∀ W, Below w4.heap.size w4 W → (fun w' : World => (w'.cell? ⟨b14, 0, none⟩ = some (.bool ty.s) ∧ w'.cell? ⟨b14, 1, none⟩ = some (.slice ty.a1 ty.n1 ty.c1) ∧ w'.cell? ⟨b14, 2, none⟩ = some (.slice ty.a2 ty.n2 ty.c2)) ∧ w'.cell? ⟨bv, ov + tt, none⟩ = some (.slice (some ⟨b1, o1, none⟩) nt ld) ∧ w'.cell? ⟨b1, o1 + i * 3, none⟩ = some (.bool tv.s) ∧ w'.cell? ⟨b1, o1 + i * 3 + 1, none⟩ = some (.slice tv.a1 tv.n1 tv.c1) ∧ w'.cell? ⟨b1, o1 + i * 3 + 2, none⟩ = some (.slice tv.a2 tv.n2 tv.c2)) W) := fun W hW => by
          refine ⟨?_, unhide HVC W (below_step FIN.bl hW)⟩
          rw [hW.cell (p := ⟨b14, 0, none⟩) hb14, hW.cell (p := ⟨b14, 1, none⟩) hb14, hW.cell (p := ⟨b14, 2, none⟩) hb14, cfar, cfar, cfar]
          exact xc
        have hle := cmpv_ge (unhide HENV)
        obtain ⟨y3, hy3⟩ : ∃ y, cmpv (ovr M (mor qs) tt i) (Stp.env M tt i) = y := ⟨_, rfl⟩
        rw [hy3] at hle
        have hd3 : decide (y3 < 0) = false := decide_eq_false (by omega)
        have HC3 : Hid (∀ W, Below w4.heap.size w4 W → Calls Tryd.prog 12 #[.agg #[.bool ty.s, .slice ty.a1 ty.n1 ty.c1, .slice ty.a2 ty.n2 ty.c2], .agg #[.bool tv.s, .slice tv.a1 tv.n1 tv.c1, .slice tv.a2 tv.n2 tv.c2]] W fun e w' => e = .returned (.int .i64 y3) ∧ Below W.heap.size W w') := fun W hW => by
          have := cmpR_all ty.val tv.val _ _ W (rfar.below hW) ((unhide HVR _ (below_step FIN.bl hW))) 300000 (unhide HRO) (unhide HRE) (by rw [KKe]; omega)
          rw [hy3] at this
          exact this
        have HFI := hide FIN
        clear FIN hown4 hgrow hat hlt4 hno4 HT2 HR3 HXB3 hgx hnex cfar rfar xc hb14 vc hle hy3 x0 x1 x2
        go_wp2_with fail
        refine wp_region_hold (fun w' : World => (w'.cell? ⟨b14, 0, none⟩ = some (.bool ty.s) ∧ w'.cell? ⟨b14, 1, none⟩ = some (.slice ty.a1 ty.n1 ty.c1) ∧ w'.cell? ⟨b14, 2, none⟩ = some (.slice ty.a2 ty.n2 ty.c2)) ∧ w'.cell? ⟨bv, ov + tt, none⟩ = some (.slice (some ⟨b1, o1, none⟩) nt ld) ∧ w'.cell? ⟨b1, o1 + i * 3, none⟩ = some (.bool tv.s) ∧ w'.cell? ⟨b1, o1 + i * 3 + 1, none⟩ = some (.slice tv.a1 tv.n1 tv.c1) ∧ w'.cell? ⟨b1, o1 + i * 3 + 2, none⟩ = some (.slice tv.a2 tv.n2 tv.c2)) (by kernel_rfl) ?_
        have bd0 : Below w4.heap.size w4 w4.drew := (Below.refl _ _).drew
        have hC0 : (fun w' : World => (w'.cell? ⟨b14, 0, none⟩ = some (.bool ty.s) ∧ w'.cell? ⟨b14, 1, none⟩ = some (.slice ty.a1 ty.n1 ty.c1) ∧ w'.cell? ⟨b14, 2, none⟩ = some (.slice ty.a2 ty.n2 ty.c2)) ∧ w'.cell? ⟨bv, ov + tt, none⟩ = some (.slice (some ⟨b1, o1, none⟩) nt ld) ∧ w'.cell? ⟨b1, o1 + i * 3, none⟩ = some (.bool tv.s) ∧ w'.cell? ⟨b1, o1 + i * 3 + 1, none⟩ = some (.slice tv.a1 tv.n1 tv.c1) ∧ w'.cell? ⟨b1, o1 + i * 3 + 2, none⟩ = some (.slice tv.a2 tv.n2 tv.c2)) w4.drew := unhide HCC _ bd0
        refine wpHold_take (i := 0) (v := ?_) rfl (by kernel_rfl) (by kernel_rfl) (by kernel_rfl) (fun _ _ _ h => h) (Or.inl ⟨by rfl, ?_⟩) hC0 ?_
        rotate_left
        · intro w hSw; (try dsimp only at hSw); obtain ⟨⟨z0, z1, z2⟩, z3, z4, z5, z6⟩ := hSw; go_simp; (try with_reducible rfl)
        (try simp only [List.getElem_toArray, List.getElem_cons_succ, List.getElem_cons_zero])
        (try simp only [Act.put, List.setIfInBounds_toArray, List.set_cons_zero, List.set_cons_succ])
        refine wpHold_take (i := 1) (v := ?_) rfl (by kernel_rfl) (by kernel_rfl) (by kernel_rfl) (fun _ _ _ h => h) (Or.inl ⟨by rfl, ?_⟩) hC0 ?_
        rotate_left
        · intro w hSw; clear hSw; go_simp; (try with_reducible rfl)
        (try simp only [List.getElem_toArray, List.getElem_cons_succ, List.getElem_cons_zero])
        (try simp only [Act.put, List.setIfInBounds_toArray, List.set_cons_zero, List.set_cons_succ])
        refine wpHold_take (i := 2) (v := ?_) rfl (by kernel_rfl) (by kernel_rfl) (by kernel_rfl) (fun _ _ _ h => h) (Or.inl ⟨by rfl, ?_⟩) hC0 ?_
        rotate_left
        · intro w hSw; clear hSw; go_simp; (try with_reducible rfl)
        (try simp only [List.getElem_toArray, List.getElem_cons_succ, List.getElem_cons_zero])
        (try simp only [Act.put, List.setIfInBounds_toArray, List.set_cons_zero, List.set_cons_succ])
        refine wpHold_take (i := 3) (v := ?_) rfl (by kernel_rfl) (by kernel_rfl) (by kernel_rfl) (fun _ _ _ h => h) (Or.inl ⟨by rfl, ?_⟩) hC0 ?_
        rotate_left
        · intro w hSw; clear hSw; go_simp; (try with_reducible rfl)
        (try simp only [List.getElem_toArray, List.getElem_cons_succ, List.getElem_cons_zero])
        (try simp only [Act.put, List.setIfInBounds_toArray, List.set_cons_zero, List.set_cons_succ])
        refine wpHold_take (i := 4) (v := ?_) rfl (by kernel_rfl) (by kernel_rfl) (by kernel_rfl) (fun _ _ _ h => h) (Or.inl ⟨by rfl, ?_⟩) hC0 ?_
        rotate_left
        · intro w hSw; (try dsimp only at hSw); obtain ⟨⟨z0, z1, z2⟩, z3, z4, z5, z6⟩ := hSw; go_simp; (try with_reducible rfl)
        (try simp only [List.getElem_toArray, List.getElem_cons_succ, List.getElem_cons_zero])
        (try simp only [Act.put, List.setIfInBounds_toArray, List.set_cons_zero, List.set_cons_succ])
        refine wpHold_take (i := 5) (v := ?_) rfl (by kernel_rfl) (by kernel_rfl) (by kernel_rfl) (fun _ _ _ h => h) (Or.inl ⟨by rfl, ?_⟩) hC0 ?_
        rotate_left
        · intro w hSw; clear hSw; go_simp; (try with_reducible rfl)
        (try simp only [List.getElem_toArray, List.getElem_cons_succ, List.getElem_cons_zero])
        (try simp only [Act.put, List.setIfInBounds_toArray, List.set_cons_zero, List.set_cons_succ])
        refine wpHold_take (i := 6) (v := ?_) rfl (by kernel_rfl) (by kernel_rfl) (by kernel_rfl) (fun _ _ _ h => h) (Or.inl ⟨by rfl, ?_⟩) hC0 ?_
        rotate_left
        · intro w hSw; clear hSw; go_simp; (try with_reducible rfl)
        (try simp only [List.getElem_toArray, List.getElem_cons_succ, List.getElem_cons_zero])
        (try simp only [Act.put, List.setIfInBounds_toArray, List.set_cons_zero, List.set_cons_succ])
        refine wpHold_take (i := 7) (v := ?_) rfl (by kernel_rfl) (by kernel_rfl) (by kernel_rfl) (fun _ _ _ h => h) (Or.inl ⟨by rfl, ?_⟩) hC0 ?_
        rotate_left
        · intro w hSw; (try dsimp only at hSw); obtain ⟨⟨z0, z1, z2⟩, z3, z4, z5, z6⟩ := hSw; go_simp; (try with_reducible rfl)
        (try simp only [List.getElem_toArray, List.getElem_cons_succ, List.getElem_cons_zero])
        (try simp only [Act.put, List.setIfInBounds_toArray, List.set_cons_zero, List.set_cons_succ])
        refine wpHold_one (k := 8) (by kernel_rfl) rfl (fun K hK => ?_)
        (try simp only [List.getElem_toArray, List.getElem_cons_succ, List.getElem_cons_zero])
        go_simp
        refine (unhide HC3 _ bd0).mono ?_
        rintro e xw_1 ⟨rfl, hb_1⟩
        have cc_1 := below_step bd0 hb_1
        have hC_1 : (fun w' : World => (w'.cell? ⟨b14, 0, none⟩ = some (.bool ty.s) ∧ w'.cell? ⟨b14, 1, none⟩ = some (.slice ty.a1 ty.n1 ty.c1) ∧ w'.cell? ⟨b14, 2, none⟩ = some (.slice ty.a2 ty.n2 ty.c2)) ∧ w'.cell? ⟨bv, ov + tt, none⟩ = some (.slice (some ⟨b1, o1, none⟩) nt ld) ∧ w'.cell? ⟨b1, o1 + i * 3, none⟩ = some (.bool tv.s) ∧ w'.cell? ⟨b1, o1 + i * 3 + 1, none⟩ = some (.slice tv.a1 tv.n1 tv.c1) ∧ w'.cell? ⟨b1, o1 + i * 3 + 2, none⟩ = some (.slice tv.a2 tv.n2 tv.c2)) xw_1 := unhide HCC _ cc_1
        refine hK.out _ _ hC_1 ?_
        clear hK K
        (try simp only [Act.put, List.setIfInBounds_toArray, List.set_cons_zero, List.set_cons_succ])
        refine wpHold_take (i := 9) (v := ?_) rfl (by kernel_rfl) (by kernel_rfl) (by kernel_rfl) (fun _ _ _ h => h) (Or.inl ⟨by rfl, ?_⟩) hC_1 ?_
        rotate_left
        · intro w hSw; clear hSw; go_simp; (try with_reducible rfl)
        (try simp only [List.getElem_toArray, List.getElem_cons_succ, List.getElem_cons_zero])
        (try simp only [Act.put, List.setIfInBounds_toArray, List.set_cons_zero, List.set_cons_succ])
        refine wpHold_done (by kernel_rfl) ?_ _
        have HFK := hide ((unhide HFI).keep cc_1)
        clear hC0 hC_1 cc_1 bd0 hb_1 HCC HC3 HFI
        go_wp2_with fail
        exact ⟨⟨i + 1, ts ++ [ty], by go_num, hlt, by rw [List.length_append, unhide HTS]; rfl, unhide HFK⟩, by simp [intOf]; omega⟩
      · have hy4 := cmpv_le (Rat.not_lt.1 hgt)
        obtain ⟨y4, hy4'⟩ : ∃ y, cmpv (Stp.on M (ovr M (mor qs) u) i) gs[i]! = y := ⟨_, rfl⟩
        rw [hy4'] at HC4 hy4
        have hy5 : ¬ 0 < y4 := by omega
        have HBSR : Hid (gs[i]! = bsr M (mor qs) tt i) := by
          show _ = _
          rw [← unhide HU, bsr_succ, ← unhide HM]
          unfold Stp.mx
          rw [← unhide HM] at hgt
          exact (if_neg hgt).symm
        clear hgt hy4 hy4'
        go_wp2_with fail
        refine (unhide HC4).mono ?_
        rintro e w16 ⟨rfl, hb16⟩
        have X14 := (unhide HX14').keep hb16
        rw [unhide HBSR] at X14
        have HXB0 := hide X14
        have B17 := below_step (unhide HW15) hb16
        have HW := hide B17
        have ⟨k0, k1, k2, k3, k4⟩ := unhide HCA w16 B17
        clear X14 B17 hb16 HC4 HX15 HX14' HW15 m0 m1 m2 m3 m4 m5 hW15 hb15'
        have HMO := hide (mor_not (qs := qs) (k := kk) (fun h => hk (by have := unhide HNQ; omega)))
        have HXB : Hid (BoxIs w16 b14 tk (ovr M (mor qs) tt i)) := by
          show BoxIs _ _ _ _
          rw [← unhide HOV, unhide HMO, Rat.add_zero]
          exact unhide HXB0
        clear HXB0
        have bL := alloc_below w16 (.cells #[.bool tk.s, .slice tk.a1 tk.n1 tk.c1, .slice tk.a2 tk.n2 tk.c2] 35)
        have T2 := ((unhide HT).keep (unhide HW)).keep bL
        have hr3 := (unhide HXB).2.below bL
        have XB3 := (unhide HXB).keep bL
        have ⟨x0, x1, x2⟩ := (unhide HXB).cells _ (Below.refl _ _)
        have hlen56 : (ts.length + 1) * 56 ≤ 140737488355328 := by have := unhide HTS; omega
        have hlen63 : ts.length + 1 ≤ maxLen := by have := unhide HTS; unfold maxLen; omega
        have hsz2 : (w16.alloc (.cells #[.bool tk.s, .slice tk.a1 tk.n1 tk.c1, .slice tk.a2 tk.n2 tk.c2] 35)).heap.size = w16.heap.size + 1 := by rw [alloc_heap, Array.size_push]
        have HT2 := hide T2
        have HR3 := hide hr3
        have HXB3 := hide XB3
        have HSZ := hide hsz2
        have HL56 := hide hlen56
        have HL63 := hide hlen63
        have HBA := hide T2.bl.size
        clear T2 hr3 XB3 hsz2 hlen56 hlen63 bL
        go_wp2_with (at_builtin; go_loud (refine wpList_append_tri _ rfl _ _ _ rfl V.heap.size 35 ti 56 Tryd.underlying31 (unhide HI) (unhide HZ) hz1 hz2 _ ts.length (tcells ts) rfl (unhide HT2).own (unhide HT2).no ⟨w16.heap.size, 0, none⟩ 1 1 tk.cells rfl rfl (news_tri w16 tk _) (tri_one tk) tk.notWord (by decide) (unhide HL63) (unhide HL56) (unhide HBA) (w16.heap.size + 1) (unhide HSZ) ?_; intro g cap w4 hown4 hgrow hat hlt4 hno4))
        have FIN := (unhide HT2).push (by rw [unhide HTS, row_get hlt]; exact unhide HR3) hown4 hgrow hno4 (unhide HBA)
        have hgx : b14 < (w16.alloc (.cells #[.bool tk.s, .slice tk.a1 tk.n1 tk.c1, .slice tk.a2 tk.n2 tk.c2] 35)).heap.size := (unhide HXB3).lt
        have hnex : ∀ k, u12.ownBlock = some k → k ≠ b14 := fun k hk e => by
          have h1 := (ownsR_block (unhide HT).own k hk).2
          have h2 := unhide HGX
          omega
        have cfar : ∀ o : Nat, w4.cell? ⟨b14, o, none⟩ = (w16.alloc (.cells #[.bool tk.s, .slice tk.a1 tk.n1 tk.c1, .slice tk.a2 tk.n2 tk.c2] 35)).cell? ⟨b14, o, none⟩ := fun o => hgrow.cell_far ⟨b14, o, none⟩ hgx (fun e => hnex b14 e.symm rfl)
        have rfar : RatIs w4 tk.val (ovr M (mor qs) tt i) := (unhide HXB3).2.far hgrow (unhide HT2).no
        have xc := (unhide HXB3).cells _ (Below.refl _ _)
        have hb14 : b14 < w4.heap.size := Nat.lt_of_lt_of_le hgx hgrow.size
        have vc := unhide HVC w4 FIN.bl
        have HCC : Hid (∀ W, Below w4.heap.size w4 W → (fun w' : World => (w'.cell? ⟨b14, 0, none⟩ = some (.bool tk.s) ∧ w'.cell? ⟨b14, 1, none⟩ = some (.slice tk.a1 tk.n1 tk.c1) ∧ w'.cell? ⟨b14, 2, none⟩ = some (.slice tk.a2 tk.n2 tk.c2)) ∧ w'.cell? ⟨bv, ov + tt, none⟩ = some (.slice (some ⟨b1, o1, none⟩) nt ld) ∧ w'.cell? ⟨b1, o1 + i * 3, none⟩ = some (.bool tv.s) ∧ w'.cell? ⟨b1, o1 + i * 3 + 1, none⟩ = some (.slice tv.a1 tv.n1 tv.c1) ∧ w'.cell? ⟨b1, o1 + i * 3 + 2, none⟩ = some (.slice tv.a2 tv.n2 tv.c2)) W) := fun W hW => by
          refine ⟨?_, unhide HVC W (below_step FIN.bl hW)⟩
          rw [hW.cell (p := ⟨b14, 0, none⟩) hb14, hW.cell (p := ⟨b14, 1, none⟩) hb14, hW.cell (p := ⟨b14, 2, none⟩) hb14, cfar, cfar, cfar]
          exact xc
        have hle := cmpv_ge (unhide HENV)
        obtain ⟨y3, hy3⟩ : ∃ y, cmpv (ovr M (mor qs) tt i) (Stp.env M tt i) = y := ⟨_, rfl⟩
        rw [hy3] at hle
        have hd3 : decide (y3 < 0) = false := decide_eq_false (by omega)
        have HC3 : Hid (∀ W, Below w4.heap.size w4 W → Calls Tryd.prog 12 #[.agg #[.bool tk.s, .slice tk.a1 tk.n1 tk.c1, .slice tk.a2 tk.n2 tk.c2], .agg #[.bool tv.s, .slice tv.a1 tv.n1 tv.c1, .slice tv.a2 tv.n2 tv.c2]] W fun e w' => e = .returned (.int .i64 y3) ∧ Below W.heap.size W w') := fun W hW => by
          have := cmpR_all tk.val tv.val _ _ W (rfar.below hW) ((unhide HVR _ (below_step FIN.bl hW))) 300000 (unhide HRO) (unhide HRE) (by rw [KKe]; omega)
          rw [hy3] at this
          exact this
        have HFI := hide FIN
        clear FIN hown4 hgrow hat hlt4 hno4 HT2 HR3 HXB3 hgx hnex cfar rfar xc hb14 vc hle hy3 x0 x1 x2
        go_wp2_with fail
        refine wp_region_hold (fun w' : World => (w'.cell? ⟨b14, 0, none⟩ = some (.bool tk.s) ∧ w'.cell? ⟨b14, 1, none⟩ = some (.slice tk.a1 tk.n1 tk.c1) ∧ w'.cell? ⟨b14, 2, none⟩ = some (.slice tk.a2 tk.n2 tk.c2)) ∧ w'.cell? ⟨bv, ov + tt, none⟩ = some (.slice (some ⟨b1, o1, none⟩) nt ld) ∧ w'.cell? ⟨b1, o1 + i * 3, none⟩ = some (.bool tv.s) ∧ w'.cell? ⟨b1, o1 + i * 3 + 1, none⟩ = some (.slice tv.a1 tv.n1 tv.c1) ∧ w'.cell? ⟨b1, o1 + i * 3 + 2, none⟩ = some (.slice tv.a2 tv.n2 tv.c2)) (by kernel_rfl) ?_
        have bd0 : Below w4.heap.size w4 w4.drew := (Below.refl _ _).drew
        have hC0 : (fun w' : World => (w'.cell? ⟨b14, 0, none⟩ = some (.bool tk.s) ∧ w'.cell? ⟨b14, 1, none⟩ = some (.slice tk.a1 tk.n1 tk.c1) ∧ w'.cell? ⟨b14, 2, none⟩ = some (.slice tk.a2 tk.n2 tk.c2)) ∧ w'.cell? ⟨bv, ov + tt, none⟩ = some (.slice (some ⟨b1, o1, none⟩) nt ld) ∧ w'.cell? ⟨b1, o1 + i * 3, none⟩ = some (.bool tv.s) ∧ w'.cell? ⟨b1, o1 + i * 3 + 1, none⟩ = some (.slice tv.a1 tv.n1 tv.c1) ∧ w'.cell? ⟨b1, o1 + i * 3 + 2, none⟩ = some (.slice tv.a2 tv.n2 tv.c2)) w4.drew := unhide HCC _ bd0
        refine wpHold_take (i := 0) (v := ?_) rfl (by kernel_rfl) (by kernel_rfl) (by kernel_rfl) (fun _ _ _ h => h) (Or.inl ⟨by rfl, ?_⟩) hC0 ?_
        rotate_left
        · intro w hSw; (try dsimp only at hSw); obtain ⟨⟨z0, z1, z2⟩, z3, z4, z5, z6⟩ := hSw; go_simp; (try with_reducible rfl)
        (try simp only [List.getElem_toArray, List.getElem_cons_succ, List.getElem_cons_zero])
        (try simp only [Act.put, List.setIfInBounds_toArray, List.set_cons_zero, List.set_cons_succ])
        refine wpHold_take (i := 1) (v := ?_) rfl (by kernel_rfl) (by kernel_rfl) (by kernel_rfl) (fun _ _ _ h => h) (Or.inl ⟨by rfl, ?_⟩) hC0 ?_
        rotate_left
        · intro w hSw; clear hSw; go_simp; (try with_reducible rfl)
        (try simp only [List.getElem_toArray, List.getElem_cons_succ, List.getElem_cons_zero])
        (try simp only [Act.put, List.setIfInBounds_toArray, List.set_cons_zero, List.set_cons_succ])
        refine wpHold_take (i := 2) (v := ?_) rfl (by kernel_rfl) (by kernel_rfl) (by kernel_rfl) (fun _ _ _ h => h) (Or.inl ⟨by rfl, ?_⟩) hC0 ?_
        rotate_left
        · intro w hSw; clear hSw; go_simp; (try with_reducible rfl)
        (try simp only [List.getElem_toArray, List.getElem_cons_succ, List.getElem_cons_zero])
        (try simp only [Act.put, List.setIfInBounds_toArray, List.set_cons_zero, List.set_cons_succ])
        refine wpHold_take (i := 3) (v := ?_) rfl (by kernel_rfl) (by kernel_rfl) (by kernel_rfl) (fun _ _ _ h => h) (Or.inl ⟨by rfl, ?_⟩) hC0 ?_
        rotate_left
        · intro w hSw; clear hSw; go_simp; (try with_reducible rfl)
        (try simp only [List.getElem_toArray, List.getElem_cons_succ, List.getElem_cons_zero])
        (try simp only [Act.put, List.setIfInBounds_toArray, List.set_cons_zero, List.set_cons_succ])
        refine wpHold_take (i := 4) (v := ?_) rfl (by kernel_rfl) (by kernel_rfl) (by kernel_rfl) (fun _ _ _ h => h) (Or.inl ⟨by rfl, ?_⟩) hC0 ?_
        rotate_left
        · intro w hSw; (try dsimp only at hSw); obtain ⟨⟨z0, z1, z2⟩, z3, z4, z5, z6⟩ := hSw; go_simp; (try with_reducible rfl)
        (try simp only [List.getElem_toArray, List.getElem_cons_succ, List.getElem_cons_zero])
        (try simp only [Act.put, List.setIfInBounds_toArray, List.set_cons_zero, List.set_cons_succ])
        refine wpHold_take (i := 5) (v := ?_) rfl (by kernel_rfl) (by kernel_rfl) (by kernel_rfl) (fun _ _ _ h => h) (Or.inl ⟨by rfl, ?_⟩) hC0 ?_
        rotate_left
        · intro w hSw; clear hSw; go_simp; (try with_reducible rfl)
        (try simp only [List.getElem_toArray, List.getElem_cons_succ, List.getElem_cons_zero])
        (try simp only [Act.put, List.setIfInBounds_toArray, List.set_cons_zero, List.set_cons_succ])
        refine wpHold_take (i := 6) (v := ?_) rfl (by kernel_rfl) (by kernel_rfl) (by kernel_rfl) (fun _ _ _ h => h) (Or.inl ⟨by rfl, ?_⟩) hC0 ?_
        rotate_left
        · intro w hSw; clear hSw; go_simp; (try with_reducible rfl)
        (try simp only [List.getElem_toArray, List.getElem_cons_succ, List.getElem_cons_zero])
        (try simp only [Act.put, List.setIfInBounds_toArray, List.set_cons_zero, List.set_cons_succ])
        refine wpHold_take (i := 7) (v := ?_) rfl (by kernel_rfl) (by kernel_rfl) (by kernel_rfl) (fun _ _ _ h => h) (Or.inl ⟨by rfl, ?_⟩) hC0 ?_
        rotate_left
        · intro w hSw; (try dsimp only at hSw); obtain ⟨⟨z0, z1, z2⟩, z3, z4, z5, z6⟩ := hSw; go_simp; (try with_reducible rfl)
        (try simp only [List.getElem_toArray, List.getElem_cons_succ, List.getElem_cons_zero])
        (try simp only [Act.put, List.setIfInBounds_toArray, List.set_cons_zero, List.set_cons_succ])
        refine wpHold_one (k := 8) (by kernel_rfl) rfl (fun K hK => ?_)
        (try simp only [List.getElem_toArray, List.getElem_cons_succ, List.getElem_cons_zero])
        go_simp
        refine (unhide HC3 _ bd0).mono ?_
        rintro e xw_1 ⟨rfl, hb_1⟩
        have cc_1 := below_step bd0 hb_1
        have hC_1 : (fun w' : World => (w'.cell? ⟨b14, 0, none⟩ = some (.bool tk.s) ∧ w'.cell? ⟨b14, 1, none⟩ = some (.slice tk.a1 tk.n1 tk.c1) ∧ w'.cell? ⟨b14, 2, none⟩ = some (.slice tk.a2 tk.n2 tk.c2)) ∧ w'.cell? ⟨bv, ov + tt, none⟩ = some (.slice (some ⟨b1, o1, none⟩) nt ld) ∧ w'.cell? ⟨b1, o1 + i * 3, none⟩ = some (.bool tv.s) ∧ w'.cell? ⟨b1, o1 + i * 3 + 1, none⟩ = some (.slice tv.a1 tv.n1 tv.c1) ∧ w'.cell? ⟨b1, o1 + i * 3 + 2, none⟩ = some (.slice tv.a2 tv.n2 tv.c2)) xw_1 := unhide HCC _ cc_1
        refine hK.out _ _ hC_1 ?_
        clear hK K
        (try simp only [Act.put, List.setIfInBounds_toArray, List.set_cons_zero, List.set_cons_succ])
        refine wpHold_take (i := 9) (v := ?_) rfl (by kernel_rfl) (by kernel_rfl) (by kernel_rfl) (fun _ _ _ h => h) (Or.inl ⟨by rfl, ?_⟩) hC_1 ?_
        rotate_left
        · intro w hSw; clear hSw; go_simp; (try with_reducible rfl)
        (try simp only [List.getElem_toArray, List.getElem_cons_succ, List.getElem_cons_zero])
        (try simp only [Act.put, List.setIfInBounds_toArray, List.set_cons_zero, List.set_cons_succ])
        refine wpHold_done (by kernel_rfl) ?_ _
        have HFK := hide ((unhide HFI).keep cc_1)
        clear hC0 hC_1 cc_1 bd0 hb_1 HCC HC3 HFI
        go_wp2_with fail
        exact ⟨⟨i + 1, ts ++ [tk], by go_num, hlt, by rw [List.length_append, unhide HTS]; rfl, unhide HFK⟩, by simp [intOf]; omega⟩

end Go.Proofs.YtgpolilpgkhlkaaDoor
