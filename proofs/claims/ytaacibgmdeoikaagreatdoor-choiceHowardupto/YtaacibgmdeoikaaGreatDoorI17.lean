/- ChoiceHoward: the walk. -/
import Derived.Test.YtaacibgmdeoikaaGreatDoorIG
namespace Go.Proofs.YtaacibgmdeoikaaGreatDoor
open Go.RowKit Go.Sort Go.Shelf

set_option maxHeartbeats 16000000 in
set_option maxRecDepth 100000 in
set_option linter.unusedSimpArgs false in
theorem choiceHoward_any (v vp : Value) (ps : List (List ((Int × Int) × List (Int × Int)))) (wx wy : Int) (nl : Nat) (fp : Nat → Int) (w : World) (htab : Tab w) (h : PModelIs w v ps wx wy) (sm : SmB ps) (hp : NRow w vp nl fp) :
    Calls Tryz.prog 3 #[v, vp] w fun e w' => e = .returned (.bool true) ∧ Below w.heap.size w w' := by
  have HPL := hide hp
  obtain ⟨ap, cp, rfl, hp1, hp2, hp3⟩ := hp
  have HP3 := hide hp3
  clear hp3
  have KKe : KK = 1099511627776 := rfl
  have HTB := hide htab
  have HPM := hide h
  have HSMB := hide sm
  obtain ⟨lp, rfl, hP, hx, hy⟩ := h
  have hln := psts_len hP
  obtain ⟨np, hnp⟩ : ∃ n, ps.length = n := ⟨_, rfl⟩
  rw [hnp] at hln
  have HNP := hide hnp
  have hnb := sm.n
  rw [hnp] at hnb
  unfold pmv at HPM ⊢
  rw [hln] at HPM ⊢
  have b0 := alloc_below w (.cells #[.slice lp.a np lp.c, .int .i64 wx, .int .i64 wy] 26)
  have N0 := heap_alloc_new w (.cells #[.slice lp.a np lp.c, .int .i64 wx, .int .i64 wy] 26)
  obtain ⟨W0, hW0⟩ : ∃ W, w.alloc (.cells #[.slice lp.a np lp.c, .int .i64 wx, .int .i64 wy] 26) = W := ⟨_, rfl⟩
  obtain ⟨gi, hgi⟩ : ∃ g, w.heap.size = g := ⟨_, rfl⟩
  rw [hW0] at b0 N0
  rw [hgi] at N0
  have hgil : gi < W0.heap.size := (Array.getElem?_eq_some_iff.1 N0).1
  have HGI : Hid (∀ W, Below W0.heap.size W0 W → W.cell? ⟨gi, 0, none⟩ = some (.slice lp.a np lp.c) ∧ W.cell? ⟨gi, 1, none⟩ = some (.int .i64 wx) ∧ W.cell? ⟨gi, 2, none⟩ = some (.int .i64 wy)) := fun W hW => by
    have h' := heap_kept N0 hW
    simp [World.cell?, h']
  have HB0 := hide b0
  have ⟨i0, i1, i2⟩ := unhide HGI W0 (Below.refl _ _)
  have HSL := hide (small_any _ ps wx wy W0 ((unhide HPM).below b0) sm)
  have HKL : Hid ((kOf ps).length = np) := by show _ = np; rw [kOf_length]; exact hnp
  clear hP hx hy sm htab b0 N0 hgil hnp hln
  go_enter Tryz.func3, Tryz.ntmps3
  go_wp2_with fail
  refine (unhide HSL).mono ?_
  rintro e w1 ⟨(⟨hsm, rfl⟩ | ⟨hsm, rfl⟩), hb1⟩
  rotate_left
  · have HB1 := hide (below_step (unhide HB0) hb1)
    clear hsm hb1 hW0 hgi i0 i1 i2 HSL
    go_wp2
    go_ret
    exact ⟨rfl, unhide HB1⟩
  have HB1 := hide (below_step (unhide HB0) hb1)
  have HW01 := hide hb1
  have ⟨j0, j1, j2⟩ := unhide HGI w1 hb1
  have hn70 : np ≤ 70 := by have := hsm; unfold totM at this; have := unhide HNP; omega
  have HSM70 := hide hsm
  have hsp : SmPM ps := small_sm hsm
  have HSM := hide (smM_of (unhide HPM) hsp)
  have HCO := hide (choice_any _ ps wx wy w1 ((unhide HPM).below (unhide HB1)) hsp)
  clear hsm hsp hb1 hW0 hgi i0 i1 i2 HSL hnb
  go_wp2_with fail
  refine (unhide HCO).mono ?_
  rintro e w2 ⟨v2, rfl, hv2, hb2⟩
  obtain ⟨lm, tm, rfl, hCh⟩ := ChAt.new (np := np) hv2 (unhide HKL)
  have bA := alloc_below w2 (.cells #[.slice lm.a np lm.c, .bool tm.s, .slice tm.a1 tm.n1 tm.c1, .slice tm.a2 tm.n2 tm.c2] 35)
  have hB2 := below_step hb2 bA
  obtain ⟨W2, hW2⟩ : ∃ W, w2.alloc (.cells #[.slice lm.a np lm.c, .bool tm.s, .slice tm.a1 tm.n1 tm.c1, .slice tm.a2 tm.n2 tm.c2] 35) = W := ⟨_, rfl⟩
  obtain ⟨gc, hgc⟩ : ∃ g, w2.heap.size = g := ⟨_, rfl⟩
  rw [hW2] at hCh hB2
  rw [hgc] at hCh
  have HCH := hide hCh
  have HB2 := hide (below_step (unhide HB1) hB2)
  have HW0 := hide (below_step (unhide HW01) hB2)
  clear hv2 hb2 hCh bA hB2 HCO
  have ⟨m0, m1, m2, m3⟩ := (unhide HCH).cells
  go_wp2_with fail
  clear hW2 hgc j0 j1 j2
  refine (Best_any _ (kOf ps) (pq (wx, wy)) W2 (unhide HCH).mod (unhide HSM)).mono ?_
  rintro e w3 (⟨gm, v3, G3, x, rfl, hv3, hO3, hfx, hr3, hb3⟩ | ⟨gn, k, rfl, hb3⟩)
  rotate_left
  · have HB3 := hide (below_step (unhide HB2) hb3)
    clear gn hb3 m0 m1 m2 m3
    go_wp2_with fail
    refine (chosen_any w3 (tab_below (unhide HTB) (unhide HB3))).mono ?_
    rintro e w4 ⟨rfl, hb4⟩
    have HB4 := hide (below_step (unhide HB3) hb4)
    clear hb4
    go_wp2_with fail
    refine (chosen_any w4 (tab_below (unhide HTB) (unhide HB4))).mono ?_
    rintro e w5 ⟨rfl, hb5⟩
    have HB5 := hide (below_step (unhide HB4) hb5)
    clear hb5
    go_wp2
    go_ret
    exact ⟨rfl, unhide HB5⟩
  have HGM := hide gm
  have hn8 := gm.n8
  have hn1 := gm.n1
  rw [unhide HKL] at hn8 hn1 hv3 hO3 hfx hr3 ⊢
  have hn7 : np ≤ 7 := by
    have := unhide HSM70
    exact small_seven (unhide HNP) this gm
  have HX7 := hide (xbn_seven np hn7)
  have HFX := hide hfx
  have HR3 := hide hr3
  have HV3 := hide hv3
  have HO3 := hide hO3
  have HB3 := hide (below_step (unhide HB2) hb3)
  have HC3 := hide ((unhide HCH).keep hb3)
  have HW3 := hide (below_step (unhide HW0) hb3)
  obtain ⟨av, cv, rfl, _, _, _⟩ := hv3
  rw [row_length] at HV3 ⊢
  clear gm hfx hr3 hO3 hb3 m0 m1 m2 m3 HCH HW01
  go_wp2_with fail
  refine (chosen_any w3 (tab_below (unhide HTB) (unhide HB3))).mono ?_
  rintro e w4 ⟨rfl, hb4⟩
  have HC4 := hide ((unhide HC3).keep hb4)
  have HB4 := hide (below_step (unhide HB3) hb4)
  have HW4 := hide (below_step (unhide HW3) hb4)
  have HV4 := hide ((unhide HV3).below hb4)
  have HO4 := hide ((unhide HO3).keep hb4)
  have ⟨m0, m1, m2, m3⟩ := (unhide HC4).cells
  clear hb4 HC3 HB3 HW3 HV3 HO3
  go_wp2_with fail
  have SP := Step_any _ _ (kOf ps) (pq (wx, wy)) (row x np) (XBn np) w4 (unhide HC4).mod (unhide HSM) (unhide HV4) (by rw [row_length]; omega) (fun j hj => by rw [row_length] at hj; rw [row_get hj]; exact unhide HR3 j) (xbn_le np hn8)
  refine SP.mono ?_
  clear SP m0 m1 m2 m3
  rintro e w5 (⟨-, -, v5, G5, rfl, hv5, hO5, -, hb5⟩ | ⟨gn, _⟩)
  rotate_left
  · exact absurd ⟨good_code (unhide HGM), by rw [row_length]; exact (unhide HKL).symm⟩ gn
  rw [unhide HKL] at hv5 ⊢
  have hxx : ∀ t, t < np → bf (row x np) t = x t := fun t ht => row_get ht
  have hTT : ∀ s, s < np → Mdp.T (mdl (kOf ps) (pq (wx, wy))) (bf (row x np)) s = x s := fun s hs => by
    rw [Mdp.T_congr (w := x) (fun t ht => hxx t (by have e : (mdl (kOf ps) (pq (wx, wy))).n = np := unhide HKL; rw [← e]; exact ht)) s]
    exact unhide HFX s hs
  rw [row_congr hTT] at hv5
  have HV5 := hide hv5
  obtain ⟨aw, cw, rfl, _, _, _⟩ := hv5
  rw [row_length] at HV5 ⊢
  have HC5 := hide ((unhide HC4).keep hb5)
  have HB5 := hide (below_step (unhide HB4) hb5)
  have HW5 := hide (below_step (unhide HW4) hb5)
  have HV4' := hide ((unhide HV4).below hb5)
  have HO4' := hide ((unhide HO4).keep hb5)
  have ⟨m0, m1, m2, m3⟩ := (unhide HC5).cells
  clear hO5 hb5 hxx hTT HC4 HB4 HW4 HV4 HO4
  go_wp2_with fail
  have hia := bst_InA (unhide HGM) x
  rw [unhide HKL] at hia
  have HIA := hide hia
  have VP := Value_any _ _ (kOf ps) (pq (wx, wy)) np (fun s => ((Mdp.bst (mdl (kOf ps) (pq (wx, wy))) x s : Nat) : Int)) w5 (unhide HC5).mod (unhide HSM) ((unhide HO4').nrow (by omega)) (by omega) (fun j hj => bst_I64 (unhide HGM) x (by rw [unhide HKL]; exact hj))
  refine VP.mono ?_
  clear VP m0 m1 m2 m3 hia
  rintro e w6 (⟨-, -, -, v6, x6, rfl, hv6, hval6, hr6, hb6⟩ | ⟨gn, _⟩)
  rotate_left
  · exact absurd ⟨good_code (unhide HGM), (unhide HKL).symm, unhide HIA⟩ gn
  rw [unhide HKL] at hv6
  have hx6 : ∀ s, s < np → x6 s = x s := fun s hs => by
    have hs' : s < (mdl (kOf ps) (pq (wx, wy))).n := by have e : (mdl (kOf ps) (pq (wx, wy))).n = np := unhide HKL; rw [e]; exact hs
    refine Mdp.val_one (unhide HGM).ok (d := Mdp.bst (mdl (kOf ps) (pq (wx, wy))) x) (Mdp.bst_plan (unhide HGM).ok x) (fun t ht => ?_) (Mdp.fix_val (fun t ht => unhide HFX t (by have e : (mdl (kOf ps) (pq (wx, wy))).n = np := unhide HKL; rw [← e]; exact ht))) s hs'
    have := hval6 t ht
    simpa using this
  rw [row_congr hx6] at hv6
  have HV6 := hide hv6
  obtain ⟨au, cu, rfl, _, _, _⟩ := hv6
  rw [row_length] at HV6 ⊢
  have HC6 := hide ((unhide HC5).keep hb6)
  have HB6 := hide (below_step (unhide HB5) hb6)
  have HW6 := hide (below_step (unhide HW5) hb6)
  have HVa := hide ((unhide HV4').below hb6)
  have HVb := hide ((unhide HV5).below hb6)
  have ⟨j0, j1, j2⟩ := unhide HGI w6 (unhide HW6)
  have LK1 := hide (likes_any (.slice av np cv) (.slice aw np cw) (row x np) w6 (unhide HVa) (unhide HVb) (XBn np) (by have := unhide HX7; rw [KKe]; omega) (fun j hj => by rw [row_length] at hj; rw [row_get hj]; exact unhide HR3 j) (tab_below (unhide HTB) (unhide HB6)))
  have e9 : ((np : Int) == (np : Int)) = true := by rw [beq_iff_eq]
  clear hval6 hr6 hb6 hx6 HC5 HB5 HW5 HV4' HV5 HO4'
  go_wp2_with fail
  refine (unhide LK1).mono ?_
  rintro e w7 ⟨rfl, hb7⟩
  have HV7 := hide ((unhide HVa).below hb7)
  have HV7b := hide ((unhide HV6).below hb7)
  have HC7 := hide ((unhide HC6).keep hb7)
  have HB7 := hide (below_step (unhide HB6) hb7)
  have HW7 := hide (below_step (unhide HW6) hb7)
  have LK2 := hide (likes_any (.slice av np cv) (.slice au np cu) (row x np) w7 (unhide HV7) (unhide HV7b) (XBn np) (by have := unhide HX7; rw [KKe]; omega) (fun j hj => by rw [row_length] at hj; rw [row_get hj]; exact unhide HR3 j) (tab_below (unhide HTB) (unhide HB7)))
  clear hb7 j0 j1 j2 LK1 HC6 HB6 HW6 HVa HVb HV6
  go_wp2_with fail
  refine (unhide LK2).mono ?_
  rintro e w8 ⟨rfl, hb8⟩
  have HV8 := hide ((unhide HV7).below hb8)
  have HC8 := hide ((unhide HC7).keep hb8)
  have HB8 := hide (below_step (unhide HB7) hb8)
  have HW8 := hide (below_step (unhide HW7) hb8)
  have ⟨j0, j1, j2⟩ := unhide HGI w8 (unhide HW8)
  have qmk := make_ints np (by omega) w8
  have hO0 := make_own w8 np
  have bO := alloc_below w8 (.cells (lrow (fun _ => 0) np).toArray 3)
  obtain ⟨W9, hW9⟩ : ∃ W, w8.alloc (.cells (lrow (fun _ => 0) np).toArray 3) = W := ⟨_, rfl⟩
  obtain ⟨GO, hGO⟩ : ∃ G, w8.heap.size = G := ⟨_, rfl⟩
  rw [hW9] at qmk hO0 bO
  rw [hGO] at qmk hO0
  have HO9 := hide hO0
  have HBO := hide bO
  have HGO : Hid (w8.heap.size ≤ GO) := by show _ ≤ _; omega
  clear hb8 LK2 HV7 HV7b HC7 HB7 HW7 hO0 bO
  go_wp2_with fail
  clear qmk hW9 hGO j0 j1 j2
  go_loopw [15] (fun vi wr => ∃ (i : Nat) (f : Nat → Int), vi = .int .i64 (i : Int) ∧ i ≤ np ∧ OwnI wr GO np f ∧ InA (kOf ps) f np ∧ Below w8.heap.size w8 wr) (fun vi _ => np - (intOf vi).toNat)
  case atStart => exact ⟨0, fun _ => 0, rfl, Nat.zero_le _, unhide HO9, fun j hj => by
      have := (unhide HGM).a1 j (by rw [unhide HKL]; exact hj)
      show (0 : Int) ≤ 0 ∧ (0 : Int) < _
      omega, unhide HBO⟩
  case round =>
    obtain ⟨i, f, rfl, hi, hO, hIA, hB⟩ := hrel
    clear HO9 HBO
    have HO := hide hO
    have HIA2 := hide hIA
    have HBB := hide hB
    by_cases hgo : i < np ∧ i < nl
    · obtain ⟨hlt, hlt2⟩ := hgo
      have e1 : (i : Int) < (np : Int) := by omega
      have e2 : (i : Int) < (nl : Int) := by omega
      have e0 : (0 : Int) ≤ (i : Int) := by omega
      have hltP : i < ps.length := by have := unhide HNP; omega
      obtain ⟨bp, op, rfl, hbp, hcp⟩ := unhide HP3 (by omega)
      have kp := hcp i hlt2
      have hwB := below_step (unhide HB8) hB
      rw [← hwB.cell (p := ⟨bp, op + i, none⟩) hbp] at kp
      obtain ⟨pv, hpv⟩ : ∃ p, fp i = p := ⟨_, rfl⟩
      rw [hpv] at kp
      obtain ⟨lp', ep, hP', _, _⟩ := (unhide HPM).below hwB
      have el : lp' = (lp.a, np, lp.c) := by
        unfold pmv at ep
        injection ep with ep
        have ep := congrArg Array.toList ep
        simp only [List.cons.injEq, Value.slice.injEq] at ep
        obtain ⟨⟨ea, en, ec⟩, _⟩ := ep
        obtain ⟨x1, x2, x3⟩ := lp'
        (try simp only at ea en ec)
        rw [ea, en, ec]
      subst el
      obtain ⟨as2, cs2, es2, _, _, h32⟩ := hP'
      obtain ⟨bs, os, rfl, hbs, hcs⟩ := h32 (by omega)
      have els : lp.a = some ⟨bs, os, none⟩ := by injection es2
      obtain ⟨lr, k0, hcl⟩ := hcs i hltP
      have hcn := cls_len hcl
      have hnr1 := (unhide HGM).a1 i (by rw [unhide HKL]; exact hlt)
      have hnr8 := (unhide HGM).a8 i (by rw [unhide HKL]; exact hlt)
      rw [kOf_get hltP, csOf_length, ← hcn] at hnr1 hnr8
      have HNR : Hid (((kOf ps)[i]!).length = lr.n) := by show _ = _; rw [kOf_get hltP, csOf_length, hcn]
      obtain ⟨nr, hnr⟩ : ∃ n, lr.n = n := ⟨_, rfl⟩
      rw [hnr] at k0 hnr1 hnr8 HNR
      have ⟨j0, _, _⟩ := unhide HGI wr (below_step (unhide HW8) hB)
      rw [els] at j0
      have hbpl : bp < wr.heap.size := Nat.lt_of_lt_of_le hbp hwB.size
      have hgil : gi < wr.heap.size := World.block_lt_of_cell? wr _ j0
      have HCC : Hid (∀ W, Below wr.heap.size wr W → (fun w' : World => w'.cell? ⟨bp, op + i, none⟩ = some (.int .i64 pv) ∧ w'.cell? ⟨gi, 0, none⟩ = some (.slice (some ⟨bs, os, none⟩) np lp.c) ∧ w'.cell? ⟨bs, os + i, none⟩ = some (.slice lr.a nr lr.c)) W) := fun W hW => by
        refine ⟨?_, ?_, ?_⟩
        · rw [hW.cell (p := ⟨bp, op + i, none⟩) hbpl]; exact kp
        · rw [hW.cell (p := ⟨gi, 0, none⟩) hgil]; exact j0
        · rw [hW.cell (p := ⟨bs, os + i, none⟩) hbs]; exact k0
      clear hO hIA hB hcp kp hwB hpv ep es2 h32 hcs hcl hcn hnr k0 j0 hbpl hgil els
      go_wp2_with fail
      refine wp_region_till (fun w' : World => w'.cell? ⟨bp, op + i, none⟩ = some (.int .i64 pv) ∧ w'.cell? ⟨gi, 0, none⟩ = some (.slice (some ⟨bs, os, none⟩) np lp.c) ∧ w'.cell? ⟨bs, os + i, none⟩ = some (.slice lr.a nr lr.c)) 14 (by kernel_rfl) ?_
      have bd0 : Below wr.heap.size wr wr.drew := (Below.refl _ _).drew
      have hC0 : (fun w' : World => w'.cell? ⟨bp, op + i, none⟩ = some (.int .i64 pv) ∧ w'.cell? ⟨gi, 0, none⟩ = some (.slice (some ⟨bs, os, none⟩) np lp.c) ∧ w'.cell? ⟨bs, os + i, none⟩ = some (.slice lr.a nr lr.c)) wr.drew := unhide HCC _ bd0
      refine wpTill_pure (i := 0) (v := ?_) rfl (by kernel_rfl) (by kernel_rfl) (by kernel_rfl) (by kernel_rfl) (fun _ _ _ h => h) (Or.inl ⟨by rfl, ?_⟩) (fun _ => hC0) ?_
      rotate_left
      · intro w hSw; clear hSw; go_simp; (try with_reducible rfl)
      (try simp only [List.getElem_toArray, List.getElem_cons_succ, List.getElem_cons_zero])
      (try simp only [Act.put, List.setIfInBounds_toArray, List.set_cons_zero, List.set_cons_succ])
      refine wpTill_pure (i := 1) (v := ?_) rfl (by kernel_rfl) (by kernel_rfl) (by kernel_rfl) (by kernel_rfl) (fun _ _ _ h => h) (Or.inl ⟨by rfl, ?_⟩) (fun _ => hC0) ?_
      rotate_left
      · intro w hSw; clear hSw; go_simp; (try with_reducible rfl)
      (try simp only [List.getElem_toArray, List.getElem_cons_succ, List.getElem_cons_zero])
      (try simp only [Act.put, List.setIfInBounds_toArray, List.set_cons_zero, List.set_cons_succ])
      refine wpTill_pure (i := 2) (v := ?_) rfl (by kernel_rfl) (by kernel_rfl) (by kernel_rfl) (by kernel_rfl) (fun _ _ _ h => h) (Or.inl ⟨by rfl, ?_⟩) (fun _ => hC0) ?_
      rotate_left
      · intro w hSw; clear hSw; go_simp; (try with_reducible rfl)
      (try simp only [List.getElem_toArray, List.getElem_cons_succ, List.getElem_cons_zero])
      (try simp only [Act.put, List.setIfInBounds_toArray, List.set_cons_zero, List.set_cons_succ])
      refine wpTill_pure (i := 3) (v := ?_) rfl (by kernel_rfl) (by kernel_rfl) (by kernel_rfl) (by kernel_rfl) (fun _ _ _ h => h) (Or.inl ⟨by rfl, ?_⟩) (fun _ => hC0) ?_
      rotate_left
      · intro w hSw; clear hSw; go_simp; (try with_reducible rfl)
      (try simp only [List.getElem_toArray, List.getElem_cons_succ, List.getElem_cons_zero])
      (try simp only [Act.put, List.setIfInBounds_toArray, List.set_cons_zero, List.set_cons_succ])
      refine wpTill_pure (i := 4) (v := ?_) rfl (by kernel_rfl) (by kernel_rfl) (by kernel_rfl) (by kernel_rfl) (fun _ _ _ h => h) (Or.inl ⟨by rfl, ?_⟩) (fun _ => hC0) ?_
      rotate_left
      · intro w hSw; clear hSw; go_simp; (try with_reducible rfl)
      (try simp only [List.getElem_toArray, List.getElem_cons_succ, List.getElem_cons_zero])
      (try simp only [Act.put, List.setIfInBounds_toArray, List.set_cons_zero, List.set_cons_succ])
      refine wpTill_take (i := 5) (v := ?_) rfl (by kernel_rfl) (by kernel_rfl) (by kernel_rfl) (by kernel_rfl) (by kernel_rfl) (by kernel_rfl) (fun _ _ _ h => h) (Or.inl ⟨by rfl, ?_⟩) hC0 ?_
      rotate_left
      · intro w hSw; (try dsimp only at hSw); obtain ⟨z0, z1, z2⟩ := hSw; go_simp; (try with_reducible rfl)
      (try simp only [List.getElem_toArray, List.getElem_cons_succ, List.getElem_cons_zero])
      (try simp only [Act.put, List.setIfInBounds_toArray, List.set_cons_zero, List.set_cons_succ])
      refine wpTill_pure (i := 6) (v := ?_) rfl (by kernel_rfl) (by kernel_rfl) (by kernel_rfl) (by kernel_rfl) (fun _ _ _ h => h) (Or.inl ⟨by rfl, ?_⟩) (fun _ => hC0) ?_
      rotate_left
      · intro w hSw; clear hSw; go_simp; (try with_reducible rfl)
      (try simp only [List.getElem_toArray, List.getElem_cons_succ, List.getElem_cons_zero])
      (try simp only [Act.put, List.setIfInBounds_toArray, List.set_cons_zero, List.set_cons_succ])
      refine wpTill_take (i := 7) (v := ?_) rfl (by kernel_rfl) (by kernel_rfl) (by kernel_rfl) (by kernel_rfl) (by kernel_rfl) (by kernel_rfl) (fun _ _ _ h => h) (Or.inl ⟨by rfl, ?_⟩) hC0 ?_
      rotate_left
      · intro w hSw; (try dsimp only at hSw); obtain ⟨z0, z1, z2⟩ := hSw; go_simp; (try with_reducible rfl)
      (try simp only [List.getElem_toArray, List.getElem_cons_succ, List.getElem_cons_zero])
      (try simp only [Act.put, List.setIfInBounds_toArray, List.set_cons_zero, List.set_cons_succ])
      refine wpTill_pure (i := 8) (v := ?_) rfl (by kernel_rfl) (by kernel_rfl) (by kernel_rfl) (by kernel_rfl) (fun _ _ _ h => h) (Or.inl ⟨by rfl, ?_⟩) (fun _ => hC0) ?_
      rotate_left
      · intro w hSw; clear hSw; go_simp; (try with_reducible rfl)
      (try simp only [List.getElem_toArray, List.getElem_cons_succ, List.getElem_cons_zero])
      (try simp only [Act.put, List.setIfInBounds_toArray, List.set_cons_zero, List.set_cons_succ])
      refine wpTill_pure (i := 9) (v := ?_) rfl (by kernel_rfl) (by kernel_rfl) (by kernel_rfl) (by kernel_rfl) (fun _ _ _ h => h) (Or.inl ⟨by rfl, ?_⟩) (fun _ => hC0) ?_
      rotate_left
      · intro w hSw; clear hSw; go_simp; (try with_reducible rfl)
      (try simp only [List.getElem_toArray, List.getElem_cons_succ, List.getElem_cons_zero])
      (try simp only [Act.put, List.setIfInBounds_toArray, List.set_cons_zero, List.set_cons_succ])
      refine wpTill_take (i := 10) (v := ?_) rfl (by kernel_rfl) (by kernel_rfl) (by kernel_rfl) (by kernel_rfl) (by kernel_rfl) (by kernel_rfl) (fun _ _ _ h => h) (Or.inl ⟨by rfl, ?_⟩) hC0 ?_
      rotate_left
      · intro w hSw; (try dsimp only at hSw); obtain ⟨z0, z1, z2⟩ := hSw; go_simp; (try with_reducible rfl)
      (try simp only [List.getElem_toArray, List.getElem_cons_succ, List.getElem_cons_zero])
      (try simp only [Act.put, List.setIfInBounds_toArray, List.set_cons_zero, List.set_cons_succ])
      refine wpTill_pure (i := 11) (v := ?_) rfl (by kernel_rfl) (by kernel_rfl) (by kernel_rfl) (by kernel_rfl) (fun _ _ _ h => h) (Or.inl ⟨by rfl, ?_⟩) (fun _ => hC0) ?_
      rotate_left
      · intro w hSw; clear hSw; go_simp; (try with_reducible rfl)
      (try simp only [List.getElem_toArray, List.getElem_cons_succ, List.getElem_cons_zero])
      (try simp only [Act.put, List.setIfInBounds_toArray, List.set_cons_zero, List.set_cons_succ])
      refine wpTill_one (k := 12) (by kernel_rfl) rfl (fun K hK => ?_)
      (try simp only [List.getElem_toArray, List.getElem_cons_succ, List.getElem_cons_zero])
      go_simp
      refine (pick_any pv nr (by omega) (by omega) _).mono ?_
      rintro e wp ⟨pk, rfl, hpk, rfl⟩
      refine hK.out _ _ (fun _ => hC0) ?_
      clear hK K
      (try simp only [Act.put, List.setIfInBounds_toArray, List.set_cons_zero, List.set_cons_succ])
      refine wpTill_pure (i := 13) (v := ?_) rfl (by kernel_rfl) (by kernel_rfl) (by kernel_rfl) (by kernel_rfl) (fun _ _ _ h => h) (Or.inl ⟨by rfl, ?_⟩) (fun _ => hC0) ?_
      rotate_left
      · intro w hSw; clear hSw; go_simp; (try with_reducible rfl)
      (try simp only [List.getElem_toArray, List.getElem_cons_succ, List.getElem_cons_zero])
      (try simp only [Act.put, List.setIfInBounds_toArray, List.set_cons_zero, List.set_cons_succ])
      have O8 := (unhide HO).keep bd0
      have y0 := O8.cell hlt
      have yf := O8.free i
      have FZ := O8.set i (pk : Int)
      have FB := (below_step (unhide HBB) bd0).setCell (p := ⟨GO, i, none⟩) (unhide HGO) (.int .i64 (pk : Int))
      obtain ⟨W9, hW9⟩ : ∃ W, wr.drew.setCell ⟨GO, i, none⟩ (.int .i64 (pk : Int)) = W := ⟨_, rfl⟩
      rw [hW9] at FZ FB
      have HFZ := hide FZ
      have HFB := hide FB
      have HPK := hide hpk
      clear O8 FZ FB hpk
      refine wpTill_one (k := 14) (by kernel_rfl) rfl (fun K hK => ?_)
      (try simp only [List.getElem_toArray, List.getElem_cons_succ, List.getElem_cons_zero])
      go_simp
      refine hK.out _ _ (fun h => absurd (h.symm.trans (by kernel_rfl)) Bool.false_ne_true) ?_
      clear hK K
      (try simp only [Act.put, List.setIfInBounds_toArray, List.set_cons_zero, List.set_cons_succ])
      refine wpTill_done (by kernel_rfl) ?_ _
      clear hC0 bd0 y0 yf hW9 HCC HO HBB
      go_wp2_with fail
      refine ⟨⟨i + 1, _, by go_num, hlt, unhide HFZ, fun j hj => ?_, unhide HFB⟩, by simp [intOf]; omega⟩
      unfold updI
      by_cases e : j = i
      · rw [if_pos e, e, unhide HNR]
        have := unhide HPK
        omega
      · rw [if_neg e]; exact unhide HIA2 j hj
    · have HV9 := hide ((unhide HV8).below hB)
      have HC9 := hide ((unhide HC8).keep hB)
      have HB9 := hide (below_step (unhide HB8) hB)
      have ⟨m0, m1, m2, m3⟩ := (unhide HC9).cells
      have hI64 : ∀ j, j < np → I64 (f j) := fun j hj => by
        have h1 := hIA j hj
        have h2 := (unhide HGM).a8 j (by rw [unhide HKL]; exact hj)
        exact ⟨by omega, by omega⟩
      have HVL := hide (Value_any _ _ (kOf ps) (pq (wx, wy)) np f wr (unhide HC9).mod (unhide HSM) (hO.nrow (by omega)) (by omega) hI64)
      have HMC := hide (⟨good_code (unhide HGM), (unhide HKL).symm, hIA⟩ : mcode (kOf ps) (pq (wx, wy)) = 0 ∧ np = (kOf ps).length ∧ InA (kOf ps) f np)
      have hex : (¬ (i : Int) < (np : Int)) ∨ ((i : Int) < (np : Int) ∧ ¬ (i : Int) < (nl : Int)) := by
        by_cases c : i < np
        · exact Or.inr ⟨by omega, fun c2 => hgo ⟨c, by omega⟩⟩
        · exact Or.inl (by omega)
      clear hO hIA hB hI64 hgo HO HIA2 HBB
      rcases hex with e1 | ⟨e1, e2⟩
      · go_wp2_with fail
        refine (unhide HVL).mono ?_
        rintro e wa (⟨-, -, -, va, y, rfl, hva, hvaly, hry, hba⟩ | ⟨gn, _⟩)
        rotate_left
        · exact absurd (unhide HMC) gn
        rw [unhide HKL] at hva hry
        have HVA := hide hva
        have HRY := hide hry
        have HLE : Hid (∀ s, s < np → y s ≤ x s) := fun s hs => by
          have e : (mdl (kOf ps) (pq (wx, wy))).n = np := unhide HKL
          exact Mdp.opt (unhide HGM).ok (v := x) (fun t ht => unhide HFX t (by rw [← e]; exact ht)) (plan_of (by have := unhide HMC; rw [unhide HKL]; exact this.2.2)) hvaly s (by rw [e]; exact hs)
        obtain ⟨ay, cy, rfl, _, _, _⟩ := hva
        rw [row_length] at HVA ⊢
        have HVX := hide ((unhide HV9).below hba)
        have HBA := hide (below_step (unhide HB9) hba)
        clear hvaly hry hba m0 m1 m2 m3 HVL HC9 HB9 HV9
        go_wp2_with fail
        go_loopw [17] (fun vi wv => ∃ i : Nat, vi = .int .i64 (i : Int) ∧ i ≤ np ∧ Below wa.heap.size wa wv) (fun vi _ => np - (intOf vi).toNat)
        case atStart => exact ⟨0, rfl, Nat.zero_le _, Below.refl _ _⟩
        case round =>
          obtain ⟨i, rfl, hi2, hB⟩ := hrel
          have HBB := hide hB
          by_cases hlt : i < np
          · have f1 : (i : Int) < (np : Int) := by omega
            have f0 : (0 : Int) ≤ (i : Int) := by omega
            obtain ⟨a_y, c_y, e_y, _, _, h_y⟩ := (unhide HVA).below hB
            obtain ⟨b, o, rfl, hl_y, hc_y⟩ := h_y (by rw [row_length]; omega)
            have ea_y : ay = some ⟨b, o, none⟩ := by injection e_y
            obtain ⟨y_s, y_p1, y_p2, y_n1, y_d1, y_n2, y_d2, ky0, ky1, ky2, r_y⟩ := hc_y i (by rw [row_length]; exact hlt)
            obtain ⟨tx, rfl, rfl, rfl, rfl, rfl, rfl, rfl⟩ : ∃ t : Tri, y_s = t.s ∧ y_p1 = t.a1 ∧ y_p2 = t.a2 ∧ y_n1 = t.n1 ∧ y_d1 = t.c1 ∧ y_n2 = t.n2 ∧ y_d2 = t.c2 := ⟨⟨y_s, y_p1, y_p2, y_n1, y_d1, y_n2, y_d2⟩, rfl, rfl, rfl, rfl, rfl, rfl, rfl⟩
            rw [row_get hlt] at r_y
            obtain ⟨a_x, c_x, e_x, _, _, h_x⟩ := (unhide HVX).below hB
            obtain ⟨bv, ov, rfl, hl_x, hc_x⟩ := h_x (by rw [row_length]; omega)
            have ea_x : av = some ⟨bv, ov, none⟩ := by injection e_x
            obtain ⟨x_s, x_p1, x_p2, x_n1, x_d1, x_n2, x_d2, kx0, kx1, kx2, r_x⟩ := hc_x i (by rw [row_length]; exact hlt)
            obtain ⟨tv, rfl, rfl, rfl, rfl, rfl, rfl, rfl⟩ : ∃ t : Tri, x_s = t.s ∧ x_p1 = t.a1 ∧ x_p2 = t.a2 ∧ x_n1 = t.n1 ∧ x_d1 = t.c1 ∧ x_n2 = t.n2 ∧ x_d2 = t.c2 := ⟨⟨x_s, x_p1, x_p2, x_n1, x_d1, x_n2, x_d2⟩, rfl, rfl, rfl, rfl, rfl, rfl, rfl⟩
            rw [row_get hlt] at r_x
            have HCC : Hid (∀ W, Below wr.heap.size wr W → (fun w' : World => (w'.cell? ⟨b, o + i * 3, none⟩ = some (.bool tx.s) ∧ w'.cell? ⟨b, o + i * 3 + 1, none⟩ = some (.slice tx.a1 tx.n1 tx.c1) ∧ w'.cell? ⟨b, o + i * 3 + 2, none⟩ = some (.slice tx.a2 tx.n2 tx.c2)) ∧ w'.cell? ⟨bv, ov + i * 3, none⟩ = some (.bool tv.s) ∧ w'.cell? ⟨bv, ov + i * 3 + 1, none⟩ = some (.slice tv.a1 tv.n1 tv.c1) ∧ w'.cell? ⟨bv, ov + i * 3 + 2, none⟩ = some (.slice tv.a2 tv.n2 tv.c2)) W) := fun W hW => by
              refine ⟨?_, ?_⟩
              · rw [hW.cell (p := ⟨b, o + i * 3, none⟩) hl_y, hW.cell (p := ⟨b, o + i * 3 + 1, none⟩) hl_y, hW.cell (p := ⟨b, o + i * 3 + 2, none⟩) hl_y]; exact ⟨ky0, ky1, ky2⟩
              · rw [hW.cell (p := ⟨bv, ov + i * 3, none⟩) hl_x, hW.cell (p := ⟨bv, ov + i * 3 + 1, none⟩) hl_x, hW.cell (p := ⟨bv, ov + i * 3 + 2, none⟩) hl_x]; exact ⟨kx0, kx1, kx2⟩
            have hcv := cmpv_le (unhide HLE i hlt)
            obtain ⟨cz, hcz⟩ : ∃ z, cmpv (y i) (x i) = z := ⟨_, rfl⟩
            rw [hcz] at hcv
            have HCM : Hid (∀ W, Below wr.heap.size wr W → Calls Tryz.prog 15 #[.agg #[.bool tx.s, .slice tx.a1 tx.n1 tx.c1, .slice tx.a2 tx.n2 tx.c2], .agg #[.bool tv.s, .slice tv.a1 tv.n1 tv.c1, .slice tv.a2 tv.n2 tv.c2]] W fun e w' => e = .returned (.int .i64 cz) ∧ Below W.heap.size W w') := fun W hW => by
              have := cmpR_all tx.val tv.val _ _ W (r_y.below hW) (r_x.below hW) (XBn np) (unhide HRY i) (unhide HR3 i) (by have := unhide HX7; rw [KKe]; omega)
              rw [hcz] at this
              exact this
            have hd : decide (0 < cz) = false := decide_eq_false (by omega)
            rw [ea_y, ea_x]
            clear hB e_y h_y hc_y ea_y ky0 ky1 ky2 r_y e_x h_x hc_x ea_x kx0 kx1 kx2 r_x hcv hcz
            go_wp2_with fail
            refine wp_region_hold (fun w' : World => (w'.cell? ⟨b, o + i * 3, none⟩ = some (.bool tx.s) ∧ w'.cell? ⟨b, o + i * 3 + 1, none⟩ = some (.slice tx.a1 tx.n1 tx.c1) ∧ w'.cell? ⟨b, o + i * 3 + 2, none⟩ = some (.slice tx.a2 tx.n2 tx.c2)) ∧ w'.cell? ⟨bv, ov + i * 3, none⟩ = some (.bool tv.s) ∧ w'.cell? ⟨bv, ov + i * 3 + 1, none⟩ = some (.slice tv.a1 tv.n1 tv.c1) ∧ w'.cell? ⟨bv, ov + i * 3 + 2, none⟩ = some (.slice tv.a2 tv.n2 tv.c2)) (by kernel_rfl) ?_
            have bd0 : Below wr.heap.size wr wr.drew := (Below.refl _ _).drew
            have hC0 : (fun w' : World => (w'.cell? ⟨b, o + i * 3, none⟩ = some (.bool tx.s) ∧ w'.cell? ⟨b, o + i * 3 + 1, none⟩ = some (.slice tx.a1 tx.n1 tx.c1) ∧ w'.cell? ⟨b, o + i * 3 + 2, none⟩ = some (.slice tx.a2 tx.n2 tx.c2)) ∧ w'.cell? ⟨bv, ov + i * 3, none⟩ = some (.bool tv.s) ∧ w'.cell? ⟨bv, ov + i * 3 + 1, none⟩ = some (.slice tv.a1 tv.n1 tv.c1) ∧ w'.cell? ⟨bv, ov + i * 3 + 2, none⟩ = some (.slice tv.a2 tv.n2 tv.c2)) wr.drew := unhide HCC _ bd0
            refine wpHold_take (i := 0) (v := ?_) rfl (by kernel_rfl) (by kernel_rfl) (by kernel_rfl) (fun _ _ _ h => h) (Or.inl ⟨by rfl, ?_⟩) hC0 ?_
            rotate_left
            · intro w hSw; clear hSw; go_simp; (try with_reducible rfl)
            (try simp only [List.getElem_toArray, List.getElem_cons_succ, List.getElem_cons_zero])
            (try simp only [Act.put, List.setIfInBounds_toArray, List.set_cons_zero, List.set_cons_succ])
            refine wpHold_take (i := 1) (v := ?_) rfl (by kernel_rfl) (by kernel_rfl) (by kernel_rfl) (fun _ _ _ h => h) (Or.inl ⟨by rfl, ?_⟩) hC0 ?_
            rotate_left
            · intro w hSw; clear hSw; go_simp; (try with_reducible rfl)
            (try simp only [List.getElem_toArray, List.getElem_cons_succ, List.getElem_cons_zero])
            (try simp only [Act.put, List.setIfInBounds_toArray, List.set_cons_zero, List.set_cons_succ])
            refine wpHold_take (i := 2) (v := ?_) rfl (by kernel_rfl) (by kernel_rfl) (by kernel_rfl) (fun _ _ _ h => h) (Or.inl ⟨by rfl, ?_⟩) hC0 ?_
            rotate_left
            · intro w hSw; clear hSw; go_simp; (try with_reducible rfl)
            (try simp only [List.getElem_toArray, List.getElem_cons_succ, List.getElem_cons_zero])
            (try simp only [Act.put, List.setIfInBounds_toArray, List.set_cons_zero, List.set_cons_succ])
            refine wpHold_take (i := 3) (v := ?_) rfl (by kernel_rfl) (by kernel_rfl) (by kernel_rfl) (fun _ _ _ h => h) (Or.inl ⟨by rfl, ?_⟩) hC0 ?_
            rotate_left
            · intro w hSw; (try dsimp only at hSw); obtain ⟨⟨z0, z1, z2⟩, z3, z4, z5⟩ := hSw; go_simp; (try with_reducible rfl)
            (try simp only [List.getElem_toArray, List.getElem_cons_succ, List.getElem_cons_zero])
            (try simp only [Act.put, List.setIfInBounds_toArray, List.set_cons_zero, List.set_cons_succ])
            refine wpHold_take (i := 4) (v := ?_) rfl (by kernel_rfl) (by kernel_rfl) (by kernel_rfl) (fun _ _ _ h => h) (Or.inl ⟨by rfl, ?_⟩) hC0 ?_
            rotate_left
            · intro w hSw; clear hSw; go_simp; (try with_reducible rfl)
            (try simp only [List.getElem_toArray, List.getElem_cons_succ, List.getElem_cons_zero])
            (try simp only [Act.put, List.setIfInBounds_toArray, List.set_cons_zero, List.set_cons_succ])
            refine wpHold_take (i := 5) (v := ?_) rfl (by kernel_rfl) (by kernel_rfl) (by kernel_rfl) (fun _ _ _ h => h) (Or.inl ⟨by rfl, ?_⟩) hC0 ?_
            rotate_left
            · intro w hSw; clear hSw; go_simp; (try with_reducible rfl)
            (try simp only [List.getElem_toArray, List.getElem_cons_succ, List.getElem_cons_zero])
            (try simp only [Act.put, List.setIfInBounds_toArray, List.set_cons_zero, List.set_cons_succ])
            refine wpHold_take (i := 6) (v := ?_) rfl (by kernel_rfl) (by kernel_rfl) (by kernel_rfl) (fun _ _ _ h => h) (Or.inl ⟨by rfl, ?_⟩) hC0 ?_
            rotate_left
            · intro w hSw; clear hSw; go_simp; (try with_reducible rfl)
            (try simp only [List.getElem_toArray, List.getElem_cons_succ, List.getElem_cons_zero])
            (try simp only [Act.put, List.setIfInBounds_toArray, List.set_cons_zero, List.set_cons_succ])
            refine wpHold_take (i := 7) (v := ?_) rfl (by kernel_rfl) (by kernel_rfl) (by kernel_rfl) (fun _ _ _ h => h) (Or.inl ⟨by rfl, ?_⟩) hC0 ?_
            rotate_left
            · intro w hSw; (try dsimp only at hSw); obtain ⟨⟨z0, z1, z2⟩, z3, z4, z5⟩ := hSw; go_simp; (try with_reducible rfl)
            (try simp only [List.getElem_toArray, List.getElem_cons_succ, List.getElem_cons_zero])
            (try simp only [Act.put, List.setIfInBounds_toArray, List.set_cons_zero, List.set_cons_succ])
            refine wpHold_one (k := 8) (by kernel_rfl) rfl (fun K hK => ?_)
            (try simp only [List.getElem_toArray, List.getElem_cons_succ, List.getElem_cons_zero])
            go_simp
            refine (unhide HCM _ bd0).mono ?_
            rintro e xw_1 ⟨rfl, hb_1⟩
            have cc_1 := below_step bd0 hb_1
            have hC_1 : (fun w' : World => (w'.cell? ⟨b, o + i * 3, none⟩ = some (.bool tx.s) ∧ w'.cell? ⟨b, o + i * 3 + 1, none⟩ = some (.slice tx.a1 tx.n1 tx.c1) ∧ w'.cell? ⟨b, o + i * 3 + 2, none⟩ = some (.slice tx.a2 tx.n2 tx.c2)) ∧ w'.cell? ⟨bv, ov + i * 3, none⟩ = some (.bool tv.s) ∧ w'.cell? ⟨bv, ov + i * 3 + 1, none⟩ = some (.slice tv.a1 tv.n1 tv.c1) ∧ w'.cell? ⟨bv, ov + i * 3 + 2, none⟩ = some (.slice tv.a2 tv.n2 tv.c2)) xw_1 := unhide HCC _ cc_1
            refine hK.out _ _ hC_1 ?_
            clear hK K
            (try simp only [Act.put, List.setIfInBounds_toArray, List.set_cons_zero, List.set_cons_succ])
            refine wpHold_take (i := 9) (v := ?_) rfl (by kernel_rfl) (by kernel_rfl) (by kernel_rfl) (fun _ _ _ h => h) (Or.inl ⟨by rfl, ?_⟩) hC_1 ?_
            rotate_left
            · intro w hSw; clear hSw; go_simp; (try with_reducible rfl)
            (try simp only [List.getElem_toArray, List.getElem_cons_succ, List.getElem_cons_zero])
            (try simp only [Act.put, List.setIfInBounds_toArray, List.set_cons_zero, List.set_cons_succ])
            refine wpHold_done (by kernel_rfl) ?_ _
            have HB3 := hide (below_step (unhide HBB) cc_1)
            clear hC0 hC_1 cc_1 bd0 hb_1 HCC HCM
            go_wp2_with fail
            exact ⟨⟨i + 1, by go_num, hlt, unhide HB3⟩, by simp [intOf]; omega⟩
          · obtain rfl : i = np := by omega
            have f1 : ¬ (i : Int) < (i : Int) := by omega
            clear hB
            go_wp2
            go_ret
            exact ⟨rfl, below_step (unhide HBA) (unhide HBB)⟩
      · go_wp2_with fail
        refine (unhide HVL).mono ?_
        rintro e wa (⟨-, -, -, va, y, rfl, hva, hvaly, hry, hba⟩ | ⟨gn, _⟩)
        rotate_left
        · exact absurd (unhide HMC) gn
        rw [unhide HKL] at hva hry
        have HVA := hide hva
        have HRY := hide hry
        have HLE : Hid (∀ s, s < np → y s ≤ x s) := fun s hs => by
          have e : (mdl (kOf ps) (pq (wx, wy))).n = np := unhide HKL
          exact Mdp.opt (unhide HGM).ok (v := x) (fun t ht => unhide HFX t (by rw [← e]; exact ht)) (plan_of (by have := unhide HMC; rw [unhide HKL]; exact this.2.2)) hvaly s (by rw [e]; exact hs)
        obtain ⟨ay, cy, rfl, _, _, _⟩ := hva
        rw [row_length] at HVA ⊢
        have HVX := hide ((unhide HV9).below hba)
        have HBA := hide (below_step (unhide HB9) hba)
        clear hvaly hry hba m0 m1 m2 m3 HVL HC9 HB9 HV9
        go_wp2_with fail
        go_loopw [17] (fun vi wv => ∃ i : Nat, vi = .int .i64 (i : Int) ∧ i ≤ np ∧ Below wa.heap.size wa wv) (fun vi _ => np - (intOf vi).toNat)
        case atStart => exact ⟨0, rfl, Nat.zero_le _, Below.refl _ _⟩
        case round =>
          obtain ⟨i, rfl, hi2, hB⟩ := hrel
          have HBB := hide hB
          by_cases hlt : i < np
          · have f1 : (i : Int) < (np : Int) := by omega
            have f0 : (0 : Int) ≤ (i : Int) := by omega
            obtain ⟨a_y, c_y, e_y, _, _, h_y⟩ := (unhide HVA).below hB
            obtain ⟨b, o, rfl, hl_y, hc_y⟩ := h_y (by rw [row_length]; omega)
            have ea_y : ay = some ⟨b, o, none⟩ := by injection e_y
            obtain ⟨y_s, y_p1, y_p2, y_n1, y_d1, y_n2, y_d2, ky0, ky1, ky2, r_y⟩ := hc_y i (by rw [row_length]; exact hlt)
            obtain ⟨tx, rfl, rfl, rfl, rfl, rfl, rfl, rfl⟩ : ∃ t : Tri, y_s = t.s ∧ y_p1 = t.a1 ∧ y_p2 = t.a2 ∧ y_n1 = t.n1 ∧ y_d1 = t.c1 ∧ y_n2 = t.n2 ∧ y_d2 = t.c2 := ⟨⟨y_s, y_p1, y_p2, y_n1, y_d1, y_n2, y_d2⟩, rfl, rfl, rfl, rfl, rfl, rfl, rfl⟩
            rw [row_get hlt] at r_y
            obtain ⟨a_x, c_x, e_x, _, _, h_x⟩ := (unhide HVX).below hB
            obtain ⟨bv, ov, rfl, hl_x, hc_x⟩ := h_x (by rw [row_length]; omega)
            have ea_x : av = some ⟨bv, ov, none⟩ := by injection e_x
            obtain ⟨x_s, x_p1, x_p2, x_n1, x_d1, x_n2, x_d2, kx0, kx1, kx2, r_x⟩ := hc_x i (by rw [row_length]; exact hlt)
            obtain ⟨tv, rfl, rfl, rfl, rfl, rfl, rfl, rfl⟩ : ∃ t : Tri, x_s = t.s ∧ x_p1 = t.a1 ∧ x_p2 = t.a2 ∧ x_n1 = t.n1 ∧ x_d1 = t.c1 ∧ x_n2 = t.n2 ∧ x_d2 = t.c2 := ⟨⟨x_s, x_p1, x_p2, x_n1, x_d1, x_n2, x_d2⟩, rfl, rfl, rfl, rfl, rfl, rfl, rfl⟩
            rw [row_get hlt] at r_x
            have HCC : Hid (∀ W, Below wr.heap.size wr W → (fun w' : World => (w'.cell? ⟨b, o + i * 3, none⟩ = some (.bool tx.s) ∧ w'.cell? ⟨b, o + i * 3 + 1, none⟩ = some (.slice tx.a1 tx.n1 tx.c1) ∧ w'.cell? ⟨b, o + i * 3 + 2, none⟩ = some (.slice tx.a2 tx.n2 tx.c2)) ∧ w'.cell? ⟨bv, ov + i * 3, none⟩ = some (.bool tv.s) ∧ w'.cell? ⟨bv, ov + i * 3 + 1, none⟩ = some (.slice tv.a1 tv.n1 tv.c1) ∧ w'.cell? ⟨bv, ov + i * 3 + 2, none⟩ = some (.slice tv.a2 tv.n2 tv.c2)) W) := fun W hW => by
              refine ⟨?_, ?_⟩
              · rw [hW.cell (p := ⟨b, o + i * 3, none⟩) hl_y, hW.cell (p := ⟨b, o + i * 3 + 1, none⟩) hl_y, hW.cell (p := ⟨b, o + i * 3 + 2, none⟩) hl_y]; exact ⟨ky0, ky1, ky2⟩
              · rw [hW.cell (p := ⟨bv, ov + i * 3, none⟩) hl_x, hW.cell (p := ⟨bv, ov + i * 3 + 1, none⟩) hl_x, hW.cell (p := ⟨bv, ov + i * 3 + 2, none⟩) hl_x]; exact ⟨kx0, kx1, kx2⟩
            have hcv := cmpv_le (unhide HLE i hlt)
            obtain ⟨cz, hcz⟩ : ∃ z, cmpv (y i) (x i) = z := ⟨_, rfl⟩
            rw [hcz] at hcv
            have HCM : Hid (∀ W, Below wr.heap.size wr W → Calls Tryz.prog 15 #[.agg #[.bool tx.s, .slice tx.a1 tx.n1 tx.c1, .slice tx.a2 tx.n2 tx.c2], .agg #[.bool tv.s, .slice tv.a1 tv.n1 tv.c1, .slice tv.a2 tv.n2 tv.c2]] W fun e w' => e = .returned (.int .i64 cz) ∧ Below W.heap.size W w') := fun W hW => by
              have := cmpR_all tx.val tv.val _ _ W (r_y.below hW) (r_x.below hW) (XBn np) (unhide HRY i) (unhide HR3 i) (by have := unhide HX7; rw [KKe]; omega)
              rw [hcz] at this
              exact this
            have hd : decide (0 < cz) = false := decide_eq_false (by omega)
            rw [ea_y, ea_x]
            clear hB e_y h_y hc_y ea_y ky0 ky1 ky2 r_y e_x h_x hc_x ea_x kx0 kx1 kx2 r_x hcv hcz
            go_wp2_with fail
            refine wp_region_hold (fun w' : World => (w'.cell? ⟨b, o + i * 3, none⟩ = some (.bool tx.s) ∧ w'.cell? ⟨b, o + i * 3 + 1, none⟩ = some (.slice tx.a1 tx.n1 tx.c1) ∧ w'.cell? ⟨b, o + i * 3 + 2, none⟩ = some (.slice tx.a2 tx.n2 tx.c2)) ∧ w'.cell? ⟨bv, ov + i * 3, none⟩ = some (.bool tv.s) ∧ w'.cell? ⟨bv, ov + i * 3 + 1, none⟩ = some (.slice tv.a1 tv.n1 tv.c1) ∧ w'.cell? ⟨bv, ov + i * 3 + 2, none⟩ = some (.slice tv.a2 tv.n2 tv.c2)) (by kernel_rfl) ?_
            have bd0 : Below wr.heap.size wr wr.drew := (Below.refl _ _).drew
            have hC0 : (fun w' : World => (w'.cell? ⟨b, o + i * 3, none⟩ = some (.bool tx.s) ∧ w'.cell? ⟨b, o + i * 3 + 1, none⟩ = some (.slice tx.a1 tx.n1 tx.c1) ∧ w'.cell? ⟨b, o + i * 3 + 2, none⟩ = some (.slice tx.a2 tx.n2 tx.c2)) ∧ w'.cell? ⟨bv, ov + i * 3, none⟩ = some (.bool tv.s) ∧ w'.cell? ⟨bv, ov + i * 3 + 1, none⟩ = some (.slice tv.a1 tv.n1 tv.c1) ∧ w'.cell? ⟨bv, ov + i * 3 + 2, none⟩ = some (.slice tv.a2 tv.n2 tv.c2)) wr.drew := unhide HCC _ bd0
            refine wpHold_take (i := 0) (v := ?_) rfl (by kernel_rfl) (by kernel_rfl) (by kernel_rfl) (fun _ _ _ h => h) (Or.inl ⟨by rfl, ?_⟩) hC0 ?_
            rotate_left
            · intro w hSw; clear hSw; go_simp; (try with_reducible rfl)
            (try simp only [List.getElem_toArray, List.getElem_cons_succ, List.getElem_cons_zero])
            (try simp only [Act.put, List.setIfInBounds_toArray, List.set_cons_zero, List.set_cons_succ])
            refine wpHold_take (i := 1) (v := ?_) rfl (by kernel_rfl) (by kernel_rfl) (by kernel_rfl) (fun _ _ _ h => h) (Or.inl ⟨by rfl, ?_⟩) hC0 ?_
            rotate_left
            · intro w hSw; clear hSw; go_simp; (try with_reducible rfl)
            (try simp only [List.getElem_toArray, List.getElem_cons_succ, List.getElem_cons_zero])
            (try simp only [Act.put, List.setIfInBounds_toArray, List.set_cons_zero, List.set_cons_succ])
            refine wpHold_take (i := 2) (v := ?_) rfl (by kernel_rfl) (by kernel_rfl) (by kernel_rfl) (fun _ _ _ h => h) (Or.inl ⟨by rfl, ?_⟩) hC0 ?_
            rotate_left
            · intro w hSw; clear hSw; go_simp; (try with_reducible rfl)
            (try simp only [List.getElem_toArray, List.getElem_cons_succ, List.getElem_cons_zero])
            (try simp only [Act.put, List.setIfInBounds_toArray, List.set_cons_zero, List.set_cons_succ])
            refine wpHold_take (i := 3) (v := ?_) rfl (by kernel_rfl) (by kernel_rfl) (by kernel_rfl) (fun _ _ _ h => h) (Or.inl ⟨by rfl, ?_⟩) hC0 ?_
            rotate_left
            · intro w hSw; (try dsimp only at hSw); obtain ⟨⟨z0, z1, z2⟩, z3, z4, z5⟩ := hSw; go_simp; (try with_reducible rfl)
            (try simp only [List.getElem_toArray, List.getElem_cons_succ, List.getElem_cons_zero])
            (try simp only [Act.put, List.setIfInBounds_toArray, List.set_cons_zero, List.set_cons_succ])
            refine wpHold_take (i := 4) (v := ?_) rfl (by kernel_rfl) (by kernel_rfl) (by kernel_rfl) (fun _ _ _ h => h) (Or.inl ⟨by rfl, ?_⟩) hC0 ?_
            rotate_left
            · intro w hSw; clear hSw; go_simp; (try with_reducible rfl)
            (try simp only [List.getElem_toArray, List.getElem_cons_succ, List.getElem_cons_zero])
            (try simp only [Act.put, List.setIfInBounds_toArray, List.set_cons_zero, List.set_cons_succ])
            refine wpHold_take (i := 5) (v := ?_) rfl (by kernel_rfl) (by kernel_rfl) (by kernel_rfl) (fun _ _ _ h => h) (Or.inl ⟨by rfl, ?_⟩) hC0 ?_
            rotate_left
            · intro w hSw; clear hSw; go_simp; (try with_reducible rfl)
            (try simp only [List.getElem_toArray, List.getElem_cons_succ, List.getElem_cons_zero])
            (try simp only [Act.put, List.setIfInBounds_toArray, List.set_cons_zero, List.set_cons_succ])
            refine wpHold_take (i := 6) (v := ?_) rfl (by kernel_rfl) (by kernel_rfl) (by kernel_rfl) (fun _ _ _ h => h) (Or.inl ⟨by rfl, ?_⟩) hC0 ?_
            rotate_left
            · intro w hSw; clear hSw; go_simp; (try with_reducible rfl)
            (try simp only [List.getElem_toArray, List.getElem_cons_succ, List.getElem_cons_zero])
            (try simp only [Act.put, List.setIfInBounds_toArray, List.set_cons_zero, List.set_cons_succ])
            refine wpHold_take (i := 7) (v := ?_) rfl (by kernel_rfl) (by kernel_rfl) (by kernel_rfl) (fun _ _ _ h => h) (Or.inl ⟨by rfl, ?_⟩) hC0 ?_
            rotate_left
            · intro w hSw; (try dsimp only at hSw); obtain ⟨⟨z0, z1, z2⟩, z3, z4, z5⟩ := hSw; go_simp; (try with_reducible rfl)
            (try simp only [List.getElem_toArray, List.getElem_cons_succ, List.getElem_cons_zero])
            (try simp only [Act.put, List.setIfInBounds_toArray, List.set_cons_zero, List.set_cons_succ])
            refine wpHold_one (k := 8) (by kernel_rfl) rfl (fun K hK => ?_)
            (try simp only [List.getElem_toArray, List.getElem_cons_succ, List.getElem_cons_zero])
            go_simp
            refine (unhide HCM _ bd0).mono ?_
            rintro e xw_1 ⟨rfl, hb_1⟩
            have cc_1 := below_step bd0 hb_1
            have hC_1 : (fun w' : World => (w'.cell? ⟨b, o + i * 3, none⟩ = some (.bool tx.s) ∧ w'.cell? ⟨b, o + i * 3 + 1, none⟩ = some (.slice tx.a1 tx.n1 tx.c1) ∧ w'.cell? ⟨b, o + i * 3 + 2, none⟩ = some (.slice tx.a2 tx.n2 tx.c2)) ∧ w'.cell? ⟨bv, ov + i * 3, none⟩ = some (.bool tv.s) ∧ w'.cell? ⟨bv, ov + i * 3 + 1, none⟩ = some (.slice tv.a1 tv.n1 tv.c1) ∧ w'.cell? ⟨bv, ov + i * 3 + 2, none⟩ = some (.slice tv.a2 tv.n2 tv.c2)) xw_1 := unhide HCC _ cc_1
            refine hK.out _ _ hC_1 ?_
            clear hK K
            (try simp only [Act.put, List.setIfInBounds_toArray, List.set_cons_zero, List.set_cons_succ])
            refine wpHold_take (i := 9) (v := ?_) rfl (by kernel_rfl) (by kernel_rfl) (by kernel_rfl) (fun _ _ _ h => h) (Or.inl ⟨by rfl, ?_⟩) hC_1 ?_
            rotate_left
            · intro w hSw; clear hSw; go_simp; (try with_reducible rfl)
            (try simp only [List.getElem_toArray, List.getElem_cons_succ, List.getElem_cons_zero])
            (try simp only [Act.put, List.setIfInBounds_toArray, List.set_cons_zero, List.set_cons_succ])
            refine wpHold_done (by kernel_rfl) ?_ _
            have HB3 := hide (below_step (unhide HBB) cc_1)
            clear hC0 hC_1 cc_1 bd0 hb_1 HCC HCM
            go_wp2_with fail
            exact ⟨⟨i + 1, by go_num, hlt, unhide HB3⟩, by simp [intOf]; omega⟩
          · obtain rfl : i = np := by omega
            have f1 : ¬ (i : Int) < (i : Int) := by omega
            clear hB
            go_wp2
            go_ret
            exact ⟨rfl, below_step (unhide HBA) (unhide HBB)⟩


end Go.Proofs.YtaacibgmdeoikaaGreatDoor
