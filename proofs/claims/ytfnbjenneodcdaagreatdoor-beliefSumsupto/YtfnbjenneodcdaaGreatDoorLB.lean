/- Hidden states: Check. -/
import Derived.Test.YtfnbjenneodcdaaGreatDoorLA
namespace Go.Proofs.YtfnbjenneodcdaaGreatDoor
open Go.RowKit Go.Sort Go.Shelf

set_option maxHeartbeats 16000000 in
set_option maxRecDepth 100000 in
set_option linter.unusedSimpArgs false in
theorem fits_any (n : Nat) (hn : n ≤ 1000000) (w : World) : Calls Tryz.prog 128 #[.int .i64 (n : Int)] w fun e w' => e = .returned (.bool (decide (1 ≤ n ∧ n ≤ 8))) ∧ Below w.heap.size w w' := by
  go_enter Tryz.func128, Tryz.ntmps128
  by_cases h1 : (1 : Int) ≤ (n : Int)
  rotate_left
  · have e : decide (1 ≤ n ∧ n ≤ 8) = false := decide_eq_false (by omega)
    rw [e]
    go_wp2
    go_ret
    exact ⟨rfl, Below.refl _ _⟩
  · by_cases h2 : (n : Int) ≤ 8
    rotate_left
    · have e : decide (1 ≤ n ∧ n ≤ 8) = false := decide_eq_false (by omega)
      rw [e]
      go_wp2
      go_ret
      exact ⟨rfl, Below.refl _ _⟩
    · have e : decide (1 ≤ n ∧ n ≤ 8) = true := decide_eq_true (by omega)
      rw [e]
      go_wp2
      go_ret
      exact ⟨rfl, Below.refl _ _⟩

set_option maxHeartbeats 16000000 in
set_option maxRecDepth 100000 in
set_option linter.unusedSimpArgs false in
theorem hcheck_any (v : Value) (fs : List Rat) (P G : List (List Rat)) (w : World) (h : HmIs w v fs P G) (sm : SmHm fs P G) : Calls Tryz.prog 80 #[v] w (ErrPost w (hcode fs P G)) := by
  have HSM := hide sm
  have hnf := sm.nf
  have hnp0 := sm.np
  have hng0 := sm.ng
  obtain ⟨sf, sp, sg, rfl, hF, hP, hG⟩ := h
  have hfn := law_len hF
  have hpn := rows_len hP
  have hgn := rows_len hG
  obtain ⟨n, hn⟩ : ∃ n, fs.length = n := ⟨_, rfl⟩
  have HN := hide hn
  obtain ⟨np, hnp⟩ : ∃ n, P.length = n := ⟨_, rfl⟩
  have HNP := hide hnp
  obtain ⟨ng, hng⟩ : ∃ n, G.length = n := ⟨_, rfl⟩
  have HNG := hide hng
  rw [hn] at hfn
  rw [hnp] at hpn
  rw [hng] at hgn
  clear hnp hng
  have X0 := HBox.new hF hP hG
  have b0 := alloc_below w (.cells #[.slice sf.a sf.n sf.c, .slice sp.a sp.n sp.c, .slice sg.a sg.n sg.c] 53)
  obtain ⟨W0, hW0⟩ : ∃ W, w.alloc (.cells #[.slice sf.a sf.n sf.c, .slice sp.a sp.n sp.c, .slice sg.a sg.n sg.c] 53) = W := ⟨_, rfl⟩
  obtain ⟨bx, hbx⟩ : ∃ b, w.heap.size = b := ⟨_, rfl⟩
  rw [hW0] at X0 b0
  rw [hbx] at X0
  have HX0 := hide X0
  have HB0 := hide b0
  have HCH : Hid (∀ W, Below W0.heap.size W0 W → (fun w' : World => w'.cell? ⟨bx, 0, none⟩ = some (.slice sf.a n sf.c) ∧ w'.cell? ⟨bx, 1, none⟩ = some (.slice sp.a np sp.c) ∧ w'.cell? ⟨bx, 2, none⟩ = some (.slice sg.a ng sg.c)) W) := fun W hW => by
    have h1 := (unhide HX0).cells W hW
    rw [hfn, hpn, hgn] at h1
    exact h1
  have HIS : Hid (∀ W, Below W0.heap.size W0 W → HmIs W (.agg #[.slice sf.a n sf.c, .slice sp.a np sp.c, .slice sg.a ng sg.c]) fs P G) := fun W hW => by
    have h1 := (unhide HX0).hm.below hW
    unfold hmval at h1
    rw [hfn, hpn, hgn] at h1
    exact h1
  have ⟨c0, c1, c2⟩ := unhide HCH _ (Below.refl _ _)
  have HFN := hide hfn
  have HPN := hide hpn
  have HGN := hide hgn
  unfold hmval
  rw [hfn, hpn, hgn] at hW0 ⊢
  clear hF hP hG X0 b0 hn hfn hpn hgn
  rw [unhide HN] at hnf
  rw [unhide HNP] at hnp0
  rw [unhide HNG] at hng0
  clear sm
  have HFI := hide (fits_any n (by omega) W0)
  go_enter Tryz.func80, Tryz.ntmps80
  go_wp2_with fail
  refine (unhide HFI).mono ?_
  rintro e w1 ⟨rfl, hb1⟩
  have HB1 := hide hb1
  have ⟨d0, d1, d2⟩ := unhide HCH _ hb1
  clear hW0 hbx c0 c1 c2 hb1 HFI
  by_cases hx : 1 ≤ n ∧ n ≤ 8
  rotate_left
  · have e1 : decide (1 ≤ n ∧ n ≤ 8) = false := decide_eq_false hx
    rw [e1]
    have HE : Hid (hcode fs P G = 4) := by
      show hcode fs P G = 4
      unfold hcode
      rw [if_neg (fun x => hx (by rw [← unhide HN]; exact x))]
    clear hx e1
    go_wp2
    go_ret
    exact ⟨by rw [unhide HE]; rfl, below_step (unhide HB0) (unhide HB1)⟩
  have e1 : decide (1 ≤ n ∧ n ≤ 8) = true := decide_eq_true hx
  rw [e1]
  have HX := hide hx
  clear e1
  obtain ⟨hx1, hx2⟩ := hx
  by_cases hc : n = np ∧ n = ng
  rotate_left
  · have HE : Hid (hcode fs P G = 3) := by
      show hcode fs P G = 3
      unfold hcode
      rw [if_pos (by rw [unhide HN]; exact unhide HX), if_neg (by rw [unhide HN, unhide HNP, unhide HNG]; exact fun x => hc ⟨x.1.symm, x.2.symm⟩)]
    by_cases e2 : n = np
    · have e3 : n ≠ ng := fun e => hc ⟨e2, e⟩
      have f2 : ((np : Int) != (n : Int)) = false := by simp [e2]
      have f3 : ((ng : Int) != (n : Int)) = true := by simp; omega
      clear hc e2 e3
      go_wp2
      go_ret
      exact ⟨by rw [unhide HE]; rfl, below_step (unhide HB0) (unhide HB1)⟩
    · have f2 : ((np : Int) != (n : Int)) = true := by simp; omega
      clear hc e2
      go_wp2
      go_ret
      exact ⟨by rw [unhide HE]; rfl, below_step (unhide HB0) (unhide HB1)⟩
  obtain ⟨rfl, rfl⟩ := hc
  have HSF := hide (cshares_any sf.val fs n w1 ((unhide HX0).2.1.below (unhide HB1)) (by omega) (unhide HSM).rf (unhide HSM).nf)
  simp only [Sl.val] at HSF
  rw [unhide HFN] at HSF
  go_wp2_with fail
  refine (unhide HSF).mono ?_
  rintro e w2 ⟨rfl, hb2⟩
  have HB2 := hide (below_step (unhide HB1) hb2)
  have ⟨d0', d1', d2'⟩ := unhide HCH _ (unhide HB2)
  obtain ⟨z, hk⟩ : ∃ z, shc n fs = z := ⟨_, rfl⟩
  rw [hk]
  have HKZ := hide hk
  clear hk hb2 d0 d1 d2 HSF
  have HE0 : Hid (hcode fs P G = if z = 0 then hcd n P G n else z) := by
    show hcode fs P G = _
    unfold hcode
    rw [if_pos (by rw [unhide HN]; exact unhide HX), if_pos (by rw [unhide HN, unhide HNP, unhide HNG]; exact ⟨rfl, rfl⟩), unhide HN, unhide HKZ]
  by_cases hz : z = 0
  rotate_left
  · have e5 : errV z = .iface 59 (.int .i64 z) := by unfold errV; rw [if_neg hz]
    rw [e5]
    have HE : Hid (hcode fs P G = z) := by show hcode fs P G = z; rw [unhide HE0, if_neg hz]
    have HE5 := hide e5
    clear hz e5
    go_wp2
    go_ret
    exact ⟨by rw [unhide HE]; exact (congrArg Ending.returned (unhide HE5)).symm, below_step (unhide HB0) (unhide HB2)⟩
  subst hz
  have e5 : errV 0 = .nilIface := rfl
  rw [e5]
  have HE : Hid (hcode fs P G = hcd n P G n) := by show hcode fs P G = _; rw [unhide HE0, if_pos rfl]
  clear e5
  go_wp2_with fail
  clear d0' d1' d2'
  go_loopw [36] (fun vi wr => ∃ i : Nat, vi = .int .i64 (i : Int) ∧ i ≤ n ∧ Below W0.heap.size W0 wr ∧ hcd n P G i = 0) (fun vi _ => n - (intOf vi).toNat)
  case atStart => exact ⟨0, rfl, Nat.zero_le _, unhide HB2, rfl⟩
  case round =>
    obtain ⟨i, rfl, hi, hb, hz⟩ := hrel
    have HB := hide hb
    have HZ := hide hz
    by_cases hlt : i < n
    · have f1 : (i : Int) < (n : Int) := by omega
      have f0 : (0 : Int) ≤ (i : Int) := by omega
      have f00 : (0 : Int) < (n : Int) := by omega
      have hltP : i < P.length := by rw [unhide HNP]; omega
      have hltG : i < G.length := by rw [unhide HNG]; omega
      obtain ⟨bp, op, mp, hpa, hbp, k0, hA⟩ := ((unhide HX0).2.2.1.below hb).at hltP
      obtain ⟨bg, og, mg, hga, hbg, g0, hD⟩ := ((unhide HX0).2.2.2.below hb).at hltG
      have ⟨d0, d1, d2⟩ := unhide HCH _ hb
      have HSH := hide (cshares_any mp.val _ n wr hA (by omega) (fun u hu => (unhide HSM).rp i u hltP hu) ((unhide HSM).pn i hltP))
      rw [hpa] at d1 
      rw [hga] at d2
      have HD := hide hD
      have HLP := hide hltP
      have HLG := hide hltG
      have HPA := hide hpa
      have HGA := hide hga
      have HG0 := hide g0
      have HBG := hide hbg
      clear hb hz hA hD hltP hltG hpa hga g0 hbg
      go_wp2_with fail
      refine (unhide HSH).mono ?_
      rintro e w4 ⟨rfl, hb4⟩
      have HB4 := hide (below_step (unhide HB) hb4)
      have ⟨d0', d1', d2'⟩ := unhide HCH _ (unhide HB4)
      rw [unhide HGA] at d2'
      have g0 := unhide HG0
      rw [← hb4.cell (p := ⟨bg, og + i, none⟩) (unhide HBG)] at g0
      obtain ⟨z, hk⟩ : ∃ z, shc n P[i]! = z := ⟨_, rfl⟩
      rw [hk]
      have HKZ := hide hk
      have HB44 := hide hb4
      clear hk hb4 k0 HSH d0 d1 d2
      by_cases hk0 : z = 0
      rotate_left
      · have e5 : errV z = .iface 59 (.int .i64 z) := by unfold errV; rw [if_neg hk0]
        rw [e5]
        have HE2 : Hid (hcode fs P G = z) := by
          show hcode fs P G = z
          rw [unhide HE]
          exact hcd_end hlt (unhide HZ) (by unfold hst; rw [unhide HKZ, if_neg hk0]) hk0
        have HE5 := hide e5
        clear hk0 e5
        go_wp2
        go_ret
        exact ⟨by rw [unhide HE2]; exact (congrArg Ending.returned (unhide HE5)).symm, below_step (unhide HB0) (unhide HB4)⟩
      subst hk0
      have e5 : errV 0 = .nilIface := rfl
      rw [e5]
      clear e5
      have hltG := unhide HLG
      have hlt0 : 0 < G.length := by omega
      obtain ⟨bg0, og0, m0, hga0, hbg0, g00, hD0⟩ := ((unhide HX0).2.2.2.below (unhide HB4)).at hlt0
      obtain ⟨rfl, rfl⟩ : bg = bg0 ∧ og = og0 := by
        have e := (unhide HGA).symm.trans hga0
        injection e with e
        injection e with e1 e2
        exact ⟨e1, e2⟩
      rw [Nat.add_zero] at g00
      have HD4 := hide ((unhide HD).below (unhide HB44))
      have hmg := law_len (unhide HD4)
      have hm0 := law_len hD0
      obtain ⟨lg, hlg⟩ : ∃ x, (G[i]!).length = x := ⟨_, rfl⟩
      obtain ⟨kk, hkk⟩ : ∃ x, (G[0]!).length = x := ⟨_, rfl⟩
      rw [hlg] at hmg
      rw [hkk] at hm0
      rw [hmg] at g0
      rw [hm0] at g00
      have hlgb : lg ≤ 1000 := by rw [← hlg]; exact (unhide HSM).gn i hltG
      have hkkb : kk ≤ 1000 := by rw [← hkk]; exact (unhide HSM).gn 0 hlt0
      have HLGL := hide hlg
      have HKKL := hide hkk
      have HMG := hide hmg
      have HG00 := hide g00
      have HG0' := hide g0
      have HFI := hide (fits_any lg (by omega) w4)
      clear hlg hkk hmg hm0 hD0 hga0 hltG hlt0 HD HG0
      go_wp2_with fail
      refine (unhide HFI).mono ?_
      rintro e w5 ⟨rfl, hb5⟩
      have HB5 := hide (below_step (unhide HB4) hb5)
      have HHST : Hid (hst n P G i = if 1 ≤ lg ∧ lg ≤ 8 then shc kk G[i]! else 4) := by
        show hst n P G i = _
        unfold hst
        rw [if_pos (unhide HKZ), unhide HLGL, unhide HKKL]
      clear d0' d1' d2' g0 g00 HFI
      by_cases hl : 1 ≤ lg ∧ lg ≤ 8
      rotate_left
      · have e1 : decide (1 ≤ lg ∧ lg ≤ 8) = false := decide_eq_false hl
        rw [e1]
        have HE2 : Hid (hcode fs P G = 4) := by
          show hcode fs P G = 4
          rw [unhide HE]
          exact hcd_end hlt (unhide HZ) (by rw [unhide HHST, if_neg hl]) (by decide)
        clear hl e1 hb5
        go_wp2
        go_ret
        exact ⟨by rw [unhide HE2]; rfl, below_step (unhide HB0) (unhide HB5)⟩
      have e1 : decide (1 ≤ lg ∧ lg ≤ 8) = true := decide_eq_true hl
      rw [e1]
      have HL8 := hide hl
      have HCC : Hid (∀ W, Below w5.heap.size w5 W → (fun w' : World => (w'.cell? ⟨bx, 0, none⟩ = some (.slice sf.a n sf.c) ∧ w'.cell? ⟨bx, 1, none⟩ = some (.slice sp.a n sp.c) ∧ w'.cell? ⟨bx, 2, none⟩ = some (.slice (some ⟨bg, og, none⟩) n sg.c)) ∧ w'.cell? ⟨bg, og + i, none⟩ = some (.slice mg.a lg mg.c) ∧ w'.cell? ⟨bg, og, none⟩ = some (.slice m0.a kk m0.c)) W) := fun W hW => by
        have h1 := unhide HCH _ (below_step (unhide HB5) hW)
        rw [unhide HGA] at h1
        have h2 := below_step hb5 hW
        refine ⟨h1, ?_, ?_⟩
        · rw [h2.cell (p := ⟨bg, og + i, none⟩) hbg0]; exact unhide HG0'
        · rw [h2.cell (p := ⟨bg, og, none⟩) hbg0]; exact unhide HG00
      obtain ⟨z2, hz2⟩ : ∃ z, shc kk G[i]! = z := ⟨_, rfl⟩
      have HZ2 := hide hz2
      have HSG : Hid (∀ W, Below w5.heap.size w5 W → Calls Tryz.prog 129 #[.slice mg.a lg mg.c, .int .i64 (kk : Int)] W (ErrPost W z2)) := fun W hW => by
        rw [← hz2]
        have := cshares_any mg.val G[i]! kk W ((unhide HD4).below (below_step hb5 hW)) hkkb (fun u hu => (unhide HSM).rg i u (unhide HLG) hu) ((unhide HSM).gn i (unhide HLG))
        simp only [Sl.val] at this
        rw [unhide HMG] at this
        exact this
      have H00 : Hid (0 < n) := Nat.lt_of_le_of_lt (Nat.zero_le _) hlt
      clear hl e1 hb5 f00 hz2
      go_wp2_with fail
      refine wp_region_hold (fun w' : World => (w'.cell? ⟨bx, 0, none⟩ = some (.slice sf.a n sf.c) ∧ w'.cell? ⟨bx, 1, none⟩ = some (.slice sp.a n sp.c) ∧ w'.cell? ⟨bx, 2, none⟩ = some (.slice (some ⟨bg, og, none⟩) n sg.c)) ∧ w'.cell? ⟨bg, og + i, none⟩ = some (.slice mg.a lg mg.c) ∧ w'.cell? ⟨bg, og, none⟩ = some (.slice m0.a kk m0.c)) (by kernel_rfl) ?_
      have bd0 : Below w5.heap.size w5 w5.drew := (Below.refl _ _).drew
      have hC0 : (fun w' : World => (w'.cell? ⟨bx, 0, none⟩ = some (.slice sf.a n sf.c) ∧ w'.cell? ⟨bx, 1, none⟩ = some (.slice sp.a n sp.c) ∧ w'.cell? ⟨bx, 2, none⟩ = some (.slice (some ⟨bg, og, none⟩) n sg.c)) ∧ w'.cell? ⟨bg, og + i, none⟩ = some (.slice mg.a lg mg.c) ∧ w'.cell? ⟨bg, og, none⟩ = some (.slice m0.a kk m0.c)) w5.drew := unhide HCC _ bd0
      refine wpHold_take (i := 0) (v := ?_) rfl (by kernel_rfl) (by kernel_rfl) (by kernel_rfl) (fun _ _ _ h => h) (Or.inl ⟨by rfl, ?_⟩) hC0 ?_
      rotate_left
      · intro w hSw; clear hSw; go_simp; (try with_reducible rfl)
      (try simp only [List.getElem_toArray, List.getElem_cons_succ, List.getElem_cons_zero])
      (try simp only [Act.put, List.setIfInBounds_toArray, List.set_cons_zero, List.set_cons_succ])
      refine wpHold_take (i := 1) (v := ?_) rfl (by kernel_rfl) (by kernel_rfl) (by kernel_rfl) (fun _ _ _ h => h) (Or.inl ⟨by rfl, ?_⟩) hC0 ?_
      rotate_left
      · intro w hSw; (try dsimp only at hSw); obtain ⟨⟨u0, u1, u2⟩, u3, u4⟩ := hSw; go_simp; (try with_reducible rfl)
      (try simp only [List.getElem_toArray, List.getElem_cons_succ, List.getElem_cons_zero])
      (try simp only [Act.put, List.setIfInBounds_toArray, List.set_cons_zero, List.set_cons_succ])
      refine wpHold_take (i := 2) (v := ?_) rfl (by kernel_rfl) (by kernel_rfl) (by kernel_rfl) (fun _ _ _ h => h) (Or.inl ⟨by rfl, ?_⟩) hC0 ?_
      rotate_left
      · intro w hSw; clear hSw; go_simp; (try with_reducible rfl)
      (try simp only [List.getElem_toArray, List.getElem_cons_succ, List.getElem_cons_zero])
      (try simp only [Act.put, List.setIfInBounds_toArray, List.set_cons_zero, List.set_cons_succ])
      refine wpHold_take (i := 3) (v := ?_) rfl (by kernel_rfl) (by kernel_rfl) (by kernel_rfl) (fun _ _ _ h => h) (Or.inl ⟨by rfl, ?_⟩) hC0 ?_
      rotate_left
      · intro w hSw; clear hSw; go_simp; (try with_reducible rfl)
      (try simp only [List.getElem_toArray, List.getElem_cons_succ, List.getElem_cons_zero])
      (try simp only [Act.put, List.setIfInBounds_toArray, List.set_cons_zero, List.set_cons_succ])
      refine wpHold_take (i := 4) (v := ?_) rfl (by kernel_rfl) (by kernel_rfl) (by kernel_rfl) (fun _ _ _ h => h) (Or.inl ⟨by rfl, ?_⟩) hC0 ?_
      rotate_left
      · intro w hSw; (try dsimp only at hSw); obtain ⟨⟨u0, u1, u2⟩, u3, u4⟩ := hSw; go_simp; (try with_reducible rfl)
      (try simp only [List.getElem_toArray, List.getElem_cons_succ, List.getElem_cons_zero])
      (try simp only [Act.put, List.setIfInBounds_toArray, List.set_cons_zero, List.set_cons_succ])
      refine wpHold_take (i := 5) (v := ?_) rfl (by kernel_rfl) (by kernel_rfl) (by kernel_rfl) (fun _ _ _ h => h) (Or.inl ⟨by rfl, ?_⟩) hC0 ?_
      rotate_left
      · intro w hSw; clear hSw; go_simp; (try with_reducible rfl)
      (try simp only [List.getElem_toArray, List.getElem_cons_succ, List.getElem_cons_zero])
      (try simp only [Act.put, List.setIfInBounds_toArray, List.set_cons_zero, List.set_cons_succ])
      refine wpHold_take (i := 6) (v := ?_) rfl (by kernel_rfl) (by kernel_rfl) (by kernel_rfl) (fun _ _ _ h => h) (Or.inl ⟨by rfl, ?_⟩) hC0 ?_
      rotate_left
      · intro w hSw; (try dsimp only at hSw); obtain ⟨⟨u0, u1, u2⟩, u3, u4⟩ := hSw; go_simp; (try with_reducible rfl)
      (try simp only [List.getElem_toArray, List.getElem_cons_succ, List.getElem_cons_zero])
      (try simp only [Act.put, List.setIfInBounds_toArray, List.set_cons_zero, List.set_cons_succ])
      refine wpHold_take (i := 7) (v := ?_) rfl (by kernel_rfl) (by kernel_rfl) (by kernel_rfl) (fun _ _ _ h => h) (Or.inl ⟨by rfl, ?_⟩) hC0 ?_
      rotate_left
      · intro w hSw; clear hSw; have h00 : 0 < n := unhide H00; go_simp; (try with_reducible rfl)
      (try simp only [List.getElem_toArray, List.getElem_cons_succ, List.getElem_cons_zero])
      (try simp only [Act.put, List.setIfInBounds_toArray, List.set_cons_zero, List.set_cons_succ])
      refine wpHold_take (i := 8) (v := ?_) rfl (by kernel_rfl) (by kernel_rfl) (by kernel_rfl) (fun _ _ _ h => h) (Or.inl ⟨by rfl, ?_⟩) hC0 ?_
      rotate_left
      · intro w hSw; (try dsimp only at hSw); obtain ⟨⟨u0, u1, u2⟩, u3, u4⟩ := hSw; go_simp; (try with_reducible rfl)
      (try simp only [List.getElem_toArray, List.getElem_cons_succ, List.getElem_cons_zero])
      (try simp only [Act.put, List.setIfInBounds_toArray, List.set_cons_zero, List.set_cons_succ])
      refine wpHold_take (i := 9) (v := ?_) rfl (by kernel_rfl) (by kernel_rfl) (by kernel_rfl) (fun _ _ _ h => h) (Or.inl ⟨by rfl, ?_⟩) hC0 ?_
      rotate_left
      · intro w hSw; clear hSw; go_simp; (try with_reducible rfl)
      (try simp only [List.getElem_toArray, List.getElem_cons_succ, List.getElem_cons_zero])
      (try simp only [Act.put, List.setIfInBounds_toArray, List.set_cons_zero, List.set_cons_succ])
      refine wpHold_one (k := 10) (by kernel_rfl) rfl (fun K hK => ?_)
      (try simp only [List.getElem_toArray, List.getElem_cons_succ, List.getElem_cons_zero])
      go_simp
      refine (unhide HSG _ bd0).mono ?_
      rintro e xw_1 ⟨rfl, hb_1⟩
      have cc_1 := below_step bd0 hb_1
      have hC_1 : (fun w' : World => (w'.cell? ⟨bx, 0, none⟩ = some (.slice sf.a n sf.c) ∧ w'.cell? ⟨bx, 1, none⟩ = some (.slice sp.a n sp.c) ∧ w'.cell? ⟨bx, 2, none⟩ = some (.slice (some ⟨bg, og, none⟩) n sg.c)) ∧ w'.cell? ⟨bg, og + i, none⟩ = some (.slice mg.a lg mg.c) ∧ w'.cell? ⟨bg, og, none⟩ = some (.slice m0.a kk m0.c)) xw_1 := unhide HCC _ cc_1
      refine hK.out _ _ hC_1 ?_
      clear hK K
      (try simp only [Act.put, List.setIfInBounds_toArray, List.set_cons_zero, List.set_cons_succ])
      refine wpHold_one (k := 11) (by kernel_rfl) rfl (fun K hK => ?_)
      (try simp only [List.getElem_toArray, List.getElem_cons_succ, List.getElem_cons_zero])
      go_simp
      refine hK.out _ _ hC_1 ?_
      clear hK K
      (try simp only [Act.put, List.setIfInBounds_toArray, List.set_cons_zero, List.set_cons_succ])
      refine wpHold_done (by kernel_rfl) ?_ _
      have HB6 := hide (below_step (unhide HB5) cc_1)
      clear hC0 hC_1 cc_1 hb_1 bd0
      by_cases hk2 : z2 = 0
      · subst hk2
        have e5 : errV 0 = .nilIface := rfl
        rw [e5]
        go_wp2_with fail
        refine ⟨⟨i + 1, by go_num, hlt, unhide HB6, ?_⟩, by simp [intOf]; omega⟩
        show (if hcd n P G i = 0 then _ else _) = _
        rw [if_pos (unhide HZ), unhide HHST, if_pos (unhide HL8), unhide HZ2]
      · have e5 : errV z2 = .iface 59 (.int .i64 z2) := by unfold errV; rw [if_neg hk2]
        rw [e5]
        have HE2 : Hid (hcode fs P G = z2) := by
          show hcode fs P G = z2
          rw [unhide HE]
          exact hcd_end hlt (unhide HZ) (by rw [unhide HHST, if_pos (unhide HL8), unhide HZ2]) hk2
        have HE5 := hide e5
        clear hk2 e5
        go_wp2
        go_ret
        exact ⟨by rw [unhide HE2]; exact (congrArg Ending.returned (unhide HE5)).symm, below_step (unhide HB0) (unhide HB6)⟩
    · obtain rfl : i = n := by omega
      have f1 : ¬ (i : Int) < (i : Int) := by omega
      clear hb hz
      go_wp2
      go_ret
      exact ⟨by rw [unhide HE]; rw [unhide HZ]; rfl, below_step (unhide HB0) (unhide HB)⟩

end Go.Proofs.YtfnbjenneodcdaaGreatDoor
/- Hidden states: checkSigns. -/
namespace Go.Proofs.YtfnbjenneodcdaaGreatDoor
open Go.RowKit Go.Sort Go.Shelf

/-- No such sign. -/
def badS (K : Nat) (x : Int) : Bool := decide (x < 0) || decide ((K : Int) ≤ x)
def anyS (K : Nat) (f : Nat → Int) : Nat → Bool
  | 0 => false
  | n + 1 => anyS K f n || badS K (f n)
theorem anyS_true {K : Nat} {f : Nat → Int} : ∀ {n j : Nat}, j < n → badS K (f j) = true → anyS K f n = true
  | n + 1, j, hj, h => by
    show (anyS K f n || badS K (f n)) = true
    by_cases e : j = n
    · rw [← e, h, Bool.or_true]
    · rw [anyS_true (by omega) h, Bool.true_or]
theorem anyS_false {K : Nat} {f : Nat → Int} : ∀ {n : Nat}, (∀ j, j < n → badS K (f j) = false) → anyS K f n = false
  | 0, _ => rfl
  | n + 1, h => by
    show (anyS K f n || badS K (f n)) = false
    rw [anyS_false (fun j hj => h j (by omega)), h n (by omega)]; rfl
theorem anyS_good {K : Nat} {f : Nat → Int} : ∀ {n : Nat}, anyS K f n = false → ∀ j, j < n → 0 ≤ f j ∧ f j < K
  | n + 1, h, j, hj => by
    have h : (anyS K f n || badS K (f n)) = false := h
    rw [Bool.or_eq_false_iff] at h
    by_cases e : j = n
    · have h2 := h.2
      unfold badS at h2
      rw [Bool.or_eq_false_iff] at h2
      have a := of_decide_eq_false h2.1
      have b := of_decide_eq_false h2.2
      rw [e]; omega
    · exact anyS_good h.1 j (by omega)
/-- What checkSigns says. -/
def scode (fs : List Rat) (P G : List (List Rat)) (T : Nat) (f : Nat → Int) : Int := if hcode fs P G = 0 then (if T ≤ 12 then (if anyS (G[0]!).length f T = true then 2 else 0) else 4) else hcode fs P G
theorem scode_good {fs : List Rat} {P G : List (List Rat)} {T : Nat} {f : Nat → Int} (h : scode fs P G T f = 0) : hcode fs P G = 0 ∧ T ≤ 12 ∧ ∀ j, j < T → 0 ≤ f j ∧ f j < (G[0]!).length := by
  unfold scode at h
  by_cases a : hcode fs P G = 0
  rotate_left
  · rw [if_neg a] at h; exact absurd h a
  rw [if_pos a] at h
  by_cases b : T ≤ 12
  rotate_left
  · rw [if_neg b] at h; exact absurd h (by decide)
  rw [if_pos b] at h
  by_cases c : anyS (G[0]!).length f T = true
  · rw [if_pos c] at h; exact absurd h (by decide)
  exact ⟨a, b, anyS_good (by simpa using c)⟩
theorem csign_any (x : Int) (K b : Nat) (w : World) (hb : w.heap[b]? = some (.cells #[.int .i64 (K : Int)] 3)) : Calls Tryz.prog 82 #[.int .i64 x, .pointer (some ⟨b, 0, none⟩)] w fun e w' => e = .returned (.bool (badS K x)) ∧ w' = w := by
  have c0 : w.cell? ⟨b, 0, none⟩ = some (.int .i64 (K : Int)) := by simp [World.cell?, hb]
  clear hb
  go_enter Tryz.func82, Tryz.ntmps82
  by_cases h1 : x < 0
  · have e : badS K x = true := by unfold badS; rw [decide_eq_true h1, Bool.true_or]
    rw [e]
    go_wp2
    go_ret
    exact ⟨rfl, rfl⟩
  · by_cases h2 : (K : Int) ≤ x
    · have e : badS K x = true := by unfold badS; rw [decide_eq_true h2, Bool.or_true]
      rw [e]
      go_wp2
      go_ret
      exact ⟨rfl, rfl⟩
    · have e : badS K x = false := by unfold badS; rw [decide_eq_false h1, decide_eq_false h2]; rfl
      rw [e]
      go_wp2
      go_ret
      exact ⟨rfl, rfl⟩
def IxPost (K : Nat) (f : Nat → Int) (n : Nat) (w : World) (e : Ending) (w' : World) : Prop := (∃ r : Int, e = .returned (.int .i64 r) ∧ decide (0 ≤ r) = anyS K f n) ∧ w' = w
set_option maxHeartbeats 4000000 in
theorem sindex_any (a : Option Addr) (n c K bk : Nat) (f : Nat → Int) (w : World) (ha : NRow w (.slice a n c) n f) (hn : n ≤ 1000000) (hb : w.heap[bk]? = some (.cells #[.int .i64 (K : Int)] 3)) :
    Calls Tryz.prog 130 #[.slice a n c, .func (.func 82) #[] #[.pointer (some ⟨bk, 0, none⟩)]] w (IxPost K f n w) := by
  obtain ⟨a', c', e, h1, h2, h3⟩ := ha
  injection e with e1 e2 e3
  clear e2
  subst e1
  subst e3
  have H3 := hide h3
  have HBK := hide hb
  clear h3 hb
  go_enter Tryz.func130, Tryz.ntmps130
  go_wp2
  go_loopw [8] (fun vi wr => ∃ m : Nat, vi = .int .i64 (m : Int) ∧ m ≤ n ∧ (∀ j, j < m → badS K (f j) = false) ∧ wr = w) (fun vi _ => n - (intOf vi).toNat)
  case atStart => exact ⟨0, rfl, Nat.zero_le _, fun j hj => absurd hj (Nat.not_lt_zero _), rfl⟩
  case round =>
    obtain ⟨m, rfl, hm, hj, rfl⟩ := hrel
    by_cases hlt : m < n
    · obtain ⟨b, o, rfl, hbl, hc⟩ := unhide H3 (by omega)
      have k0 := hc m hlt
      obtain ⟨x, hx⟩ : ∃ x, f m = x := ⟨_, rfl⟩
      rw [hx] at k0
      have e2 : (0 : Int) ≤ (m : Int) := by omega
      have e3 : (m : Int) < (n : Int) := by omega
      have HJ := hide hj
      have HX := hide hx
      have C := hide (csign_any x K bk wr (unhide HBK))
      clear hc H3 hj hx
      cases hb : badS K x with
      | true =>
        rw [hb] at C
        have HF := hide (anyS_true (K := K) (f := f) hlt (by rw [unhide HX]; exact hb))
        clear hb
        go_wp2_with fail
        refine (unhide C).mono ?_
        rintro e_ w2 ⟨rfl, rfl⟩
        go_wp2
        go_ret
        exact ⟨⟨_, rfl, by rw [unhide HF]; exact decide_eq_true (by omega)⟩, rfl⟩
      | false =>
        rw [hb] at C
        have HF : Hid (badS K (f m) = false) := by show badS K (f m) = false; rw [unhide HX]; exact hb
        clear hb
        go_wp2_with fail
        refine (unhide C).mono ?_
        rintro e_ w2 ⟨rfl, rfl⟩
        go_wp2
        refine ⟨⟨m + 1, by go_num, hlt, fun j hj => ?_, by first | exact rfl | trivial⟩, by simp [intOf]; omega⟩
        by_cases hjm : j = m
        · rw [hjm]; exact unhide HF
        · exact unhide HJ j (by omega)
    · obtain rfl : m = n := by omega
      have e3 : ¬ (m : Int) < (m : Int) := by omega
      have HF := hide (anyS_false (K := K) (f := f) hj)
      clear hj
      go_wp2
      go_ret
      exact ⟨⟨_, rfl, by rw [unhide HF]; exact decide_eq_false (by omega)⟩, rfl⟩
set_option maxHeartbeats 4000000 in
theorem scontains_any (a : Option Addr) (n c K bk : Nat) (f : Nat → Int) (w : World) (ha : NRow w (.slice a n c) n f) (hn : n ≤ 1000000) (hb : w.heap[bk]? = some (.cells #[.int .i64 (K : Int)] 3)) :
    Calls Tryz.prog 81 #[.slice a n c, .func (.func 82) #[] #[.pointer (some ⟨bk, 0, none⟩)]] w fun e w' => e = .returned (.bool (anyS K f n)) ∧ w' = w := by
  have C := hide (sindex_any a n c K bk f w ha hn hb)
  obtain ⟨B, hB⟩ : ∃ B, anyS K f n = B := ⟨_, rfl⟩
  have HB := hide hB
  rw [hB]
  clear ha hB hb
  go_enter Tryz.func81, Tryz.ntmps81
  go_wp2_with fail
  refine (unhide C).mono ?_
  rintro e_ w2 ⟨⟨r, rfl, hr⟩, rfl⟩
  by_cases h : 0 ≤ r
  · rw [decide_eq_true h] at hr
    obtain rfl : B = true := (unhide HB).symm.trans hr.symm
    clear hr
    go_wp2
    go_ret
    exact ⟨rfl, rfl⟩
  · rw [decide_eq_false h] at hr
    obtain rfl : B = false := (unhide HB).symm.trans hr.symm
    have h' : decide (0 ≤ r) = false := decide_eq_false h
    clear hr
    go_wp2
    go_ret
    exact ⟨rfl, rfl⟩

set_option maxHeartbeats 16000000 in
set_option maxRecDepth 100000 in
set_option linter.unusedSimpArgs false in
theorem checkSigns_any (v : Value) (sn : Sl) (fs : List Rat) (P G : List (List Rat)) (T : Nat) (f : Nat → Int) (w : World) (h : HmIs w v fs P G) (sm : SmHm fs P G) (hs : NRow w (.slice sn.a T sn.c) T f) (hT : T ≤ 1000000) :
    Calls Tryz.prog 45 #[v, .slice sn.a T sn.c] w (ErrPost w (scode fs P G T f)) := by
  have HSM := hide sm
  have HS := hide hs
  obtain ⟨sf, sp, sg, rfl, hF, hP, hG⟩ := h
  have hfn := law_len hF
  have hpn := rows_len hP
  have hgn := rows_len hG
  obtain ⟨n, hn⟩ : ∃ n, fs.length = n := ⟨_, rfl⟩
  have HN := hide hn
  obtain ⟨np, hnp⟩ : ∃ n, P.length = n := ⟨_, rfl⟩
  have HNP := hide hnp
  obtain ⟨ng, hng⟩ : ∃ n, G.length = n := ⟨_, rfl⟩
  have HNG := hide hng
  rw [hn] at hfn
  rw [hnp] at hpn
  rw [hng] at hgn
  clear hnp hng
  have X0 := HBox.new hF hP hG
  have b0 := alloc_below w (.cells #[.slice sf.a sf.n sf.c, .slice sp.a sp.n sp.c, .slice sg.a sg.n sg.c] 53)
  obtain ⟨W0, hW0⟩ : ∃ W, w.alloc (.cells #[.slice sf.a sf.n sf.c, .slice sp.a sp.n sp.c, .slice sg.a sg.n sg.c] 53) = W := ⟨_, rfl⟩
  obtain ⟨bx, hbx⟩ : ∃ b, w.heap.size = b := ⟨_, rfl⟩
  rw [hW0] at X0 b0
  rw [hbx] at X0
  have HX0 := hide X0
  have HB0 := hide b0
  have HCH : Hid (∀ W, Below W0.heap.size W0 W → (fun w' : World => w'.cell? ⟨bx, 0, none⟩ = some (.slice sf.a n sf.c) ∧ w'.cell? ⟨bx, 1, none⟩ = some (.slice sp.a np sp.c) ∧ w'.cell? ⟨bx, 2, none⟩ = some (.slice sg.a ng sg.c)) W) := fun W hW => by
    have h1 := (unhide HX0).cells W hW
    rw [hfn, hpn, hgn] at h1
    exact h1
  have HIS : Hid (∀ W, Below W0.heap.size W0 W → HmIs W (.agg #[.slice sf.a n sf.c, .slice sp.a np sp.c, .slice sg.a ng sg.c]) fs P G) := fun W hW => by
    have h1 := (unhide HX0).hm.below hW
    unfold hmval at h1
    rw [hfn, hpn, hgn] at h1
    exact h1
  have ⟨c0, c1, c2⟩ := unhide HCH _ (Below.refl _ _)
  have HFN := hide hfn
  have HPN := hide hpn
  have HGN := hide hgn
  unfold hmval
  rw [hfn, hpn, hgn] at hW0 ⊢
  clear hF hP hG X0 b0 hn hfn hpn hgn
  have HCK := hide (hcheck_any _ fs P G W0 (unhide HIS _ (Below.refl _ _)) (unhide HSM))
  clear hs sm
  go_enter Tryz.func45, Tryz.ntmps45
  go_wp2_with fail
  clear hW0 hbx c0 c1 c2
  refine (unhide HCK).mono ?_
  rintro e w1 ⟨rfl, hb1⟩
  have HB1 := hide hb1
  obtain ⟨z, hz⟩ : ∃ z, hcode fs P G = z := ⟨_, rfl⟩
  rw [hz]
  have HZ := hide hz
  clear hz hb1 HCK
  by_cases hz0 : z = 0
  rotate_left
  · have e5 : errV z = .iface 59 (.int .i64 z) := by unfold errV; rw [if_neg hz0]
    rw [e5]
    have HE : Hid (scode fs P G T f = z) := by
      show _ = z
      unfold scode
      rw [unhide HZ, if_neg hz0]
    have HE5 := hide e5
    clear hz0 e5
    go_wp2
    go_ret
    exact ⟨by rw [unhide HE]; exact (congrArg Ending.returned (unhide HE5)).symm, below_step (unhide HB0) (unhide HB1)⟩
  subst hz0
  have e5 : errV 0 = .nilIface := rfl
  rw [e5]
  clear e5
  have gm := goodH_of (unhide HZ)
  by_cases hT12 : T ≤ 12
  rotate_left
  · have f1 : (12 : Int) < (T : Int) := by omega
    have HE : Hid (scode fs P G T f = 4) := by
      show _ = 4
      unfold scode
      rw [if_pos (unhide HZ), if_neg hT12]
    clear hT12
    go_wp2
    go_ret
    exact ⟨by rw [unhide HE]; rfl, below_step (unhide HB0) (unhide HB1)⟩
  have f1 : ¬ (12 : Int) < (T : Int) := by omega
  have hlt0 : 0 < G.length := by rw [gm.gl]; exact gm.n1
  obtain ⟨bg, og, m0, hga, hbg, g00, hD0⟩ := ((unhide HX0).2.2.2.below (unhide HB1)).at hlt0
  rw [Nat.add_zero] at g00
  have hm0 := law_len hD0
  have ⟨d0, d1, d2⟩ := unhide HCH _ (unhide HB1)
  obtain ⟨kk, hkk⟩ : ∃ x, (G[0]!).length = x := ⟨_, rfl⟩
  have hk1 : 1 ≤ kk := by rw [← hkk]; exact gm.k1
  rw [hkk] at hm0
  rw [hm0] at g00
  rw [hga] at d2
  have hng : 0 < ng := by rw [← unhide HNG]; exact hlt0
  have HKK := hide hkk
  have HT12 := hide hT12
  have bA := alloc_below w1 (.cells #[.int .i64 (kk : Int)] 3)
  have nA := heap_alloc_new w1 (.cells #[.int .i64 (kk : Int)] 3)
  obtain ⟨W2, hW2⟩ : ∃ W, w1.alloc (.cells #[.int .i64 (kk : Int)] 3) = W := ⟨_, rfl⟩
  obtain ⟨bk, hbk⟩ : ∃ b, w1.heap.size = b := ⟨_, rfl⟩
  rw [hW2] at bA nA
  rw [hbk] at nA
  have HB2 := hide (below_step (below_step (unhide HB0) (unhide HB1)) bA)
  have HCO := hide (scontains_any sn.a T sn.c kk bk f W2 ((unhide HS).below (unhide HB2)) hT nA)
  have HSC : Hid (scode fs P G T f = if anyS kk f T = true then 2 else 0) := by
    show _ = _
    unfold scode
    rw [if_pos (unhide HZ), if_pos (unhide HT12), unhide HKK]
  obtain ⟨B, hB⟩ : ∃ B, anyS kk f T = B := ⟨_, rfl⟩
  rw [hB] at HCO HSC
  clear hD0 hm0 hkk hlt0 gm bA nA hT12 hbg hB
  go_wp2_with fail
  clear d0 d1 d2 g00 hW2 hbk
  refine (unhide HCO).mono ?_
  rintro e w3 ⟨rfl, rfl⟩
  cases B with
  | true =>
    have HE : Hid (scode fs P G T f = 2) := by show _ = 2; rw [unhide HSC, if_pos rfl]
    go_wp2
    go_ret
    exact ⟨by rw [unhide HE]; rfl, unhide HB2⟩
  | false =>
    have HE : Hid (scode fs P G T f = 0) := by show _ = 0; rw [unhide HSC, if_neg (by decide)]
    go_wp2
    go_ret
    exact ⟨by rw [unhide HE]; rfl, unhide HB2⟩

end Go.Proofs.YtfnbjenneodcdaaGreatDoor
