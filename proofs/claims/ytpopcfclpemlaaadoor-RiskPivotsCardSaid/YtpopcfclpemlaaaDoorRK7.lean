/- RiskPivots: the walk. -/
import Derived.Test.YtpopcfclpemlaaaDoorRKC
namespace Go.Proofs.YtpopcfclpemlaaaDoor
open Go.RowKit Go.Sort Go.Shelf

theorem clone_world2 {w : World} {n cap : Nat} {us : List Tri} {qs : List Rat} (hus : us.length = n) (hn : qs.length = n) (hr : ∀ j, j < qs.length → RatIs w (us[j]!).val qs[j]!) (hcap : n ≤ cap) :
    SumsAt w ((w.alloc (.cells #[] 31)).alloc (.cells ((tcells us).toArray ++ Builtin.zeroCells zR (cap - n)) 31)).drew (w.heap.size + 1) (us ++ List.replicate (cap - n) zTri) (qs ++ List.replicate (cap - n) 0) ∧ (us ++ List.replicate (cap - n) zTri).length = cap := by
  have h := clone_world hus hn hr hcap
  have hzc : (Value.agg zR).cells = zR := by simp [Value.cells, zR]
  have e : ∀ o, (w.alloc (.cells #[] 31)).drew.alloc o = ((w.alloc (.cells #[] 31)).alloc o).drew := fun o => rfl
  rw [hzc, e] at h
  exact h
theorem szz_small : ∀ n, n < 6 → szz 1 1 n ≤ 1000 := by decide
theorem mfst_all {g : Nat → Int} : ∀ n, (∀ i, i < n → g i = 0) → mfst g n = 0
  | 0, _ => rfl
  | n + 1, h => mfst_next (mfst_all n (fun i hi => h i (by omega))) (h n (by omega))
theorem ccode_put {g : Rsk.Gs} {N n k : Nat} {qs : List Rat} (h : ccode g N qs = 0) (hn : qs.length = n) : ccode g N (row (Rsk.put (xq qs) k ((0 : Int) : Rat)) n) = 0 := by
  have hc := (ccode_zero h).2
  unfold ccode at h ⊢
  rw [row_length, ← hn]
  by_cases c : gcode (qs.length : Int) g N = 0
  · rw [if_pos c]
    refine mfst_all _ (fun i hi => ?_)
    unfold ccd
    rw [hn] at hi hc
    rw [hn, xq_row _ hi, if_pos]
    refine decide_eq_true ?_
    unfold Rsk.put
    split
    · rw [show ((0 : Int) : Rat) = 0 by simp]; exact ⟨Rat.le_refl, by decide⟩
    · exact hc i hi
  · rw [if_neg c] at h; exact absurd h c
theorem pivot_eq (x : Nat → Rat) {n k : Nat} (F : Nat → Rat) (hk : k < n) : Rsk.lk (Rsk.put x k ((0 : Int) : Rat)) n F + x k * cnv x n F k = Rsk.lk x n F := by
  unfold cnv
  rw [show ((0 : Int) : Rat) = 0 by simp, show ((1 : Int) : Rat) = 1 by simp]
  exact (Rsk.pivot x k n F hk).symm
theorem cnv_nn {x : Nat → Rat} {g : Rsk.Gs} {N n k : Nat} (hk : k < n) (h : ∀ j, j < n → 0 ≤ x j ∧ x j ≤ 1) : 0 ≤ cnv x n (Rsk.wf g N) k := by
  unfold cnv
  rw [show ((0 : Int) : Rat) = 0 by simp, show ((1 : Int) : Rat) = 1 by simp]
  have := Rsk.counts_nn (p := x) k n (Rsk.wf g N) hk h (Rsk.wf_mon g N n)
  grind
set_option maxHeartbeats 16000000 in
set_option maxRecDepth 100000 in
set_option linter.unusedSimpArgs false in
theorem riskPivots_any (a : Option Addr) (N c : Nat) (g : Rsk.Gs) (H : Nat → Option Addr × Nat) (v : Value) (ps : List (Int × Int)) (kk : Int) (w : World) (hG : GRow w a N c g H) (hp : PairsAre w v ps) (htab : Tab w) :
    Calls Tryd.prog 3 #[.slice a N c, v, .int .i64 kk] w fun e w' => e = .returned (.bool true) ∧ Below w.heap.size w w' := by
  have KKe : KK = 1099511627776 := rfl
  have HTB0 := hide htab
  have HFE := hide (few_any a N c g H w hG)
  have HRS : Hid (∀ t, t < (pqs ps).length → RS (pqs ps)[t]! 1) := fun t ht => pqs_RS hp t ht
  have hpl := pqs_length ps
  have HFS : Hid (ps.length ≤ 5 → Calls Tryd.prog 11 #[v] w fun e w' => ∃ v, e = .returned v ∧ LawIs w' v (pqs ps) ∧ Below w.heap.size w w') := fun hl => fs_any v ps w hp (by omega)
  obtain ⟨qs, hqs⟩ : ∃ qs, pqs ps = qs := ⟨_, rfl⟩
  rw [hqs] at HRS HFS hpl
  obtain ⟨ap, cp, rfl, h1, h2, -⟩ := hp
  obtain ⟨n, hn⟩ : ∃ n, ps.length = n := ⟨_, rfl⟩
  rw [hn] at HFS hpl h1 ⊢
  have HPL := hide hpl
  have HGW : Hid (∀ W, Below w.heap.size w W → GRow W a N c g H) := fun W hW => hG.below hW
  have g1 := hG.1
  have g2 := hG.2.1
  clear htab hqs hn hpl hG
  by_cases hlen : 5 < n
  · have hd : (5 : Int) < (n : Int) := by omega
    go_enter Tryd.func3, Tryd.ntmps3
    go_wp2_with fail
    refine (unhide HFE).mono ?_
    rintro e w1 ⟨⟨B, rfl⟩, rfl⟩
    cases B with
    | true =>
      go_wp2
      go_ret
      exact ⟨rfl, Below.refl _ _⟩
    | false =>
      go_wp2
      go_ret
      exact ⟨rfl, Below.refl _ _⟩
  have hd : ¬ (5 : Int) < (n : Int) := by omega
  by_cases hn0 : n = 0
  · have hz : ((n : Int) == 0) = true := by rw [hn0]; rfl
    have hz' : (n : Int) = 0 := by omega
    go_enter Tryd.func3, Tryd.ntmps3
    go_wp2_with fail
    refine (unhide HFE).mono ?_
    rintro e w1 ⟨⟨B, rfl⟩, rfl⟩
    cases B with
    | true =>
      go_wp2
      go_ret
      exact ⟨rfl, Below.refl _ _⟩
    | false =>
      go_wp2
      go_ret
      exact ⟨rfl, Below.refl _ _⟩
  have hz : ((n : Int) == 0) = false := by rw [beq_eq_false_iff_ne]; omega
  have hz' : ¬ (n : Int) = 0 := by omega
  have HFS2 := hide (unhide HFS (by omega))
  have hn5 : n ≤ 5 := by omega
  have HN5 : Hid (1 ≤ n ∧ n ≤ 5) := ⟨by omega, hn5⟩
  clear HFS hlen
  by_cases hk : ccode g N qs = 0
  · have HK := hide hk
    have hcz := ccode_zero hk
    have szb : szj 1 n + 1 + 8 ≤ 1000 := by
      have := szj_mono 1 hn5
      have e : szj 1 5 = 280 := by decide
      omega
    have szc : szz 1 1 n ≤ 1000 := szz_small n (by omega)
    have HCH : Hid (∀ W u, Below w.heap.size w W → LawIs W u qs → Calls Tryd.prog 12 #[.slice a N c, u] W fun e w' => ∃ r, e = .returned (.tuple #[r, .nilIface]) ∧ RatIs w' r (Rsk.lk (xq qs) n (Rsk.wf g N)) ∧ Below W.heap.size W w') := fun W u hW hu => by
      have := rChance_ok a N c g H u qs 1 1000 W (unhide HGW W hW) hu (unhide HRS) (by decide) hk (by rw [unhide HPL]; exact szb) (by decide)
      rw [unhide HPL] at this
      exact this
    have HCO : Hid (∀ W u, Below w.heap.size w W → LawIs W u qs → Calls Tryd.prog 13 #[.slice a N c, u] W (RowNil W (row (cnv (xq qs) n (Rsk.wf g N)) n) n)) := fun W u hW hu => rCounts_ok a N c g H u qs n 1 1000 W (unhide HGW W hW) hu (unhide HPL) (unhide HRS) (by decide) hk szb szc (by decide)
    have HCP : Hid (∀ W u k, k < n → Below w.heap.size w W → LawIs W u (row (Rsk.put (xq qs) k ((0 : Int) : Rat)) n) → Calls Tryd.prog 12 #[.slice a N c, u] W fun e w' => ∃ r, e = .returned (.tuple #[r, .nilIface]) ∧ RatIs w' r (Rsk.lk (Rsk.put (xq qs) k ((0 : Int) : Rat)) n (Rsk.wf g N)) ∧ Below W.heap.size W w') := fun W u k hkn hW hu => by
      have := rChance_ok a N c g H u _ 1 1000 W (unhide HGW W hW) hu (fun j hj => by
        rw [row_length] at hj
        rw [row_get hj]
        exact put_RS (fun i hi => unhide HRS i (by rw [unhide HPL]; exact hi)) (by rw [show ((0 : Int) : Rat) = 0 by simp]; exact RS.zero) j hj) (by decide) (ccode_put hk (unhide HPL)) (by rw [row_length]; exact szb) (by decide)
      rw [row_length, Rsk.lk_congr (q := Rsk.put (xq qs) k ((0 : Int) : Rat)) n (fun i hi => xq_row _ hi) (fun i _ => rfl)] at this
      exact this
    have HPVT : Hid (∀ k, k < n → Rsk.lk (Rsk.put (xq qs) k ((0 : Int) : Rat)) n (Rsk.wf g N) + xq qs k * cnv (xq qs) n (Rsk.wf g N) k = Rsk.lk (xq qs) n (Rsk.wf g N)) := fun k hk => pivot_eq _ _ hk
    have HCNN : Hid (∀ k, k < n → 0 ≤ cnv (xq qs) n (Rsk.wf g N) k) := fun k hk => cnv_nn hk (fun j hj => hcz.2 j (by rw [unhide HPL]; exact hj))
    have HLB := hide (Rsk.lk_bounds (p := xq qs) (n := n) (f := Rsk.wf g N) (fun j hj => hcz.2 j (by rw [unhide HPL]; exact hj)) (fun i _ => Rsk.wf_bd g N i))
    have HRX0 : Hid (∀ j, j < n → RS (xq qs j) 1) := fun j hj => unhide HRS j (by rw [unhide HPL]; exact hj)
    have hr1 : RS (Rsk.lk (xq qs) n (Rsk.wf g N)) 1000 := (lk_RS n 1 _ (unhide HRX0) (fun i => wf_RS g N i)).mono szc
    have hrp : ∀ k (z : Int), RS (z : Rat) 1 → RS (Rsk.lk (Rsk.put (xq qs) k (z : Rat)) n (Rsk.wf g N)) 1000 := fun k z hz => (lk_RS n 1 _ (fun j hj => put_RS (unhide HRX0) hz j hj) (fun i => wf_RS g N i)).mono szc
    have hz0 : RS ((0 : Int) : Rat) 1 := by rw [show ((0 : Int) : Rat) = 0 by simp]; exact RS.zero
    have hr0 : ∀ k, RS (Rsk.lk (Rsk.put (xq qs) k ((0 : Int) : Rat)) n (Rsk.wf g N)) 1000 := fun k => hrp k 0 hz0
    have hrc : ∀ k, RS (cnv (xq qs) n (Rsk.wf g N) k) 2001 := fun k => by
      unfold cnv
      exact ((hrp k 1 one_RSi).sub' (hrp k 0 hz0)).mono (by decide)
    obtain ⟨JB, hJB⟩ : ∃ J : Nat, J = 5000 := ⟨_, rfl⟩
    have HJ : Hid (JB + JB + 1 ≤ KK) := show _ ≤ _ by rw [KKe]; omega
    have HJK : Hid (JB ≤ KK) := show _ ≤ _ by rw [KKe]; omega
    have HR1 : Hid (RS (Rsk.lk (xq qs) n (Rsk.wf g N)) JB) := hr1.mono (by omega)
    have HR0_ : Hid (∀ k, RS (Rsk.lk (Rsk.put (xq qs) k ((0 : Int) : Rat)) n (Rsk.wf g N)) JB) := fun k => (hr0 k).mono (by omega)
    have HRN_ : Hid (∀ k, RS (cnv (xq qs) n (Rsk.wf g N) k) JB) := fun k => (hrc k).mono (by omega)
    have HRM_ : Hid (∀ k, k < n → RS (xq qs k * cnv (xq qs) n (Rsk.wf g N) k) JB) := fun k hk => ((unhide HRX0 k hk).mul (hrc k)).mono (by omega)
    have HRX_ : Hid (∀ k, k < n → RS (xq qs k) JB) := fun k hk => (unhide HRX0 k hk).mono (by omega)
    have HRO : Hid (RS ((1 : Int) : Rat) JB) := one_RSi.mono (by omega)
    have HQX : Hid (∀ j, qs[j]! = xq qs j) := fun j => rfl
    obtain ⟨x, hx⟩ : ∃ x, xq qs = x := ⟨_, rfl⟩
    rw [hx] at HCH HCO HCP HPVT HCNN HLB HRX0 HR1 HR0_ HRN_ HRM_ HRX_ HQX
    obtain ⟨F, hF⟩ : ∃ F, Rsk.wf g N = F := ⟨_, rfl⟩
    rw [hF] at HCH HCO HCP HPVT HCNN HLB HR1 HR0_ HRN_ HRM_
    obtain ⟨T1, hT1⟩ : ∃ T, Rsk.lk x n F = T := ⟨_, rfl⟩
    rw [hT1] at HCH HPVT HLB HR1
    clear hk hcz szb szc hr1 hrp hz0 hr0 hrc hJB hx hF hT1
    go_enter Tryd.func3, Tryd.ntmps3
    go_wp2_with fail
    refine (unhide HFE).mono ?_
    rintro e w0 ⟨⟨B, rfl⟩, hw⟩
    have hw' := hw.symm
    subst hw'
    clear hw
    cases B with
    | false =>
      go_wp2
      go_ret
      exact ⟨rfl, Below.refl _ _⟩
    | true =>
    go_wp2_with fail
    refine (pick_any kk n (by omega) (by omega) w).mono ?_
    rintro e w0 ⟨k, rfl, hkn, hw⟩
    have hw' := hw.symm
    subst hw'
    clear hw
    have HKN := hide hkn
    have k0 : (0 : Int) ≤ (k : Int) := by omega
    have k1 : (k : Int) < (n : Int) := by omega
    obtain ⟨CN, hCN⟩ : ∃ q, cnv x n F k = q := ⟨_, rfl⟩
    obtain ⟨T0, hT0⟩ : ∃ q, Rsk.lk (Rsk.put x k ((0 : Int) : Rat)) n F = q := ⟨_, rfl⟩
    have HPV : Hid (T0 + x k * CN = T1) := by show _ = _; rw [← hCN, ← hT0]; exact unhide HPVT k hkn
    have hcnn : 0 ≤ CN := by rw [← hCN]; exact unhide HCNN k hkn
    have HR0 : Hid (RS T0 JB) := by show RS _ _; rw [← hT0]; exact unhide HR0_ k
    have HRN : Hid (RS CN JB) := by show RS _ _; rw [← hCN]; exact unhide HRN_ k
    have HRM : Hid (RS (x k * CN) JB) := by show RS _ _; rw [← hCN]; exact unhide HRM_ k hkn
    have HRX := hide (unhide HRX_ k hkn)
    have HCP2 : Hid (∀ W u, Below w.heap.size w W → LawIs W u (row (Rsk.put x k ((0 : Int) : Rat)) n) → Calls Tryd.prog 12 #[.slice a N c, u] W fun e w' => ∃ r, e = .returned (.tuple #[r, .nilIface]) ∧ RatIs w' r T0 ∧ Below W.heap.size W w') := fun W u hW hu => by
      have := unhide HCP W u k hkn hW hu
      rw [hT0] at this
      exact this
    have hsn := sign_nn' (Rat.num_nonneg.2 hcnn)
    have hst := sign_nn' (Rat.num_nonneg.2 (unhide HLB).1)
    have e1 : ((1 : Int) : Rat) = 1 := by simp
    have hsc := (cmpv_le (show T1 ≤ ((1 : Int) : Rat) by rw [e1]; exact (unhide HLB).2)).2
    obtain ⟨y1, hy1⟩ : ∃ y, CN.num.sign = y := ⟨_, rfl⟩
    obtain ⟨y2, hy2⟩ : ∃ y, T1.num.sign = y := ⟨_, rfl⟩
    obtain ⟨y3, hy3⟩ : ∃ y, cmpv T1 ((1 : Int) : Rat) = y := ⟨_, rfl⟩
    have HSN := hide hy1
    have HST := hide hy2
    have HSC := hide hy3
    rw [hy1] at hsn
    rw [hy2] at hst
    rw [hy3] at hsc
    have HCNk := hide hCN
    clear hCN hT0 HPVT HCNN HLB HR0_ HRN_ HRM_ HRX_ HCP hcnn hy1 hy2 hy3 hkn e1 hn5
    go_wp2_with fail
    refine (unhide HFS2).mono ?_
    rintro e w1 ⟨v1, rfl, hl1, hb1⟩
    have HL1 := hide hl1
    have HB1 := hide hb1
    have HCH1 := hide (unhide HCH w1 v1 hb1 hl1)
    obtain ⟨a1, c1, rfl, m1, m2, -⟩ := id hl1
    rw [unhide HPL] at HL1 HCH1 m1 ⊢
    have HCO1 : Hid (∀ W, Below w1.heap.size w1 W → Calls Tryd.prog 13 #[.slice a N c, .slice a1 n c1] W (RowNil W (row (cnv x n F) n) n)) := fun W hW => unhide HCO W _ (below_step (unhide HB1) hW) ((unhide HL1).below hW)
    clear hb1 hl1 HCH HCO HFS2
    go_wp2_with fail
    refine (unhide HCH1).mono ?_
    rintro e w2 ⟨v2, rfl, hv2, hb2⟩
    obtain ⟨tc, rfl, r2⟩ := tri_of hv2
    simp only [Tri.val]
    have X2 := BoxIs.new r2
    have b2 := below_step hb2 (alloc_below w2 (.cells #[.bool tc.s, .slice tc.a1 tc.n1 tc.c1, .slice tc.a2 tc.n2 tc.c2] 31))
    obtain ⟨W2, hW2⟩ : ∃ W, w2.alloc (.cells #[.bool tc.s, .slice tc.a1 tc.n1 tc.c1, .slice tc.a2 tc.n2 tc.c2] 31) = W := ⟨_, rfl⟩
    obtain ⟨b8, hb8⟩ : ∃ b, w2.heap.size = b := ⟨_, rfl⟩
    rw [hW2] at X2 b2
    rw [hb8] at X2
    have HX8 : Hid (∀ W, Below W2.heap.size W2 W → BoxIs W b8 tc T1) := fun W hW => X2.keep hW
    have HB2 := hide (below_step (unhide HB1) b2)
    have HL2 := hide ((unhide HL1).below b2)
    have HCO2 := hide (unhide HCO1 W2 b2)
    clear hv2 r2 X2 b2 hb2 HCH1 HCO1 HL1 HB1
    go_wp2_with fail
    clear hW2 hb8
    refine (unhide HCO2).mono ?_
    rintro e w3 ⟨G3, us3, rfl, hu3, hg3, S3⟩
    have HX8b : Hid (∀ W, Below w3.heap.size w3 W → BoxIs W b8 tc T1) := fun W hW => unhide HX8 W (below_step S3.bl hW)
    have HB3 := hide (below_step (unhide HB2) S3.bl)
    have HL3 := hide ((unhide HL2).below S3.bl)
    have HS3 := hide S3
    have HU3 := hide hu3
    clear S3 hu3 hg3 HCO2 HX8 HL2 HB2
    go_wp2_with fail
    refine (joined_any _ (tab_below (unhide HTB0) (unhide HB3))).mono ?_
    rintro e w4 ⟨rfl, hb4⟩
    have HB4 := hide (below_step (unhide HB3) hb4)
    have HX4 : Hid (∀ W, Below w4.heap.size w4 W → BoxIs W b8 tc T1) := fun W hW => unhide HX8b W (below_step hb4 hW)
    have HS4 := hide ((unhide HS3).keep hb4)
    have hl4 := (unhide HL3).below hb4
    clear hb4 HX8b HS3 HL3 HB3
    have hql := unhide HPL
    obtain ⟨tn, htn⟩ : ∃ t, us3[k]! = t := ⟨_, rfl⟩
    have HNC : Hid (∀ W, Below w4.heap.size w4 W → (W.cell? ⟨G3, k * 3, none⟩ = some (.bool tn.s) ∧ W.cell? ⟨G3, k * 3 + 1, none⟩ = some (.slice tn.a1 tn.n1 tn.c1) ∧ W.cell? ⟨G3, k * 3 + 2, none⟩ = some (.slice tn.a2 tn.n2 tn.c2)) ∧ RatIs W tn.val CN) := fun W hW => by
      have S := (unhide HS4).keep hW
      have ⟨q, _⟩ := S.cells k (by rw [unhide HU3]; exact unhide HKN)
      have r := S.rat k (by rw [unhide HU3]; exact unhide HKN)
      rw [row_get (unhide HKN), unhide HCNk] at r
      rw [htn] at q r
      exact ⟨q, r⟩
    have hl4' : LawIs w4 (.slice a1 qs.length c1) qs := by rw [hql]; exact hl4
    obtain ⟨bx, ox, us, rfl, hblt, hus, hnews, hr⟩ := law_tris hl4' (by omega)
    obtain ⟨tx, htx⟩ : ∃ t, us[k]! = t := ⟨_, rfl⟩
    have HXC : Hid (∀ W, Below w4.heap.size w4 W → (W.cell? ⟨bx, ox + k * 3, none⟩ = some (.bool tx.s) ∧ W.cell? ⟨bx, ox + k * 3 + 1, none⟩ = some (.slice tx.a1 tx.n1 tx.c1) ∧ W.cell? ⟨bx, ox + k * 3 + 2, none⟩ = some (.slice tx.a2 tx.n2 tx.c2)) ∧ RatIs W tx.val (x k)) := fun W hW => by
      have kq : k < us.length := by have := unhide HKN; omega
      have c : ∀ r, r < 3 → W.cell? ⟨bx, ox + (k * 3 + r), none⟩ = (us[k]!).cells[r]? := fun r hr => by
        have e := tcells_get us k r kq hr
        have e2 : ∃ z, (us[k]!).cells[r]? = some z := by
          match r, hr with
          | 0, _ => exact ⟨_, rfl⟩
          | 1, _ => exact ⟨_, rfl⟩
          | 2, _ => exact ⟨_, rfl⟩
        obtain ⟨z, hz⟩ := e2
        have := hnews (k * 3 + r) z (by rw [e, hz])
        rw [addr_add] at this
        rw [hW.cell (p := ⟨bx, ox + (k * 3 + r), none⟩) hblt, this, hz]
      have r := (hr k (by rw [hql]; exact unhide HKN)).below hW
      have e0 := c 0 (by decide)
      have e1 := c 1 (by decide)
      have e2 := c 2 (by decide)
      rw [htx] at e0 e1 e2 r
      rw [unhide HQX] at r
      exact ⟨⟨e0, e1, e2⟩, r⟩
    obtain ⟨ii, hii, hz0, hz1, hz2⟩ := info_parts Tryd.infoR
    have hnews' : ∀ j u, (tcells us)[j]? = some u → (w4.alloc (.cells #[] 31)).cell? ((⟨bx, ox, none⟩ : Addr).add j) = some u := fun j u hu => by
      have := hnews j u hu
      rw [addr_add] at this ⊢
      rw [(alloc_below w4 _).cell (p := ⟨bx, ox + j, none⟩) hblt]
      exact this
    have HNW := hide hnews'
    have HI := hide hii
    have H0 := hide hz0
    have HUS : Hid (us.length = n) := by show _ = _; rw [hus, hql]
    have HTL : Hid ((tcells us).length = n * 3) := by show _ = _; rw [tcells_length, unhide HUS]
    have HCW : Hid (∀ cap, n ≤ cap → SumsAt w4 ((w4.alloc (.cells #[] 31)).alloc (.cells ((tcells us).toArray ++ Builtin.zeroCells zR (cap - n)) 31)).drew (w4.heap.size + 1) (us ++ List.replicate (cap - n) zTri) (qs ++ List.replicate (cap - n) 0) ∧ (us ++ List.replicate (cap - n) zTri).length = cap) := fun cap hc => clone_world2 (unhide HUS) hql hr hc
    have hp0 : 0 < n := by omega
    clear hl4 hl4' hnews hnews' hr hii hz0 hus hblt htn htx hql
    go_wp2_with (at_builtin; go_loud (refine wpList_append_new _ rfl _ _ _ rfl 31 ii _ 56 Tryd.underlying26 (unhide HI) (unhide H0) hz1 hz2 ⟨w4.heap.size, 0, none⟩ rfl ⟨bx, ox, none⟩ n c1 (tcells us) rfl (unhide HTL) (unhide HNW) hp0 (by unfold maxLen; omega) (by omega) ?_; intro cap hcap hmx))
    have ⟨SG, hlen5⟩ := unhide HCW cap hcap
    obtain ⟨W5, hW5⟩ : ∃ W, ((w4.alloc (.cells #[] 31)).alloc (.cells ((tcells us).toArray ++ Builtin.zeroCells zR (cap - n)) 31)).drew = W := ⟨_, rfl⟩
    obtain ⟨G5, hG5⟩ : ∃ G, w4.heap.size + 1 = G := ⟨_, rfl⟩
    rw [hW5, hG5] at SG
    simp only [hW5, hG5]
    have HSG := hide SG
    have HL5 := hide hlen5
    have HB45 := hide SG.bl
    clear SG hlen5 HCW hW5 hG5
    refine (whole_any 0 (by decide) (by decide) W5).mono ?_
    rintro e w6 ⟨v6, rfl, hv6, hb6⟩
    obtain ⟨t6, rfl, r6⟩ := tri_of hv6
    simp only [Tri.val]
    have S6 := (unhide HSG).keep hb6
    have hik : k < (us ++ List.replicate (cap - n) zTri).length := by rw [unhide HL5]; have := unhide HKN; omega
    have ⟨⟨y0, y1, y2⟩, f0, f1, f2⟩ := S6.cells k hik
    have FZ := S6.set k hik t6 _ r6
    obtain ⟨W6, hW6⟩ : ∃ W, ((w6.setCell ⟨G5, k * 3, none⟩ (.bool t6.s)).setCell ⟨G5, k * 3 + 1, none⟩ (.slice t6.a1 t6.n1 t6.c1)).setCell ⟨G5, k * 3 + 2, none⟩ (.slice t6.a2 t6.n2 t6.c2) = W := ⟨_, rfl⟩
    rw [hW6] at FZ
    have hLl : k < (qs ++ List.replicate (cap - n) (0 : Rat)).length := by rw [List.length_append]; have := unhide HPL; have := unhide HKN; omega
    have LW := cloned_law (n := n) (f := Rsk.put x k ((0 : Int) : Rat)) FZ (by rw [List.length_set, unhide HL5]; exact hcap) (by rw [List.length_set, unhide HL5]; exact hmx) (fun j hj => by
      rw [list_set_get _ _ hLl]
      unfold Rsk.put
      split
      · rfl
      · rw [app_get _ _ (by have := unhide HPL; omega)]; exact unhide HQX j)
    rw [List.length_set, unhide HL5] at LW
    have HCH6 := hide (unhide HCP2 W6 _ (below_step (unhide HB4) FZ.bl) LW)
    have HB46 := hide FZ.bl
    have k2 : (k : Int) < (n : Int) := k1
    clear S6 FZ LW hv6 r6 hb6 HSG hik hLl HB45 HCP2
    go_wp2_with fail
    clear hW6 y0 y1 y2 f0 f1 f2
    refine (unhide HCH6).mono ?_
    rintro e w7 ⟨v7, rfl, hv7, hb7⟩
    obtain ⟨ta, rfl, r7⟩ := tri_of hv7
    simp only [Tri.val]
    have X7 := BoxIs.new r7
    have b7 := below_step hb7 (alloc_below w7 (.cells #[.bool ta.s, .slice ta.a1 ta.n1 ta.c1, .slice ta.a2 ta.n2 ta.c2] 31))
    obtain ⟨W7, hW7⟩ : ∃ W, w7.alloc (.cells #[.bool ta.s, .slice ta.a1 ta.n1 ta.c1, .slice ta.a2 ta.n2 ta.c2] 31) = W := ⟨_, rfl⟩
    obtain ⟨b13, hb13⟩ : ∃ b, w7.heap.size = b := ⟨_, rfl⟩
    rw [hW7] at X7 b7
    rw [hb13] at X7
    have HX7 := hide X7
    have HB47 := hide (below_step (unhide HB46) b7)
    have HC12 : Hid (∀ W, Below W7.heap.size W7 W → (fun w' : World => (w'.cell? ⟨b8, 0, none⟩ = some (.bool tc.s) ∧ w'.cell? ⟨b8, 1, none⟩ = some (.slice tc.a1 tc.n1 tc.c1) ∧ w'.cell? ⟨b8, 2, none⟩ = some (.slice tc.a2 tc.n2 tc.c2)) ∧ (w'.cell? ⟨b13, 0, none⟩ = some (.bool ta.s) ∧ w'.cell? ⟨b13, 1, none⟩ = some (.slice ta.a1 ta.n1 ta.c1) ∧ w'.cell? ⟨b13, 2, none⟩ = some (.slice ta.a2 ta.n2 ta.c2)) ∧ (w'.cell? ⟨bx, ox + k * 3, none⟩ = some (.bool tx.s) ∧ w'.cell? ⟨bx, ox + k * 3 + 1, none⟩ = some (.slice tx.a1 tx.n1 tx.c1) ∧ w'.cell? ⟨bx, ox + k * 3 + 2, none⟩ = some (.slice tx.a2 tx.n2 tx.c2)) ∧ (w'.cell? ⟨G3, k * 3, none⟩ = some (.bool tn.s) ∧ w'.cell? ⟨G3, k * 3 + 1, none⟩ = some (.slice tn.a1 tn.n1 tn.c1) ∧ w'.cell? ⟨G3, k * 3 + 2, none⟩ = some (.slice tn.a2 tn.n2 tn.c2))) W) := fun W hW => by
      have h4 := below_step (unhide HB47) hW
      exact ⟨(unhide HX4 W h4).cells _ (Below.refl _ _), (unhide HX7).cells W hW, (unhide HXC W h4).1, (unhide HNC W h4).1⟩
    have HTX := hide (unhide HXC W7 (unhide HB47)).2
    have HTN := hide (unhide HNC W7 (unhide HB47)).2
    have HTA := hide X7.2
    have HTC := hide (unhide HX4 W7 (unhide HB47)).2
    have HT7 := hide (tab_below (unhide HTB0) (below_step (unhide HB4) (unhide HB47)))
    clear hv7 r7 X7 b7 hb7 HCH6 HB46
    go_wp2_with fail
    clear hW7 hb13
    refine wp_region_hold (fun w' : World => (w'.cell? ⟨b8, 0, none⟩ = some (.bool tc.s) ∧ w'.cell? ⟨b8, 1, none⟩ = some (.slice tc.a1 tc.n1 tc.c1) ∧ w'.cell? ⟨b8, 2, none⟩ = some (.slice tc.a2 tc.n2 tc.c2)) ∧ (w'.cell? ⟨b13, 0, none⟩ = some (.bool ta.s) ∧ w'.cell? ⟨b13, 1, none⟩ = some (.slice ta.a1 ta.n1 ta.c1) ∧ w'.cell? ⟨b13, 2, none⟩ = some (.slice ta.a2 ta.n2 ta.c2)) ∧ (w'.cell? ⟨bx, ox + k * 3, none⟩ = some (.bool tx.s) ∧ w'.cell? ⟨bx, ox + k * 3 + 1, none⟩ = some (.slice tx.a1 tx.n1 tx.c1) ∧ w'.cell? ⟨bx, ox + k * 3 + 2, none⟩ = some (.slice tx.a2 tx.n2 tx.c2)) ∧ (w'.cell? ⟨G3, k * 3, none⟩ = some (.bool tn.s) ∧ w'.cell? ⟨G3, k * 3 + 1, none⟩ = some (.slice tn.a1 tn.n1 tn.c1) ∧ w'.cell? ⟨G3, k * 3 + 2, none⟩ = some (.slice tn.a2 tn.n2 tn.c2))) (by kernel_rfl) ?_
    have bd0 : Below W7.heap.size W7 W7.drew := (Below.refl _ _).drew
    have hC0 : (fun w' : World => (w'.cell? ⟨b8, 0, none⟩ = some (.bool tc.s) ∧ w'.cell? ⟨b8, 1, none⟩ = some (.slice tc.a1 tc.n1 tc.c1) ∧ w'.cell? ⟨b8, 2, none⟩ = some (.slice tc.a2 tc.n2 tc.c2)) ∧ (w'.cell? ⟨b13, 0, none⟩ = some (.bool ta.s) ∧ w'.cell? ⟨b13, 1, none⟩ = some (.slice ta.a1 ta.n1 ta.c1) ∧ w'.cell? ⟨b13, 2, none⟩ = some (.slice ta.a2 ta.n2 ta.c2)) ∧ (w'.cell? ⟨bx, ox + k * 3, none⟩ = some (.bool tx.s) ∧ w'.cell? ⟨bx, ox + k * 3 + 1, none⟩ = some (.slice tx.a1 tx.n1 tx.c1) ∧ w'.cell? ⟨bx, ox + k * 3 + 2, none⟩ = some (.slice tx.a2 tx.n2 tx.c2)) ∧ (w'.cell? ⟨G3, k * 3, none⟩ = some (.bool tn.s) ∧ w'.cell? ⟨G3, k * 3 + 1, none⟩ = some (.slice tn.a1 tn.n1 tn.c1) ∧ w'.cell? ⟨G3, k * 3 + 2, none⟩ = some (.slice tn.a2 tn.n2 tn.c2))) W7.drew := unhide HC12 _ bd0
    refine wpHold_take (i := 0) (v := ?_) rfl (by kernel_rfl) (by kernel_rfl) (by kernel_rfl) (fun _ _ _ h => h) (Or.inl ⟨by rfl, ?_⟩) hC0 ?_
    rotate_left
    · intro w hSw; clear hSw; go_simp; (try with_reducible rfl)
    (try simp only [List.getElem_toArray, List.getElem_cons_succ, List.getElem_cons_zero])
    (try simp only [Act.put, List.setIfInBounds_toArray, List.set_cons_zero, List.set_cons_succ])
    refine wpHold_take (i := 1) (v := ?_) rfl (by kernel_rfl) (by kernel_rfl) (by kernel_rfl) (fun _ _ _ h => h) (Or.inl ⟨by rfl, ?_⟩) hC0 ?_
    rotate_left
    · intro w hSw; clear hSw; go_simp; (try with_reducible rfl)
    (try simp only [List.getElem_toArray, List.getElem_cons_succ, List.getElem_cons_zero])
    (try simp only [Act.put, List.setIfInBounds_toArray, List.set_cons_zero, List.set_cons_succ])
    refine wpHold_take (i := 2) (v := ?_) rfl (by kernel_rfl) (by kernel_rfl) (by kernel_rfl) (fun _ _ _ h => h) (Or.inl ⟨by rfl, ?_⟩) hC0 ?_
    rotate_left
    · intro w hSw; clear hSw; go_simp; (try with_reducible rfl)
    (try simp only [List.getElem_toArray, List.getElem_cons_succ, List.getElem_cons_zero])
    (try simp only [Act.put, List.setIfInBounds_toArray, List.set_cons_zero, List.set_cons_succ])
    refine wpHold_take (i := 3) (v := ?_) rfl (by kernel_rfl) (by kernel_rfl) (by kernel_rfl) (fun _ _ _ h => h) (Or.inl ⟨by rfl, ?_⟩) hC0 ?_
    rotate_left
    · intro w hSw; clear hSw; go_simp; (try with_reducible rfl)
    (try simp only [List.getElem_toArray, List.getElem_cons_succ, List.getElem_cons_zero])
    (try simp only [Act.put, List.setIfInBounds_toArray, List.set_cons_zero, List.set_cons_succ])
    refine wpHold_take (i := 4) (v := ?_) rfl (by kernel_rfl) (by kernel_rfl) (by kernel_rfl) (fun _ _ _ h => h) (Or.inl ⟨by rfl, ?_⟩) hC0 ?_
    rotate_left
    · intro w hSw; clear hSw; go_simp; (try with_reducible rfl)
    (try simp only [List.getElem_toArray, List.getElem_cons_succ, List.getElem_cons_zero])
    (try simp only [Act.put, List.setIfInBounds_toArray, List.set_cons_zero, List.set_cons_succ])
    refine wpHold_take (i := 5) (v := ?_) rfl (by kernel_rfl) (by kernel_rfl) (by kernel_rfl) (fun _ _ _ h => h) (Or.inl ⟨by rfl, ?_⟩) hC0 ?_
    rotate_left
    · intro w hSw; clear hSw; go_simp; (try with_reducible rfl)
    (try simp only [List.getElem_toArray, List.getElem_cons_succ, List.getElem_cons_zero])
    (try simp only [Act.put, List.setIfInBounds_toArray, List.set_cons_zero, List.set_cons_succ])
    refine wpHold_take (i := 6) (v := ?_) rfl (by kernel_rfl) (by kernel_rfl) (by kernel_rfl) (fun _ _ _ h => h) (Or.inl ⟨by rfl, ?_⟩) hC0 ?_
    rotate_left
    · intro w hSw; clear hSw; go_simp; (try with_reducible rfl)
    (try simp only [List.getElem_toArray, List.getElem_cons_succ, List.getElem_cons_zero])
    (try simp only [Act.put, List.setIfInBounds_toArray, List.set_cons_zero, List.set_cons_succ])
    refine wpHold_take (i := 7) (v := ?_) rfl (by kernel_rfl) (by kernel_rfl) (by kernel_rfl) (fun _ _ _ h => h) (Or.inl ⟨by rfl, ?_⟩) hC0 ?_
    rotate_left
    · intro w hSw; clear hSw; go_simp; (try with_reducible rfl)
    (try simp only [List.getElem_toArray, List.getElem_cons_succ, List.getElem_cons_zero])
    (try simp only [Act.put, List.setIfInBounds_toArray, List.set_cons_zero, List.set_cons_succ])
    refine wpHold_take (i := 8) (v := ?_) rfl (by kernel_rfl) (by kernel_rfl) (by kernel_rfl) (fun _ _ _ h => h) (Or.inl ⟨by rfl, ?_⟩) hC0 ?_
    rotate_left
    · intro w hSw; clear hSw; go_simp; (try with_reducible rfl)
    (try simp only [List.getElem_toArray, List.getElem_cons_succ, List.getElem_cons_zero])
    (try simp only [Act.put, List.setIfInBounds_toArray, List.set_cons_zero, List.set_cons_succ])
    refine wpHold_take (i := 9) (v := ?_) rfl (by kernel_rfl) (by kernel_rfl) (by kernel_rfl) (fun _ _ _ h => h) (Or.inl ⟨by rfl, ?_⟩) hC0 ?_
    rotate_left
    · intro w hSw; clear hSw; go_simp; (try with_reducible rfl)
    (try simp only [List.getElem_toArray, List.getElem_cons_succ, List.getElem_cons_zero])
    (try simp only [Act.put, List.setIfInBounds_toArray, List.set_cons_zero, List.set_cons_succ])
    refine wpHold_take (i := 10) (v := ?_) rfl (by kernel_rfl) (by kernel_rfl) (by kernel_rfl) (fun _ _ _ h => h) (Or.inl ⟨by rfl, ?_⟩) hC0 ?_
    rotate_left
    · intro w hSw; (try dsimp only at hSw); obtain ⟨⟨u0, u1, u2⟩, ⟨u3, u4, u5⟩, ⟨u6, u7, u8⟩, u9, u10, u11⟩ := hSw; go_simp; (try with_reducible rfl)
    (try simp only [List.getElem_toArray, List.getElem_cons_succ, List.getElem_cons_zero])
    (try simp only [Act.put, List.setIfInBounds_toArray, List.set_cons_zero, List.set_cons_succ])
    refine wpHold_take (i := 11) (v := ?_) rfl (by kernel_rfl) (by kernel_rfl) (by kernel_rfl) (fun _ _ _ h => h) (Or.inl ⟨by rfl, ?_⟩) hC0 ?_
    rotate_left
    · intro w hSw; (try dsimp only at hSw); obtain ⟨⟨u0, u1, u2⟩, ⟨u3, u4, u5⟩, ⟨u6, u7, u8⟩, u9, u10, u11⟩ := hSw; go_simp; (try with_reducible rfl)
    (try simp only [List.getElem_toArray, List.getElem_cons_succ, List.getElem_cons_zero])
    (try simp only [Act.put, List.setIfInBounds_toArray, List.set_cons_zero, List.set_cons_succ])
    refine wpHold_take (i := 12) (v := ?_) rfl (by kernel_rfl) (by kernel_rfl) (by kernel_rfl) (fun _ _ _ h => h) (Or.inl ⟨by rfl, ?_⟩) hC0 ?_
    rotate_left
    · intro w hSw; clear hSw; go_simp; (try with_reducible rfl)
    (try simp only [List.getElem_toArray, List.getElem_cons_succ, List.getElem_cons_zero])
    (try simp only [Act.put, List.setIfInBounds_toArray, List.set_cons_zero, List.set_cons_succ])
    refine wpHold_take (i := 13) (v := ?_) rfl (by kernel_rfl) (by kernel_rfl) (by kernel_rfl) (fun _ _ _ h => h) (Or.inl ⟨by rfl, ?_⟩) hC0 ?_
    rotate_left
    · intro w hSw; clear hSw; go_simp; (try with_reducible rfl)
    (try simp only [List.getElem_toArray, List.getElem_cons_succ, List.getElem_cons_zero])
    (try simp only [Act.put, List.setIfInBounds_toArray, List.set_cons_zero, List.set_cons_succ])
    refine wpHold_take (i := 14) (v := ?_) rfl (by kernel_rfl) (by kernel_rfl) (by kernel_rfl) (fun _ _ _ h => h) (Or.inl ⟨by rfl, ?_⟩) hC0 ?_
    rotate_left
    · intro w hSw; clear hSw; go_simp; (try with_reducible rfl)
    (try simp only [List.getElem_toArray, List.getElem_cons_succ, List.getElem_cons_zero])
    (try simp only [Act.put, List.setIfInBounds_toArray, List.set_cons_zero, List.set_cons_succ])
    refine wpHold_take (i := 15) (v := ?_) rfl (by kernel_rfl) (by kernel_rfl) (by kernel_rfl) (fun _ _ _ h => h) (Or.inl ⟨by rfl, ?_⟩) hC0 ?_
    rotate_left
    · intro w hSw; (try dsimp only at hSw); obtain ⟨⟨u0, u1, u2⟩, ⟨u3, u4, u5⟩, ⟨u6, u7, u8⟩, u9, u10, u11⟩ := hSw; go_simp; (try with_reducible rfl)
    (try simp only [List.getElem_toArray, List.getElem_cons_succ, List.getElem_cons_zero])
    (try simp only [Act.put, List.setIfInBounds_toArray, List.set_cons_zero, List.set_cons_succ])
    refine wpHold_take (i := 16) (v := ?_) rfl (by kernel_rfl) (by kernel_rfl) (by kernel_rfl) (fun _ _ _ h => h) (Or.inl ⟨by rfl, ?_⟩) hC0 ?_
    rotate_left
    · intro w hSw; clear hSw; go_simp; (try with_reducible rfl)
    (try simp only [List.getElem_toArray, List.getElem_cons_succ, List.getElem_cons_zero])
    (try simp only [Act.put, List.setIfInBounds_toArray, List.set_cons_zero, List.set_cons_succ])
    refine wpHold_take (i := 17) (v := ?_) rfl (by kernel_rfl) (by kernel_rfl) (by kernel_rfl) (fun _ _ _ h => h) (Or.inl ⟨by rfl, ?_⟩) hC0 ?_
    rotate_left
    · intro w hSw; clear hSw; go_simp; (try with_reducible rfl)
    (try simp only [List.getElem_toArray, List.getElem_cons_succ, List.getElem_cons_zero])
    (try simp only [Act.put, List.setIfInBounds_toArray, List.set_cons_zero, List.set_cons_succ])
    refine wpHold_take (i := 18) (v := ?_) rfl (by kernel_rfl) (by kernel_rfl) (by kernel_rfl) (fun _ _ _ h => h) (Or.inl ⟨by rfl, ?_⟩) hC0 ?_
    rotate_left
    · intro w hSw; clear hSw; go_simp; (try with_reducible rfl)
    (try simp only [List.getElem_toArray, List.getElem_cons_succ, List.getElem_cons_zero])
    (try simp only [Act.put, List.setIfInBounds_toArray, List.set_cons_zero, List.set_cons_succ])
    refine wpHold_take (i := 19) (v := ?_) rfl (by kernel_rfl) (by kernel_rfl) (by kernel_rfl) (fun _ _ _ h => h) (Or.inl ⟨by rfl, ?_⟩) hC0 ?_
    rotate_left
    · intro w hSw; (try dsimp only at hSw); obtain ⟨⟨u0, u1, u2⟩, ⟨u3, u4, u5⟩, ⟨u6, u7, u8⟩, u9, u10, u11⟩ := hSw; go_simp; (try with_reducible rfl)
    (try simp only [List.getElem_toArray, List.getElem_cons_succ, List.getElem_cons_zero])
    (try simp only [Act.put, List.setIfInBounds_toArray, List.set_cons_zero, List.set_cons_succ])
    refine wpHold_one (k := 20) (by kernel_rfl) rfl (fun K hK => ?_)
    (try simp only [List.getElem_toArray, List.getElem_cons_succ, List.getElem_cons_zero])
    go_simp
    refine (mulR_any tx.val tn.val (x k) CN _ (((unhide HTX)).below bd0) (((unhide HTN)).below bd0) JB (unhide HRX) (unhide HRN) (unhide HJ)).mono ?_
    rintro e xw_1 ⟨xv_1, rfl, hv_1, hb_1⟩
    have cc_1 := below_step bd0 hb_1
    have hC_1 : (fun w' : World => (w'.cell? ⟨b8, 0, none⟩ = some (.bool tc.s) ∧ w'.cell? ⟨b8, 1, none⟩ = some (.slice tc.a1 tc.n1 tc.c1) ∧ w'.cell? ⟨b8, 2, none⟩ = some (.slice tc.a2 tc.n2 tc.c2)) ∧ (w'.cell? ⟨b13, 0, none⟩ = some (.bool ta.s) ∧ w'.cell? ⟨b13, 1, none⟩ = some (.slice ta.a1 ta.n1 ta.c1) ∧ w'.cell? ⟨b13, 2, none⟩ = some (.slice ta.a2 ta.n2 ta.c2)) ∧ (w'.cell? ⟨bx, ox + k * 3, none⟩ = some (.bool tx.s) ∧ w'.cell? ⟨bx, ox + k * 3 + 1, none⟩ = some (.slice tx.a1 tx.n1 tx.c1) ∧ w'.cell? ⟨bx, ox + k * 3 + 2, none⟩ = some (.slice tx.a2 tx.n2 tx.c2)) ∧ (w'.cell? ⟨G3, k * 3, none⟩ = some (.bool tn.s) ∧ w'.cell? ⟨G3, k * 3 + 1, none⟩ = some (.slice tn.a1 tn.n1 tn.c1) ∧ w'.cell? ⟨G3, k * 3 + 2, none⟩ = some (.slice tn.a2 tn.n2 tn.c2))) xw_1 := unhide HC12 _ cc_1
    refine hK.out _ _ hC_1 ?_
    clear hK K
    (try simp only [Act.put, List.setIfInBounds_toArray, List.set_cons_zero, List.set_cons_succ])
    refine wpHold_one (k := 21) (by kernel_rfl) rfl (fun K hK => ?_)
    (try simp only [List.getElem_toArray, List.getElem_cons_succ, List.getElem_cons_zero])
    go_simp
    refine (addR_any ta.val _ T0 (x k * CN) _ (((unhide HTA)).below cc_1) hv_1 JB (unhide HR0) (unhide HRM) (unhide HJ)).mono ?_
    rintro e xw_2 ⟨xv_2, rfl, hv_2, hb_2⟩
    have cc_2 := below_step cc_1 hb_2
    have hC_2 : (fun w' : World => (w'.cell? ⟨b8, 0, none⟩ = some (.bool tc.s) ∧ w'.cell? ⟨b8, 1, none⟩ = some (.slice tc.a1 tc.n1 tc.c1) ∧ w'.cell? ⟨b8, 2, none⟩ = some (.slice tc.a2 tc.n2 tc.c2)) ∧ (w'.cell? ⟨b13, 0, none⟩ = some (.bool ta.s) ∧ w'.cell? ⟨b13, 1, none⟩ = some (.slice ta.a1 ta.n1 ta.c1) ∧ w'.cell? ⟨b13, 2, none⟩ = some (.slice ta.a2 ta.n2 ta.c2)) ∧ (w'.cell? ⟨bx, ox + k * 3, none⟩ = some (.bool tx.s) ∧ w'.cell? ⟨bx, ox + k * 3 + 1, none⟩ = some (.slice tx.a1 tx.n1 tx.c1) ∧ w'.cell? ⟨bx, ox + k * 3 + 2, none⟩ = some (.slice tx.a2 tx.n2 tx.c2)) ∧ (w'.cell? ⟨G3, k * 3, none⟩ = some (.bool tn.s) ∧ w'.cell? ⟨G3, k * 3 + 1, none⟩ = some (.slice tn.a1 tn.n1 tn.c1) ∧ w'.cell? ⟨G3, k * 3 + 2, none⟩ = some (.slice tn.a2 tn.n2 tn.c2))) xw_2 := unhide HC12 _ cc_2
    refine hK.out _ _ hC_2 ?_
    clear hK K
    (try simp only [Act.put, List.setIfInBounds_toArray, List.set_cons_zero, List.set_cons_succ])
    refine wpHold_one (k := 22) (by kernel_rfl) rfl (fun K hK => ?_)
    (try simp only [List.getElem_toArray, List.getElem_cons_succ, List.getElem_cons_zero])
    go_simp
    refine (like_any tc.val _ T1 _ (((unhide HTC)).below cc_2) (by rw [← unhide HPV]; exact hv_2) JB (unhide HR1) (unhide HJK) (tab_below (unhide HT7) cc_2)).mono ?_
    rintro e xw_3 ⟨rfl, hb_3⟩
    have cc_3 := below_step cc_2 hb_3
    have hC_3 : (fun w' : World => (w'.cell? ⟨b8, 0, none⟩ = some (.bool tc.s) ∧ w'.cell? ⟨b8, 1, none⟩ = some (.slice tc.a1 tc.n1 tc.c1) ∧ w'.cell? ⟨b8, 2, none⟩ = some (.slice tc.a2 tc.n2 tc.c2)) ∧ (w'.cell? ⟨b13, 0, none⟩ = some (.bool ta.s) ∧ w'.cell? ⟨b13, 1, none⟩ = some (.slice ta.a1 ta.n1 ta.c1) ∧ w'.cell? ⟨b13, 2, none⟩ = some (.slice ta.a2 ta.n2 ta.c2)) ∧ (w'.cell? ⟨bx, ox + k * 3, none⟩ = some (.bool tx.s) ∧ w'.cell? ⟨bx, ox + k * 3 + 1, none⟩ = some (.slice tx.a1 tx.n1 tx.c1) ∧ w'.cell? ⟨bx, ox + k * 3 + 2, none⟩ = some (.slice tx.a2 tx.n2 tx.c2)) ∧ (w'.cell? ⟨G3, k * 3, none⟩ = some (.bool tn.s) ∧ w'.cell? ⟨G3, k * 3 + 1, none⟩ = some (.slice tn.a1 tn.n1 tn.c1) ∧ w'.cell? ⟨G3, k * 3 + 2, none⟩ = some (.slice tn.a2 tn.n2 tn.c2))) xw_3 := unhide HC12 _ cc_3
    refine hK.out _ _ hC_3 ?_
    clear hK K
    (try simp only [Act.put, List.setIfInBounds_toArray, List.set_cons_zero, List.set_cons_succ])
    refine wpHold_take (i := 23) (v := ?_) rfl (by kernel_rfl) (by kernel_rfl) (by kernel_rfl) (fun _ _ _ h => h) (Or.inl ⟨by rfl, ?_⟩) hC_3 ?_
    rotate_left
    · intro w hSw; clear hSw; go_simp; (try with_reducible rfl)
    (try simp only [List.getElem_toArray, List.getElem_cons_succ, List.getElem_cons_zero])
    (try simp only [Act.put, List.setIfInBounds_toArray, List.set_cons_zero, List.set_cons_succ])
    refine wpHold_take (i := 24) (v := ?_) rfl (by kernel_rfl) (by kernel_rfl) (by kernel_rfl) (fun _ _ _ h => h) (Or.inl ⟨by rfl, ?_⟩) hC_3 ?_
    rotate_left
    · intro w hSw; clear hSw; go_simp; (try with_reducible rfl)
    (try simp only [List.getElem_toArray, List.getElem_cons_succ, List.getElem_cons_zero])
    (try simp only [Act.put, List.setIfInBounds_toArray, List.set_cons_zero, List.set_cons_succ])
    refine wpHold_done (by kernel_rfl) ?_ _
    have HW8 := hide (below_step (unhide HB47) cc_3)
    obtain ⟨W8, hW8⟩ : ∃ W, xw_3 = W := ⟨_, rfl⟩
    rw [hW8] at HW8 ⊢
    have HC14 : Hid (∀ W, Below W8.heap.size W8 W → (fun w' : World => (w'.cell? ⟨b8, 0, none⟩ = some (.bool tc.s) ∧ w'.cell? ⟨b8, 1, none⟩ = some (.slice tc.a1 tc.n1 tc.c1) ∧ w'.cell? ⟨b8, 2, none⟩ = some (.slice tc.a2 tc.n2 tc.c2)) ∧ (w'.cell? ⟨G3, k * 3, none⟩ = some (.bool tn.s) ∧ w'.cell? ⟨G3, k * 3 + 1, none⟩ = some (.slice tn.a1 tn.n1 tn.c1) ∧ w'.cell? ⟨G3, k * 3 + 2, none⟩ = some (.slice tn.a2 tn.n2 tn.c2))) W) := fun W hW => by
      have h4 := below_step (unhide HW8) hW
      exact ⟨(unhide HX4 W h4).cells _ (Below.refl _ _), (unhide HNC W h4).1⟩
    have HTN8 := hide (unhide HNC W8 (unhide HW8)).2
    have HTC8 := hide (unhide HX4 W8 (unhide HW8)).2
    clear HC12 HTX HTN HTA HTC hW8 hC0 hC_1 hC_2 hC_3 cc_1 cc_2 cc_3 bd0 hb_1 hb_2 hb_3 hv_1 hv_2
    go_wp2_with fail
    refine wp_region_hold (fun w' : World => (w'.cell? ⟨b8, 0, none⟩ = some (.bool tc.s) ∧ w'.cell? ⟨b8, 1, none⟩ = some (.slice tc.a1 tc.n1 tc.c1) ∧ w'.cell? ⟨b8, 2, none⟩ = some (.slice tc.a2 tc.n2 tc.c2)) ∧ (w'.cell? ⟨G3, k * 3, none⟩ = some (.bool tn.s) ∧ w'.cell? ⟨G3, k * 3 + 1, none⟩ = some (.slice tn.a1 tn.n1 tn.c1) ∧ w'.cell? ⟨G3, k * 3 + 2, none⟩ = some (.slice tn.a2 tn.n2 tn.c2))) (by kernel_rfl) ?_
    have bd0 : Below W8.heap.size W8 W8.drew := (Below.refl _ _).drew
    have hC0 : (fun w' : World => (w'.cell? ⟨b8, 0, none⟩ = some (.bool tc.s) ∧ w'.cell? ⟨b8, 1, none⟩ = some (.slice tc.a1 tc.n1 tc.c1) ∧ w'.cell? ⟨b8, 2, none⟩ = some (.slice tc.a2 tc.n2 tc.c2)) ∧ (w'.cell? ⟨G3, k * 3, none⟩ = some (.bool tn.s) ∧ w'.cell? ⟨G3, k * 3 + 1, none⟩ = some (.slice tn.a1 tn.n1 tn.c1) ∧ w'.cell? ⟨G3, k * 3 + 2, none⟩ = some (.slice tn.a2 tn.n2 tn.c2))) W8.drew := unhide HC14 _ bd0
    refine wpHold_take (i := 0) (v := ?_) rfl (by kernel_rfl) (by kernel_rfl) (by kernel_rfl) (fun _ _ _ h => h) (Or.inl ⟨by rfl, ?_⟩) hC0 ?_
    rotate_left
    · intro w hSw; clear hSw; go_simp; (try with_reducible rfl)
    (try simp only [List.getElem_toArray, List.getElem_cons_succ, List.getElem_cons_zero])
    (try simp only [Act.put, List.setIfInBounds_toArray, List.set_cons_zero, List.set_cons_succ])
    refine wpHold_take (i := 1) (v := ?_) rfl (by kernel_rfl) (by kernel_rfl) (by kernel_rfl) (fun _ _ _ h => h) (Or.inl ⟨by rfl, ?_⟩) hC0 ?_
    rotate_left
    · intro w hSw; clear hSw; go_simp; (try with_reducible rfl)
    (try simp only [List.getElem_toArray, List.getElem_cons_succ, List.getElem_cons_zero])
    (try simp only [Act.put, List.setIfInBounds_toArray, List.set_cons_zero, List.set_cons_succ])
    refine wpHold_take (i := 2) (v := ?_) rfl (by kernel_rfl) (by kernel_rfl) (by kernel_rfl) (fun _ _ _ h => h) (Or.inl ⟨by rfl, ?_⟩) hC0 ?_
    rotate_left
    · intro w hSw; clear hSw; go_simp; (try with_reducible rfl)
    (try simp only [List.getElem_toArray, List.getElem_cons_succ, List.getElem_cons_zero])
    (try simp only [Act.put, List.setIfInBounds_toArray, List.set_cons_zero, List.set_cons_succ])
    refine wpHold_take (i := 3) (v := ?_) rfl (by kernel_rfl) (by kernel_rfl) (by kernel_rfl) (fun _ _ _ h => h) (Or.inl ⟨by rfl, ?_⟩) hC0 ?_
    rotate_left
    · intro w hSw; (try dsimp only at hSw); obtain ⟨⟨u0, u1, u2⟩, u3, u4, u5⟩ := hSw; go_simp; (try with_reducible rfl)
    (try simp only [List.getElem_toArray, List.getElem_cons_succ, List.getElem_cons_zero])
    (try simp only [Act.put, List.setIfInBounds_toArray, List.set_cons_zero, List.set_cons_succ])
    refine wpHold_one (k := 4) (by kernel_rfl) rfl (fun K hK => ?_)
    (try simp only [List.getElem_toArray, List.getElem_cons_succ, List.getElem_cons_zero])
    go_simp
    refine (sign_any tn.val CN _ ((unhide HTN8).below bd0)).mono ?_
    rw [unhide HSN]
    rintro e xw_1 ⟨rfl, hb_1⟩
    have cc_1 := below_step bd0 hb_1
    have hC_1 : (fun w' : World => (w'.cell? ⟨b8, 0, none⟩ = some (.bool tc.s) ∧ w'.cell? ⟨b8, 1, none⟩ = some (.slice tc.a1 tc.n1 tc.c1) ∧ w'.cell? ⟨b8, 2, none⟩ = some (.slice tc.a2 tc.n2 tc.c2)) ∧ (w'.cell? ⟨G3, k * 3, none⟩ = some (.bool tn.s) ∧ w'.cell? ⟨G3, k * 3 + 1, none⟩ = some (.slice tn.a1 tn.n1 tn.c1) ∧ w'.cell? ⟨G3, k * 3 + 2, none⟩ = some (.slice tn.a2 tn.n2 tn.c2))) xw_1 := unhide HC14 _ cc_1
    refine hK.out _ _ hC_1 ?_
    clear hK K
    (try simp only [Act.put, List.setIfInBounds_toArray, List.set_cons_zero, List.set_cons_succ])
    refine wpHold_take (i := 5) (v := ?_) rfl (by kernel_rfl) (by kernel_rfl) (by kernel_rfl) (fun _ _ _ h => h) (Or.inl ⟨by rfl, ?_⟩) hC_1 ?_
    rotate_left
    · intro w hSw; clear hSw; go_simp; (try with_reducible rfl)
    (try simp only [List.getElem_toArray, List.getElem_cons_succ, List.getElem_cons_zero])
    (try simp only [Act.put, List.setIfInBounds_toArray, List.set_cons_zero, List.set_cons_succ])
    refine wpHold_take (i := 6) (v := ?_) rfl (by kernel_rfl) (by kernel_rfl) (by kernel_rfl) (fun _ _ _ h => h) (Or.inl ⟨by rfl, ?_⟩) hC_1 ?_
    rotate_left
    · intro w hSw; clear hSw; go_simp; (try with_reducible rfl)
    (try simp only [List.getElem_toArray, List.getElem_cons_succ, List.getElem_cons_zero])
    (try simp only [Act.put, List.setIfInBounds_toArray, List.set_cons_zero, List.set_cons_succ])
    refine wpHold_take (i := 7) (v := ?_) rfl (by kernel_rfl) (by kernel_rfl) (by kernel_rfl) (fun _ _ _ h => h) (Or.inl ⟨by rfl, ?_⟩) hC_1 ?_
    rotate_left
    · intro w hSw; (try dsimp only at hSw); obtain ⟨⟨u0, u1, u2⟩, u3, u4, u5⟩ := hSw; go_simp; (try with_reducible rfl)
    (try simp only [List.getElem_toArray, List.getElem_cons_succ, List.getElem_cons_zero])
    (try simp only [Act.put, List.setIfInBounds_toArray, List.set_cons_zero, List.set_cons_succ])
    refine wpHold_one (k := 8) (by kernel_rfl) rfl (fun K hK => ?_)
    (try simp only [List.getElem_toArray, List.getElem_cons_succ, List.getElem_cons_zero])
    go_simp
    refine (sign_any tc.val T1 _ ((unhide HTC8).below cc_1)).mono ?_
    rw [unhide HST]
    rintro e xw_2 ⟨rfl, hb_2⟩
    have cc_2 := below_step cc_1 hb_2
    have hC_2 : (fun w' : World => (w'.cell? ⟨b8, 0, none⟩ = some (.bool tc.s) ∧ w'.cell? ⟨b8, 1, none⟩ = some (.slice tc.a1 tc.n1 tc.c1) ∧ w'.cell? ⟨b8, 2, none⟩ = some (.slice tc.a2 tc.n2 tc.c2)) ∧ (w'.cell? ⟨G3, k * 3, none⟩ = some (.bool tn.s) ∧ w'.cell? ⟨G3, k * 3 + 1, none⟩ = some (.slice tn.a1 tn.n1 tn.c1) ∧ w'.cell? ⟨G3, k * 3 + 2, none⟩ = some (.slice tn.a2 tn.n2 tn.c2))) xw_2 := unhide HC14 _ cc_2
    refine hK.out _ _ hC_2 ?_
    clear hK K
    (try simp only [Act.put, List.setIfInBounds_toArray, List.set_cons_zero, List.set_cons_succ])
    refine wpHold_take (i := 9) (v := ?_) rfl (by kernel_rfl) (by kernel_rfl) (by kernel_rfl) (fun _ _ _ h => h) (Or.inl ⟨by rfl, ?_⟩) hC_2 ?_
    rotate_left
    · intro w hSw; clear hSw; go_simp; (try with_reducible rfl)
    (try simp only [List.getElem_toArray, List.getElem_cons_succ, List.getElem_cons_zero])
    (try simp only [Act.put, List.setIfInBounds_toArray, List.set_cons_zero, List.set_cons_succ])
    refine wpHold_take (i := 10) (v := ?_) rfl (by kernel_rfl) (by kernel_rfl) (by kernel_rfl) (fun _ _ _ h => h) (Or.inl ⟨by rfl, ?_⟩) hC_2 ?_
    rotate_left
    · intro w hSw; clear hSw; go_simp; (try with_reducible rfl)
    (try simp only [List.getElem_toArray, List.getElem_cons_succ, List.getElem_cons_zero])
    (try simp only [Act.put, List.setIfInBounds_toArray, List.set_cons_zero, List.set_cons_succ])
    refine wpHold_take (i := 11) (v := ?_) rfl (by kernel_rfl) (by kernel_rfl) (by kernel_rfl) (fun _ _ _ h => h) (Or.inl ⟨by rfl, ?_⟩) hC_2 ?_
    rotate_left
    · intro w hSw; clear hSw; go_simp; (try with_reducible rfl)
    (try simp only [List.getElem_toArray, List.getElem_cons_succ, List.getElem_cons_zero])
    (try simp only [Act.put, List.setIfInBounds_toArray, List.set_cons_zero, List.set_cons_succ])
    refine wpHold_take (i := 12) (v := ?_) rfl (by kernel_rfl) (by kernel_rfl) (by kernel_rfl) (fun _ _ _ h => h) (Or.inl ⟨by rfl, ?_⟩) hC_2 ?_
    rotate_left
    · intro w hSw; (try dsimp only at hSw); obtain ⟨⟨u0, u1, u2⟩, u3, u4, u5⟩ := hSw; go_simp; (try with_reducible rfl)
    (try simp only [List.getElem_toArray, List.getElem_cons_succ, List.getElem_cons_zero])
    (try simp only [Act.put, List.setIfInBounds_toArray, List.set_cons_zero, List.set_cons_succ])
    refine wpHold_one (k := 13) (by kernel_rfl) rfl (fun K hK => ?_)
    (try simp only [List.getElem_toArray, List.getElem_cons_succ, List.getElem_cons_zero])
    go_simp
    refine (whole_any 1 (by decide) (by decide) _).mono ?_
    rintro e xw_3 ⟨xv_3, rfl, hv_3, hb_3⟩
    have cc_3 := below_step cc_2 hb_3
    have hC_3 : (fun w' : World => (w'.cell? ⟨b8, 0, none⟩ = some (.bool tc.s) ∧ w'.cell? ⟨b8, 1, none⟩ = some (.slice tc.a1 tc.n1 tc.c1) ∧ w'.cell? ⟨b8, 2, none⟩ = some (.slice tc.a2 tc.n2 tc.c2)) ∧ (w'.cell? ⟨G3, k * 3, none⟩ = some (.bool tn.s) ∧ w'.cell? ⟨G3, k * 3 + 1, none⟩ = some (.slice tn.a1 tn.n1 tn.c1) ∧ w'.cell? ⟨G3, k * 3 + 2, none⟩ = some (.slice tn.a2 tn.n2 tn.c2))) xw_3 := unhide HC14 _ cc_3
    refine hK.out _ _ hC_3 ?_
    clear hK K
    (try simp only [Act.put, List.setIfInBounds_toArray, List.set_cons_zero, List.set_cons_succ])
    refine wpHold_one (k := 14) (by kernel_rfl) rfl (fun K hK => ?_)
    (try simp only [List.getElem_toArray, List.getElem_cons_succ, List.getElem_cons_zero])
    go_simp
    refine (cmpR_all tc.val _ T1 ((1 : Int) : Rat) _ (((unhide HTC8)).below cc_3) hv_3 JB (unhide HR1) (unhide HRO) (unhide HJK)).mono ?_
    rw [unhide HSC]
    rintro e xw_4 ⟨rfl, hb_4⟩
    have cc_4 := below_step cc_3 hb_4
    have hC_4 : (fun w' : World => (w'.cell? ⟨b8, 0, none⟩ = some (.bool tc.s) ∧ w'.cell? ⟨b8, 1, none⟩ = some (.slice tc.a1 tc.n1 tc.c1) ∧ w'.cell? ⟨b8, 2, none⟩ = some (.slice tc.a2 tc.n2 tc.c2)) ∧ (w'.cell? ⟨G3, k * 3, none⟩ = some (.bool tn.s) ∧ w'.cell? ⟨G3, k * 3 + 1, none⟩ = some (.slice tn.a1 tn.n1 tn.c1) ∧ w'.cell? ⟨G3, k * 3 + 2, none⟩ = some (.slice tn.a2 tn.n2 tn.c2))) xw_4 := unhide HC14 _ cc_4
    refine hK.out _ _ hC_4 ?_
    clear hK K
    (try simp only [Act.put, List.setIfInBounds_toArray, List.set_cons_zero, List.set_cons_succ])
    refine wpHold_take (i := 15) (v := ?_) rfl (by kernel_rfl) (by kernel_rfl) (by kernel_rfl) (fun _ _ _ h => h) (Or.inl ⟨by rfl, ?_⟩) hC_4 ?_
    rotate_left
    · intro w hSw; clear hSw; go_simp; (try with_reducible rfl)
    (try simp only [List.getElem_toArray, List.getElem_cons_succ, List.getElem_cons_zero])
    (try simp only [Act.put, List.setIfInBounds_toArray, List.set_cons_zero, List.set_cons_succ])
    refine wpHold_take (i := 16) (v := ?_) rfl (by kernel_rfl) (by kernel_rfl) (by kernel_rfl) (fun _ _ _ h => h) (Or.inl ⟨by rfl, ?_⟩) hC_4 ?_
    rotate_left
    · intro w hSw; clear hSw; go_simp; (try with_reducible rfl)
    (try simp only [List.getElem_toArray, List.getElem_cons_succ, List.getElem_cons_zero])
    (try simp only [Act.put, List.setIfInBounds_toArray, List.set_cons_zero, List.set_cons_succ])
    refine wpHold_take (i := 17) (v := ?_) rfl (by kernel_rfl) (by kernel_rfl) (by kernel_rfl) (fun _ _ _ h => h) (Or.inl ⟨by rfl, ?_⟩) hC_4 ?_
    rotate_left
    · intro w hSw; clear hSw; go_simp; (try with_reducible rfl)
    (try simp only [List.getElem_toArray, List.getElem_cons_succ, List.getElem_cons_zero])
    (try simp only [Act.put, List.setIfInBounds_toArray, List.set_cons_zero, List.set_cons_succ])
    refine wpHold_done (by kernel_rfl) ?_ _
    have HFB := hide (below_step (below_step (unhide HB4) (unhide HW8)) cc_4)
    clear HC14 HTN8 HTC8
    go_wp2
    go_ret
    exact ⟨rfl, unhide HFB⟩
  · have HCE : Hid (∀ W u, Below w.heap.size w W → LawIs W u qs → ∃ z : Int, (Calls Tryd.prog 12 #[.slice a N c, u] W fun e w' => e = .returned (.tuple #[.agg #[.bool false, .slice none 0 0, .slice none 0 0], .iface 92 (.int .i64 z)]) ∧ Below W.heap.size W w') ∧ ∀ W2, Below W.heap.size W W2 → Calls Tryd.prog 13 #[.slice a N c, u] W2 fun e w' => e = .returned (.tuple #[.slice none 0 0, .iface 92 (.int .i64 z)]) ∧ Below W2.heap.size W2 w') := fun W u hW hu => ⟨ccode g N qs, rChance_err a N c g H u qs 1 _ W (unhide HGW W hW) hu (unhide HRS) (by decide) (by decide) rfl hk, fun W2 h2 => rCounts_err a N c g H u qs 1 _ W2 (unhide HGW W2 (below_step hW h2)) (hu.below h2) (unhide HRS) (by decide) (by decide) rfl hk⟩
    clear hk
    go_enter Tryd.func3, Tryd.ntmps3
    go_wp2_with fail
    refine (unhide HFE).mono ?_
    rintro e w0 ⟨⟨B, rfl⟩, hw⟩
    have hw' := hw.symm
    subst hw'
    clear hw
    cases B with
    | false =>
      go_wp2
      go_ret
      exact ⟨rfl, Below.refl _ _⟩
    | true =>
    go_wp2_with fail
    refine (pick_any kk n (by omega) (by omega) w).mono ?_
    rintro e w0 ⟨k, rfl, hkn, hw⟩
    have hw' := hw.symm
    subst hw'
    clear hw
    go_wp2_with fail
    refine (unhide HFS2).mono ?_
    rintro e w1 ⟨v1, rfl, hl1, hb1⟩
    obtain ⟨z, hz1, hz2⟩ := unhide HCE w1 v1 hb1 hl1
    have HC1 := hide hz1
    have HC2 := hide hz2
    have HB1 := hide hb1
    obtain ⟨a1, c1, rfl, m1, m2, -⟩ := id hl1
    rw [unhide HPL] at HC1 HC2 m1 ⊢
    clear hb1 hl1 hz1 hz2 HFS2
    go_wp2_with fail
    refine (unhide HC1).mono ?_
    rintro e w2 ⟨rfl, hb2⟩
    have bA := alloc_below w2 (.cells #[.bool false, .slice none 0 0, .slice none 0 0] 31)
    have XA := BoxIs.new (w := w2) (t := zTri) (q := 0) (rat_zero _)
    obtain ⟨W5, hW5⟩ : ∃ W, w2.alloc (.cells #[.bool false, .slice none 0 0, .slice none 0 0] 31) = W := ⟨_, rfl⟩
    obtain ⟨b8, hb8⟩ : ∃ b, w2.heap.size = b := ⟨_, rfl⟩
    have XA' : BoxIs W5 b8 zTri 0 := by rw [← hW5, ← hb8]; exact XA
    rw [hW5] at bA
    have hgl : w2.heap.size ≤ b8 := by omega
    have ⟨l0, l1, l2⟩ := XA'.free
    have ⟨y0, y1, y2⟩ := XA'.cells _ (Below.refl _ _)
    have y0 : W5.cell? ⟨b8, 0, none⟩ = some (.bool false) := y0
    have y1 : W5.cell? ⟨b8, 1, none⟩ = some (.slice none 0 0) := y1
    have y2 : W5.cell? ⟨b8, 2, none⟩ = some (.slice none 0 0) := y2
    have bS : Below w2.heap.size w2 (((W5.setCell ⟨b8, 0, none⟩ (.bool false)).setCell ⟨b8, 1, none⟩ (.slice none 0 0)).setCell ⟨b8, 2, none⟩ (.slice none 0 0)) := ((bA.setCell (p := ⟨b8, 0, none⟩) hgl _).setCell (p := ⟨b8, 1, none⟩) hgl _).setCell (p := ⟨b8, 2, none⟩) hgl _
    obtain ⟨W2, hW2⟩ : ∃ W, ((W5.setCell ⟨b8, 0, none⟩ (.bool false)).setCell ⟨b8, 1, none⟩ (.slice none 0 0)).setCell ⟨b8, 2, none⟩ (.slice none 0 0) = W := ⟨_, rfl⟩
    rw [hW2] at bS
    have b2 := below_step hb2 bS
    have HB2 := hide (below_step (unhide HB1) b2)
    have HC3 := hide (unhide HC2 W2 b2)
    clear hb2 b2 HC1 HC2 HB1 bA XA XA' bS hgl
    go_wp2_with fail
    clear hW2 hW5 hb8 l0 l1 l2 y0 y1 y2
    refine (unhide HC3).mono ?_
    rintro e w3 ⟨rfl, hb3⟩
    have HB3 := hide (below_step (unhide HB2) hb3)
    clear hb3 HC3 HB2
    go_wp2_with fail
    refine (joined_any _ (tab_below (unhide HTB0) (unhide HB3))).mono ?_
    rintro e w4 ⟨rfl, hb4⟩
    have HB4 := hide (below_step (unhide HB3) hb4)
    clear hb4 HB3
    go_wp2_with fail
    refine (joined_any _ (tab_below (unhide HTB0) (unhide HB4))).mono ?_
    rintro e w5 ⟨rfl, hb5⟩
    have HB5 := hide (below_step (unhide HB4) hb5)
    clear hb5 HB4
    go_wp2
    go_ret
    exact ⟨rfl, unhide HB5⟩

end Go.Proofs.YtpopcfclpemlaaaDoor
