/- ChanceAdds: the law's walk. -/
import Derived.Test.YtdicbnchkfclaaaDoorW70
import Derived.Test.YtdicbnchkfclaaaDoorX3
import Derived.Test.YtdicbnchkfclaaaDoorM9
namespace Go.Proofs.YtdicbnchkfclaaaDoor
open Go.RowKit Go.Sort Go.Shelf

theorem take_push {l : List Rat} {i : Nat} (h : i < l.length) : l.take i ++ [l[i]!] = l.take (i + 1) := by
  rw [List.take_add_one, List.getElem?_eq_getElem h]
  simp [h]

theorem pow1_I64 {j : Nat} (h : j < 50) : I64 ((j ^ 1 : Nat) : Int) := by
  rw [Nat.pow_one]; exact ⟨by omega, by omega⟩
theorem pow2_I64 {j : Nat} (h : j < 50) : I64 ((j ^ 2 : Nat) : Int) := by
  have : j ^ 2 ≤ 50 ^ 2 := Nat.pow_le_pow_left (by omega) 2
  have e : (50 : Nat) ^ 2 = 2500 := rfl
  exact ⟨by omega, by omega⟩

theorem RowAt.some {wr : World} {B : Nat} {v : Value} {ts : List Tri} {qs : List Rat} (h : RowAt wr B v ts qs) (h0 : 0 < ts.length) : ∃ g c, v = .slice (some ⟨g, 0, none⟩) ts.length c := by
  rcases h.own.2 with ⟨rfl, e⟩ | ⟨g, cap, cur, rfl, _⟩
  · omega
  · exact ⟨g, cap, rfl⟩

theorem both_errA (va vb : Value) (qa : List Rat) (w : World) (ha : LawIs w va qa) (hqa : ∀ j, j < qa.length → RS qa[j]! 1) (hl : qa.length ≤ 25) (ca : chk qa ≠ 0) :
    Calls Tryd.prog 9 #[va, vb] w fun e w' => e = .returned (.tuple #[.slice none 0 0, .iface 68 (.int .i64 (chk qa))]) ∧ Below w.heap.size w w' := by
  have HC := hide (check_any va qa 1 w ha hqa (by have : KK = 1099511627776 := rfl; omega))
  rw [errV_not ca] at HC
  generalize chk qa = k at *
  clear ha hqa ca
  go_enter Tryd.func9, Tryd.ntmps9
  go_wp2_with fail
  refine (unhide HC).mono ?_
  rintro e w1 ⟨rfl, hb1⟩
  have HB := hide hb1
  clear hb1
  go_wp2
  go_ret2
  exact ⟨rfl, unhide HB⟩

theorem both_errB (va vb : Value) (qa qb : List Rat) (w : World) (ha : LawIs w va qa) (hb : LawIs w vb qb) (hqa : ∀ j, j < qa.length → RS qa[j]! 1) (hqb : ∀ j, j < qb.length → RS qb[j]! 1) (hla : qa.length ≤ 25) (hlb : qb.length ≤ 25) (ca : chk qa = 0) (cb : chk qb ≠ 0) :
    Calls Tryd.prog 9 #[va, vb] w fun e w' => e = .returned (.tuple #[.slice none 0 0, .iface 68 (.int .i64 (chk qb))]) ∧ Below w.heap.size w w' := by
  have HC := hide (check_any va qa 1 w ha hqa (by have : KK = 1099511627776 := rfl; omega))
  have HD : Hid (∀ W, Below w.heap.size w W → _) := fun W hW => check_any vb qb 1 W (hb.below hW) hqb (by have : KK = 1099511627776 := rfl; omega)
  rw [ca, errV_zero] at HC
  rw [errV_not cb] at HD
  generalize chk qb = k at *
  clear ha hb hqa hqb ca cb
  go_enter Tryd.func9, Tryd.ntmps9
  go_wp2_with fail
  refine (unhide HC).mono ?_
  rintro e w1 ⟨rfl, hb1⟩
  have HB := hide hb1
  have HD1 := hide (unhide HD w1 hb1)
  clear hb1 HD
  go_wp2_with fail
  refine (unhide HD1).mono ?_
  rintro e w2 ⟨rfl, hb2⟩
  have HB2 := hide (below_step (unhide HB) hb2)
  clear hb2
  go_wp2
  go_ret2
  exact ⟨rfl, unhide HB2⟩

set_option maxHeartbeats 16000000 in
set_option maxRecDepth 100000 in
set_option linter.unusedSimpArgs false in
theorem chanceAdds_any (u v : Value) (ps rs : List (Int × Int)) (w : World) (htab : Tab w) (h : PairsAre w u ps) (h' : PairsAre w v rs) :
    Calls Tryd.prog 3 #[u, v] w fun e w' => e = .returned (.bool true) ∧ Below w.heap.size w w' := by
  have HP := hide h
  have HP' := hide h'
  obtain ⟨a, c, rfl, h1, h2, h4, h3⟩ := h
  obtain ⟨a', c', rfl, h1', h2', h4', h3'⟩ := h'
  have H4 := hide h4
  have H4' := hide h4'
  clear h3 h4 h3' h4'
  by_cases hlen : (25 : Int) < (ps.length : Int)
  · clear H4 HP H4' HP' htab
    go_enter Tryd.func3, Tryd.ntmps3
    go_wp2
    go_ret
    exact ⟨rfl, Below.refl _ _⟩
  by_cases hlen' : (25 : Int) < (rs.length : Int)
  · clear H4 HP H4' HP' htab
    go_enter Tryd.func3, Tryd.ntmps3
    go_wp2
    go_ret
    exact ⟨rfl, Below.refl _ _⟩
  have hrs := pqs_RS (unhide H4)
  have hrs' := pqs_RS (unhide H4')
  have hlA : (pqs ps).length ≤ 25 := by rw [pqs_length]; omega
  have hlB : (pqs rs).length ≤ 25 := by rw [pqs_length]; omega
  have HLA : Hid (∀ W, Below w.heap.size w W → _) := fun W hW => law_any _ ps W ((unhide HP).below hW) (by omega)
  have HLB : Hid (∀ W, Below w.heap.size w W → _) := fun W hW => law_any _ rs W ((unhide HP').below hW) (by omega)
  obtain ⟨A, hA⟩ : ∃ A, pqs ps = A := ⟨_, rfl⟩
  obtain ⟨B, hB⟩ : ∃ B, pqs rs = B := ⟨_, rfl⟩
  rw [hA] at hrs hlA HLA
  rw [hB] at hrs' hlB HLB
  have HRA := hide hrs
  have HRB := hide hrs'
  have HCO : Hid (∀ W, Below w.heap.size w W → Calls Tryd.prog 8 #[] W fun e w' => ∃ v, e = .returned (.tuple #[v, .bool true]) ∧ Below W.heap.size W w') := fun W hW => coins_any W (tab_below htab hW)
  have HTAB := hide htab
  have HB_0 := hide (Below.refl w.heap.size w)
  have KKe : KK = 1099511627776 := rfl
  clear hrs hrs' htab HP HP' hA hB H4 H4'
  go_enter Tryd.func3, Tryd.ntmps3
  go_wp2_with fail
  refine (unhide HCO _ (unhide HB_0)).mono ?_
  rintro e w_1 ⟨v0, rfl, hbx⟩
  have HB_2 := hide (below_step (unhide HB_0) hbx)
  clear HB_0
  clear hbx
  go_wp2_with fail
  refine (unhide HLA _ (unhide HB_2)).mono ?_
  rintro e wa ⟨xa, rfl, hxa, hbx⟩
  have HXA := hide hxa
  clear hxa
  have HB_3 := hide (below_step (unhide HB_2) hbx)
  clear HB_2
  clear hbx
  go_wp2_with fail
  refine (unhide HLB _ (unhide HB_3)).mono ?_
  rintro e wb ⟨xb, rfl, hxb, hbx⟩
  have HXB := hide hxb
  have HXA2 := hide ((unhide HXA).below hbx)
  clear hxb HXA
  have HB_4 := hide (below_step (unhide HB_3) hbx)
  clear HB_3
  clear hbx
  by_cases ca : chk A = 0
  · skip
    by_cases cb : chk B = 0
    · have hT : Two A B := ⟨ca, cb, hlA, hlB⟩
      have HBO := hide (both_any xa xb A B 1 wb (unhide HXA2) (unhide HXB) (unhide HRA) (unhide HRB) (by rw [KKe]; omega) ca cb (by have := tlen_le A A.length; have := tlen_le B B.length; omega))
      have ck := both_chk hT
      have rsL := both_RS hT (unhide HRA) (unhide HRB)
      have lnL := both_length (A := A) (B := B)
      have ta := tlen_le A A.length
      have tb := tlen_le B B.length
      have e1 := means_add hT
      have e2 := vars_add hT
      have HBO' : Hid (Calls Tryd.prog 9 #[xa, xb] wb fun e w' => ∃ v, e = .returned (.tuple #[v, .nilIface]) ∧ LawIs w' v (both A B) ∧ Below wb.heap.size wb w') := HBO
      have hlL : (both A B).length ≤ 50 := by omega
      generalize both A B = L at *
      have HRL := hide rsL
      have HE1 := hide e1
      have HE2 := hide e2
      have HCK := hide ck
      have HCA := hide ca
      have HCB := hide cb
      clear HBO hT ck rsL lnL ta tb e1 e2 ca cb
      go_wp2_with fail
      refine (unhide HBO').mono ?_
      rintro e wc ⟨xl, rfl, hxl, hbx⟩
      have HXL := hide hxl
      have HXA := hide ((unhide HXA2).below hbx)
      have HBc := hide (below_step (unhide HB_4) hbx)
      clear hxl HBO' hbx HXA2 HXB
      go_wp2_with fail
      refine (unhide HLA _ (unhide HBc)).mono ?_
      rintro e wd ⟨ya, rfl, hya, hbx⟩
      have HYA := hide hya
      have HXL1 := hide ((unhide HXL).below hbx)
      have HBd := hide (below_step (unhide HBc) hbx)
      clear hya hbx HXL HBc
      go_wp2_with fail
      refine (unhide HLB _ (unhide HBd)).mono ?_
      rintro e we ⟨yb, rfl, hyb, hbx⟩
      have HYB := hide hyb
      have HYA1 := hide ((unhide HYA).below hbx)
      have HXL2 := hide ((unhide HXL1).below hbx)
      have HBe := hide (below_step (unhide HBd) hbx)
      clear hyb hbx HXL1 HBd HYA
      obtain ⟨aA, cA, rfl, junk1⟩ := id (unhide HYA1)
      obtain ⟨aB, cB, rfl, junk2⟩ := id (unhide HYB)
      obtain ⟨aL, cL, rfl, junk3⟩ := id (unhide HXL2)
      clear junk1 junk2 junk3
      go_wp2_with fail
      have hba := alloc_below we (.cells #[.slice aA A.length cA, .slice aB B.length cB, .slice aL L.length cL] 24)
      have HX3 : Hid (∀ i, i < 3 → ∃ ad n c Q, (we.alloc (.cells #[.slice aA A.length cA, .slice aB B.length cB, .slice aL L.length cL] 24)).cell? ⟨we.heap.size, i, none⟩ = some (.slice ad n c) ∧ LawIs (we.alloc (.cells #[.slice aA A.length cA, .slice aB B.length cB, .slice aL L.length cL] 24)) (.slice ad n c) Q ∧ chk Q = 0 ∧ (∀ j, j < Q.length → RS Q[j]! 2000) ∧ Q.length ≤ 50 ∧ [m1 A, m1 B, m1 L][i]! = m1 Q ∧ [m2 A - m1 A * m1 A, m2 B - m1 B * m1 B, m2 L - m1 L * m1 L][i]! = m2 Q - m1 Q * m1 Q) := fun i hi => by
        have hc : ∀ k, (we.alloc (.cells #[.slice aA A.length cA, .slice aB B.length cB, .slice aL L.length cL] 24)).cell? ⟨we.heap.size, k, none⟩ = (#[Value.slice aA A.length cA, .slice aB B.length cB, .slice aL L.length cL] : Array Value)[k]? := fun k => by
          simp only [World.cell?, heap_alloc_new]; rfl
        match i, hi with
        | 0, _ => exact ⟨aA, A.length, cA, A, hc 0, (unhide HYA1).below hba, unhide HCA, fun j hj => (unhide HRA j hj).mono (by omega), by omega, rfl, rfl⟩
        | 1, _ => exact ⟨aB, B.length, cB, B, hc 1, (unhide HYB).below hba, unhide HCB, fun j hj => (unhide HRB j hj).mono (by omega), by omega, rfl, rfl⟩
        | 2, _ => exact ⟨aL, L.length, cL, L, hc 2, (unhide HXL2).below hba, unhide HCK, unhide HRL, by omega, rfl, rfl⟩
      have HBf := hide (below_step (unhide HBe) hba)
      obtain ⟨bg, hbg⟩ : ∃ b, we.heap.size = b := ⟨_, rfl⟩
      obtain ⟨wf, hwf⟩ : ∃ W, we.alloc (.cells #[.slice aA A.length cA, .slice aB B.length cB, .slice aL L.length cL] 24) = W := ⟨_, rfl⟩
      have hblt : bg < wf.heap.size := by rw [← hwf, ← hbg, alloc_size]; omega
      rw [hwf, hbg] at HX3
      rw [hwf] at HBf
      have HMS : Hid (∀ Q : List Rat, (∀ j, j < Q.length → RS Q[j]! 2000) → Q.length ≤ 50 → RS (m1 Q) 110000 ∧ RS (m2 Q - m1 Q * m1 Q) 400000) := fun Q hrq hlq => by
        have r1 : RS (m1 Q) 110000 := ((wsum_RS hrq (F := fun j => ((j ^ 1 : Nat) : Int)) (fun j hj => pow1_I64 (by omega)) Q.length (Nat.le_refl _)).mono (by omega))
        have r2 : RS (m2 Q) 110000 := ((wsum_RS hrq (F := fun j => ((j ^ 2 : Nat) : Int)) (fun j hj => pow2_I64 (by omega)) Q.length (Nat.le_refl _)).mono (by omega))
        exact ⟨r1, (r2.sub (r1.mul r1)).mono (by omega)⟩
      have HMA := hide (unhide HMS A (fun j hj => (unhide HRA j hj).mono (by omega)) (by omega))
      have HMB := hide (unhide HMS B (fun j hj => (unhide HRB j hj).mono (by omega)) (by omega))
      have HML := hide (unhide HMS L (unhide HRL) (by omega))
      obtain ⟨Ms, hMs⟩ : ∃ M, [m1 A, m1 B, m1 L] = M := ⟨_, rfl⟩
      obtain ⟨Ss, hSs⟩ : ∃ M, [m2 A - m1 A * m1 A, m2 B - m1 B * m1 B, m2 L - m1 L * m1 L] = M := ⟨_, rfl⟩
      rw [hMs, hSs] at HX3
      have hlM : Ms.length = 3 := by rw [← hMs]; rfl
      have hlS : Ss.length = 3 := by rw [← hSs]; rfl
      have HMs := hide hMs
      have HSs := hide hSs
      clear hba HBe HYA1 HYB HXL2 hMs hSs HRA HRB HRL HCA HCB HCK HLA HLB HXA
      go_loopw [9, 10, 56] (fun v9 v10 vi wr => ∃ (i : Nat) (tm ts : List Tri), vi = .int .i64 (i : Int) ∧ i ≤ 3 ∧ Below wf.heap.size wf wr ∧ RowAt wr wf.heap.size v9 tm (Ms.take i) ∧ RowAt wr wf.heap.size v10 ts (Ss.take i) ∧ (∀ g, v9.ownBlock = some g → v10.ownBlock ≠ some g)) (fun _ _ vi _ => 3 - (intOf vi).toNat)
      case atStart =>
        rw [hwf]
        exact ⟨0, [], [], rfl, Nat.zero_le _, Below.refl _ _, RowAt.nil _ _, RowAt.nil _ _, fun g h => by cases h⟩
      case round =>
        rw [hbg] at *
        clear hwf hbg
        obtain ⟨i, tm, ts, rfl, hi, bl, R9, R10, hap⟩ := hrel
        have HBr := hide bl
        have HR9 := hide R9
        have HR10 := hide R10
        have HAP := hide hap
        clear R9 R10 hap
        by_cases hlt : i < 3
        · obtain ⟨ad, nq, cq, Q, hcell, hlaw, hck, hrq, hlq, hm, hs⟩ := unhide HX3 i hlt
          rw [← bl.cell (p := ⟨bg, i, none⟩) hblt] at hcell
          have hlaw2 := hlaw.below bl
          have HMO1 : Hid (∀ W, Below wr.heap.size wr W → Calls Tryd.prog 11 #[.slice ad nq cq, .int .i64 1] W fun e w' => ∃ v, e = .returned (.tuple #[v, .nilIface]) ∧ RatIs w' v (m1 Q) ∧ Below W.heap.size W w') := fun W hW => moment_any _ Q 2000 1 W (hlaw2.below hW) hrq (by rw [KKe]; omega) hck (by decide)
          have HMO2 : Hid (∀ W, Below wr.heap.size wr W → Calls Tryd.prog 11 #[.slice ad nq cq, .int .i64 2] W fun e w' => ∃ v, e = .returned (.tuple #[v, .nilIface]) ∧ RatIs w' v (m2 Q) ∧ Below W.heap.size W w') := fun W hW => moment_any _ Q 2000 2 W (hlaw2.below hW) hrq (by rw [KKe]; omega) hck (by decide)
          have HR1 : Hid (RS (m1 Q) 110000) := hide ((wsum_RS hrq (F := fun j => ((j ^ 1 : Nat) : Int)) (fun j hj => pow1_I64 (by omega)) Q.length (Nat.le_refl _)).mono (by omega))
          have HR2 : Hid (RS (m2 Q) 110000) := hide ((wsum_RS hrq (F := fun j => ((j ^ 2 : Nat) : Int)) (fun j hj => pow2_I64 (by omega)) Q.length (Nat.le_refl _)).mono (by omega))
          have HM := hide hm
          have HS := hide hs
          have HB_0 := hide (Below.refl wr.heap.size wr)
          have hi0 : (0 : Int) ≤ (i : Int) := by omega
          have hi1 : (i : Int) < 3 := by omega
          clear bl hlaw hlaw2 hck hrq hlq hm hs HX3
          go_wp2_with fail
          refine (unhide HMO1 _ (unhide HB_0)).mono ?_
          rintro e w_201 ⟨v6, rfl, hv6, hbx⟩
          obtain ⟨ta, rfl, hr_201⟩ := tri_of hv6
          simp only [Tri.val]
          have HG_b13 := hide (below_step (unhide HB_0) hbx).size
          have hb_201 := below_step hbx (alloc_below w_201 (.cells #[.bool ta.s, .slice ta.a1 ta.n1 ta.c1, .slice ta.a2 ta.n2 ta.c2] 36))
          have HB_202 := hide (below_step (unhide HB_0) hb_201)
          clear HB_0
          have HX_b13_201 := hide (BoxIs.new hr_201)
          obtain ⟨Wb13, hW_201⟩ : ∃ W, w_201.alloc (.cells #[.bool ta.s, .slice ta.a1 ta.n1 ta.c1, .slice ta.a2 ta.n2 ta.c2] 36) = W := ⟨_, rfl⟩
          obtain ⟨b13, hc_201⟩ : ∃ b, w_201.heap.size = b := ⟨_, rfl⟩
          rw [hW_201] at HB_202 HX_b13_201
          rw [hc_201] at HX_b13_201 HG_b13
          clear hv6 hr_201 hbx hb_201
          go_wp2_with fail
          clear hW_201 hc_201
          refine (unhide HMO2 _ (unhide HB_202)).mono ?_
          rintro e w_203 ⟨v7, rfl, hv7, hbx⟩
          obtain ⟨tb, rfl, hr_203⟩ := tri_of hv7
          simp only [Tri.val]
          have HL_b13_b15 := hide (Nat.lt_of_lt_of_le (unhide HX_b13_201).lt hbx.size)
          have HG_b15 := hide (below_step (unhide HB_202) hbx).size
          have hb_203 := below_step hbx (alloc_below w_203 (.cells #[.bool tb.s, .slice tb.a1 tb.n1 tb.c1, .slice tb.a2 tb.n2 tb.c2] 36))
          have HB_204 := hide (below_step (unhide HB_202) hb_203)
          have HX_b13_204 := hide ((unhide HX_b13_201).keep hb_203)
          clear HB_202 HX_b13_201
          have HX_b15_203 := hide (BoxIs.new hr_203)
          obtain ⟨Wb15, hW_203⟩ : ∃ W, w_203.alloc (.cells #[.bool tb.s, .slice tb.a1 tb.n1 tb.c1, .slice tb.a2 tb.n2 tb.c2] 36) = W := ⟨_, rfl⟩
          obtain ⟨b15, hc_203⟩ : ∃ b, w_203.heap.size = b := ⟨_, rfl⟩
          rw [hW_203] at HB_204 HX_b13_204 HX_b15_203
          rw [hc_203] at HX_b15_203 HL_b13_b15 HG_b15
          clear hv7 hr_203 hbx hb_203
          go_wp2_with fail
          clear hW_203 hc_203
          have bd0 : Below Wb15.heap.size Wb15 Wb15.drew := (Below.refl _ _).drew
          have K9 := (unhide HR9).keep (below_step (unhide HB_204) bd0)
          have K10 := (unhide HR10).keep (below_step (unhide HB_204) bd0)
          have g9 : ∀ g, u9.ownBlock = some g → wf.heap.size ≤ g ∧ g < wr.heap.size := (unhide HR9).block
          have g10 : ∀ g, u10.ownBlock = some g → wf.heap.size ≤ g ∧ g < wr.heap.size := (unhide HR10).block
          have Y13 := (unhide HX_b13_204).keep bd0
          have Y15 := (unhide HX_b15_203).keep bd0
          have HBW := hide (below_step (unhide HBr) (below_step (unhide HB_204) bd0))
          have hs0 : wr.heap.size ≤ Wb15.drew.heap.size := (below_step (unhide HB_204) bd0).size
          obtain ⟨W0, hW0⟩ : ∃ W, Wb15.drew = W := ⟨_, rfl⟩
          refine wp_region_hold (fun w' : World => (w'.cell? ⟨b13, 0, none⟩ = some (.bool ta.s) ∧ w'.cell? ⟨b13, 1, none⟩ = some (.slice ta.a1 ta.n1 ta.c1) ∧ w'.cell? ⟨b13, 2, none⟩ = some (.slice ta.a2 ta.n2 ta.c2)) ∧ w'.cell? ⟨b15, 0, none⟩ = some (.bool tb.s) ∧ w'.cell? ⟨b15, 1, none⟩ = some (.slice tb.a1 tb.n1 tb.c1) ∧ w'.cell? ⟨b15, 2, none⟩ = some (.slice tb.a2 tb.n2 tb.c2)) (by kernel_rfl) ?_
          rw [hW0] at K9 K10 Y13 Y15 HBW hs0 ⊢
          have HK9 := hide K9
          have HK10 := hide K10
          have HY13 := hide Y13
          have HY15 := hide Y15
          have HG9 := hide g9
          have HG10 := hide g10
          clear K9 K10 Y13 Y15 bd0 hW0 HR9 HR10 HX_b13_204 HX_b15_203 HB_204 g9 g10
          have hC0 : (fun w' : World => (w'.cell? ⟨b13, 0, none⟩ = some (.bool ta.s) ∧ w'.cell? ⟨b13, 1, none⟩ = some (.slice ta.a1 ta.n1 ta.c1) ∧ w'.cell? ⟨b13, 2, none⟩ = some (.slice ta.a2 ta.n2 ta.c2)) ∧ w'.cell? ⟨b15, 0, none⟩ = some (.bool tb.s) ∧ w'.cell? ⟨b15, 1, none⟩ = some (.slice tb.a1 tb.n1 tb.c1) ∧ w'.cell? ⟨b15, 2, none⟩ = some (.slice tb.a2 tb.n2 tb.c2)) W0 := ⟨(unhide HY13).cells _ (Below.refl _ _), (unhide HY15).cells _ (Below.refl _ _)⟩
          refine wpHold_take (i := 0) (v := ?_) rfl (by kernel_rfl) (by kernel_rfl) (by kernel_rfl) (fun _ _ _ h => h) (Or.inl ⟨by rfl, ?_⟩) hC0 ?_
          rotate_left
          · intro w hSw; clear hSw; go_simp; (try with_reducible rfl)
          (try simp only [List.getElem_toArray, List.getElem_cons_succ, List.getElem_cons_zero])
          (try simp only [Act.put, List.setIfInBounds_toArray, List.set_cons_zero, List.set_cons_succ])
          refine wpHold_take (i := 1) (v := ?_) rfl (by kernel_rfl) (by kernel_rfl) (by kernel_rfl) (fun _ _ _ h => h) (Or.inl ⟨by rfl, ?_⟩) hC0 ?_
          rotate_left
          · intro w hSw; (try dsimp only at hSw); obtain ⟨⟨z0, z1, z2⟩, z3, z4, z5⟩ := hSw; go_simp; (try with_reducible rfl)
          (try simp only [List.getElem_toArray, List.getElem_cons_succ, List.getElem_cons_zero])
          (try simp only [Act.put, List.setIfInBounds_toArray, List.set_cons_zero, List.set_cons_succ])
          refine wpHold_take (i := 4) (v := ?_) rfl (by kernel_rfl) (by kernel_rfl) (by kernel_rfl) (fun _ _ _ h => h) (Or.inl ⟨by rfl, ?_⟩) hC0 ?_
          rotate_left
          · intro w hSw; clear hSw; go_simp; (try with_reducible rfl)
          (try simp only [List.getElem_toArray, List.getElem_cons_succ, List.getElem_cons_zero])
          (try simp only [Act.put, List.setIfInBounds_toArray, List.set_cons_zero, List.set_cons_succ])
          refine wpHold_take (i := 5) (v := ?_) rfl (by kernel_rfl) (by kernel_rfl) (by kernel_rfl) (fun _ _ _ h => h) (Or.inl ⟨by rfl, ?_⟩) hC0 ?_
          rotate_left
          · intro w hSw; (try dsimp only at hSw); obtain ⟨⟨z0, z1, z2⟩, z3, z4, z5⟩ := hSw; go_simp; (try with_reducible rfl)
          (try simp only [List.getElem_toArray, List.getElem_cons_succ, List.getElem_cons_zero])
          (try simp only [Act.put, List.setIfInBounds_toArray, List.set_cons_zero, List.set_cons_succ])
          refine wpHold_take (i := 6) (v := ?_) rfl (by kernel_rfl) (by kernel_rfl) (by kernel_rfl) (fun _ _ _ h => h) (Or.inl ⟨by rfl, ?_⟩) hC0 ?_
          rotate_left
          · intro w hSw; (try dsimp only at hSw); obtain ⟨⟨z0, z1, z2⟩, z3, z4, z5⟩ := hSw; go_simp; (try with_reducible rfl)
          (try simp only [List.getElem_toArray, List.getElem_cons_succ, List.getElem_cons_zero])
          (try simp only [Act.put, List.setIfInBounds_toArray, List.set_cons_zero, List.set_cons_succ])
          refine wpHold_take (i := 7) (v := ?_) rfl (by kernel_rfl) (by kernel_rfl) (by kernel_rfl) (fun _ _ _ h => h) (Or.inl ⟨by rfl, ?_⟩) hC0 ?_
          rotate_left
          · intro w hSw; (try dsimp only at hSw); obtain ⟨⟨z0, z1, z2⟩, z3, z4, z5⟩ := hSw; go_simp; (try with_reducible rfl)
          (try simp only [List.getElem_toArray, List.getElem_cons_succ, List.getElem_cons_zero])
          (try simp only [Act.put, List.setIfInBounds_toArray, List.set_cons_zero, List.set_cons_succ])
          refine wpHold_one (k := 2) (by kernel_rfl) rfl (fun K hK => ?_)
          (try simp only [List.getElem_toArray, List.getElem_cons_succ, List.getElem_cons_zero])
          go_simp
          have ba1 := alloc_below W0 (.cells #[.bool ta.s, .slice ta.a1 ta.n1 ta.c1, .slice ta.a2 ta.n2 ta.c2] 36)
          have L9 := (unhide HK9).keep ba1
          have L10 := (unhide HK10).keep ba1
          have Z13 := (unhide HY13).keep ba1
          have Z15 := (unhide HY15).keep ba1
          have rA := Z13.2
          have BW1 := below_step (unhide HBW) ba1
          have hs1 := Nat.le_trans hs0 ba1.size
          have hz1 := alloc_size W0 (.cells #[.bool ta.s, .slice ta.a1 ta.n1 ta.c1, .slice ta.a2 ta.n2 ta.c2] 36)
          have nw := news_tri W0 ta 36
          obtain ⟨G1, hG1⟩ : ∃ g, W0.heap.size = g := ⟨_, rfl⟩
          obtain ⟨W1, hW1⟩ : ∃ W, W0.alloc (.cells #[.bool ta.s, .slice ta.a1 ta.n1 ta.c1, .slice ta.a2 ta.n2 ta.c2] 36) = W := ⟨_, rfl⟩
          rw [hW1] at L9 L10 Z13 Z15 BW1 hs1 hz1 nw rA ⊢
          rw [hG1] at hz1 nw hs0 ⊢
          have hC1 : (fun w' : World => (w'.cell? ⟨b13, 0, none⟩ = some (.bool ta.s) ∧ w'.cell? ⟨b13, 1, none⟩ = some (.slice ta.a1 ta.n1 ta.c1) ∧ w'.cell? ⟨b13, 2, none⟩ = some (.slice ta.a2 ta.n2 ta.c2)) ∧ w'.cell? ⟨b15, 0, none⟩ = some (.bool tb.s) ∧ w'.cell? ⟨b15, 1, none⟩ = some (.slice tb.a1 tb.n1 tb.c1) ∧ w'.cell? ⟨b15, 2, none⟩ = some (.slice tb.a2 tb.n2 tb.c2)) W1 := ⟨Z13.cells _ (Below.refl _ _), Z15.cells _ (Below.refl _ _)⟩
          have HK9' := hide L9
          have HK10' := hide L10
          have HZ13 := hide Z13
          have HZ15 := hide Z15
          have HRA := hide rA
          have HBW1 := hide BW1
          clear L9 L10 Z13 Z15 BW1 ba1 hW1 HK9 HK10 HY13 HY15 HBW hC0 rA
          refine hK.out _ _ hC1 ?_
          clear hK K
          (try simp only [Act.put, List.setIfInBounds_toArray, List.set_cons_zero, List.set_cons_succ])
          refine wpHold_one (k := 3) (by kernel_rfl) rfl (fun K hK => ?_)
          (try simp only [List.getElem_toArray, List.getElem_cons_succ, List.getElem_cons_zero])
          rw [if_pos (by kernel_rfl)]
          have hl9 : tm.length = i := by rw [(unhide HK9').len, List.length_take, hlM]; omega
          have hl10 : ts.length = i := by rw [(unhide HK10').len, List.length_take, hlS]; omega
          obtain ⟨ti, hti, hz0, hsz, hby⟩ := info_parts Tryd.infoR
          refine wp_append_tri W1 _ _ _ rfl wf.heap.size 36 ti 56 Tryd.underlying23 hti hz0 hsz hby u9 tm.length (tcells tm) rfl (unhide HK9').own (unhide HK9').no ⟨G1, 0, none⟩ 1 1 ta.cells rfl rfl nw (tri_one ta) ta.notWord (by decide) (by rw [hl9]; unfold maxLen; omega) (by rw [hl9]; omega) (unhide HBW1).size (G1 + 1) hz1 ?_
          intro gm cm w4 hown hgr hat hlt4 hno4
          dsimp only
          have hg9 : ∀ g, u9.ownBlock = some g → wf.heap.size ≤ g ∧ g < wr.heap.size := unhide HG9
          have N9 := (unhide HK9').push (unhide HRA) hown hgr hno4
          rw [← unhide HM, take_push (show i < Ms.length by omega)] at N9
          have N10 := (unhide HK10').far hgr (unhide HK9').no (fun g h1 h2 => unhide HAP g h2 h1)
          have N13 := (unhide HZ13).far hgr (unhide HK9').no (fun h => by have := hg9 _ h; have := unhide HG_b13; omega)
          have N15 := (unhide HZ15).far hgr (unhide HK9').no (fun h => by have := hg9 _ h; have := unhide HG_b15; omega)
          have BW4 := Below.grown (unhide HBW1) hgr (unhide HBW1).size (fun k h => (hg9 k h).1)
          have hap4 : ∀ g, u10.ownBlock = some g → g ≠ gm := fun g h e => by
            subst e
            rcases hat with h' | h'
            · exact unhide HAP g h' h
            · have := unhide HG10 g h; omega
          have hs4 : wr.heap.size ≤ w4.heap.size := Nat.le_trans hs1 hgr.size
          have hC4 : (fun w' : World => (w'.cell? ⟨b13, 0, none⟩ = some (.bool ta.s) ∧ w'.cell? ⟨b13, 1, none⟩ = some (.slice ta.a1 ta.n1 ta.c1) ∧ w'.cell? ⟨b13, 2, none⟩ = some (.slice ta.a2 ta.n2 ta.c2)) ∧ w'.cell? ⟨b15, 0, none⟩ = some (.bool tb.s) ∧ w'.cell? ⟨b15, 1, none⟩ = some (.slice tb.a1 tb.n1 tb.c1) ∧ w'.cell? ⟨b15, 2, none⟩ = some (.slice tb.a2 tb.n2 tb.c2)) w4 := ⟨N13.cells _ (Below.refl _ _), N15.cells _ (Below.refl _ _)⟩
          have HMU := hide (mulR_any ta.val ta.val _ _ w4 N13.2 N13.2 110000 (unhide HR1) (unhide HR1) (by rw [KKe]; omega))
          have HN9 := hide N9
          have HN10 := hide N10
          have HN13 := hide N13
          have HN15 := hide N15
          have HBW4 := hide BW4
          have HAP4 := hide hap4
          clear HK9' HK10' HZ13 HZ15 HBW1 hown hgr hat hno4 hg9 N9 N10 N13 N15 BW4 hap4 HAP hti hz0 hsz hby hC1 HRA nw
          refine hK.out _ _ hC4 ?_
          clear hK K
          (try simp only [Act.put, List.setIfInBounds_toArray, List.set_cons_zero, List.set_cons_succ])
          refine wpHold_one (k := 8) (by kernel_rfl) rfl (fun K hK => ?_)
          (try simp only [List.getElem_toArray, List.getElem_cons_succ, List.getElem_cons_zero])
          go_simp
          refine (unhide HMU).mono ?_
          rintro e w5 ⟨v5, rfl, hv5, hb5⟩
          have hC5 : (fun w' : World => (w'.cell? ⟨b13, 0, none⟩ = some (.bool ta.s) ∧ w'.cell? ⟨b13, 1, none⟩ = some (.slice ta.a1 ta.n1 ta.c1) ∧ w'.cell? ⟨b13, 2, none⟩ = some (.slice ta.a2 ta.n2 ta.c2)) ∧ w'.cell? ⟨b15, 0, none⟩ = some (.bool tb.s) ∧ w'.cell? ⟨b15, 1, none⟩ = some (.slice tb.a1 tb.n1 tb.c1) ∧ w'.cell? ⟨b15, 2, none⟩ = some (.slice tb.a2 tb.n2 tb.c2)) w5 := ⟨(unhide HN13).cells _ hb5, (unhide HN15).cells _ hb5⟩
          have HSU := hide (subR_any tb.val v5 _ _ w5 ((unhide HN15).2.below hb5) hv5 220000 ((unhide HR2).mono (by omega)) (((unhide HR1).mul (unhide HR1)).mono (by omega)) (by rw [KKe]; omega))
          have HB5 := hide hb5
          clear hC4 hv5 hb5 HMU
          refine hK.out _ _ hC5 ?_
          clear hK K
          (try simp only [Act.put, List.setIfInBounds_toArray, List.set_cons_zero, List.set_cons_succ])
          refine wpHold_one (k := 9) (by kernel_rfl) rfl (fun K hK => ?_)
          (try simp only [List.getElem_toArray, List.getElem_cons_succ, List.getElem_cons_zero])
          go_simp
          refine (unhide HSU).mono ?_
          rintro e w6 ⟨v6, rfl, hv6, hb6⟩
          obtain ⟨tx, rfl, hr6⟩ := tri_of hv6
          simp only [Tri.val]
          have hb46 := below_step (unhide HB5) hb6
          have hC6 : (fun w' : World => (w'.cell? ⟨b13, 0, none⟩ = some (.bool ta.s) ∧ w'.cell? ⟨b13, 1, none⟩ = some (.slice ta.a1 ta.n1 ta.c1) ∧ w'.cell? ⟨b13, 2, none⟩ = some (.slice ta.a2 ta.n2 ta.c2)) ∧ w'.cell? ⟨b15, 0, none⟩ = some (.bool tb.s) ∧ w'.cell? ⟨b15, 1, none⟩ = some (.slice tb.a1 tb.n1 tb.c1) ∧ w'.cell? ⟨b15, 2, none⟩ = some (.slice tb.a2 tb.n2 tb.c2)) w6 := ⟨(unhide HN13).cells _ hb46, (unhide HN15).cells _ hb46⟩
          have HB6 := hide hb46
          have HR6 := hide hr6
          clear hC5 hv6 hb6 HSU HB5 hb46 hr6
          refine hK.out _ _ hC6 ?_
          clear hK K
          (try simp only [Act.put, List.setIfInBounds_toArray, List.set_cons_zero, List.set_cons_succ])
          refine wpHold_one (k := 10) (by kernel_rfl) rfl (fun K hK => ?_)
          (try simp only [List.getElem_toArray, List.getElem_cons_succ, List.getElem_cons_zero])
          go_simp
          have ba7 := below_step (unhide HB6) (alloc_below w6 (.cells #[.bool tx.s, .slice tx.a1 tx.n1 tx.c1, .slice tx.a2 tx.n2 tx.c2] 36))
          have M9 := (unhide HN9).keep ba7
          have M10 := (unhide HN10).keep ba7
          have M13 := (unhide HN13).keep ba7
          have M15 := (unhide HN15).keep ba7
          have BW7 := below_step (unhide HBW4) ba7
          have hs7 := Nat.le_trans hs4 (unhide HB6).size
          have hs47 := (unhide HB6).size
          have hz7 := alloc_size w6 (.cells #[.bool tx.s, .slice tx.a1 tx.n1 tx.c1, .slice tx.a2 tx.n2 tx.c2] 36)
          have nw := news_tri w6 tx 36
          have rX := (unhide HR6).below (alloc_below w6 (.cells #[.bool tx.s, .slice tx.a1 tx.n1 tx.c1, .slice tx.a2 tx.n2 tx.c2] 36))
          obtain ⟨G7, hG7⟩ : ∃ g, w6.heap.size = g := ⟨_, rfl⟩
          obtain ⟨W7, hW7⟩ : ∃ W, w6.alloc (.cells #[.bool tx.s, .slice tx.a1 tx.n1 tx.c1, .slice tx.a2 tx.n2 tx.c2] 36) = W := ⟨_, rfl⟩
          rw [hW7] at M9 M10 M13 M15 BW7 hz7 nw rX ⊢
          rw [hG7] at hz7 nw hs7 hs47 ⊢
          have hC7 : (fun w' : World => (w'.cell? ⟨b13, 0, none⟩ = some (.bool ta.s) ∧ w'.cell? ⟨b13, 1, none⟩ = some (.slice ta.a1 ta.n1 ta.c1) ∧ w'.cell? ⟨b13, 2, none⟩ = some (.slice ta.a2 ta.n2 ta.c2)) ∧ w'.cell? ⟨b15, 0, none⟩ = some (.bool tb.s) ∧ w'.cell? ⟨b15, 1, none⟩ = some (.slice tb.a1 tb.n1 tb.c1) ∧ w'.cell? ⟨b15, 2, none⟩ = some (.slice tb.a2 tb.n2 tb.c2)) W7 := ⟨M13.cells _ (Below.refl _ _), M15.cells _ (Below.refl _ _)⟩
          have HK9' := hide M9
          have HK10' := hide M10
          have HZ13 := hide M13
          have HZ15 := hide M15
          have HRX := hide rX
          have HBW7 := hide BW7
          clear M9 M10 M13 M15 BW7 ba7 hW7 HN9 HN10 HN13 HN15 HBW4 hC6 rX HB6 HR6
          refine hK.out _ _ hC7 ?_
          clear hK K
          (try simp only [Act.put, List.setIfInBounds_toArray, List.set_cons_zero, List.set_cons_succ])
          refine wpHold_one (k := 11) (by kernel_rfl) rfl (fun K hK => ?_)
          (try simp only [List.getElem_toArray, List.getElem_cons_succ, List.getElem_cons_zero])
          rw [if_pos (by kernel_rfl)]
          obtain ⟨ti, hti, hz0, hsz, hby⟩ := info_parts Tryd.infoR
          refine wp_append_tri W7 _ _ _ rfl wf.heap.size 36 ti 56 Tryd.underlying23 hti hz0 hsz hby u10 ts.length (tcells ts) rfl (unhide HK10').own (unhide HK10').no ⟨G7, 0, none⟩ 1 1 tx.cells rfl rfl nw (tri_one tx) tx.notWord (by decide) (by rw [hl10]; unfold maxLen; omega) (by rw [hl10]; omega) (unhide HBW7).size (G7 + 1) hz7 ?_
          intro gs cs w8 hown hgr hat hlt8 hno8
          dsimp only
          have hg10 : ∀ g, u10.ownBlock = some g → wf.heap.size ≤ g ∧ g < wr.heap.size := unhide HG10
          have N10 := (unhide HK10').push (unhide HRX) hown hgr hno8
          rw [← unhide HS, take_push (show i < Ss.length by omega)] at N10
          have N9 := (unhide HK9').far hgr (unhide HK10').no (fun g h1 h2 => unhide HAP4 g h2 (show gm = g by simpa [Value.ownBlock] using h1).symm)
          have N13 := (unhide HZ13).far hgr (unhide HK10').no (fun h => by have := hg10 _ h; have := unhide HG_b13; omega)
          have N15 := (unhide HZ15).far hgr (unhide HK10').no (fun h => by have := hg10 _ h; have := unhide HG_b15; omega)
          have BW8 := Below.grown (unhide HBW7) hgr (unhide HBW7).size (fun k h => (hg10 k h).1)
          have hap8 : gs ≠ gm := fun e => by
            subst e
            rcases hat with h' | h'
            · exact unhide HAP4 gs h' rfl
            · omega
          have hC8 : (fun w' : World => (w'.cell? ⟨b13, 0, none⟩ = some (.bool ta.s) ∧ w'.cell? ⟨b13, 1, none⟩ = some (.slice ta.a1 ta.n1 ta.c1) ∧ w'.cell? ⟨b13, 2, none⟩ = some (.slice ta.a2 ta.n2 ta.c2)) ∧ w'.cell? ⟨b15, 0, none⟩ = some (.bool tb.s) ∧ w'.cell? ⟨b15, 1, none⟩ = some (.slice tb.a1 tb.n1 tb.c1) ∧ w'.cell? ⟨b15, 2, none⟩ = some (.slice tb.a2 tb.n2 tb.c2)) w8 := ⟨N13.cells _ (Below.refl _ _), N15.cells _ (Below.refl _ _)⟩
          have HN9 := hide N9
          have HN10 := hide N10
          have HBW8 := hide BW8
          rw [hl9] at HN9
          rw [hl10] at HN10
          clear HK9' HK10' HZ13 HZ15 HBW7 hown hgr hat hno8 hg10 N9 N10 N13 N15 BW8 HAP4 hti hz0 hsz hby hC7 HRX nw
          refine hK.out _ _ hC8 ?_
          clear hK K
          (try simp only [Act.put, List.setIfInBounds_toArray, List.set_cons_zero, List.set_cons_succ])
          refine wpHold_one (k := 12) (by kernel_rfl) rfl (fun K hK => ?_)
          (try simp only [List.getElem_toArray, List.getElem_cons_succ, List.getElem_cons_zero])
          go_simp
          refine hK.out _ _ hC8 ?_
          clear hK K
          (try simp only [Act.put, List.setIfInBounds_toArray, List.set_cons_zero, List.set_cons_succ])
          refine wpHold_one (k := 13) (by kernel_rfl) rfl (fun K hK => ?_)
          (try simp only [List.getElem_toArray, List.getElem_cons_succ, List.getElem_cons_zero])
          go_simp
          refine hK.out _ _ hC8 ?_
          clear hK K
          (try simp only [Act.put, List.setIfInBounds_toArray, List.set_cons_zero, List.set_cons_succ])
          refine wpHold_done (by kernel_rfl) ?_ _
          clear hC8
          go_wp2_with fail
          exact ⟨⟨i + 1, tm ++ [ta], ts ++ [tx], by go_num, hlt, unhide HBW8, unhide HN9, unhide HN10, fun g h1 h2 => by
            have e1 : gm = g := by simpa [Value.ownBlock] using h1
            have e2 : gs = g := by simpa [Value.ownBlock] using h2
            omega⟩, by simp [intOf]; omega⟩
        · obtain rfl : i = 3 := by omega
          clear HX3
          have h9 := unhide HR9
          have h10 := unhide HR10
          have l9 : tm.length = 3 := by rw [h9.len, List.length_take, hlM]; rfl
          have l10 : ts.length = 3 := by rw [h10.len, List.length_take, hlS]; rfl
          obtain ⟨g9, c9, rfl⟩ := h9.some (by omega)
          obtain ⟨g10, c10, rfl⟩ := h10.some (by omega)
          rw [l9] at h9 ⊢
          rw [l10] at h10 ⊢
          have t9 : Ms.take 3 = [m1 A, m1 B, m1 L] := by rw [← unhide HMs]; rfl
          have t10 : Ss.take 3 = [m2 A - m1 A * m1 A, m2 B - m1 B * m1 B, m2 L - m1 L * m1 L] := by rw [← unhide HSs]; rfl
          rw [t9] at h9
          rw [t10] at h10
          have k0 := h9.cells (j := 0) (by omega)
          have k1 := h9.cells (j := 1) (by omega)
          have k2 := h9.cells (j := 2) (by omega)
          have k3 := h10.cells (j := 0) (by omega)
          have k4 := h10.cells (j := 1) (by omega)
          have k5 := h10.cells (j := 2) (by omega)
          have r0 := h9.rat 0 (by omega)
          have r1 := h9.rat 1 (by omega)
          have r2 := h9.rat 2 (by omega)
          have r3 := h10.rat 0 (by omega)
          have r4 := h10.rat 1 (by omega)
          have r5 := h10.rat 2 (by omega)
          generalize tm[0]! = p0 at *
          generalize tm[1]! = p1 at *
          generalize tm[2]! = p2 at *
          generalize ts[0]! = s0 at *
          generalize ts[1]! = s1 at *
          generalize ts[2]! = s2 at *
          have HCC : Hid (∀ W, Below wr.heap.size wr W → (fun w' : World => w'.cell? ⟨g9, 0, none⟩ = some (.bool p0.s) ∧ w'.cell? ⟨g9, 1, none⟩ = some (.slice p0.a1 p0.n1 p0.c1) ∧ w'.cell? ⟨g9, 2, none⟩ = some (.slice p0.a2 p0.n2 p0.c2) ∧ w'.cell? ⟨g9, 3, none⟩ = some (.bool p1.s) ∧ w'.cell? ⟨g9, 4, none⟩ = some (.slice p1.a1 p1.n1 p1.c1) ∧ w'.cell? ⟨g9, 5, none⟩ = some (.slice p1.a2 p1.n2 p1.c2) ∧ w'.cell? ⟨g9, 6, none⟩ = some (.bool p2.s) ∧ w'.cell? ⟨g9, 7, none⟩ = some (.slice p2.a1 p2.n1 p2.c1) ∧ w'.cell? ⟨g9, 8, none⟩ = some (.slice p2.a2 p2.n2 p2.c2) ∧ w'.cell? ⟨g10, 0, none⟩ = some (.bool s0.s) ∧ w'.cell? ⟨g10, 1, none⟩ = some (.slice s0.a1 s0.n1 s0.c1) ∧ w'.cell? ⟨g10, 2, none⟩ = some (.slice s0.a2 s0.n2 s0.c2) ∧ w'.cell? ⟨g10, 3, none⟩ = some (.bool s1.s) ∧ w'.cell? ⟨g10, 4, none⟩ = some (.slice s1.a1 s1.n1 s1.c1) ∧ w'.cell? ⟨g10, 5, none⟩ = some (.slice s1.a2 s1.n2 s1.c2) ∧ w'.cell? ⟨g10, 6, none⟩ = some (.bool s2.s) ∧ w'.cell? ⟨g10, 7, none⟩ = some (.slice s2.a1 s2.n1 s2.c1) ∧ w'.cell? ⟨g10, 8, none⟩ = some (.slice s2.a2 s2.n2 s2.c2)) W) := fun W hW => by
            obtain ⟨a0, a1, a2⟩ := k0 W hW
            obtain ⟨a3, a4, a5⟩ := k1 W hW
            obtain ⟨a6, a7, a8⟩ := k2 W hW
            obtain ⟨b0, b1, b2⟩ := k3 W hW
            obtain ⟨b3, b4, b5⟩ := k4 W hW
            obtain ⟨b6, b7, b8⟩ := k5 W hW
            exact ⟨a0, a1, a2, a3, a4, a5, a6, a7, a8, b0, b1, b2, b3, b4, b5, b6, b7, b8⟩
          have HA1 : Hid (∀ W, Below wr.heap.size wr W → Calls Tryd.prog 15 #[.agg #[.bool p0.s, .slice p0.a1 p0.n1 p0.c1, .slice p0.a2 p0.n2 p0.c2], .agg #[.bool p1.s, .slice p1.a1 p1.n1 p1.c1, .slice p1.a2 p1.n2 p1.c2]] W fun e w' => ∃ v, e = .returned v ∧ RatIs w' v (m1 L) ∧ Below W.heap.size W w') := fun W hW => by
            rw [← unhide HE1]
            exact addR_any p0.val p1.val _ _ W (r0.below hW) (r1.below hW) 110000 (unhide HMA).1 (unhide HMB).1 (by rw [KKe]; omega)
          have HA2 : Hid (∀ W, Below wr.heap.size wr W → Calls Tryd.prog 15 #[.agg #[.bool s0.s, .slice s0.a1 s0.n1 s0.c1, .slice s0.a2 s0.n2 s0.c2], .agg #[.bool s1.s, .slice s1.a1 s1.n1 s1.c1, .slice s1.a2 s1.n2 s1.c2]] W fun e w' => ∃ v, e = .returned v ∧ RatIs w' v (m2 L - m1 L * m1 L) ∧ Below W.heap.size W w') := fun W hW => by
            rw [← unhide HE2]
            exact addR_any s0.val s1.val _ _ W (r3.below hW) (r4.below hW) 400000 (unhide HMA).2 (unhide HMB).2 (by rw [KKe]; omega)
          have HTB : Hid (∀ W, Below wr.heap.size wr W → Tab W) := fun W hW => tab_below (unhide HTAB) (below_step (below_step (unhide HBf) (unhide HBr)) hW)
          have HI1 : Hid (∀ W v, Below wr.heap.size wr W → RatIs W v (m1 L) → Calls Tryd.prog 14 #[v, .agg #[.bool p2.s, .slice p2.a1 p2.n1 p2.c1, .slice p2.a2 p2.n2 p2.c2]] W fun e w' => e = .returned (.bool true) ∧ Below W.heap.size W w') := fun W v hW hv => like_any v p2.val _ W hv (r2.below hW) 110000 (unhide HML).1 (by rw [KKe]; omega) (unhide HTB W hW)
          have HI2 : Hid (∀ W v, Below wr.heap.size wr W → RatIs W v (m2 L - m1 L * m1 L) → Calls Tryd.prog 14 #[v, .agg #[.bool s2.s, .slice s2.a1 s2.n1 s2.c1, .slice s2.a2 s2.n2 s2.c2]] W fun e w' => e = .returned (.bool true) ∧ Below W.heap.size W w') := fun W v hW hv => like_any v s2.val _ W hv (r5.below hW) 400000 (unhide HML).2 (by rw [KKe]; omega) (unhide HTB W hW)
          have HBF := hide (below_step (unhide HBf) (unhide HBr))
          have bd0 : Below wr.heap.size wr wr.drew := (Below.refl _ _).drew
          clear h9 h10 t9 t10 k0 k1 k2 k3 k4 k5 r0 r1 r2 r3 r4 r5 HMA HMB HML HTB HTAB HR9 HR10 bl
          go_wp2_with fail
          refine wp_region_hold (fun w' : World => w'.cell? ⟨g9, 0, none⟩ = some (.bool p0.s) ∧ w'.cell? ⟨g9, 1, none⟩ = some (.slice p0.a1 p0.n1 p0.c1) ∧ w'.cell? ⟨g9, 2, none⟩ = some (.slice p0.a2 p0.n2 p0.c2) ∧ w'.cell? ⟨g9, 3, none⟩ = some (.bool p1.s) ∧ w'.cell? ⟨g9, 4, none⟩ = some (.slice p1.a1 p1.n1 p1.c1) ∧ w'.cell? ⟨g9, 5, none⟩ = some (.slice p1.a2 p1.n2 p1.c2) ∧ w'.cell? ⟨g9, 6, none⟩ = some (.bool p2.s) ∧ w'.cell? ⟨g9, 7, none⟩ = some (.slice p2.a1 p2.n1 p2.c1) ∧ w'.cell? ⟨g9, 8, none⟩ = some (.slice p2.a2 p2.n2 p2.c2) ∧ w'.cell? ⟨g10, 0, none⟩ = some (.bool s0.s) ∧ w'.cell? ⟨g10, 1, none⟩ = some (.slice s0.a1 s0.n1 s0.c1) ∧ w'.cell? ⟨g10, 2, none⟩ = some (.slice s0.a2 s0.n2 s0.c2) ∧ w'.cell? ⟨g10, 3, none⟩ = some (.bool s1.s) ∧ w'.cell? ⟨g10, 4, none⟩ = some (.slice s1.a1 s1.n1 s1.c1) ∧ w'.cell? ⟨g10, 5, none⟩ = some (.slice s1.a2 s1.n2 s1.c2) ∧ w'.cell? ⟨g10, 6, none⟩ = some (.bool s2.s) ∧ w'.cell? ⟨g10, 7, none⟩ = some (.slice s2.a1 s2.n1 s2.c1) ∧ w'.cell? ⟨g10, 8, none⟩ = some (.slice s2.a2 s2.n2 s2.c2)) (by kernel_rfl) ?_
          have hC0 : (fun w' : World => w'.cell? ⟨g9, 0, none⟩ = some (.bool p0.s) ∧ w'.cell? ⟨g9, 1, none⟩ = some (.slice p0.a1 p0.n1 p0.c1) ∧ w'.cell? ⟨g9, 2, none⟩ = some (.slice p0.a2 p0.n2 p0.c2) ∧ w'.cell? ⟨g9, 3, none⟩ = some (.bool p1.s) ∧ w'.cell? ⟨g9, 4, none⟩ = some (.slice p1.a1 p1.n1 p1.c1) ∧ w'.cell? ⟨g9, 5, none⟩ = some (.slice p1.a2 p1.n2 p1.c2) ∧ w'.cell? ⟨g9, 6, none⟩ = some (.bool p2.s) ∧ w'.cell? ⟨g9, 7, none⟩ = some (.slice p2.a1 p2.n1 p2.c1) ∧ w'.cell? ⟨g9, 8, none⟩ = some (.slice p2.a2 p2.n2 p2.c2) ∧ w'.cell? ⟨g10, 0, none⟩ = some (.bool s0.s) ∧ w'.cell? ⟨g10, 1, none⟩ = some (.slice s0.a1 s0.n1 s0.c1) ∧ w'.cell? ⟨g10, 2, none⟩ = some (.slice s0.a2 s0.n2 s0.c2) ∧ w'.cell? ⟨g10, 3, none⟩ = some (.bool s1.s) ∧ w'.cell? ⟨g10, 4, none⟩ = some (.slice s1.a1 s1.n1 s1.c1) ∧ w'.cell? ⟨g10, 5, none⟩ = some (.slice s1.a2 s1.n2 s1.c2) ∧ w'.cell? ⟨g10, 6, none⟩ = some (.bool s2.s) ∧ w'.cell? ⟨g10, 7, none⟩ = some (.slice s2.a1 s2.n1 s2.c1) ∧ w'.cell? ⟨g10, 8, none⟩ = some (.slice s2.a2 s2.n2 s2.c2)) wr.drew := unhide HCC _ bd0
          refine wpHold_take (i := 0) (v := ?_) rfl (by kernel_rfl) (by kernel_rfl) (by kernel_rfl) (fun _ _ _ h => h) (Or.inl ⟨by rfl, ?_⟩) hC0 ?_
          rotate_left
          · intro w hSw; clear hSw; go_simp; (try with_reducible rfl)
          (try simp only [List.getElem_toArray, List.getElem_cons_succ, List.getElem_cons_zero])
          (try simp only [Act.put, List.setIfInBounds_toArray, List.set_cons_zero, List.set_cons_succ])
          refine wpHold_take (i := 1) (v := ?_) rfl (by kernel_rfl) (by kernel_rfl) (by kernel_rfl) (fun _ _ _ h => h) (Or.inl ⟨by rfl, ?_⟩) hC0 ?_
          rotate_left
          · intro w hSw; clear hSw; go_simp; (try with_reducible rfl)
          (try simp only [List.getElem_toArray, List.getElem_cons_succ, List.getElem_cons_zero])
          (try simp only [Act.put, List.setIfInBounds_toArray, List.set_cons_zero, List.set_cons_succ])
          refine wpHold_take (i := 3) (v := ?_) rfl (by kernel_rfl) (by kernel_rfl) (by kernel_rfl) (fun _ _ _ h => h) (Or.inl ⟨by rfl, ?_⟩) hC0 ?_
          rotate_left
          · intro w hSw; clear hSw; go_simp; (try with_reducible rfl)
          (try simp only [List.getElem_toArray, List.getElem_cons_succ, List.getElem_cons_zero])
          (try simp only [Act.put, List.setIfInBounds_toArray, List.set_cons_zero, List.set_cons_succ])
          refine wpHold_take (i := 4) (v := ?_) rfl (by kernel_rfl) (by kernel_rfl) (by kernel_rfl) (fun _ _ _ h => h) (Or.inl ⟨by rfl, ?_⟩) hC0 ?_
          rotate_left
          · intro w hSw; clear hSw; go_simp; (try with_reducible rfl)
          (try simp only [List.getElem_toArray, List.getElem_cons_succ, List.getElem_cons_zero])
          (try simp only [Act.put, List.setIfInBounds_toArray, List.set_cons_zero, List.set_cons_succ])
          refine wpHold_take (i := 7) (v := ?_) rfl (by kernel_rfl) (by kernel_rfl) (by kernel_rfl) (fun _ _ _ h => h) (Or.inl ⟨by rfl, ?_⟩) hC0 ?_
          rotate_left
          · intro w hSw; clear hSw; go_simp; (try with_reducible rfl)
          (try simp only [List.getElem_toArray, List.getElem_cons_succ, List.getElem_cons_zero])
          (try simp only [Act.put, List.setIfInBounds_toArray, List.set_cons_zero, List.set_cons_succ])
          refine wpHold_take (i := 8) (v := ?_) rfl (by kernel_rfl) (by kernel_rfl) (by kernel_rfl) (fun _ _ _ h => h) (Or.inl ⟨by rfl, ?_⟩) hC0 ?_
          rotate_left
          · intro w hSw; clear hSw; go_simp; (try with_reducible rfl)
          (try simp only [List.getElem_toArray, List.getElem_cons_succ, List.getElem_cons_zero])
          (try simp only [Act.put, List.setIfInBounds_toArray, List.set_cons_zero, List.set_cons_succ])
          refine wpHold_take (i := 2) (v := ?_) rfl (by kernel_rfl) (by kernel_rfl) (by kernel_rfl) (fun _ _ _ h => h) (Or.inl ⟨by rfl, ?_⟩) hC0 ?_
          rotate_left
          · intro w hSw; (try dsimp only at hSw); obtain ⟨z0, z1, z2, z3, z4, z5, z6, z7, z8, z9, z10, z11, z12, z13, z14, z15, z16, z17⟩ := hSw; go_simp; (try with_reducible rfl)
          (try simp only [List.getElem_toArray, List.getElem_cons_succ, List.getElem_cons_zero])
          (try simp only [Act.put, List.setIfInBounds_toArray, List.set_cons_zero, List.set_cons_succ])
          refine wpHold_take (i := 5) (v := ?_) rfl (by kernel_rfl) (by kernel_rfl) (by kernel_rfl) (fun _ _ _ h => h) (Or.inl ⟨by rfl, ?_⟩) hC0 ?_
          rotate_left
          · intro w hSw; (try dsimp only at hSw); obtain ⟨z0, z1, z2, z3, z4, z5, z6, z7, z8, z9, z10, z11, z12, z13, z14, z15, z16, z17⟩ := hSw; go_simp; (try with_reducible rfl)
          (try simp only [List.getElem_toArray, List.getElem_cons_succ, List.getElem_cons_zero])
          (try simp only [Act.put, List.setIfInBounds_toArray, List.set_cons_zero, List.set_cons_succ])
          refine wpHold_take (i := 9) (v := ?_) rfl (by kernel_rfl) (by kernel_rfl) (by kernel_rfl) (fun _ _ _ h => h) (Or.inl ⟨by rfl, ?_⟩) hC0 ?_
          rotate_left
          · intro w hSw; (try dsimp only at hSw); obtain ⟨z0, z1, z2, z3, z4, z5, z6, z7, z8, z9, z10, z11, z12, z13, z14, z15, z16, z17⟩ := hSw; go_simp; (try with_reducible rfl)
          (try simp only [List.getElem_toArray, List.getElem_cons_succ, List.getElem_cons_zero])
          (try simp only [Act.put, List.setIfInBounds_toArray, List.set_cons_zero, List.set_cons_succ])
          refine wpHold_one (k := 6) (by kernel_rfl) rfl (fun K hK => ?_)
          (try simp only [List.getElem_toArray, List.getElem_cons_succ, List.getElem_cons_zero])
          go_simp
          refine (unhide HA1 _ bd0).mono ?_
          rintro e x1 ⟨v1, rfl, hv1, hx1⟩
          have c1 := below_step bd0 hx1
          have hC1 : (fun w' : World => w'.cell? ⟨g9, 0, none⟩ = some (.bool p0.s) ∧ w'.cell? ⟨g9, 1, none⟩ = some (.slice p0.a1 p0.n1 p0.c1) ∧ w'.cell? ⟨g9, 2, none⟩ = some (.slice p0.a2 p0.n2 p0.c2) ∧ w'.cell? ⟨g9, 3, none⟩ = some (.bool p1.s) ∧ w'.cell? ⟨g9, 4, none⟩ = some (.slice p1.a1 p1.n1 p1.c1) ∧ w'.cell? ⟨g9, 5, none⟩ = some (.slice p1.a2 p1.n2 p1.c2) ∧ w'.cell? ⟨g9, 6, none⟩ = some (.bool p2.s) ∧ w'.cell? ⟨g9, 7, none⟩ = some (.slice p2.a1 p2.n1 p2.c1) ∧ w'.cell? ⟨g9, 8, none⟩ = some (.slice p2.a2 p2.n2 p2.c2) ∧ w'.cell? ⟨g10, 0, none⟩ = some (.bool s0.s) ∧ w'.cell? ⟨g10, 1, none⟩ = some (.slice s0.a1 s0.n1 s0.c1) ∧ w'.cell? ⟨g10, 2, none⟩ = some (.slice s0.a2 s0.n2 s0.c2) ∧ w'.cell? ⟨g10, 3, none⟩ = some (.bool s1.s) ∧ w'.cell? ⟨g10, 4, none⟩ = some (.slice s1.a1 s1.n1 s1.c1) ∧ w'.cell? ⟨g10, 5, none⟩ = some (.slice s1.a2 s1.n2 s1.c2) ∧ w'.cell? ⟨g10, 6, none⟩ = some (.bool s2.s) ∧ w'.cell? ⟨g10, 7, none⟩ = some (.slice s2.a1 s2.n1 s2.c1) ∧ w'.cell? ⟨g10, 8, none⟩ = some (.slice s2.a2 s2.n2 s2.c2)) x1 := unhide HCC _ c1
          refine hK.out _ _ hC1 ?_
          clear hK K
          (try simp only [Act.put, List.setIfInBounds_toArray, List.set_cons_zero, List.set_cons_succ])
          refine wpHold_one (k := 10) (by kernel_rfl) rfl (fun K hK => ?_)
          (try simp only [List.getElem_toArray, List.getElem_cons_succ, List.getElem_cons_zero])
          go_simp
          refine (unhide HI1 x1 v1 c1 hv1).mono ?_
          rintro e x2 ⟨rfl, hx2⟩
          have c2 := below_step c1 hx2
          have hC2 : (fun w' : World => w'.cell? ⟨g9, 0, none⟩ = some (.bool p0.s) ∧ w'.cell? ⟨g9, 1, none⟩ = some (.slice p0.a1 p0.n1 p0.c1) ∧ w'.cell? ⟨g9, 2, none⟩ = some (.slice p0.a2 p0.n2 p0.c2) ∧ w'.cell? ⟨g9, 3, none⟩ = some (.bool p1.s) ∧ w'.cell? ⟨g9, 4, none⟩ = some (.slice p1.a1 p1.n1 p1.c1) ∧ w'.cell? ⟨g9, 5, none⟩ = some (.slice p1.a2 p1.n2 p1.c2) ∧ w'.cell? ⟨g9, 6, none⟩ = some (.bool p2.s) ∧ w'.cell? ⟨g9, 7, none⟩ = some (.slice p2.a1 p2.n1 p2.c1) ∧ w'.cell? ⟨g9, 8, none⟩ = some (.slice p2.a2 p2.n2 p2.c2) ∧ w'.cell? ⟨g10, 0, none⟩ = some (.bool s0.s) ∧ w'.cell? ⟨g10, 1, none⟩ = some (.slice s0.a1 s0.n1 s0.c1) ∧ w'.cell? ⟨g10, 2, none⟩ = some (.slice s0.a2 s0.n2 s0.c2) ∧ w'.cell? ⟨g10, 3, none⟩ = some (.bool s1.s) ∧ w'.cell? ⟨g10, 4, none⟩ = some (.slice s1.a1 s1.n1 s1.c1) ∧ w'.cell? ⟨g10, 5, none⟩ = some (.slice s1.a2 s1.n2 s1.c2) ∧ w'.cell? ⟨g10, 6, none⟩ = some (.bool s2.s) ∧ w'.cell? ⟨g10, 7, none⟩ = some (.slice s2.a1 s2.n1 s2.c1) ∧ w'.cell? ⟨g10, 8, none⟩ = some (.slice s2.a2 s2.n2 s2.c2)) x2 := unhide HCC _ c2
          refine hK.out _ _ hC2 ?_
          clear hK K
          (try simp only [Act.put, List.setIfInBounds_toArray, List.set_cons_zero, List.set_cons_succ])
          refine wpHold_take (i := 11) (v := ?_) rfl (by kernel_rfl) (by kernel_rfl) (by kernel_rfl) (fun _ _ _ h => h) (Or.inl ⟨by rfl, ?_⟩) hC2 ?_
          rotate_left
          · intro w hSw; clear hSw; go_simp; (try with_reducible rfl)
          (try simp only [List.getElem_toArray, List.getElem_cons_succ, List.getElem_cons_zero])
          (try simp only [Act.put, List.setIfInBounds_toArray, List.set_cons_zero, List.set_cons_succ])
          refine wpHold_take (i := 12) (v := ?_) rfl (by kernel_rfl) (by kernel_rfl) (by kernel_rfl) (fun _ _ _ h => h) (Or.inl ⟨by rfl, ?_⟩) hC2 ?_
          rotate_left
          · intro w hSw; clear hSw; go_simp; (try with_reducible rfl)
          (try simp only [List.getElem_toArray, List.getElem_cons_succ, List.getElem_cons_zero])
          (try simp only [Act.put, List.setIfInBounds_toArray, List.set_cons_zero, List.set_cons_succ])
          refine wpHold_take (i := 13) (v := ?_) rfl (by kernel_rfl) (by kernel_rfl) (by kernel_rfl) (fun _ _ _ h => h) (Or.inl ⟨by rfl, ?_⟩) hC2 ?_
          rotate_left
          · intro w hSw; clear hSw; go_simp; (try with_reducible rfl)
          (try simp only [List.getElem_toArray, List.getElem_cons_succ, List.getElem_cons_zero])
          (try simp only [Act.put, List.setIfInBounds_toArray, List.set_cons_zero, List.set_cons_succ])
          refine wpHold_take (i := 15) (v := ?_) rfl (by kernel_rfl) (by kernel_rfl) (by kernel_rfl) (fun _ _ _ h => h) (Or.inl ⟨by rfl, ?_⟩) hC2 ?_
          rotate_left
          · intro w hSw; clear hSw; go_simp; (try with_reducible rfl)
          (try simp only [List.getElem_toArray, List.getElem_cons_succ, List.getElem_cons_zero])
          (try simp only [Act.put, List.setIfInBounds_toArray, List.set_cons_zero, List.set_cons_succ])
          refine wpHold_take (i := 16) (v := ?_) rfl (by kernel_rfl) (by kernel_rfl) (by kernel_rfl) (fun _ _ _ h => h) (Or.inl ⟨by rfl, ?_⟩) hC2 ?_
          rotate_left
          · intro w hSw; clear hSw; go_simp; (try with_reducible rfl)
          (try simp only [List.getElem_toArray, List.getElem_cons_succ, List.getElem_cons_zero])
          (try simp only [Act.put, List.setIfInBounds_toArray, List.set_cons_zero, List.set_cons_succ])
          refine wpHold_take (i := 19) (v := ?_) rfl (by kernel_rfl) (by kernel_rfl) (by kernel_rfl) (fun _ _ _ h => h) (Or.inl ⟨by rfl, ?_⟩) hC2 ?_
          rotate_left
          · intro w hSw; clear hSw; go_simp; (try with_reducible rfl)
          (try simp only [List.getElem_toArray, List.getElem_cons_succ, List.getElem_cons_zero])
          (try simp only [Act.put, List.setIfInBounds_toArray, List.set_cons_zero, List.set_cons_succ])
          refine wpHold_take (i := 20) (v := ?_) rfl (by kernel_rfl) (by kernel_rfl) (by kernel_rfl) (fun _ _ _ h => h) (Or.inl ⟨by rfl, ?_⟩) hC2 ?_
          rotate_left
          · intro w hSw; clear hSw; go_simp; (try with_reducible rfl)
          (try simp only [List.getElem_toArray, List.getElem_cons_succ, List.getElem_cons_zero])
          (try simp only [Act.put, List.setIfInBounds_toArray, List.set_cons_zero, List.set_cons_succ])
          refine wpHold_take (i := 14) (v := ?_) rfl (by kernel_rfl) (by kernel_rfl) (by kernel_rfl) (fun _ _ _ h => h) (Or.inl ⟨by rfl, ?_⟩) hC2 ?_
          rotate_left
          · intro w hSw; (try dsimp only at hSw); obtain ⟨z0, z1, z2, z3, z4, z5, z6, z7, z8, z9, z10, z11, z12, z13, z14, z15, z16, z17⟩ := hSw; go_simp; (try with_reducible rfl)
          (try simp only [List.getElem_toArray, List.getElem_cons_succ, List.getElem_cons_zero])
          (try simp only [Act.put, List.setIfInBounds_toArray, List.set_cons_zero, List.set_cons_succ])
          refine wpHold_take (i := 17) (v := ?_) rfl (by kernel_rfl) (by kernel_rfl) (by kernel_rfl) (fun _ _ _ h => h) (Or.inl ⟨by rfl, ?_⟩) hC2 ?_
          rotate_left
          · intro w hSw; (try dsimp only at hSw); obtain ⟨z0, z1, z2, z3, z4, z5, z6, z7, z8, z9, z10, z11, z12, z13, z14, z15, z16, z17⟩ := hSw; go_simp; (try with_reducible rfl)
          (try simp only [List.getElem_toArray, List.getElem_cons_succ, List.getElem_cons_zero])
          (try simp only [Act.put, List.setIfInBounds_toArray, List.set_cons_zero, List.set_cons_succ])
          refine wpHold_take (i := 21) (v := ?_) rfl (by kernel_rfl) (by kernel_rfl) (by kernel_rfl) (fun _ _ _ h => h) (Or.inl ⟨by rfl, ?_⟩) hC2 ?_
          rotate_left
          · intro w hSw; (try dsimp only at hSw); obtain ⟨z0, z1, z2, z3, z4, z5, z6, z7, z8, z9, z10, z11, z12, z13, z14, z15, z16, z17⟩ := hSw; go_simp; (try with_reducible rfl)
          (try simp only [List.getElem_toArray, List.getElem_cons_succ, List.getElem_cons_zero])
          (try simp only [Act.put, List.setIfInBounds_toArray, List.set_cons_zero, List.set_cons_succ])
          refine wpHold_one (k := 18) (by kernel_rfl) rfl (fun K hK => ?_)
          (try simp only [List.getElem_toArray, List.getElem_cons_succ, List.getElem_cons_zero])
          go_simp
          refine (unhide HA2 _ c2).mono ?_
          rintro e x3 ⟨v3, rfl, hv3, hx3⟩
          have c3 := below_step c2 hx3
          have hC3 : (fun w' : World => w'.cell? ⟨g9, 0, none⟩ = some (.bool p0.s) ∧ w'.cell? ⟨g9, 1, none⟩ = some (.slice p0.a1 p0.n1 p0.c1) ∧ w'.cell? ⟨g9, 2, none⟩ = some (.slice p0.a2 p0.n2 p0.c2) ∧ w'.cell? ⟨g9, 3, none⟩ = some (.bool p1.s) ∧ w'.cell? ⟨g9, 4, none⟩ = some (.slice p1.a1 p1.n1 p1.c1) ∧ w'.cell? ⟨g9, 5, none⟩ = some (.slice p1.a2 p1.n2 p1.c2) ∧ w'.cell? ⟨g9, 6, none⟩ = some (.bool p2.s) ∧ w'.cell? ⟨g9, 7, none⟩ = some (.slice p2.a1 p2.n1 p2.c1) ∧ w'.cell? ⟨g9, 8, none⟩ = some (.slice p2.a2 p2.n2 p2.c2) ∧ w'.cell? ⟨g10, 0, none⟩ = some (.bool s0.s) ∧ w'.cell? ⟨g10, 1, none⟩ = some (.slice s0.a1 s0.n1 s0.c1) ∧ w'.cell? ⟨g10, 2, none⟩ = some (.slice s0.a2 s0.n2 s0.c2) ∧ w'.cell? ⟨g10, 3, none⟩ = some (.bool s1.s) ∧ w'.cell? ⟨g10, 4, none⟩ = some (.slice s1.a1 s1.n1 s1.c1) ∧ w'.cell? ⟨g10, 5, none⟩ = some (.slice s1.a2 s1.n2 s1.c2) ∧ w'.cell? ⟨g10, 6, none⟩ = some (.bool s2.s) ∧ w'.cell? ⟨g10, 7, none⟩ = some (.slice s2.a1 s2.n1 s2.c1) ∧ w'.cell? ⟨g10, 8, none⟩ = some (.slice s2.a2 s2.n2 s2.c2)) x3 := unhide HCC _ c3
          refine hK.out _ _ hC3 ?_
          clear hK K
          (try simp only [Act.put, List.setIfInBounds_toArray, List.set_cons_zero, List.set_cons_succ])
          refine wpHold_one (k := 22) (by kernel_rfl) rfl (fun K hK => ?_)
          (try simp only [List.getElem_toArray, List.getElem_cons_succ, List.getElem_cons_zero])
          go_simp
          refine (unhide HI2 x3 v3 c3 hv3).mono ?_
          rintro e x4 ⟨rfl, hx4⟩
          have c4 := below_step c3 hx4
          have hC4 : (fun w' : World => w'.cell? ⟨g9, 0, none⟩ = some (.bool p0.s) ∧ w'.cell? ⟨g9, 1, none⟩ = some (.slice p0.a1 p0.n1 p0.c1) ∧ w'.cell? ⟨g9, 2, none⟩ = some (.slice p0.a2 p0.n2 p0.c2) ∧ w'.cell? ⟨g9, 3, none⟩ = some (.bool p1.s) ∧ w'.cell? ⟨g9, 4, none⟩ = some (.slice p1.a1 p1.n1 p1.c1) ∧ w'.cell? ⟨g9, 5, none⟩ = some (.slice p1.a2 p1.n2 p1.c2) ∧ w'.cell? ⟨g9, 6, none⟩ = some (.bool p2.s) ∧ w'.cell? ⟨g9, 7, none⟩ = some (.slice p2.a1 p2.n1 p2.c1) ∧ w'.cell? ⟨g9, 8, none⟩ = some (.slice p2.a2 p2.n2 p2.c2) ∧ w'.cell? ⟨g10, 0, none⟩ = some (.bool s0.s) ∧ w'.cell? ⟨g10, 1, none⟩ = some (.slice s0.a1 s0.n1 s0.c1) ∧ w'.cell? ⟨g10, 2, none⟩ = some (.slice s0.a2 s0.n2 s0.c2) ∧ w'.cell? ⟨g10, 3, none⟩ = some (.bool s1.s) ∧ w'.cell? ⟨g10, 4, none⟩ = some (.slice s1.a1 s1.n1 s1.c1) ∧ w'.cell? ⟨g10, 5, none⟩ = some (.slice s1.a2 s1.n2 s1.c2) ∧ w'.cell? ⟨g10, 6, none⟩ = some (.bool s2.s) ∧ w'.cell? ⟨g10, 7, none⟩ = some (.slice s2.a1 s2.n1 s2.c1) ∧ w'.cell? ⟨g10, 8, none⟩ = some (.slice s2.a2 s2.n2 s2.c2)) x4 := unhide HCC _ c4
          refine hK.out _ _ hC4 ?_
          clear hK K
          (try simp only [Act.put, List.setIfInBounds_toArray, List.set_cons_zero, List.set_cons_succ])
          refine wpHold_take (i := 23) (v := ?_) rfl (by kernel_rfl) (by kernel_rfl) (by kernel_rfl) (fun _ _ _ h => h) (Or.inl ⟨by rfl, ?_⟩) hC4 ?_
          rotate_left
          · intro w hSw; clear hSw; go_simp; (try with_reducible rfl)
          (try simp only [List.getElem_toArray, List.getElem_cons_succ, List.getElem_cons_zero])
          (try simp only [Act.put, List.setIfInBounds_toArray, List.set_cons_zero, List.set_cons_succ])
          refine wpHold_one (k := 24) (by kernel_rfl) rfl (fun K hK => ?_)
          (try simp only [List.getElem_toArray, List.getElem_cons_succ, List.getElem_cons_zero])
          go_simp
          refine hK.out _ _ hC4 ?_
          clear hK K
          (try simp only [Act.put, List.setIfInBounds_toArray, List.set_cons_zero, List.set_cons_succ])
          refine wpHold_done (by kernel_rfl) ?_ _
          have HFI := hide (below_step (unhide HBF) c4)
          clear hC0 hC1 hC2 hC3 hC4 c1 c2 c3 c4 hx1 hx2 hx3 hx4 hv1 hv3 bd0
          go_wp2
          go_ret
          exact ⟨rfl, unhide HFI⟩
    · skip
      have HBO := hide (both_errB xa xb A B wb (unhide HXA2) (unhide HXB) (unhide HRA) (unhide HRB) hlA hlB ca cb)
      generalize chk B = k at *
      go_wp2_with fail
      refine (unhide HBO).mono ?_
      rintro e wc ⟨rfl, hbx⟩
      have HBF := hide (below_step (unhide HB_4) hbx)
      clear hbx
      go_wp2
      go_ret
      exact ⟨rfl, unhide HBF⟩
  · skip
    have HBO := hide (both_errA xa xb A wb (unhide HXA2) (unhide HRA) hlA ca)
    generalize chk A = k at *
    go_wp2_with fail
    refine (unhide HBO).mono ?_
    rintro e wc ⟨rfl, hbx⟩
    have HBF := hide (below_step (unhide HB_4) hbx)
    clear hbx
    go_wp2
    go_ret
    exact ⟨rfl, unhide HBF⟩
end Go.Proofs.YtdicbnchkfclaaaDoor
