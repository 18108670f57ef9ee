/- BirthErlang: the law's walk. -/
import Derived.Test.YtigilnkcjblhcaaDoorQ10
import Derived.Test.YtigilnkcjblhcaaDoorQ11
import Derived.Test.YtigilnkcjblhcaaDoorK1
import Derived.Test.YtigilnkcjblhcaaDoorA18
namespace Go.Proofs.YtigilnkcjblhcaaDoor
open Go.RowKit Go.Sort Go.Shelf

theorem ec_RS {a : Rat} {c : Nat} (ha : RS a 1) (hr : RS (((c : Nat) : Int) : Rat) 1) (hc : c ≤ 20) (h0 : 0 ≤ a) (hac : a < (((c : Nat) : Int) : Rat)) : RS (Bth.ec a c) 2100 :=
  (RS.div' (lastw_RS ha hr hc hac) ((RS.add (ws_RS ha (show c ≤ 21 by omega)) (lastw_RS ha hr hc hac)).mono (show 1500 + 60 + 1 ≤ 2000 by omega)) (pos_num (Bth.ecs_pos h0 hac))).mono (by omega)

set_option maxHeartbeats 16000000 in
set_option maxRecDepth 100000 in
set_option linter.unusedSimpArgs false in
theorem birthErlang_any (x y s : Int) (hx : I64 x) (hy : I64 y) (w : World) (htab : Tab w) :
    Calls Tryd.prog 4 #[.agg #[.int .i64 x, .int .i64 y], .int .i64 s] w fun e w' => e = .returned (.bool true) ∧ Below w.heap.size w w' := by
  have KKe : KK = 1099511627776 := rfl
  obtain ⟨ti, hti, hz0, hz1, hz2⟩ := info_parts Tryd.infoR
  have HI := hide hti
  have HZ := hide hz0
  clear hti hz0
  have hra : RS (pq (x, y)) 1 := pq_RS hx hy
  have HFA : Hid (∀ W, Calls Tryd.prog 14 #[.agg #[.int .i64 x, .int .i64 y]] W fun e w' => ∃ v, e = .returned v ∧ RatIs w' v (pq (x, y)) ∧ Below W.heap.size W w') := fun W => f_any x y hx.1 hx.2 hy.1 hy.2 W
  obtain ⟨a, hA⟩ : ∃ a, pq (x, y) = a := ⟨_, rfl⟩
  rw [hA] at hra HFA
  have HRA := hide hra
  have HTAB := hide htab
  have HHF : Hid (∀ W, Below w.heap.size w W → Calls Tryd.prog 8 #[] W fun e w' => e = .returned (.bool true) ∧ Below W.heap.size W w') := fun W hW => half_any W (tab_below (unhide HTAB) hW)
  clear hra htab hA
  go_enter Tryd.func4, Tryd.ntmps4
  go_wp2_with fail
  refine (pick_any s 15 (by decide) (by decide) _).mono ?_
  rintro e w1 ⟨c, rfl, hc, rfl⟩
  have b0 := alloc_below w (.cells #[.int .i64 x, .int .i64 y] 40)
  have HB_0 := hide b0
  clear b0
  go_wp2_with fail
  refine (unhide HFA _).mono ?_
  rintro e w_1 ⟨v1, rfl, hv1, hbx⟩
  obtain ⟨ta, rfl, hr_1⟩ := tri_of hv1
  simp only [Tri.val]
  have HG_ba := hide (below_step (unhide HB_0) hbx).size
  have hb_1 := below_step hbx (alloc_below w_1 (.cells #[.bool ta.s, .slice ta.a1 ta.n1 ta.c1, .slice ta.a2 ta.n2 ta.c2] 34))
  have HB_2 := hide (below_step (unhide HB_0) hb_1)
  clear HB_0
  have HX_ba_1 := hide (BoxIs.new hr_1)
  obtain ⟨Wba, hW_1⟩ : ∃ W, w_1.alloc (.cells #[.bool ta.s, .slice ta.a1 ta.n1 ta.c1, .slice ta.a2 ta.n2 ta.c2] 34) = W := ⟨_, rfl⟩
  obtain ⟨ba, hc_1⟩ : ∃ b, w_1.heap.size = b := ⟨_, rfl⟩
  rw [hW_1] at HB_2 HX_ba_1
  rw [hc_1] at HX_ba_1 HG_ba
  clear hv1 hr_1 hbx hb_1
  clear HFA
  obtain ⟨cba_0, cba_1, cba_2⟩ := (unhide HX_ba_1).cells _ (Below.refl _ _)
  by_cases hneg : a.num < 0
  · have HLO := hide (lost_bad ta.val a c Wba (unhide HX_ba_1).2 hneg)
    simp only [Tri.val] at HLO
    go_wp2_with fail
    refine (unhide HLO).mono ?_
    rintro e w_3 ⟨v2, rfl, hv2, hbx⟩
    obtain ⟨tb, rfl, hr_3⟩ := tri_of hv2
    simp only [Tri.val]
    have HL_ba_bb := hide (Nat.lt_of_lt_of_le (unhide HX_ba_1).lt hbx.size)
    have HG_bb := hide (below_step (unhide HB_2) hbx).size
    have hb_3 := below_step hbx (alloc_below w_3 (.cells #[.bool tb.s, .slice tb.a1 tb.n1 tb.c1, .slice tb.a2 tb.n2 tb.c2] 34))
    have HB_4 := hide (below_step (unhide HB_2) hb_3)
    have HX_ba_4 := hide ((unhide HX_ba_1).keep hb_3)
    clear HB_2 HX_ba_1
    have HX_bb_3 := hide (BoxIs.new hr_3)
    obtain ⟨Wbb, hW_3⟩ : ∃ W, w_3.alloc (.cells #[.bool tb.s, .slice tb.a1 tb.n1 tb.c1, .slice tb.a2 tb.n2 tb.c2] 34) = W := ⟨_, rfl⟩
    obtain ⟨bb, hc_3⟩ : ∃ b, w_3.heap.size = b := ⟨_, rfl⟩
    rw [hW_3] at HB_4 HX_ba_4 HX_bb_3
    rw [hc_3] at HX_bb_3 HL_ba_bb HG_bb
    clear hv2 hr_3 hbx hb_3
    clear cba_0 cba_1 cba_2
    have HSA : Hid (∀ W, Below Wbb.heap.size Wbb W → Calls Tryd.prog 16 #[.agg #[.bool ta.s, .slice ta.a1 ta.n1 ta.c1, .slice ta.a2 ta.n2 ta.c2]] W fun e w' => e = .returned (.int .i64 (-1)) ∧ Below W.heap.size W w') := fun W hW => by
      have h := sign_any ta.val a W ((unhide HX_ba_4).2.below hW)
      rw [Int.sign_eq_neg_one_of_neg hneg] at h
      exact h
    have HSB : Hid (∀ W, Below Wbb.heap.size Wbb W → Calls Tryd.prog 16 #[.agg #[.bool tb.s, .slice tb.a1 tb.n1 tb.c1, .slice tb.a2 tb.n2 tb.c2]] W fun e w' => e = .returned (.int .i64 0) ∧ Below W.heap.size W w') := fun W hW => sign_any tb.val 0 W ((unhide HX_bb_3).2.below hW)
    have HH1 : Hid (∀ W, Below Wbb.heap.size Wbb W → Calls Tryd.prog 8 #[] W fun e w' => e = .returned (.bool true) ∧ Below W.heap.size W w') := fun W hW => unhide HHF W (below_step (unhide HB_4) hW)
    go_wp2_with fail
    clear hW_3 hc_3
    refine (unhide HH1 _ (Below.refl _ _)).mono ?_
    rintro e w5 ⟨rfl, hb5⟩
    have c5a := (unhide HX_ba_4).cells _ hb5
    go_wp2_with fail
    refine (unhide HH1 _ hb5).mono ?_
    rintro e w6 ⟨rfl, hb6⟩
    have bb6 := below_step hb5 hb6
    have ⟨ca0, ca1, ca2⟩ := (unhide HX_ba_4).cells _ bb6
    clear c5a
    go_wp2_with fail
    refine (unhide HSA _ bb6).mono ?_
    rintro e w7 ⟨rfl, hb7⟩
    have bb7 := below_step bb6 hb7
    have ⟨cb0, cb1, cb2⟩ := (unhide HX_bb_3).cells _ bb7
    clear ca0 ca1 ca2
    go_wp2_with fail
    refine (unhide HSB _ bb7).mono ?_
    rintro e w8 ⟨rfl, hb8⟩
    have HB8 := hide (below_step (unhide HB_4) (below_step bb7 hb8))
    clear cb0 cb1 cb2 hb5 hb6 hb7 hb8 bb6 bb7
    go_wp2
    go_ret
    exact ⟨rfl, unhide HB8⟩
  · have h0 : 0 ≤ a := Rat.num_nonneg.1 (Int.not_lt.1 hneg)
    have HH0 := hide h0
    have HLO := hide (lost_any ta.val a c Wba (unhide HX_ba_1).2 (unhide HRA) h0 (by omega))
    simp only [Tri.val] at HLO
    clear hneg h0
    go_wp2_with fail
    refine (unhide HLO).mono ?_
    rintro e w_3 ⟨v2, rfl, hv2, hbx⟩
    obtain ⟨tb, rfl, hr_3⟩ := tri_of hv2
    simp only [Tri.val]
    have HL_ba_bb := hide (Nat.lt_of_lt_of_le (unhide HX_ba_1).lt hbx.size)
    have HG_bb := hide (below_step (unhide HB_2) hbx).size
    have hb_3 := below_step hbx (alloc_below w_3 (.cells #[.bool tb.s, .slice tb.a1 tb.n1 tb.c1, .slice tb.a2 tb.n2 tb.c2] 34))
    have HB_4 := hide (below_step (unhide HB_2) hb_3)
    have HX_ba_4 := hide ((unhide HX_ba_1).keep hb_3)
    clear HB_2 HX_ba_1
    have HX_bb_3 := hide (BoxIs.new hr_3)
    obtain ⟨Wbb, hW_3⟩ : ∃ W, w_3.alloc (.cells #[.bool tb.s, .slice tb.a1 tb.n1 tb.c1, .slice tb.a2 tb.n2 tb.c2] 34) = W := ⟨_, rfl⟩
    obtain ⟨bb, hc_3⟩ : ∃ b, w_3.heap.size = b := ⟨_, rfl⟩
    rw [hW_3] at HB_4 HX_ba_4 HX_bb_3
    rw [hc_3] at HX_bb_3 HL_ba_bb HG_bb
    clear hv2 hr_3 hbx hb_3
    clear cba_0 cba_1 cba_2
    clear HLO
    go_wp2_with fail
    clear hW_3 hc_3
    refine (unhide HHF _ (unhide HB_4)).mono ?_
    rintro e w_5 ⟨rfl, hbx⟩
    have HB_6 := hide (below_step (unhide HB_4) hbx)
    have HX_ba_6 := hide ((unhide HX_ba_4).keep hbx)
    have HX_bb_6 := hide ((unhide HX_bb_3).keep hbx)
    clear HB_4 HX_ba_4 HX_bb_3
    clear hbx
    go_wp2_with fail
    go_loopw [8, 9, 10] (fun vu vd vi wr => ∃ (n : Nat) (tu td : List Tri), vi = .int .i64 ((n : Int) + 1) ∧ n ≤ c ∧ tu.length = n ∧ td.length = n ∧ FsAt w_5 wr w_5.heap.size vu tu (ulist a c) ∧ FsAt w_5 wr w_5.heap.size vd td (dlist c) ∧ (∀ k, vu.ownBlock = some k → vd.ownBlock ≠ some k)) (fun _ _ vi _ => c + 1 - (intOf vi).toNat)
    case atStart => exact ⟨0, [], [], rfl, Nat.zero_le _, rfl, rfl, FsAt.start _ _, FsAt.start _ _, (fun k hk => by cases hk)⟩
    case round =>
      obtain ⟨n, tu, td, rfl, hn, hlu, hld, TU, TD, NE⟩ := hrel
      by_cases hlt : n < c
      · have e1 : (n : Int) + 1 ≤ (c : Int) := by omega
        have HCC : Hid (∀ W, Below wr.heap.size wr W → (fun w' : World => (w'.cell? ⟨ba, 0, none⟩ = some (.bool ta.s) ∧ w'.cell? ⟨ba, 1, none⟩ = some (.slice ta.a1 ta.n1 ta.c1) ∧ w'.cell? ⟨ba, 2, none⟩ = some (.slice ta.a2 ta.n2 ta.c2))) W) := fun W hW => (unhide HX_ba_6).cells W (below_step TU.bl hW)
        have hra : RatIs wr ta.val a := (unhide HX_ba_6).2.below TU.bl
        have huq : (ulist a c)[tu.length]! = a := by unfold ulist; rw [row_get (by omega)]
        have hdq : (dlist c)[td.length]! = (((n : Int) + 1 : Int) : Rat) := by unfold dlist; rw [row_get (by omega), hld]; rfl
        have HTU := hide TU
        have HTD := hide TD
        have HNE := hide NE
        have HLU := hide hlu
        have HLD := hide hld
        have HRa := hide hra
        have HUQ := hide huq
        have HDQ := hide hdq
        have n63 : Hid (n + 1 ≤ maxLen) := by show _ ≤ _; unfold maxLen; omega
        have n56 : Hid ((n + 1) * 56 ≤ 140737488355328) := by show _ ≤ _; omega
        clear TU TD NE hra huq hdq hlu hld
        have bA := alloc_below wr (.cells #[.bool ta.s, .slice ta.a1 ta.n1 ta.c1, .slice ta.a2 ta.n2 ta.c2] 34)
        have T1 := (unhide HTU).keep bA
        have D1 := (unhide HTD).keep bA
        have HTU1 := hide T1
        have HTD1 := hide D1
        have HRA1 := hide ((unhide HRa).below bA)
        have HSZ1 : Hid ((wr.alloc (.cells #[.bool ta.s, .slice ta.a1 ta.n1 ta.c1, .slice ta.a2 ta.n2 ta.c2] 34)).heap.size = wr.heap.size + 1) := alloc_size _ _
        have HL63 : Hid (tu.length + 1 ≤ maxLen) := by show _ ≤ _; rw [unhide HLU]; exact unhide n63
        have HL56 : Hid ((tu.length + 1) * 56 ≤ 140737488355328) := by show _ ≤ _; rw [unhide HLU]; exact unhide n56
        have HBA := hide T1.bl.size
        have ⟨c0, c1, c2⟩ := unhide HCC wr (Below.refl _ _)
        clear bA T1 D1
        go_wp2_with (at_builtin; go_loud (refine wpList_append_tri _ rfl _ _ _ rfl w_5.heap.size 34 ti 56 Tryd.underlying23 (unhide HI) (unhide HZ) hz1 hz2 _ tu.length (tcells tu) rfl (unhide HTU1).own (unhide HTU1).no ⟨wr.heap.size, 0, none⟩ 1 1 ta.cells rfl rfl (news_tri wr ta _) (tri_one ta) ta.notWord (by decide) (unhide HL63) (unhide HL56) (unhide HBA) (wr.heap.size + 1) (unhide HSZ1) ?_; intro g1 cap1 w4 own1 grow1 hat1 hlt1 hno1; have HTU2 := hide ((unhide HTU1).push (by rw [unhide HUQ]; exact unhide HRA1) own1 grow1 hno1 (unhide HBA)); have HTD2 := hide ((unhide HTD1).apart grow1 (fun k hk e => unhide HNE k e hk) (unhide HTU1).no (unhide HTU2).bl); have HNE2 : Hid (∀ k, (Value.slice (some ⟨g1, 0, none⟩) (tu.length + 1) cap1).ownBlock = some k → u9.ownBlock ≠ some k) := (fun k hk e => (by obtain rfl : g1 = k := Option.some.inj hk; exact hat1.elim (fun h => unhide HNE g1 h e) (fun h => by have h2 := (ownsR_block (unhide HTD).own g1 e).2; omega))); clear own1 grow1 hat1 hlt1 hno1 c0 c1 c2))
        clear HTU1 HTD1 HRA1 HSZ1 HL63 HL56 HBA
        refine (whole_any ((n : Int) + 1) (by omega) (by omega) w4).mono ?_
        rintro e w5 ⟨v5, rfl, hv5, hb5⟩
        obtain ⟨tw, rfl, hr5⟩ := tri_of hv5
        simp only [Tri.val]
        have bA := alloc_below w5 (.cells #[.bool tw.s, .slice tw.a1 tw.n1 tw.c1, .slice tw.a2 tw.n2 tw.c2] 34)
        have TU3 := (unhide HTU2).keep hb5
        have HTU3 := hide TU3
        have HTU4 := hide (TU3.keep bA)
        have D4 := ((unhide HTD2).keep hb5).keep bA
        have HTD4 := hide D4
        have HRW4 := hide (hr5.below bA)
        have HSZ2 : Hid ((w5.alloc (.cells #[.bool tw.s, .slice tw.a1 tw.n1 tw.c1, .slice tw.a2 tw.n2 tw.c2] 34)).heap.size = w5.heap.size + 1) := alloc_size _ _
        have HL63 : Hid (td.length + 1 ≤ maxLen) := by show _ ≤ _; rw [unhide HLD]; exact unhide n63
        have HL56 : Hid ((td.length + 1) * 56 ≤ 140737488355328) := by show _ ≤ _; rw [unhide HLD]; exact unhide n56
        have HBA := hide D4.bl.size
        have e2 : IntKind.i64.wrap ((n : Int) + 1 + 1) = (n : Int) + 1 + 1 := by rw [IntKind.wrap_i64]; omega
        clear bA TU3 D4 hv5 hr5 hb5
        go_wp2_with (at_builtin; go_loud (refine wpList_append_tri _ rfl _ _ _ rfl w_5.heap.size 34 ti 56 Tryd.underlying23 (unhide HI) (unhide HZ) hz1 hz2 _ td.length (tcells td) rfl (unhide HTD4).own (unhide HTD4).no ⟨w5.heap.size, 0, none⟩ 1 1 tw.cells rfl rfl (news_tri w5 tw _) (tri_one tw) tw.notWord (by decide) (unhide HL63) (unhide HL56) (unhide HBA) (w5.heap.size + 1) (unhide HSZ2) ?_; intro g2 cap2 w7 own2 grow2 hat2 hlt2 hno2; have HTD5 := hide ((unhide HTD4).push (by rw [unhide HDQ]; exact unhide HRW4) own2 grow2 hno2 (unhide HBA)); have HTU5 := hide ((unhide HTU4).apart grow2 (fun k hk e => unhide HNE2 k hk e) (unhide HTD4).no (unhide HTD5).bl); have HNE5 : Hid (∀ k, (Value.slice (some ⟨g1, 0, none⟩) (tu.length + 1) cap1).ownBlock = some k → (Value.slice (some ⟨g2, 0, none⟩) (td.length + 1) cap2).ownBlock ≠ some k) := (fun k hk e => (by obtain rfl : g2 = k := Option.some.inj e; exact hat2.elim (fun h => unhide HNE2 g2 hk h) (fun h => by have h2 := (ownsR_block (unhide HTU3).own g2 hk).2; omega))); clear own2 grow2 hat2 hlt2 hno2))
        have hu9 := unhide HLU
        have hd9 := unhide HLD
        exact ⟨⟨n + 1, tu ++ [ta], td ++ [tw], by go_num, by omega, by rw [List.length_append, hu9]; rfl, by rw [List.length_append, hd9]; rfl, unhide HTU5, unhide HTD5, unhide HNE5⟩, by simp [intOf]; omega⟩
      · obtain rfl : n = c := by omega
        have e1 : ¬ (n : Int) + 1 ≤ (n : Int) := by omega
        have LU := law_of_owns TU.own (by rw [hlu]; unfold ulist; rw [row_length]) TU.rat
        have LD := law_of_owns TD.own (by rw [hld]; unfold dlist; rw [row_length]) TD.rat
        have hul : (ulist a n).length = n := by unfold ulist; rw [row_length]
        have hdl : (dlist n).length = n := by unfold dlist; rw [row_length]
        have HST := hide (steady_any u8 u9 (ulist a n) (dlist n) wr LU LD (by rw [hul]; omega) (by rw [hul, hdl]) (ulist_RS (unhide HRA) n) (dlist_RS (by omega)) (ulist_ok (unhide HH0) n))
        rw [hul] at HST
        have HX_ba_r := hide ((unhide HX_ba_6).keep TU.bl)
        have HX_bb_r := hide ((unhide HX_bb_6).keep TU.bl)
        have HB_r := hide (below_step (unhide HB_6) TU.bl)
        have k1 : IntKind.i64.wrap ((n : Int) + 1) = (n : Int) + 1 := by rw [IntKind.wrap_i64]; omega
        clear TU TD NE LU LD hul hdl hlu hld
        go_wp2_with fail
        refine (unhide HST).mono ?_
        rintro e w_40 ⟨vp, rfl, hvp, hbx⟩
        have HVP := hide hvp
        clear hvp
        have HB_41 := hide (below_step (unhide HB_r) hbx)
        have HX_ba_41 := hide ((unhide HX_ba_r).keep hbx)
        have HX_bb_41 := hide ((unhide HX_bb_r).keep hbx)
        clear HB_r HX_ba_r HX_bb_r
        clear hbx HST
        obtain ⟨ap, cp, rfl, kp1, kp2, kp3⟩ := unhide HVP
        clear kp3
        rw [row_length] at kp1 ⊢
        obtain ⟨cba_0, cba_1, cba_2⟩ := (unhide HX_ba_41).cells _ (Below.refl _ _)
        have HLO := hide (lost_any ta.val a (n + 1) w_40 (unhide HX_ba_41).2 (unhide HRA) (unhide HH0) (by omega))
        rw [show (((n + 1 : Nat)) : Int) = (n : Int) + 1 from rfl] at HLO
        simp only [Tri.val] at HLO
        go_wp2_with fail
        refine (unhide HLO).mono ?_
        rintro e w_42 ⟨v2, rfl, hv2, hbx⟩
        obtain ⟨tc, rfl, hr_42⟩ := tri_of hv2
        simp only [Tri.val]
        have HL_ba_bc := hide (Nat.lt_of_lt_of_le (unhide HX_ba_41).lt hbx.size)
        have HL_bb_bc := hide (Nat.lt_of_lt_of_le (unhide HX_bb_41).lt hbx.size)
        have HG_bc := hide (below_step (unhide HB_41) hbx).size
        have hb_42 := below_step hbx (alloc_below w_42 (.cells #[.bool tc.s, .slice tc.a1 tc.n1 tc.c1, .slice tc.a2 tc.n2 tc.c2] 34))
        have HB_43 := hide (below_step (unhide HB_41) hb_42)
        have HX_ba_43 := hide ((unhide HX_ba_41).keep hb_42)
        have HX_bb_43 := hide ((unhide HX_bb_41).keep hb_42)
        have HVP_43 := hide ((unhide HVP).below hb_42)
        clear HB_41 HX_ba_41 HX_bb_41 HVP
        have HX_bc_42 := hide (BoxIs.new hr_42)
        obtain ⟨Wbc, hW_42⟩ : ∃ W, w_42.alloc (.cells #[.bool tc.s, .slice tc.a1 tc.n1 tc.c1, .slice tc.a2 tc.n2 tc.c2] 34) = W := ⟨_, rfl⟩
        obtain ⟨bc, hc_42⟩ : ∃ b, w_42.heap.size = b := ⟨_, rfl⟩
        rw [hW_42] at HB_43 HX_ba_43 HX_bb_43 HVP_43 HX_bc_42
        rw [hc_42] at HX_bc_42 HL_ba_bc HL_bb_bc HG_bc
        clear hv2 hr_42 hbx hb_42
        clear cba_0 cba_1 cba_2
        clear HLO
        go_wp2_with fail
        clear hW_42 hc_42
        have LV := unhide HVP_43
        obtain ⟨ap2, cp2, eap, kq1, kq2, kq3⟩ := LV
        injection eap with ea1 ea2 ea3
        subst ea1 ea3
        obtain ⟨bp, op, rfl, hbp, hcp⟩ := kq3 (by rw [row_length]; omega)
        obtain ⟨ps, pp1, pp2, pn1, pd1, pn2, pd2, pk0, pk1, pk2, pr⟩ := hcp n (by rw [row_length]; omega)
        obtain ⟨tp, rfl, rfl, rfl, rfl, rfl, rfl, rfl⟩ : ∃ t : Tri, ps = t.s ∧ pp1 = t.a1 ∧ pp2 = t.a2 ∧ pn1 = t.n1 ∧ pd1 = t.c1 ∧ pn2 = t.n2 ∧ pd2 = t.c2 := ⟨⟨ps, pp1, pp2, pn1, pd1, pn2, pd2⟩, rfl, rfl, rfl, rfl, rfl, rfl, rfl⟩
        rw [row_get (by omega), stv_eb] at pr
        have HRP := hide pr
        have e0 := unhide HH0
        have HEB1 := hide (eb_RS (unhide HRA) e0 (show n ≤ 20 by omega))
        have HEB2 := hide (eb_RS (unhide HRA) e0 (show n + 1 ≤ 20 by omega))
        have HCC : Hid (∀ W, Below Wbc.heap.size Wbc W → (fun w' : World => (w'.cell? ⟨ba, 0, none⟩ = some (.bool ta.s) ∧ w'.cell? ⟨ba, 1, none⟩ = some (.slice ta.a1 ta.n1 ta.c1) ∧ w'.cell? ⟨ba, 2, none⟩ = some (.slice ta.a2 ta.n2 ta.c2)) ∧ (w'.cell? ⟨bb, 0, none⟩ = some (.bool tb.s) ∧ w'.cell? ⟨bb, 1, none⟩ = some (.slice tb.a1 tb.n1 tb.c1) ∧ w'.cell? ⟨bb, 2, none⟩ = some (.slice tb.a2 tb.n2 tb.c2)) ∧ (w'.cell? ⟨bc, 0, none⟩ = some (.bool tc.s) ∧ w'.cell? ⟨bc, 1, none⟩ = some (.slice tc.a1 tc.n1 tc.c1) ∧ w'.cell? ⟨bc, 2, none⟩ = some (.slice tc.a2 tc.n2 tc.c2)) ∧ (w'.cell? ⟨bp, op + n * 3, none⟩ = some (.bool tp.s) ∧ w'.cell? ⟨bp, op + n * 3 + 1, none⟩ = some (.slice tp.a1 tp.n1 tp.c1) ∧ w'.cell? ⟨bp, op + n * 3 + 2, none⟩ = some (.slice tp.a2 tp.n2 tp.c2))) W) := fun W hW => ⟨(unhide HX_ba_43).cells W hW, (unhide HX_bb_43).cells W hW, (unhide HX_bc_42).cells W hW, by
          rw [hW.cell (p := ⟨bp, op + n * 3, none⟩) hbp, hW.cell (p := ⟨bp, op + n * 3 + 1, none⟩) hbp, hW.cell (p := ⟨bp, op + n * 3 + 2, none⟩) hbp]
          exact ⟨pk0, pk1, pk2⟩⟩
        have HLK : Hid (∀ W, Below Wbc.heap.size Wbc W → Calls Tryd.prog 9 #[.agg #[.bool tp.s, .slice tp.a1 tp.n1 tp.c1, .slice tp.a2 tp.n2 tp.c2], .agg #[.bool tb.s, .slice tb.a1 tb.n1 tb.c1, .slice tb.a2 tb.n2 tb.c2]] W fun e w' => e = .returned (.bool true) ∧ Below W.heap.size W w') := fun W hW => like_any _ _ _ W ((unhide HRP).below hW) ((unhide HX_bb_43).2.below hW) 1600 (unhide HEB1) (by rw [KKe]; omega) (tab_below (unhide HTAB) (below_step (unhide HB_43) hW))
        have HCM : Hid (∃ x : Int, -1 ≤ x ∧ x ≤ 0 ∧ ∀ W, Below Wbc.heap.size Wbc W → Calls Tryd.prog 17 #[.agg #[.bool tc.s, .slice tc.a1 tc.n1 tc.c1, .slice tc.a2 tc.n2 tc.c2], .agg #[.bool tb.s, .slice tb.a1 tb.n1 tb.c1, .slice tb.a2 tb.n2 tb.c2]] W fun e w' => e = .returned (.int .i64 x) ∧ Below W.heap.size W w') := ⟨cmpv (Bth.eb a (n + 1)) (Bth.eb a n), (cmpv_le (Bth.eb_falls e0 n)).1, (cmpv_le (Bth.eb_falls e0 n)).2, fun W hW => cmpR_all _ _ _ _ W ((unhide HX_bc_42).2.below hW) ((unhide HX_bb_43).2.below hW) 1600 (unhide HEB2) (unhide HEB1) (by rw [KKe]; omega)⟩
        have HCL : Hid (0 < a → ∀ W, Below Wbc.heap.size Wbc W → Calls Tryd.prog 17 #[.agg #[.bool tc.s, .slice tc.a1 tc.n1 tc.c1, .slice tc.a2 tc.n2 tc.c2], .agg #[.bool tb.s, .slice tb.a1 tb.n1 tb.c1, .slice tb.a2 tb.n2 tb.c2]] W fun e w' => e = .returned (.int .i64 (-1)) ∧ Below W.heap.size W w') := fun hp W hW => by
          have h := cmpR_all _ _ _ _ W ((unhide HX_bc_42).2.below hW) ((unhide HX_bb_43).2.below hW) 1600 (unhide HEB2) (unhide HEB1) (by rw [KKe]; omega)
          rw [cmpv_lt (Bth.eb_falls_lt hp n)] at h
          exact h
        have HSG : Hid (∀ W, Below Wbc.heap.size Wbc W → Calls Tryd.prog 16 #[.agg #[.bool ta.s, .slice ta.a1 ta.n1 ta.c1, .slice ta.a2 ta.n2 ta.c2]] W fun e w' => e = .returned (.int .i64 a.num.sign) ∧ Below W.heap.size W w') := fun W hW => sign_any ta.val a W ((unhide HX_ba_43).2.below hW)
        have i1 : (n : Int) < (n : Int) + 1 := by omega
        have i2 : (0 : Int) ≤ (n : Int) := by omega
        clear kq3 hcp pr e0 pk0 pk1 pk2
        obtain ⟨cx, cx0, cx1, hcx⟩ := unhide HCM
        have HCX := hide hcx
        clear hcx HCM
        have dcx : decide (0 < cx) = false := decide_eq_false (by omega)
        by_cases hn0 : 0 < n
        · have dn : decide (0 < n) = true := decide_eq_true hn0
          by_cases hap : 0 < a.num
          · have HSG1 : Hid (∀ W, Below Wbc.heap.size Wbc W → Calls Tryd.prog 16 #[.agg #[.bool ta.s, .slice ta.a1 ta.n1 ta.c1, .slice ta.a2 ta.n2 ta.c2]] W fun e w' => e = .returned (.int .i64 1) ∧ Below W.heap.size W w') := fun W hW => by
              have h := unhide HSG W hW
              rw [Int.sign_eq_one_of_pos hap] at h
              exact h
            have HCL1 := hide (unhide HCL (num_pos hap))
            have HAP := hide hap
            clear hap
            go_wp2_with fail
            refine wp_region_hold (fun w' : World => (w'.cell? ⟨ba, 0, none⟩ = some (.bool ta.s) ∧ w'.cell? ⟨ba, 1, none⟩ = some (.slice ta.a1 ta.n1 ta.c1) ∧ w'.cell? ⟨ba, 2, none⟩ = some (.slice ta.a2 ta.n2 ta.c2)) ∧ (w'.cell? ⟨bb, 0, none⟩ = some (.bool tb.s) ∧ w'.cell? ⟨bb, 1, none⟩ = some (.slice tb.a1 tb.n1 tb.c1) ∧ w'.cell? ⟨bb, 2, none⟩ = some (.slice tb.a2 tb.n2 tb.c2)) ∧ (w'.cell? ⟨bc, 0, none⟩ = some (.bool tc.s) ∧ w'.cell? ⟨bc, 1, none⟩ = some (.slice tc.a1 tc.n1 tc.c1) ∧ w'.cell? ⟨bc, 2, none⟩ = some (.slice tc.a2 tc.n2 tc.c2)) ∧ (w'.cell? ⟨bp, op + n * 3, none⟩ = some (.bool tp.s) ∧ w'.cell? ⟨bp, op + n * 3 + 1, none⟩ = some (.slice tp.a1 tp.n1 tp.c1) ∧ w'.cell? ⟨bp, op + n * 3 + 2, none⟩ = some (.slice tp.a2 tp.n2 tp.c2))) (by kernel_rfl) ?_
            have bd0 : Below Wbc.heap.size Wbc Wbc.drew := (Below.refl _ _).drew
            have hC0 : (fun w' : World => (w'.cell? ⟨ba, 0, none⟩ = some (.bool ta.s) ∧ w'.cell? ⟨ba, 1, none⟩ = some (.slice ta.a1 ta.n1 ta.c1) ∧ w'.cell? ⟨ba, 2, none⟩ = some (.slice ta.a2 ta.n2 ta.c2)) ∧ (w'.cell? ⟨bb, 0, none⟩ = some (.bool tb.s) ∧ w'.cell? ⟨bb, 1, none⟩ = some (.slice tb.a1 tb.n1 tb.c1) ∧ w'.cell? ⟨bb, 2, none⟩ = some (.slice tb.a2 tb.n2 tb.c2)) ∧ (w'.cell? ⟨bc, 0, none⟩ = some (.bool tc.s) ∧ w'.cell? ⟨bc, 1, none⟩ = some (.slice tc.a1 tc.n1 tc.c1) ∧ w'.cell? ⟨bc, 2, none⟩ = some (.slice tc.a2 tc.n2 tc.c2)) ∧ (w'.cell? ⟨bp, op + n * 3, none⟩ = some (.bool tp.s) ∧ w'.cell? ⟨bp, op + n * 3 + 1, none⟩ = some (.slice tp.a1 tp.n1 tp.c1) ∧ w'.cell? ⟨bp, op + n * 3 + 2, none⟩ = some (.slice tp.a2 tp.n2 tp.c2))) Wbc.drew := unhide HCC _ bd0
            refine wpHold_take (i := 0) (v := ?_) rfl (by kernel_rfl) (by kernel_rfl) (by kernel_rfl) (fun _ _ _ h => h) (Or.inl ⟨by rfl, ?_⟩) hC0 ?_
            rotate_left
            · intro w hSw; clear hSw; go_simp; (try with_reducible rfl)
            (try simp only [List.getElem_toArray, List.getElem_cons_succ, List.getElem_cons_zero])
            (try simp only [Act.put, List.setIfInBounds_toArray, List.set_cons_zero, List.set_cons_succ])
            refine wpHold_take (i := 1) (v := ?_) rfl (by kernel_rfl) (by kernel_rfl) (by kernel_rfl) (fun _ _ _ h => h) (Or.inl ⟨by rfl, ?_⟩) hC0 ?_
            rotate_left
            · intro w hSw; clear hSw; go_simp; (try with_reducible rfl)
            (try simp only [List.getElem_toArray, List.getElem_cons_succ, List.getElem_cons_zero])
            (try simp only [Act.put, List.setIfInBounds_toArray, List.set_cons_zero, List.set_cons_succ])
            refine wpHold_take (i := 2) (v := ?_) rfl (by kernel_rfl) (by kernel_rfl) (by kernel_rfl) (fun _ _ _ h => h) (Or.inl ⟨by rfl, ?_⟩) hC0 ?_
            rotate_left
            · intro w hSw; clear hSw; go_simp; (try with_reducible rfl)
            (try simp only [List.getElem_toArray, List.getElem_cons_succ, List.getElem_cons_zero])
            (try simp only [Act.put, List.setIfInBounds_toArray, List.set_cons_zero, List.set_cons_succ])
            refine wpHold_take (i := 3) (v := ?_) rfl (by kernel_rfl) (by kernel_rfl) (by kernel_rfl) (fun _ _ _ h => h) (Or.inl ⟨by rfl, ?_⟩) hC0 ?_
            rotate_left
            · intro w hSw; clear hSw; go_simp; (try with_reducible rfl)
            (try simp only [List.getElem_toArray, List.getElem_cons_succ, List.getElem_cons_zero])
            (try simp only [Act.put, List.setIfInBounds_toArray, List.set_cons_zero, List.set_cons_succ])
            refine wpHold_take (i := 4) (v := ?_) rfl (by kernel_rfl) (by kernel_rfl) (by kernel_rfl) (fun _ _ _ h => h) (Or.inl ⟨by rfl, ?_⟩) hC0 ?_
            rotate_left
            · intro w hSw; clear hSw; go_simp; (try with_reducible rfl)
            (try simp only [List.getElem_toArray, List.getElem_cons_succ, List.getElem_cons_zero])
            (try simp only [Act.put, List.setIfInBounds_toArray, List.set_cons_zero, List.set_cons_succ])
            refine wpHold_take (i := 5) (v := ?_) rfl (by kernel_rfl) (by kernel_rfl) (by kernel_rfl) (fun _ _ _ h => h) (Or.inl ⟨by rfl, ?_⟩) hC0 ?_
            rotate_left
            · intro w hSw; clear hSw; go_simp; (try with_reducible rfl)
            (try simp only [List.getElem_toArray, List.getElem_cons_succ, List.getElem_cons_zero])
            (try simp only [Act.put, List.setIfInBounds_toArray, List.set_cons_zero, List.set_cons_succ])
            refine wpHold_take (i := 6) (v := ?_) rfl (by kernel_rfl) (by kernel_rfl) (by kernel_rfl) (fun _ _ _ h => h) (Or.inl ⟨by rfl, ?_⟩) hC0 ?_
            rotate_left
            · intro w hSw; clear hSw; go_simp; (try with_reducible rfl)
            (try simp only [List.getElem_toArray, List.getElem_cons_succ, List.getElem_cons_zero])
            (try simp only [Act.put, List.setIfInBounds_toArray, List.set_cons_zero, List.set_cons_succ])
            refine wpHold_take (i := 7) (v := ?_) rfl (by kernel_rfl) (by kernel_rfl) (by kernel_rfl) (fun _ _ _ h => h) (Or.inl ⟨by rfl, ?_⟩) hC0 ?_
            rotate_left
            · intro w hSw; clear hSw; go_simp; (try with_reducible rfl)
            (try simp only [List.getElem_toArray, List.getElem_cons_succ, List.getElem_cons_zero])
            (try simp only [Act.put, List.setIfInBounds_toArray, List.set_cons_zero, List.set_cons_succ])
            refine wpHold_take (i := 8) (v := ?_) rfl (by kernel_rfl) (by kernel_rfl) (by kernel_rfl) (fun _ _ _ h => h) (Or.inl ⟨by rfl, ?_⟩) hC0 ?_
            rotate_left
            · intro w hSw; clear hSw; go_simp; (try with_reducible rfl)
            (try simp only [List.getElem_toArray, List.getElem_cons_succ, List.getElem_cons_zero])
            (try simp only [Act.put, List.setIfInBounds_toArray, List.set_cons_zero, List.set_cons_succ])
            refine wpHold_take (i := 9) (v := ?_) rfl (by kernel_rfl) (by kernel_rfl) (by kernel_rfl) (fun _ _ _ h => h) (Or.inl ⟨by rfl, ?_⟩) hC0 ?_
            rotate_left
            · intro w hSw; clear hSw; go_simp; (try with_reducible rfl)
            (try simp only [List.getElem_toArray, List.getElem_cons_succ, List.getElem_cons_zero])
            (try simp only [Act.put, List.setIfInBounds_toArray, List.set_cons_zero, List.set_cons_succ])
            refine wpHold_take (i := 10) (v := ?_) rfl (by kernel_rfl) (by kernel_rfl) (by kernel_rfl) (fun _ _ _ h => h) (Or.inl ⟨by rfl, ?_⟩) hC0 ?_
            rotate_left
            · intro w hSw; clear hSw; go_simp; (try with_reducible rfl)
            (try simp only [List.getElem_toArray, List.getElem_cons_succ, List.getElem_cons_zero])
            (try simp only [Act.put, List.setIfInBounds_toArray, List.set_cons_zero, List.set_cons_succ])
            refine wpHold_take (i := 11) (v := ?_) rfl (by kernel_rfl) (by kernel_rfl) (by kernel_rfl) (fun _ _ _ h => h) (Or.inl ⟨by rfl, ?_⟩) hC0 ?_
            rotate_left
            · intro w hSw; clear hSw; go_simp; (try with_reducible rfl)
            (try simp only [List.getElem_toArray, List.getElem_cons_succ, List.getElem_cons_zero])
            (try simp only [Act.put, List.setIfInBounds_toArray, List.set_cons_zero, List.set_cons_succ])
            refine wpHold_take (i := 12) (v := ?_) rfl (by kernel_rfl) (by kernel_rfl) (by kernel_rfl) (fun _ _ _ h => h) (Or.inl ⟨by rfl, ?_⟩) hC0 ?_
            rotate_left
            · intro w hSw; clear hSw; go_simp; (try with_reducible rfl)
            (try simp only [List.getElem_toArray, List.getElem_cons_succ, List.getElem_cons_zero])
            (try simp only [Act.put, List.setIfInBounds_toArray, List.set_cons_zero, List.set_cons_succ])
            refine wpHold_take (i := 13) (v := ?_) rfl (by kernel_rfl) (by kernel_rfl) (by kernel_rfl) (fun _ _ _ h => h) (Or.inl ⟨by rfl, ?_⟩) hC0 ?_
            rotate_left
            · intro w hSw; clear hSw; go_simp; (try with_reducible rfl)
            (try simp only [List.getElem_toArray, List.getElem_cons_succ, List.getElem_cons_zero])
            (try simp only [Act.put, List.setIfInBounds_toArray, List.set_cons_zero, List.set_cons_succ])
            refine wpHold_take (i := 14) (v := ?_) rfl (by kernel_rfl) (by kernel_rfl) (by kernel_rfl) (fun _ _ _ h => h) (Or.inl ⟨by rfl, ?_⟩) hC0 ?_
            rotate_left
            · intro w hSw; clear hSw; go_simp; (try with_reducible rfl)
            (try simp only [List.getElem_toArray, List.getElem_cons_succ, List.getElem_cons_zero])
            (try simp only [Act.put, List.setIfInBounds_toArray, List.set_cons_zero, List.set_cons_succ])
            refine wpHold_take (i := 15) (v := ?_) rfl (by kernel_rfl) (by kernel_rfl) (by kernel_rfl) (fun _ _ _ h => h) (Or.inl ⟨by rfl, ?_⟩) hC0 ?_
            rotate_left
            · intro w hSw; clear hSw; go_simp; (try with_reducible rfl)
            (try simp only [List.getElem_toArray, List.getElem_cons_succ, List.getElem_cons_zero])
            (try simp only [Act.put, List.setIfInBounds_toArray, List.set_cons_zero, List.set_cons_succ])
            refine wpHold_take (i := 16) (v := ?_) rfl (by kernel_rfl) (by kernel_rfl) (by kernel_rfl) (fun _ _ _ h => h) (Or.inl ⟨by rfl, ?_⟩) hC0 ?_
            rotate_left
            · intro w hSw; clear hSw; go_simp; (try with_reducible rfl)
            (try simp only [List.getElem_toArray, List.getElem_cons_succ, List.getElem_cons_zero])
            (try simp only [Act.put, List.setIfInBounds_toArray, List.set_cons_zero, List.set_cons_succ])
            refine wpHold_take (i := 17) (v := ?_) rfl (by kernel_rfl) (by kernel_rfl) (by kernel_rfl) (fun _ _ _ h => h) (Or.inl ⟨by rfl, ?_⟩) hC0 ?_
            rotate_left
            · intro w hSw; (try dsimp only at hSw); obtain ⟨⟨z0, z1, z2⟩, ⟨z3, z4, z5⟩, ⟨z6, z7, z8⟩, z9, z10, z11⟩ := hSw; go_simp; (try with_reducible rfl)
            (try simp only [List.getElem_toArray, List.getElem_cons_succ, List.getElem_cons_zero])
            (try simp only [Act.put, List.setIfInBounds_toArray, List.set_cons_zero, List.set_cons_succ])
            refine wpHold_take (i := 18) (v := ?_) rfl (by kernel_rfl) (by kernel_rfl) (by kernel_rfl) (fun _ _ _ h => h) (Or.inl ⟨by rfl, ?_⟩) hC0 ?_
            rotate_left
            · intro w hSw; (try dsimp only at hSw); obtain ⟨⟨z0, z1, z2⟩, ⟨z3, z4, z5⟩, ⟨z6, z7, z8⟩, z9, z10, z11⟩ := hSw; go_simp; (try with_reducible rfl)
            (try simp only [List.getElem_toArray, List.getElem_cons_succ, List.getElem_cons_zero])
            (try simp only [Act.put, List.setIfInBounds_toArray, List.set_cons_zero, List.set_cons_succ])
            refine wpHold_one (k := 19) (by kernel_rfl) rfl (fun K hK => ?_)
            (try simp only [List.getElem_toArray, List.getElem_cons_succ, List.getElem_cons_zero])
            go_simp
            refine (unhide HLK _ bd0).mono ?_
            rintro e xw_1 ⟨rfl, hb_1⟩
            have cc_1 := below_step bd0 hb_1
            have hC_1 : (fun w' : World => (w'.cell? ⟨ba, 0, none⟩ = some (.bool ta.s) ∧ w'.cell? ⟨ba, 1, none⟩ = some (.slice ta.a1 ta.n1 ta.c1) ∧ w'.cell? ⟨ba, 2, none⟩ = some (.slice ta.a2 ta.n2 ta.c2)) ∧ (w'.cell? ⟨bb, 0, none⟩ = some (.bool tb.s) ∧ w'.cell? ⟨bb, 1, none⟩ = some (.slice tb.a1 tb.n1 tb.c1) ∧ w'.cell? ⟨bb, 2, none⟩ = some (.slice tb.a2 tb.n2 tb.c2)) ∧ (w'.cell? ⟨bc, 0, none⟩ = some (.bool tc.s) ∧ w'.cell? ⟨bc, 1, none⟩ = some (.slice tc.a1 tc.n1 tc.c1) ∧ w'.cell? ⟨bc, 2, none⟩ = some (.slice tc.a2 tc.n2 tc.c2)) ∧ (w'.cell? ⟨bp, op + n * 3, none⟩ = some (.bool tp.s) ∧ w'.cell? ⟨bp, op + n * 3 + 1, none⟩ = some (.slice tp.a1 tp.n1 tp.c1) ∧ w'.cell? ⟨bp, op + n * 3 + 2, none⟩ = some (.slice tp.a2 tp.n2 tp.c2))) xw_1 := unhide HCC _ cc_1
            refine hK.out _ _ hC_1 ?_
            clear hK K
            (try simp only [Act.put, List.setIfInBounds_toArray, List.set_cons_zero, List.set_cons_succ])
            refine wpHold_take (i := 20) (v := ?_) rfl (by kernel_rfl) (by kernel_rfl) (by kernel_rfl) (fun _ _ _ h => h) (Or.inl ⟨by rfl, ?_⟩) hC_1 ?_
            rotate_left
            · intro w hSw; clear hSw; go_simp; (try with_reducible rfl)
            (try simp only [List.getElem_toArray, List.getElem_cons_succ, List.getElem_cons_zero])
            (try simp only [Act.put, List.setIfInBounds_toArray, List.set_cons_zero, List.set_cons_succ])
            refine wpHold_take (i := 21) (v := ?_) rfl (by kernel_rfl) (by kernel_rfl) (by kernel_rfl) (fun _ _ _ h => h) (Or.inl ⟨by rfl, ?_⟩) hC_1 ?_
            rotate_left
            · intro w hSw; clear hSw; go_simp; (try with_reducible rfl)
            (try simp only [List.getElem_toArray, List.getElem_cons_succ, List.getElem_cons_zero])
            (try simp only [Act.put, List.setIfInBounds_toArray, List.set_cons_zero, List.set_cons_succ])
            refine wpHold_take (i := 22) (v := ?_) rfl (by kernel_rfl) (by kernel_rfl) (by kernel_rfl) (fun _ _ _ h => h) (Or.inl ⟨by rfl, ?_⟩) hC_1 ?_
            rotate_left
            · intro w hSw; clear hSw; go_simp; (try with_reducible rfl)
            (try simp only [List.getElem_toArray, List.getElem_cons_succ, List.getElem_cons_zero])
            (try simp only [Act.put, List.setIfInBounds_toArray, List.set_cons_zero, List.set_cons_succ])
            refine wpHold_take (i := 23) (v := ?_) rfl (by kernel_rfl) (by kernel_rfl) (by kernel_rfl) (fun _ _ _ h => h) (Or.inl ⟨by rfl, ?_⟩) hC_1 ?_
            rotate_left
            · intro w hSw; (try dsimp only at hSw); obtain ⟨⟨z0, z1, z2⟩, ⟨z3, z4, z5⟩, ⟨z6, z7, z8⟩, z9, z10, z11⟩ := hSw; go_simp; (try with_reducible rfl)
            (try simp only [List.getElem_toArray, List.getElem_cons_succ, List.getElem_cons_zero])
            (try simp only [Act.put, List.setIfInBounds_toArray, List.set_cons_zero, List.set_cons_succ])
            refine wpHold_take (i := 24) (v := ?_) rfl (by kernel_rfl) (by kernel_rfl) (by kernel_rfl) (fun _ _ _ h => h) (Or.inl ⟨by rfl, ?_⟩) hC_1 ?_
            rotate_left
            · intro w hSw; (try dsimp only at hSw); obtain ⟨⟨z0, z1, z2⟩, ⟨z3, z4, z5⟩, ⟨z6, z7, z8⟩, z9, z10, z11⟩ := hSw; go_simp; (try with_reducible rfl)
            (try simp only [List.getElem_toArray, List.getElem_cons_succ, List.getElem_cons_zero])
            (try simp only [Act.put, List.setIfInBounds_toArray, List.set_cons_zero, List.set_cons_succ])
            refine wpHold_one (k := 25) (by kernel_rfl) rfl (fun K hK => ?_)
            (try simp only [List.getElem_toArray, List.getElem_cons_succ, List.getElem_cons_zero])
            go_simp
            refine (unhide HCX _ cc_1).mono ?_
            rintro e xw_2 ⟨rfl, hb_2⟩
            have cc_2 := below_step cc_1 hb_2
            have hC_2 : (fun w' : World => (w'.cell? ⟨ba, 0, none⟩ = some (.bool ta.s) ∧ w'.cell? ⟨ba, 1, none⟩ = some (.slice ta.a1 ta.n1 ta.c1) ∧ w'.cell? ⟨ba, 2, none⟩ = some (.slice ta.a2 ta.n2 ta.c2)) ∧ (w'.cell? ⟨bb, 0, none⟩ = some (.bool tb.s) ∧ w'.cell? ⟨bb, 1, none⟩ = some (.slice tb.a1 tb.n1 tb.c1) ∧ w'.cell? ⟨bb, 2, none⟩ = some (.slice tb.a2 tb.n2 tb.c2)) ∧ (w'.cell? ⟨bc, 0, none⟩ = some (.bool tc.s) ∧ w'.cell? ⟨bc, 1, none⟩ = some (.slice tc.a1 tc.n1 tc.c1) ∧ w'.cell? ⟨bc, 2, none⟩ = some (.slice tc.a2 tc.n2 tc.c2)) ∧ (w'.cell? ⟨bp, op + n * 3, none⟩ = some (.bool tp.s) ∧ w'.cell? ⟨bp, op + n * 3 + 1, none⟩ = some (.slice tp.a1 tp.n1 tp.c1) ∧ w'.cell? ⟨bp, op + n * 3 + 2, none⟩ = some (.slice tp.a2 tp.n2 tp.c2))) xw_2 := unhide HCC _ cc_2
            refine hK.out _ _ hC_2 ?_
            clear hK K
            (try simp only [Act.put, List.setIfInBounds_toArray, List.set_cons_zero, List.set_cons_succ])
            refine wpHold_take (i := 26) (v := ?_) rfl (by kernel_rfl) (by kernel_rfl) (by kernel_rfl) (fun _ _ _ h => h) (Or.inl ⟨by rfl, ?_⟩) hC_2 ?_
            rotate_left
            · intro w hSw; clear hSw; go_simp; (try with_reducible rfl)
            (try simp only [List.getElem_toArray, List.getElem_cons_succ, List.getElem_cons_zero])
            (try simp only [Act.put, List.setIfInBounds_toArray, List.set_cons_zero, List.set_cons_succ])
            refine wpHold_take (i := 27) (v := ?_) rfl (by kernel_rfl) (by kernel_rfl) (by kernel_rfl) (fun _ _ _ h => h) (Or.inl ⟨by rfl, ?_⟩) hC_2 ?_
            rotate_left
            · intro w hSw; clear hSw; go_simp; (try with_reducible rfl)
            (try simp only [List.getElem_toArray, List.getElem_cons_succ, List.getElem_cons_zero])
            (try simp only [Act.put, List.setIfInBounds_toArray, List.set_cons_zero, List.set_cons_succ])
            refine wpHold_take (i := 28) (v := ?_) rfl (by kernel_rfl) (by kernel_rfl) (by kernel_rfl) (fun _ _ _ h => h) (Or.inl ⟨by rfl, ?_⟩) hC_2 ?_
            rotate_left
            · intro w hSw; clear hSw; go_simp; (try with_reducible rfl)
            (try simp only [List.getElem_toArray, List.getElem_cons_succ, List.getElem_cons_zero])
            (try simp only [Act.put, List.setIfInBounds_toArray, List.set_cons_zero, List.set_cons_succ])
            refine wpHold_take (i := 29) (v := ?_) rfl (by kernel_rfl) (by kernel_rfl) (by kernel_rfl) (fun _ _ _ h => h) (Or.inl ⟨by rfl, ?_⟩) hC_2 ?_
            rotate_left
            · intro w hSw; clear hSw; go_simp; (try with_reducible rfl)
            (try simp only [List.getElem_toArray, List.getElem_cons_succ, List.getElem_cons_zero])
            (try simp only [Act.put, List.setIfInBounds_toArray, List.set_cons_zero, List.set_cons_succ])
            refine wpHold_take (i := 30) (v := ?_) rfl (by kernel_rfl) (by kernel_rfl) (by kernel_rfl) (fun _ _ _ h => h) (Or.inl ⟨by rfl, ?_⟩) hC_2 ?_
            rotate_left
            · intro w hSw; clear hSw; go_simp; (try with_reducible rfl)
            (try simp only [List.getElem_toArray, List.getElem_cons_succ, List.getElem_cons_zero])
            (try simp only [Act.put, List.setIfInBounds_toArray, List.set_cons_zero, List.set_cons_succ])
            refine wpHold_take (i := 31) (v := ?_) rfl (by kernel_rfl) (by kernel_rfl) (by kernel_rfl) (fun _ _ _ h => h) (Or.inl ⟨by rfl, ?_⟩) hC_2 ?_
            rotate_left
            · intro w hSw; clear hSw; go_simp; (try with_reducible rfl)
            (try simp only [List.getElem_toArray, List.getElem_cons_succ, List.getElem_cons_zero])
            (try simp only [Act.put, List.setIfInBounds_toArray, List.set_cons_zero, List.set_cons_succ])
            refine wpHold_take (i := 32) (v := ?_) rfl (by kernel_rfl) (by kernel_rfl) (by kernel_rfl) (fun _ _ _ h => h) (Or.inl ⟨by rfl, ?_⟩) hC_2 ?_
            rotate_left
            · intro w hSw; (try dsimp only at hSw); obtain ⟨⟨z0, z1, z2⟩, ⟨z3, z4, z5⟩, ⟨z6, z7, z8⟩, z9, z10, z11⟩ := hSw; go_simp; (try with_reducible rfl)
            (try simp only [List.getElem_toArray, List.getElem_cons_succ, List.getElem_cons_zero])
            (try simp only [Act.put, List.setIfInBounds_toArray, List.set_cons_zero, List.set_cons_succ])
            refine wpHold_one (k := 33) (by kernel_rfl) rfl (fun K hK => ?_)
            (try simp only [List.getElem_toArray, List.getElem_cons_succ, List.getElem_cons_zero])
            go_simp
            refine (unhide HSG1 _ cc_2).mono ?_
            rintro e xw_3 ⟨rfl, hb_3⟩
            have cc_3 := below_step cc_2 hb_3
            have hC_3 : (fun w' : World => (w'.cell? ⟨ba, 0, none⟩ = some (.bool ta.s) ∧ w'.cell? ⟨ba, 1, none⟩ = some (.slice ta.a1 ta.n1 ta.c1) ∧ w'.cell? ⟨ba, 2, none⟩ = some (.slice ta.a2 ta.n2 ta.c2)) ∧ (w'.cell? ⟨bb, 0, none⟩ = some (.bool tb.s) ∧ w'.cell? ⟨bb, 1, none⟩ = some (.slice tb.a1 tb.n1 tb.c1) ∧ w'.cell? ⟨bb, 2, none⟩ = some (.slice tb.a2 tb.n2 tb.c2)) ∧ (w'.cell? ⟨bc, 0, none⟩ = some (.bool tc.s) ∧ w'.cell? ⟨bc, 1, none⟩ = some (.slice tc.a1 tc.n1 tc.c1) ∧ w'.cell? ⟨bc, 2, none⟩ = some (.slice tc.a2 tc.n2 tc.c2)) ∧ (w'.cell? ⟨bp, op + n * 3, none⟩ = some (.bool tp.s) ∧ w'.cell? ⟨bp, op + n * 3 + 1, none⟩ = some (.slice tp.a1 tp.n1 tp.c1) ∧ w'.cell? ⟨bp, op + n * 3 + 2, none⟩ = some (.slice tp.a2 tp.n2 tp.c2))) xw_3 := unhide HCC _ cc_3
            refine hK.out _ _ hC_3 ?_
            clear hK K
            (try simp only [Act.put, List.setIfInBounds_toArray, List.set_cons_zero, List.set_cons_succ])
            refine wpHold_take (i := 34) (v := ?_) rfl (by kernel_rfl) (by kernel_rfl) (by kernel_rfl) (fun _ _ _ h => h) (Or.inl ⟨by rfl, ?_⟩) hC_3 ?_
            rotate_left
            · intro w hSw; clear hSw; go_simp; (try with_reducible rfl)
            (try simp only [List.getElem_toArray, List.getElem_cons_succ, List.getElem_cons_zero])
            (try simp only [Act.put, List.setIfInBounds_toArray, List.set_cons_zero, List.set_cons_succ])
            refine wpHold_take (i := 35) (v := ?_) rfl (by kernel_rfl) (by kernel_rfl) (by kernel_rfl) (fun _ _ _ h => h) (Or.inl ⟨by rfl, ?_⟩) hC_3 ?_
            rotate_left
            · intro w hSw; clear hSw; go_simp; (try with_reducible rfl)
            (try simp only [List.getElem_toArray, List.getElem_cons_succ, List.getElem_cons_zero])
            (try simp only [Act.put, List.setIfInBounds_toArray, List.set_cons_zero, List.set_cons_succ])
            refine wpHold_take (i := 36) (v := ?_) rfl (by kernel_rfl) (by kernel_rfl) (by kernel_rfl) (fun _ _ _ h => h) (Or.inl ⟨by rfl, ?_⟩) hC_3 ?_
            rotate_left
            · intro w hSw; clear hSw; go_simp; (try with_reducible rfl)
            (try simp only [List.getElem_toArray, List.getElem_cons_succ, List.getElem_cons_zero])
            (try simp only [Act.put, List.setIfInBounds_toArray, List.set_cons_zero, List.set_cons_succ])
            refine wpHold_take (i := 37) (v := ?_) rfl (by kernel_rfl) (by kernel_rfl) (by kernel_rfl) (fun _ _ _ h => h) (Or.inl ⟨by rfl, ?_⟩) hC_3 ?_
            rotate_left
            · intro w hSw; (try dsimp only at hSw); obtain ⟨⟨z0, z1, z2⟩, ⟨z3, z4, z5⟩, ⟨z6, z7, z8⟩, z9, z10, z11⟩ := hSw; go_simp; (try with_reducible rfl)
            (try simp only [List.getElem_toArray, List.getElem_cons_succ, List.getElem_cons_zero])
            (try simp only [Act.put, List.setIfInBounds_toArray, List.set_cons_zero, List.set_cons_succ])
            refine wpHold_take (i := 38) (v := ?_) rfl (by kernel_rfl) (by kernel_rfl) (by kernel_rfl) (fun _ _ _ h => h) (Or.inl ⟨by rfl, ?_⟩) hC_3 ?_
            rotate_left
            · intro w hSw; (try dsimp only at hSw); obtain ⟨⟨z0, z1, z2⟩, ⟨z3, z4, z5⟩, ⟨z6, z7, z8⟩, z9, z10, z11⟩ := hSw; go_simp; (try with_reducible rfl)
            (try simp only [List.getElem_toArray, List.getElem_cons_succ, List.getElem_cons_zero])
            (try simp only [Act.put, List.setIfInBounds_toArray, List.set_cons_zero, List.set_cons_succ])
            refine wpHold_one (k := 39) (by kernel_rfl) rfl (fun K hK => ?_)
            (try simp only [List.getElem_toArray, List.getElem_cons_succ, List.getElem_cons_zero])
            go_simp
            refine (unhide HCL1 _ cc_3).mono ?_
            rintro e xw_4 ⟨rfl, hb_4⟩
            have cc_4 := below_step cc_3 hb_4
            have hC_4 : (fun w' : World => (w'.cell? ⟨ba, 0, none⟩ = some (.bool ta.s) ∧ w'.cell? ⟨ba, 1, none⟩ = some (.slice ta.a1 ta.n1 ta.c1) ∧ w'.cell? ⟨ba, 2, none⟩ = some (.slice ta.a2 ta.n2 ta.c2)) ∧ (w'.cell? ⟨bb, 0, none⟩ = some (.bool tb.s) ∧ w'.cell? ⟨bb, 1, none⟩ = some (.slice tb.a1 tb.n1 tb.c1) ∧ w'.cell? ⟨bb, 2, none⟩ = some (.slice tb.a2 tb.n2 tb.c2)) ∧ (w'.cell? ⟨bc, 0, none⟩ = some (.bool tc.s) ∧ w'.cell? ⟨bc, 1, none⟩ = some (.slice tc.a1 tc.n1 tc.c1) ∧ w'.cell? ⟨bc, 2, none⟩ = some (.slice tc.a2 tc.n2 tc.c2)) ∧ (w'.cell? ⟨bp, op + n * 3, none⟩ = some (.bool tp.s) ∧ w'.cell? ⟨bp, op + n * 3 + 1, none⟩ = some (.slice tp.a1 tp.n1 tp.c1) ∧ w'.cell? ⟨bp, op + n * 3 + 2, none⟩ = some (.slice tp.a2 tp.n2 tp.c2))) xw_4 := unhide HCC _ cc_4
            refine hK.out _ _ hC_4 ?_
            clear hK K
            (try simp only [Act.put, List.setIfInBounds_toArray, List.set_cons_zero, List.set_cons_succ])
            refine wpHold_take (i := 40) (v := ?_) rfl (by kernel_rfl) (by kernel_rfl) (by kernel_rfl) (fun _ _ _ h => h) (Or.inl ⟨by rfl, ?_⟩) hC_4 ?_
            rotate_left
            · intro w hSw; clear hSw; go_simp; (try with_reducible rfl)
            (try simp only [List.getElem_toArray, List.getElem_cons_succ, List.getElem_cons_zero])
            (try simp only [Act.put, List.setIfInBounds_toArray, List.set_cons_zero, List.set_cons_succ])
            refine wpHold_take (i := 41) (v := ?_) rfl (by kernel_rfl) (by kernel_rfl) (by kernel_rfl) (fun _ _ _ h => h) (Or.inl ⟨by rfl, ?_⟩) hC_4 ?_
            rotate_left
            · intro w hSw; clear hSw; go_simp; (try with_reducible rfl)
            (try simp only [List.getElem_toArray, List.getElem_cons_succ, List.getElem_cons_zero])
            (try simp only [Act.put, List.setIfInBounds_toArray, List.set_cons_zero, List.set_cons_succ])
            refine wpHold_take (i := 42) (v := ?_) rfl (by kernel_rfl) (by kernel_rfl) (by kernel_rfl) (fun _ _ _ h => h) (Or.inl ⟨by rfl, ?_⟩) hC_4 ?_
            rotate_left
            · intro w hSw; clear hSw; go_simp; (try with_reducible rfl)
            (try simp only [List.getElem_toArray, List.getElem_cons_succ, List.getElem_cons_zero])
            (try simp only [Act.put, List.setIfInBounds_toArray, List.set_cons_zero, List.set_cons_succ])
            refine wpHold_done (by kernel_rfl) ?_ _
            have BR := cc_4
            have HX_ba_t := hide ((unhide HX_ba_43).keep BR)
            have HX_bb_t := hide ((unhide HX_bb_43).keep BR)
            have HB_t := hide (below_step (unhide HB_43) BR)
            clear BR hb_1 hC_1 cc_1 hb_2 hC_2 cc_2 hb_3 hC_3 cc_3 hb_4 hC_4 cc_4 hC0 bd0 HCC HLK HCX HCL HSG dcx dn HRP HSG1 HCL1 
            obtain ⟨cba_0, cba_1, cba_2⟩ := (unhide HX_ba_t).cells _ (Below.refl _ _)
            by_cases hfit : a < (((n : Nat) : Int) : Rat)
            · have hft : a < (((n : Nat) : Int) : Rat) := hfit
              have HFT := hide hft
              have HWA := hide (wait_any ta.val a n xw_4 (unhide HX_ba_t).2 (unhide HRA) (unhide HH0) hft (by omega))
              simp only [Tri.val] at HWA
              clear hft
              go_wp2_with fail
              refine (unhide HWA).mono ?_
              rintro e w_q ⟨t1, t2, t3, rfl, r1, r2, r3, hbx⟩
              clear cba_0 cba_1 cba_2
              have hb_q := below_step hbx (alloc_below w_q (.cells #[.bool t1.s, .slice t1.a1 t1.n1 t1.c1, .slice t1.a2 t1.n2 t1.c2, .bool t2.s, .slice t2.a1 t2.n1 t2.c1, .slice t2.a2 t2.n2 t2.c2, .bool t3.s, .slice t3.a1 t3.n1 t3.c1, .slice t3.a2 t3.n2 t3.c2] 48))
              have HB_61 := hide (below_step (unhide HB_t) hb_q)
              have HX_ba_61 := hide ((unhide HX_ba_t).keep hb_q)
              have HX_bb_61 := hide ((unhide HX_bb_t).keep hb_q)
              clear HB_t HX_ba_t HX_bb_t
              have XQ : QB (w_q.alloc (.cells #[.bool t1.s, .slice t1.a1 t1.n1 t1.c1, .slice t1.a2 t1.n2 t1.c2, .bool t2.s, .slice t2.a1 t2.n1 t2.c1, .slice t2.a2 t2.n2 t2.c2, .bool t3.s, .slice t3.a1 t3.n1 t3.c1, .slice t3.a2 t3.n2 t3.c2] 48)) w_q.heap.size t1 t2 t3 := heap_alloc_new w_q _
              have R1 := r1.below (alloc_below w_q (.cells #[.bool t1.s, .slice t1.a1 t1.n1 t1.c1, .slice t1.a2 t1.n2 t1.c2, .bool t2.s, .slice t2.a1 t2.n1 t2.c1, .slice t2.a2 t2.n2 t2.c2, .bool t3.s, .slice t3.a1 t3.n1 t3.c1, .slice t3.a2 t3.n2 t3.c2] 48))
              have R2 := r2.below (alloc_below w_q (.cells #[.bool t1.s, .slice t1.a1 t1.n1 t1.c1, .slice t1.a2 t1.n2 t1.c2, .bool t2.s, .slice t2.a1 t2.n1 t2.c1, .slice t2.a2 t2.n2 t2.c2, .bool t3.s, .slice t3.a1 t3.n1 t3.c1, .slice t3.a2 t3.n2 t3.c2] 48))
              have R3 := r3.below (alloc_below w_q (.cells #[.bool t1.s, .slice t1.a1 t1.n1 t1.c1, .slice t1.a2 t1.n2 t1.c2, .bool t2.s, .slice t2.a1 t2.n1 t2.c1, .slice t2.a2 t2.n2 t2.c2, .bool t3.s, .slice t3.a1 t3.n1 t3.c1, .slice t3.a2 t3.n2 t3.c2] 48))
              obtain ⟨Wq, hWq⟩ : ∃ W, w_q.alloc (.cells #[.bool t1.s, .slice t1.a1 t1.n1 t1.c1, .slice t1.a2 t1.n2 t1.c2, .bool t2.s, .slice t2.a1 t2.n1 t2.c1, .slice t2.a2 t2.n2 t2.c2, .bool t3.s, .slice t3.a1 t3.n1 t3.c1, .slice t3.a2 t3.n2 t3.c2] 48) = W := ⟨_, rfl⟩
              obtain ⟨bq, hcq⟩ : ∃ b, w_q.heap.size = b := ⟨_, rfl⟩
              rw [hWq] at XQ R1 R2 R3 HB_61 HX_ba_61 HX_bb_61
              rw [hcq] at XQ
              have HQB := hide XQ
              have HR1 := hide R1
              have HR2 := hide R2
              have HR3 := hide R3
              clear r1 r2 r3 R1 R2 R3 XQ hbx hb_q HWA
              go_wp2_with fail
              clear hWq hcq
              have HRN : Hid (RS (((n : Nat) : Int) : Rat) 1) := word_RS (show n ≤ 1000 by omega)
              have HCU : Hid (∀ W, Below Wq.heap.size Wq W → (fun w' : World => (w'.cell? ⟨ba, 0, none⟩ = some (.bool ta.s) ∧ w'.cell? ⟨ba, 1, none⟩ = some (.slice ta.a1 ta.n1 ta.c1) ∧ w'.cell? ⟨ba, 2, none⟩ = some (.slice ta.a2 ta.n2 ta.c2)) ∧ (w'.cell? ⟨bb, 0, none⟩ = some (.bool tb.s) ∧ w'.cell? ⟨bb, 1, none⟩ = some (.slice tb.a1 tb.n1 tb.c1) ∧ w'.cell? ⟨bb, 2, none⟩ = some (.slice tb.a2 tb.n2 tb.c2))) W) := fun W hW => ⟨(unhide HX_ba_61).cells W hW, (unhide HX_bb_61).cells W hW⟩
              have HS1 := hide (spare_RS (unhide HRA) (unhide HRN))
              have HM1 := hide ((RS.mul (unhide HRA) (unhide HEB1)).mono (show 1 + 1600 ≤ 1700 by omega))
              have HU1 := hide ((RS.add (unhide HS1) (unhide HM1)).mono (show 3 + 1700 + 1 ≤ 1800 by omega))
              have HWHc : Hid (∀ W, Calls Tryd.prog 12 #[.int .i64 (n : Int)] W fun e w' => ∃ v, e = .returned v ∧ RatIs w' v (((n : Nat) : Int) : Rat) ∧ Below W.heap.size W w') := fun W => whole_any (n : Int) (by omega) (by omega) W
              have HSUc : Hid (∀ W v (hW : Below Wq.heap.size Wq W) (hv : RatIs W v (((n : Nat) : Int) : Rat)), Calls Tryd.prog 19 #[v, .agg #[.bool ta.s, .slice ta.a1 ta.n1 ta.c1, .slice ta.a2 ta.n2 ta.c2]] W fun e w' => ∃ v, e = .returned v ∧ RatIs w' v ((((n : Nat) : Int) : Rat) - a) ∧ Below W.heap.size W w') := fun W v hW hv => subR_any v _ _ _ W hv ((unhide HX_ba_61).2.below hW) 1 (unhide HRN) (unhide HRA) (by rw [KKe]; omega)
              have HMUc : Hid (∀ W (hW : Below Wq.heap.size Wq W), Calls Tryd.prog 10 #[.agg #[.bool ta.s, .slice ta.a1 ta.n1 ta.c1, .slice ta.a2 ta.n2 ta.c2], .agg #[.bool tb.s, .slice tb.a1 tb.n1 tb.c1, .slice tb.a2 tb.n2 tb.c2]] W fun e w' => ∃ v, e = .returned v ∧ RatIs w' v (a * Bth.eb a n) ∧ Below W.heap.size W w') := fun W hW => mulR_any _ _ _ _ W ((unhide HX_ba_61).2.below hW) ((unhide HX_bb_61).2.below hW) 1600 ((unhide HRA).mono (by omega)) (unhide HEB1) (by rw [KKe]; omega)
              have HADc : Hid (∀ W v v' (hv : RatIs W v ((((n : Nat) : Int) : Rat) - a)) (hv' : RatIs W v' (a * Bth.eb a n)), Calls Tryd.prog 20 #[v, v'] W fun e w' => ∃ v, e = .returned v ∧ RatIs w' v ((((n : Nat) : Int) : Rat) - a + a * Bth.eb a n) ∧ Below W.heap.size W w') := fun W v v' hv hv' => addR_any v v' _ _ W hv hv' 1700 ((unhide HS1).mono (by omega)) (unhide HM1) (by rw [KKe]; omega)
              refine wp_region_hold (fun w' : World => (w'.cell? ⟨ba, 0, none⟩ = some (.bool ta.s) ∧ w'.cell? ⟨ba, 1, none⟩ = some (.slice ta.a1 ta.n1 ta.c1) ∧ w'.cell? ⟨ba, 2, none⟩ = some (.slice ta.a2 ta.n2 ta.c2)) ∧ (w'.cell? ⟨bb, 0, none⟩ = some (.bool tb.s) ∧ w'.cell? ⟨bb, 1, none⟩ = some (.slice tb.a1 tb.n1 tb.c1) ∧ w'.cell? ⟨bb, 2, none⟩ = some (.slice tb.a2 tb.n2 tb.c2))) (by kernel_rfl) ?_
              have bd0 : Below Wq.heap.size Wq Wq.drew := (Below.refl _ _).drew
              obtain ⟨Wx, hWx⟩ : ∃ W, Wq.drew = W := ⟨_, rfl⟩
              rw [hWx] at bd0 ⊢
              have hC0 : (fun w' : World => (w'.cell? ⟨ba, 0, none⟩ = some (.bool ta.s) ∧ w'.cell? ⟨ba, 1, none⟩ = some (.slice ta.a1 ta.n1 ta.c1) ∧ w'.cell? ⟨ba, 2, none⟩ = some (.slice ta.a2 ta.n2 ta.c2)) ∧ (w'.cell? ⟨bb, 0, none⟩ = some (.bool tb.s) ∧ w'.cell? ⟨bb, 1, none⟩ = some (.slice tb.a1 tb.n1 tb.c1) ∧ w'.cell? ⟨bb, 2, none⟩ = some (.slice tb.a2 tb.n2 tb.c2))) Wx := unhide HCU _ bd0
              refine wpHold_take (i := 0) (v := ?_) rfl (by kernel_rfl) (by kernel_rfl) (by kernel_rfl) (fun _ _ _ h => h) (Or.inl ⟨by rfl, ?_⟩) hC0 ?_
              rotate_left
              · intro w hSw; clear hSw; go_simp; (try with_reducible rfl)
              (try simp only [List.getElem_toArray, List.getElem_cons_succ, List.getElem_cons_zero])
              (try simp only [Act.put, List.setIfInBounds_toArray, List.set_cons_zero, List.set_cons_succ])
              refine wpHold_take (i := 2) (v := ?_) rfl (by kernel_rfl) (by kernel_rfl) (by kernel_rfl) (fun _ _ _ h => h) (Or.inl ⟨by rfl, ?_⟩) hC0 ?_
              rotate_left
              · intro w hSw; (try dsimp only at hSw); obtain ⟨⟨z0, z1, z2⟩, z3, z4, z5⟩ := hSw; go_simp; (try with_reducible rfl)
              (try simp only [List.getElem_toArray, List.getElem_cons_succ, List.getElem_cons_zero])
              (try simp only [Act.put, List.setIfInBounds_toArray, List.set_cons_zero, List.set_cons_succ])
              refine wpHold_take (i := 4) (v := ?_) rfl (by kernel_rfl) (by kernel_rfl) (by kernel_rfl) (fun _ _ _ h => h) (Or.inl ⟨by rfl, ?_⟩) hC0 ?_
              rotate_left
              · intro w hSw; (try dsimp only at hSw); obtain ⟨⟨z0, z1, z2⟩, z3, z4, z5⟩ := hSw; go_simp; (try with_reducible rfl)
              (try simp only [List.getElem_toArray, List.getElem_cons_succ, List.getElem_cons_zero])
              (try simp only [Act.put, List.setIfInBounds_toArray, List.set_cons_zero, List.set_cons_succ])
              refine wpHold_take (i := 5) (v := ?_) rfl (by kernel_rfl) (by kernel_rfl) (by kernel_rfl) (fun _ _ _ h => h) (Or.inl ⟨by rfl, ?_⟩) hC0 ?_
              rotate_left
              · intro w hSw; (try dsimp only at hSw); obtain ⟨⟨z0, z1, z2⟩, z3, z4, z5⟩ := hSw; go_simp; (try with_reducible rfl)
              (try simp only [List.getElem_toArray, List.getElem_cons_succ, List.getElem_cons_zero])
              (try simp only [Act.put, List.setIfInBounds_toArray, List.set_cons_zero, List.set_cons_succ])
              refine wpHold_listed (n := 6) (L' := (fun nc nl => #[true, decide (1 ≤ nc), true, decide (2 ≤ nc), true, true, decide (3 ≤ nc), decide (4 ≤ nc), nl, false]) 0 false) (by kernel_rfl) (by kernel_rfl) ?_
              refine wpHold_name (fun a0 ha0 => ?_)
              refine chain_one_any 4 (fun nc nl => #[true, decide (1 ≤ nc), true, decide (2 ≤ nc), true, true, decide (3 ≤ nc), decide (4 ≤ nc), nl, false]) (fun nc => match nc with | 0 => 1 | 1 => 3 | 2 => 6 | _ => 7) 8 1 (fun nc nl na W => ∃ s1 s2 s3 s4 s5, na = ((((a0.put (some 128) s1).put (some 130) s2).put (some 133) s3).put (some 134) s4).put (some 16) s5 ∧ FourJ ((((n : Nat) : Int) : Rat)) ((((n : Nat) : Int) : Rat) - a) (a * Bth.eb a n) ((((n : Nat) : Int) : Rat) - a + a * Bth.eb a n) Wx nc nl W s1 s2 s3 s4 s5) ?_ ?_ ?_ (fun c => rfl) ?_ ?_ ?_ 5 0 false (by omega) (by rfl) _ _ ⟨undef, undef, undef, undef, undef, by subst ha0; rfl, Below.refl _ _, fun h => absurd h (by decide), fun h => absurd h (by decide), fun h => absurd h (by decide), fun h => absurd h (by decide), fun h => by cases h⟩
              · clear ha0
                intro nc nl hnc
                match nc, hnc with
                | 0, _ => cases nl <;> (show (_ : Bool) = _; kernel_rfl)
                | 1, _ => cases nl <;> (show (_ : Bool) = _; kernel_rfl)
                | 2, _ => cases nl <;> (show (_ : Bool) = _; kernel_rfl)
                | 3, _ => cases nl <;> (show (_ : Bool) = _; kernel_rfl)
                | 4, _ => cases nl <;> (show (_ : Bool) = _; kernel_rfl)
              · clear ha0
                intro nc nl hnc
                match nc, hnc with
                | 0, _ => cases nl <;> (intro _; show (_ : Bool) = _; kernel_rfl)
                | 1, _ => cases nl <;> (intro _; show (_ : Bool) = _; kernel_rfl)
                | 2, _ => cases nl <;> (intro _; show (_ : Bool) = _; kernel_rfl)
                | 3, _ => cases nl <;> (intro _; show (_ : Bool) = _; kernel_rfl)
                | 4, _ => cases nl <;> (intro h; first | (show (_ : Bool) = _; kernel_rfl) | exact absurd h (by decide))
              · clear ha0
                intro nc nl hnc
                match nc, hnc with
                | 0, _ => rfl
                | 1, _ => rfl
                | 2, _ => rfl
                | 3, _ => rfl
              · rintro nc nl na wv hnc ⟨s1, s2, s3, s4, s5, rfl, J⟩
                subst ha0
                match nc, hnc, J with
                | 0, _, J =>
                  refine wpOp_step rfl (fun K hK => ?_)
                  (try simp only [Act.put, List.setIfInBounds_toArray, List.set_cons_zero, List.set_cons_succ] at hK ⊢)
                  (try simp only [List.getElem_toArray, List.getElem_cons_succ, List.getElem_cons_zero])
                  go_simp
                  refine (unhide HWHc wv).mono ?_
                  rintro e wz ⟨v, rfl, hv, hb⟩
                  exact hK _ _ ⟨unhide HCU _ (below_step bd0 (below_step J.bl hb)), v, s2, s3, s4, s5, rfl, below_step J.bl hb, fun _ => hv, fun h => absurd h (by decide), fun h => absurd h (by decide), fun h => absurd h (by decide), fun h => by
                    obtain ⟨b, e1, e2, e3⟩ := J.al h
                    exact ⟨b, e1, e2.keep hb, e3⟩⟩
                | 1, _, J =>
                  refine wpOp_step rfl (fun K hK => ?_)
                  (try simp only [Act.put, List.setIfInBounds_toArray, List.set_cons_zero, List.set_cons_succ] at hK ⊢)
                  (try simp only [List.getElem_toArray, List.getElem_cons_succ, List.getElem_cons_zero])
                  go_simp
                  refine (unhide HSUc wv _ (below_step bd0 J.bl) (J.r1 (by decide))).mono ?_
                  rintro e wz ⟨v, rfl, hv, hb⟩
                  exact hK _ _ ⟨unhide HCU _ (below_step bd0 (below_step J.bl hb)), s1, v, s3, s4, s5, rfl, below_step J.bl hb, fun _ => (J.r1 (by decide)).below hb, fun _ => hv, fun h => absurd h (by decide), fun h => absurd h (by decide), fun h => by
                    obtain ⟨b, e1, e2, e3⟩ := J.al h
                    exact ⟨b, e1, e2.keep hb, e3⟩⟩
                | 2, _, J =>
                  refine wpOp_step rfl (fun K hK => ?_)
                  (try simp only [Act.put, List.setIfInBounds_toArray, List.set_cons_zero, List.set_cons_succ] at hK ⊢)
                  (try simp only [List.getElem_toArray, List.getElem_cons_succ, List.getElem_cons_zero])
                  go_simp
                  refine (unhide HMUc wv (below_step bd0 J.bl)).mono ?_
                  rintro e wz ⟨v, rfl, hv, hb⟩
                  exact hK _ _ ⟨unhide HCU _ (below_step bd0 (below_step J.bl hb)), s1, s2, v, s4, s5, rfl, below_step J.bl hb, fun _ => (J.r1 (by decide)).below hb, fun _ => (J.r2 (by decide)).below hb, fun _ => hv, fun h => absurd h (by decide), fun h => by
                    obtain ⟨b, e1, e2, e3⟩ := J.al h
                    exact ⟨b, e1, e2.keep hb, e3⟩⟩
                | 3, _, J =>
                  refine wpOp_step rfl (fun K hK => ?_)
                  (try simp only [Act.put, List.setIfInBounds_toArray, List.set_cons_zero, List.set_cons_succ] at hK ⊢)
                  (try simp only [List.getElem_toArray, List.getElem_cons_succ, List.getElem_cons_zero])
                  go_simp
                  refine (unhide HADc wv _ _ (J.r2 (by decide)) (J.r3 (by decide))).mono ?_
                  rintro e wz ⟨v, rfl, hv, hb⟩
                  exact hK _ _ ⟨unhide HCU _ (below_step bd0 (below_step J.bl hb)), s1, s2, s3, v, s5, rfl, below_step J.bl hb, fun _ => (J.r1 (by decide)).below hb, fun _ => (J.r2 (by decide)).below hb, fun _ => (J.r3 (by decide)).below hb, fun _ => hv, fun h => by
                    obtain ⟨b, e1, e2, e3⟩ := J.al h
                    exact ⟨b, e1, e2.keep hb, e3⟩⟩
              · rintro nc na wv ⟨s1, s2, s3, s4, s5, rfl, J⟩
                subst ha0
                refine wpOp_step rfl (fun K hK => ?_)
                (try simp only [Act.put, List.setIfInBounds_toArray, List.set_cons_zero, List.set_cons_succ] at hK ⊢)
                (try simp only [List.getElem_toArray, List.getElem_cons_succ, List.getElem_cons_zero])
                go_simp
                have hb := alloc_below wv (.cells #[.bool false, .slice none 0 0, .slice none 0 0] 34)
                exact hK _ _ ⟨unhide HCU _ (below_step bd0 (below_step J.bl hb)), s1, s2, s3, s4, .pointer (some ⟨wv.heap.size, 0, none⟩), rfl, below_step J.bl hb, fun h => (J.r1 h).below hb, fun h => (J.r2 h).below hb, fun h => (J.r3 h).below hb, fun h => (J.r4 h).below hb, fun _ => ⟨wv.heap.size, rfl, BoxIs.new (t := zTri) (rat_zero _), J.bl.size⟩⟩
              · rintro na wv ⟨s1, s2, s3, s4, s5, rfl, J⟩
                subst ha0
                obtain ⟨bun, rfl, B10, e10⟩ := J.al rfl
                obtain ⟨tun, rfl, r0⟩ := tri_of (J.r4 (by decide))
                simp only [Tri.val]
                (try simp only [Act.put, List.setIfInBounds_toArray, List.set_cons_zero, List.set_cons_succ])
                have ⟨l0, l1, l2⟩ := B10.free
                have ⟨k0, k1, k2⟩ := B10.cells _ (Below.refl _ _)
                have NB := B10.set r0
                have e10' : Wq.heap.size ≤ bun := Nat.le_trans bd0.size e10
                have YB := (((below_step bd0 J.bl).setCell (p := ⟨bun, 0, none⟩) e10' (.bool tun.s)).setCell (p := ⟨bun, 1, none⟩) e10' (.slice tun.a1 tun.n1 tun.c1)).setCell (p := ⟨bun, 2, none⟩) e10' (.slice tun.a2 tun.n2 tun.c2)
                have HG_bun := hide e10'
                have hCn : (fun w' : World => (w'.cell? ⟨ba, 0, none⟩ = some (.bool ta.s) ∧ w'.cell? ⟨ba, 1, none⟩ = some (.slice ta.a1 ta.n1 ta.c1) ∧ w'.cell? ⟨ba, 2, none⟩ = some (.slice ta.a2 ta.n2 ta.c2)) ∧ (w'.cell? ⟨bb, 0, none⟩ = some (.bool tb.s) ∧ w'.cell? ⟨bb, 1, none⟩ = some (.slice tb.a1 tb.n1 tb.c1) ∧ w'.cell? ⟨bb, 2, none⟩ = some (.slice tb.a2 tb.n2 tb.c2))) _ := unhide HCU _ YB
                obtain ⟨Wbun, hWy⟩ : ∃ W, ((wv.setCell ⟨bun, 0, none⟩ (.bool tun.s)).setCell ⟨bun, 1, none⟩ (.slice tun.a1 tun.n1 tun.c1)).setCell ⟨bun, 2, none⟩ (.slice tun.a2 tun.n2 tun.c2) = W := ⟨_, rfl⟩
                rw [hWy] at NB YB hCn
                have HX_bun := hide NB
                have HY_bun := hide YB
                clear J B10 r0 hC0 YB NB e10'
                refine wpHold_one (k := 9) (by kernel_rfl) rfl (fun K hK => ?_)
                (try simp only [List.getElem_toArray, List.getElem_cons_succ, List.getElem_cons_zero])
                go_simp
                refine hK.out _ _ hCn ?_
                clear hK K
                (try simp only [Act.put, List.setIfInBounds_toArray, List.set_cons_zero, List.set_cons_succ])
                refine wpHold_done (by kernel_rfl) ?_ _
                clear hCn l0 l1 l2 k0 k1 k2 hWy e10 bd0 hWx
                have HAe := hide ((unhide HX_ba_61).keep (unhide HY_bun))
                have HBe := hide ((unhide HX_bb_61).keep (unhide HY_bun))
                have HQe := hide ((unhide HQB).keep (unhide HY_bun))
                have HR1e := hide ((unhide HR1).below (unhide HY_bun))
                have HR2e := hide ((unhide HR2).below (unhide HY_bun))
                have HR3e := hide ((unhide HR3).below (unhide HY_bun))
                have HBBe := hide (below_step (unhide HB_61) (unhide HY_bun))
                have HEC := hide (ec_RS (unhide HRA) (unhide HRN) (show n ≤ 20 by omega) (unhide HH0) (unhide HFT))
                have HET := hide ((RS.div' (unhide HEC) (unhide HS1) (pos_num (Bth.spare_pos (unhide HFT)))).mono (show 2100 + 3 ≤ 2200 by omega))
                have HNE := hide ((RS.mul (unhide HRN) (unhide HEB1)).mono (show 1 + 1600 ≤ 1700 by omega))
                have HTA := hide ((RS.mul (unhide HET) (unhide HRA)).mono (show 2200 + 1 ≤ 2300 by omega))
                have HCE : Hid (∀ W, Below Wbun.heap.size Wbun W → (fun w' : World => (w'.cell? ⟨ba, 0, none⟩ = some (.bool ta.s) ∧ w'.cell? ⟨ba, 1, none⟩ = some (.slice ta.a1 ta.n1 ta.c1) ∧ w'.cell? ⟨ba, 2, none⟩ = some (.slice ta.a2 ta.n2 ta.c2)) ∧ (w'.cell? ⟨bb, 0, none⟩ = some (.bool tb.s) ∧ w'.cell? ⟨bb, 1, none⟩ = some (.slice tb.a1 tb.n1 tb.c1) ∧ w'.cell? ⟨bb, 2, none⟩ = some (.slice tb.a2 tb.n2 tb.c2)) ∧ (w'.cell? ⟨bun, 0, none⟩ = some (.bool tun.s) ∧ w'.cell? ⟨bun, 1, none⟩ = some (.slice tun.a1 tun.n1 tun.c1) ∧ w'.cell? ⟨bun, 2, none⟩ = some (.slice tun.a2 tun.n2 tun.c2)) ∧ (w'.cell? ⟨bq, 0, none⟩ = some (.bool t1.s) ∧ w'.cell? ⟨bq, 1, none⟩ = some (.slice t1.a1 t1.n1 t1.c1) ∧ w'.cell? ⟨bq, 2, none⟩ = some (.slice t1.a2 t1.n2 t1.c2)) ∧ (w'.cell? ⟨bq, 3, none⟩ = some (.bool t2.s) ∧ w'.cell? ⟨bq, 4, none⟩ = some (.slice t2.a1 t2.n1 t2.c1) ∧ w'.cell? ⟨bq, 5, none⟩ = some (.slice t2.a2 t2.n2 t2.c2)) ∧ (w'.cell? ⟨bq, 6, none⟩ = some (.bool t3.s) ∧ w'.cell? ⟨bq, 7, none⟩ = some (.slice t3.a1 t3.n1 t3.c1) ∧ w'.cell? ⟨bq, 8, none⟩ = some (.slice t3.a2 t3.n2 t3.c2))) W) := fun W hW => ⟨(unhide HAe).cells W hW, (unhide HBe).cells W hW, (unhide HX_bun).cells W hW, ((unhide HQe).keep hW).cells⟩
                have HTB : Hid (∀ W, Below Wbun.heap.size Wbun W → Tab W) := fun W hW => tab_below (unhide HTAB) (below_step (unhide HBBe) hW)
                have HF1 : Hid (∀ W (hW : Below Wbun.heap.size Wbun W), Calls Tryd.prog 10 #[.agg #[.bool t1.s, .slice t1.a1 t1.n1 t1.c1, .slice t1.a2 t1.n2 t1.c2], .agg #[.bool tun.s, .slice tun.a1 tun.n1 tun.c1, .slice tun.a2 tun.n2 tun.c2]] W fun e w' => ∃ v, e = .returned v ∧ RatIs w' v ((((n : Nat) : Int) : Rat) * Bth.eb a n) ∧ Below W.heap.size W w') := fun W hW => by
                  have h := mulR_any t1.val tun.val _ _ W ((unhide HR1e).below hW) ((unhide HX_bun).2.below hW) 2200 ((unhide HEC).mono (by omega)) ((unhide HU1).mono (by omega)) (by rw [KKe]; omega)
                  rw [Bth.ec_under (unhide HH0) (unhide HFT)] at h
                  exact h
                have HF2 : Hid (∀ W v (hW : Below Wbun.heap.size Wbun W) (hv : RatIs W v (((n : Nat) : Int) : Rat)), Calls Tryd.prog 10 #[v, .agg #[.bool tb.s, .slice tb.a1 tb.n1 tb.c1, .slice tb.a2 tb.n2 tb.c2]] W fun e w' => ∃ v, e = .returned v ∧ RatIs w' v ((((n : Nat) : Int) : Rat) * Bth.eb a n) ∧ Below W.heap.size W w') := fun W v hW hv => mulR_any v _ _ _ W hv ((unhide HBe).2.below hW) 1600 ((unhide HRN).mono (by omega)) (unhide HEB1) (by rw [KKe]; omega)
                have HF3 : Hid (∀ W v v' (hW : Below Wbun.heap.size Wbun W) (hv : RatIs W v ((((n : Nat) : Int) : Rat) * Bth.eb a n)) (hv' : RatIs W v' ((((n : Nat) : Int) : Rat) * Bth.eb a n)), Calls Tryd.prog 9 #[v, v'] W fun e w' => e = .returned (.bool true) ∧ Below W.heap.size W w') := fun W v v' hW hv hv' => like_any v v' _ W hv hv' 1700 (unhide HNE) (by rw [KKe]; omega) (unhide HTB W hW)
                have HF4 : Hid (∃ x : Int, 0 ≤ x ∧ x ≤ 1 ∧ ∀ W, Below Wbun.heap.size Wbun W → Calls Tryd.prog 17 #[.agg #[.bool t1.s, .slice t1.a1 t1.n1 t1.c1, .slice t1.a2 t1.n2 t1.c2], .agg #[.bool tb.s, .slice tb.a1 tb.n1 tb.c1, .slice tb.a2 tb.n2 tb.c2]] W fun e w' => e = .returned (.int .i64 x) ∧ Below W.heap.size W w') := ⟨cmpv (Bth.ec a n) (Bth.eb a n), (cmpv_ge (Bth.ec_ge (unhide HH0) (unhide HFT))).1, (cmpv_ge (Bth.ec_ge (unhide HH0) (unhide HFT))).2, fun W hW => cmpR_all t1.val tb.val _ _ W ((unhide HR1e).below hW) ((unhide HBe).2.below hW) 2200 ((unhide HEC).mono (by omega)) ((unhide HEB1).mono (by omega)) (by rw [KKe]; omega)⟩
                have HF5 : Hid (∀ W (hW : Below Wbun.heap.size Wbun W), Calls Tryd.prog 10 #[.agg #[.bool ta.s, .slice ta.a1 ta.n1 ta.c1, .slice ta.a2 ta.n2 ta.c2], .agg #[.bool t2.s, .slice t2.a1 t2.n1 t2.c1, .slice t2.a2 t2.n2 t2.c2]] W fun e w' => ∃ v, e = .returned v ∧ RatIs w' v (Bth.ec a n / ((((n : Nat) : Int) : Rat) - a) * a) ∧ Below W.heap.size W w') := fun W hW => by
                  have h := mulR_any ta.val t2.val _ _ W ((unhide HAe).2.below hW) ((unhide HR2e).below hW) 2200 ((unhide HRA).mono (by omega)) (unhide HET) (by rw [KKe]; omega)
                  rw [Rat.mul_comm a] at h
                  exact h
                have HF6 : Hid (∀ W v (hW : Below Wbun.heap.size Wbun W) (hv : RatIs W v (Bth.ec a n / ((((n : Nat) : Int) : Rat) - a) * a)), Calls Tryd.prog 9 #[.agg #[.bool t3.s, .slice t3.a1 t3.n1 t3.c1, .slice t3.a2 t3.n2 t3.c2], v] W fun e w' => e = .returned (.bool true) ∧ Below W.heap.size W w') := fun W v hW hv => like_any t3.val v _ W ((unhide HR3e).below hW) hv 2300 (unhide HTA) (by rw [KKe]; omega) (unhide HTB W hW)
                obtain ⟨fx, fx0, fx1, hfx⟩ := unhide HF4
                have HFX := hide hfx
                have dfx : decide (0 ≤ fx) = true := decide_eq_true fx0
                clear hfx HF4
                go_wp2_with fail
                refine wp_region_hold (fun w' : World => (w'.cell? ⟨ba, 0, none⟩ = some (.bool ta.s) ∧ w'.cell? ⟨ba, 1, none⟩ = some (.slice ta.a1 ta.n1 ta.c1) ∧ w'.cell? ⟨ba, 2, none⟩ = some (.slice ta.a2 ta.n2 ta.c2)) ∧ (w'.cell? ⟨bb, 0, none⟩ = some (.bool tb.s) ∧ w'.cell? ⟨bb, 1, none⟩ = some (.slice tb.a1 tb.n1 tb.c1) ∧ w'.cell? ⟨bb, 2, none⟩ = some (.slice tb.a2 tb.n2 tb.c2)) ∧ (w'.cell? ⟨bun, 0, none⟩ = some (.bool tun.s) ∧ w'.cell? ⟨bun, 1, none⟩ = some (.slice tun.a1 tun.n1 tun.c1) ∧ w'.cell? ⟨bun, 2, none⟩ = some (.slice tun.a2 tun.n2 tun.c2)) ∧ (w'.cell? ⟨bq, 0, none⟩ = some (.bool t1.s) ∧ w'.cell? ⟨bq, 1, none⟩ = some (.slice t1.a1 t1.n1 t1.c1) ∧ w'.cell? ⟨bq, 2, none⟩ = some (.slice t1.a2 t1.n2 t1.c2)) ∧ (w'.cell? ⟨bq, 3, none⟩ = some (.bool t2.s) ∧ w'.cell? ⟨bq, 4, none⟩ = some (.slice t2.a1 t2.n1 t2.c1) ∧ w'.cell? ⟨bq, 5, none⟩ = some (.slice t2.a2 t2.n2 t2.c2)) ∧ (w'.cell? ⟨bq, 6, none⟩ = some (.bool t3.s) ∧ w'.cell? ⟨bq, 7, none⟩ = some (.slice t3.a1 t3.n1 t3.c1) ∧ w'.cell? ⟨bq, 8, none⟩ = some (.slice t3.a2 t3.n2 t3.c2))) (by kernel_rfl) ?_
                have bd0 : Below Wbun.heap.size Wbun Wbun.drew := (Below.refl _ _).drew
                have hC0 : (fun w' : World => (w'.cell? ⟨ba, 0, none⟩ = some (.bool ta.s) ∧ w'.cell? ⟨ba, 1, none⟩ = some (.slice ta.a1 ta.n1 ta.c1) ∧ w'.cell? ⟨ba, 2, none⟩ = some (.slice ta.a2 ta.n2 ta.c2)) ∧ (w'.cell? ⟨bb, 0, none⟩ = some (.bool tb.s) ∧ w'.cell? ⟨bb, 1, none⟩ = some (.slice tb.a1 tb.n1 tb.c1) ∧ w'.cell? ⟨bb, 2, none⟩ = some (.slice tb.a2 tb.n2 tb.c2)) ∧ (w'.cell? ⟨bun, 0, none⟩ = some (.bool tun.s) ∧ w'.cell? ⟨bun, 1, none⟩ = some (.slice tun.a1 tun.n1 tun.c1) ∧ w'.cell? ⟨bun, 2, none⟩ = some (.slice tun.a2 tun.n2 tun.c2)) ∧ (w'.cell? ⟨bq, 0, none⟩ = some (.bool t1.s) ∧ w'.cell? ⟨bq, 1, none⟩ = some (.slice t1.a1 t1.n1 t1.c1) ∧ w'.cell? ⟨bq, 2, none⟩ = some (.slice t1.a2 t1.n2 t1.c2)) ∧ (w'.cell? ⟨bq, 3, none⟩ = some (.bool t2.s) ∧ w'.cell? ⟨bq, 4, none⟩ = some (.slice t2.a1 t2.n1 t2.c1) ∧ w'.cell? ⟨bq, 5, none⟩ = some (.slice t2.a2 t2.n2 t2.c2)) ∧ (w'.cell? ⟨bq, 6, none⟩ = some (.bool t3.s) ∧ w'.cell? ⟨bq, 7, none⟩ = some (.slice t3.a1 t3.n1 t3.c1) ∧ w'.cell? ⟨bq, 8, none⟩ = some (.slice t3.a2 t3.n2 t3.c2))) Wbun.drew := unhide HCE _ bd0
                refine wpHold_take (i := 0) (v := ?_) rfl (by kernel_rfl) (by kernel_rfl) (by kernel_rfl) (fun _ _ _ h => h) (Or.inl ⟨by rfl, ?_⟩) hC0 ?_
                rotate_left
                · intro w hSw; clear hSw; go_simp; (try with_reducible rfl)
                (try simp only [List.getElem_toArray, List.getElem_cons_succ, List.getElem_cons_zero])
                (try simp only [Act.put, List.setIfInBounds_toArray, List.set_cons_zero, List.set_cons_succ])
                refine wpHold_take (i := 1) (v := ?_) rfl (by kernel_rfl) (by kernel_rfl) (by kernel_rfl) (fun _ _ _ h => h) (Or.inl ⟨by rfl, ?_⟩) hC0 ?_
                rotate_left
                · intro w hSw; (try dsimp only at hSw); obtain ⟨⟨z0, z1, z2⟩, ⟨z3, z4, z5⟩, ⟨z6, z7, z8⟩, ⟨z9, z10, z11⟩, ⟨z12, z13, z14⟩, z15, z16, z17⟩ := hSw; go_simp; (try with_reducible rfl)
                (try simp only [List.getElem_toArray, List.getElem_cons_succ, List.getElem_cons_zero])
                (try simp only [Act.put, List.setIfInBounds_toArray, List.set_cons_zero, List.set_cons_succ])
                refine wpHold_take (i := 2) (v := ?_) rfl (by kernel_rfl) (by kernel_rfl) (by kernel_rfl) (fun _ _ _ h => h) (Or.inl ⟨by rfl, ?_⟩) hC0 ?_
                rotate_left
                · intro w hSw; (try dsimp only at hSw); obtain ⟨⟨z0, z1, z2⟩, ⟨z3, z4, z5⟩, ⟨z6, z7, z8⟩, ⟨z9, z10, z11⟩, ⟨z12, z13, z14⟩, z15, z16, z17⟩ := hSw; go_simp; (try with_reducible rfl)
                (try simp only [List.getElem_toArray, List.getElem_cons_succ, List.getElem_cons_zero])
                (try simp only [Act.put, List.setIfInBounds_toArray, List.set_cons_zero, List.set_cons_succ])
                refine wpHold_take (i := 4) (v := ?_) rfl (by kernel_rfl) (by kernel_rfl) (by kernel_rfl) (fun _ _ _ h => h) (Or.inl ⟨by rfl, ?_⟩) hC0 ?_
                rotate_left
                · intro w hSw; clear hSw; go_simp; (try with_reducible rfl)
                (try simp only [List.getElem_toArray, List.getElem_cons_succ, List.getElem_cons_zero])
                (try simp only [Act.put, List.setIfInBounds_toArray, List.set_cons_zero, List.set_cons_succ])
                refine wpHold_take (i := 6) (v := ?_) rfl (by kernel_rfl) (by kernel_rfl) (by kernel_rfl) (fun _ _ _ h => h) (Or.inl ⟨by rfl, ?_⟩) hC0 ?_
                rotate_left
                · intro w hSw; (try dsimp only at hSw); obtain ⟨⟨z0, z1, z2⟩, ⟨z3, z4, z5⟩, ⟨z6, z7, z8⟩, ⟨z9, z10, z11⟩, ⟨z12, z13, z14⟩, z15, z16, z17⟩ := hSw; go_simp; (try with_reducible rfl)
                (try simp only [List.getElem_toArray, List.getElem_cons_succ, List.getElem_cons_zero])
                (try simp only [Act.put, List.setIfInBounds_toArray, List.set_cons_zero, List.set_cons_succ])
                refine wpHold_one (k := 3) (by kernel_rfl) rfl (fun K hK => ?_)
                (try simp only [List.getElem_toArray, List.getElem_cons_succ, List.getElem_cons_zero])
                go_simp
                refine (unhide HF1 _ bd0).mono ?_
                rintro e xw_1 ⟨xv_1, rfl, hv_1, hb_1⟩
                have cc_1 := below_step bd0 hb_1
                have hC_1 : (fun w' : World => (w'.cell? ⟨ba, 0, none⟩ = some (.bool ta.s) ∧ w'.cell? ⟨ba, 1, none⟩ = some (.slice ta.a1 ta.n1 ta.c1) ∧ w'.cell? ⟨ba, 2, none⟩ = some (.slice ta.a2 ta.n2 ta.c2)) ∧ (w'.cell? ⟨bb, 0, none⟩ = some (.bool tb.s) ∧ w'.cell? ⟨bb, 1, none⟩ = some (.slice tb.a1 tb.n1 tb.c1) ∧ w'.cell? ⟨bb, 2, none⟩ = some (.slice tb.a2 tb.n2 tb.c2)) ∧ (w'.cell? ⟨bun, 0, none⟩ = some (.bool tun.s) ∧ w'.cell? ⟨bun, 1, none⟩ = some (.slice tun.a1 tun.n1 tun.c1) ∧ w'.cell? ⟨bun, 2, none⟩ = some (.slice tun.a2 tun.n2 tun.c2)) ∧ (w'.cell? ⟨bq, 0, none⟩ = some (.bool t1.s) ∧ w'.cell? ⟨bq, 1, none⟩ = some (.slice t1.a1 t1.n1 t1.c1) ∧ w'.cell? ⟨bq, 2, none⟩ = some (.slice t1.a2 t1.n2 t1.c2)) ∧ (w'.cell? ⟨bq, 3, none⟩ = some (.bool t2.s) ∧ w'.cell? ⟨bq, 4, none⟩ = some (.slice t2.a1 t2.n1 t2.c1) ∧ w'.cell? ⟨bq, 5, none⟩ = some (.slice t2.a2 t2.n2 t2.c2)) ∧ (w'.cell? ⟨bq, 6, none⟩ = some (.bool t3.s) ∧ w'.cell? ⟨bq, 7, none⟩ = some (.slice t3.a1 t3.n1 t3.c1) ∧ w'.cell? ⟨bq, 8, none⟩ = some (.slice t3.a2 t3.n2 t3.c2))) xw_1 := unhide HCE _ cc_1
                refine hK.out _ _ hC_1 ?_
                clear hK K
                (try simp only [Act.put, List.setIfInBounds_toArray, List.set_cons_zero, List.set_cons_succ])
                refine wpHold_one (k := 5) (by kernel_rfl) rfl (fun K hK => ?_)
                (try simp only [List.getElem_toArray, List.getElem_cons_succ, List.getElem_cons_zero])
                go_simp
                refine (unhide HWHc _).mono ?_
                rintro e xw_2 ⟨xv_2, rfl, hv_2, hb_2⟩
                have cc_2 := below_step cc_1 hb_2
                have hC_2 : (fun w' : World => (w'.cell? ⟨ba, 0, none⟩ = some (.bool ta.s) ∧ w'.cell? ⟨ba, 1, none⟩ = some (.slice ta.a1 ta.n1 ta.c1) ∧ w'.cell? ⟨ba, 2, none⟩ = some (.slice ta.a2 ta.n2 ta.c2)) ∧ (w'.cell? ⟨bb, 0, none⟩ = some (.bool tb.s) ∧ w'.cell? ⟨bb, 1, none⟩ = some (.slice tb.a1 tb.n1 tb.c1) ∧ w'.cell? ⟨bb, 2, none⟩ = some (.slice tb.a2 tb.n2 tb.c2)) ∧ (w'.cell? ⟨bun, 0, none⟩ = some (.bool tun.s) ∧ w'.cell? ⟨bun, 1, none⟩ = some (.slice tun.a1 tun.n1 tun.c1) ∧ w'.cell? ⟨bun, 2, none⟩ = some (.slice tun.a2 tun.n2 tun.c2)) ∧ (w'.cell? ⟨bq, 0, none⟩ = some (.bool t1.s) ∧ w'.cell? ⟨bq, 1, none⟩ = some (.slice t1.a1 t1.n1 t1.c1) ∧ w'.cell? ⟨bq, 2, none⟩ = some (.slice t1.a2 t1.n2 t1.c2)) ∧ (w'.cell? ⟨bq, 3, none⟩ = some (.bool t2.s) ∧ w'.cell? ⟨bq, 4, none⟩ = some (.slice t2.a1 t2.n1 t2.c1) ∧ w'.cell? ⟨bq, 5, none⟩ = some (.slice t2.a2 t2.n2 t2.c2)) ∧ (w'.cell? ⟨bq, 6, none⟩ = some (.bool t3.s) ∧ w'.cell? ⟨bq, 7, none⟩ = some (.slice t3.a1 t3.n1 t3.c1) ∧ w'.cell? ⟨bq, 8, none⟩ = some (.slice t3.a2 t3.n2 t3.c2))) xw_2 := unhide HCE _ cc_2
                refine hK.out _ _ hC_2 ?_
                clear hK K
                (try simp only [Act.put, List.setIfInBounds_toArray, List.set_cons_zero, List.set_cons_succ])
                refine wpHold_one (k := 7) (by kernel_rfl) rfl (fun K hK => ?_)
                (try simp only [List.getElem_toArray, List.getElem_cons_succ, List.getElem_cons_zero])
                go_simp
                refine (unhide HF2 _ _ cc_2 hv_2).mono ?_
                rintro e xw_3 ⟨xv_3, rfl, hv_3, hb_3⟩
                have cc_3 := below_step cc_2 hb_3
                have hC_3 : (fun w' : World => (w'.cell? ⟨ba, 0, none⟩ = some (.bool ta.s) ∧ w'.cell? ⟨ba, 1, none⟩ = some (.slice ta.a1 ta.n1 ta.c1) ∧ w'.cell? ⟨ba, 2, none⟩ = some (.slice ta.a2 ta.n2 ta.c2)) ∧ (w'.cell? ⟨bb, 0, none⟩ = some (.bool tb.s) ∧ w'.cell? ⟨bb, 1, none⟩ = some (.slice tb.a1 tb.n1 tb.c1) ∧ w'.cell? ⟨bb, 2, none⟩ = some (.slice tb.a2 tb.n2 tb.c2)) ∧ (w'.cell? ⟨bun, 0, none⟩ = some (.bool tun.s) ∧ w'.cell? ⟨bun, 1, none⟩ = some (.slice tun.a1 tun.n1 tun.c1) ∧ w'.cell? ⟨bun, 2, none⟩ = some (.slice tun.a2 tun.n2 tun.c2)) ∧ (w'.cell? ⟨bq, 0, none⟩ = some (.bool t1.s) ∧ w'.cell? ⟨bq, 1, none⟩ = some (.slice t1.a1 t1.n1 t1.c1) ∧ w'.cell? ⟨bq, 2, none⟩ = some (.slice t1.a2 t1.n2 t1.c2)) ∧ (w'.cell? ⟨bq, 3, none⟩ = some (.bool t2.s) ∧ w'.cell? ⟨bq, 4, none⟩ = some (.slice t2.a1 t2.n1 t2.c1) ∧ w'.cell? ⟨bq, 5, none⟩ = some (.slice t2.a2 t2.n2 t2.c2)) ∧ (w'.cell? ⟨bq, 6, none⟩ = some (.bool t3.s) ∧ w'.cell? ⟨bq, 7, none⟩ = some (.slice t3.a1 t3.n1 t3.c1) ∧ w'.cell? ⟨bq, 8, none⟩ = some (.slice t3.a2 t3.n2 t3.c2))) xw_3 := unhide HCE _ cc_3
                refine hK.out _ _ hC_3 ?_
                clear hK K
                (try simp only [Act.put, List.setIfInBounds_toArray, List.set_cons_zero, List.set_cons_succ])
                refine wpHold_one (k := 8) (by kernel_rfl) rfl (fun K hK => ?_)
                (try simp only [List.getElem_toArray, List.getElem_cons_succ, List.getElem_cons_zero])
                go_simp
                refine (unhide HF3 _ _ _ cc_3 ((hv_1.below hb_2).below hb_3) hv_3).mono ?_
                rintro e xw_4 ⟨rfl, hb_4⟩
                have cc_4 := below_step cc_3 hb_4
                have hC_4 : (fun w' : World => (w'.cell? ⟨ba, 0, none⟩ = some (.bool ta.s) ∧ w'.cell? ⟨ba, 1, none⟩ = some (.slice ta.a1 ta.n1 ta.c1) ∧ w'.cell? ⟨ba, 2, none⟩ = some (.slice ta.a2 ta.n2 ta.c2)) ∧ (w'.cell? ⟨bb, 0, none⟩ = some (.bool tb.s) ∧ w'.cell? ⟨bb, 1, none⟩ = some (.slice tb.a1 tb.n1 tb.c1) ∧ w'.cell? ⟨bb, 2, none⟩ = some (.slice tb.a2 tb.n2 tb.c2)) ∧ (w'.cell? ⟨bun, 0, none⟩ = some (.bool tun.s) ∧ w'.cell? ⟨bun, 1, none⟩ = some (.slice tun.a1 tun.n1 tun.c1) ∧ w'.cell? ⟨bun, 2, none⟩ = some (.slice tun.a2 tun.n2 tun.c2)) ∧ (w'.cell? ⟨bq, 0, none⟩ = some (.bool t1.s) ∧ w'.cell? ⟨bq, 1, none⟩ = some (.slice t1.a1 t1.n1 t1.c1) ∧ w'.cell? ⟨bq, 2, none⟩ = some (.slice t1.a2 t1.n2 t1.c2)) ∧ (w'.cell? ⟨bq, 3, none⟩ = some (.bool t2.s) ∧ w'.cell? ⟨bq, 4, none⟩ = some (.slice t2.a1 t2.n1 t2.c1) ∧ w'.cell? ⟨bq, 5, none⟩ = some (.slice t2.a2 t2.n2 t2.c2)) ∧ (w'.cell? ⟨bq, 6, none⟩ = some (.bool t3.s) ∧ w'.cell? ⟨bq, 7, none⟩ = some (.slice t3.a1 t3.n1 t3.c1) ∧ w'.cell? ⟨bq, 8, none⟩ = some (.slice t3.a2 t3.n2 t3.c2))) xw_4 := unhide HCE _ cc_4
                refine hK.out _ _ hC_4 ?_
                clear hK K
                (try simp only [Act.put, List.setIfInBounds_toArray, List.set_cons_zero, List.set_cons_succ])
                refine wpHold_take (i := 9) (v := ?_) rfl (by kernel_rfl) (by kernel_rfl) (by kernel_rfl) (fun _ _ _ h => h) (Or.inl ⟨by rfl, ?_⟩) hC_4 ?_
                rotate_left
                · intro w hSw; clear hSw; go_simp; (try with_reducible rfl)
                (try simp only [List.getElem_toArray, List.getElem_cons_succ, List.getElem_cons_zero])
                (try simp only [Act.put, List.setIfInBounds_toArray, List.set_cons_zero, List.set_cons_succ])
                refine wpHold_take (i := 10) (v := ?_) rfl (by kernel_rfl) (by kernel_rfl) (by kernel_rfl) (fun _ _ _ h => h) (Or.inl ⟨by rfl, ?_⟩) hC_4 ?_
                rotate_left
                · intro w hSw; clear hSw; go_simp; (try with_reducible rfl)
                (try simp only [List.getElem_toArray, List.getElem_cons_succ, List.getElem_cons_zero])
                (try simp only [Act.put, List.setIfInBounds_toArray, List.set_cons_zero, List.set_cons_succ])
                refine wpHold_take (i := 11) (v := ?_) rfl (by kernel_rfl) (by kernel_rfl) (by kernel_rfl) (fun _ _ _ h => h) (Or.inl ⟨by rfl, ?_⟩) hC_4 ?_
                rotate_left
                · intro w hSw; (try dsimp only at hSw); obtain ⟨⟨z0, z1, z2⟩, ⟨z3, z4, z5⟩, ⟨z6, z7, z8⟩, ⟨z9, z10, z11⟩, ⟨z12, z13, z14⟩, z15, z16, z17⟩ := hSw; go_simp; (try with_reducible rfl)
                (try simp only [List.getElem_toArray, List.getElem_cons_succ, List.getElem_cons_zero])
                (try simp only [Act.put, List.setIfInBounds_toArray, List.set_cons_zero, List.set_cons_succ])
                refine wpHold_take (i := 12) (v := ?_) rfl (by kernel_rfl) (by kernel_rfl) (by kernel_rfl) (fun _ _ _ h => h) (Or.inl ⟨by rfl, ?_⟩) hC_4 ?_
                rotate_left
                · intro w hSw; (try dsimp only at hSw); obtain ⟨⟨z0, z1, z2⟩, ⟨z3, z4, z5⟩, ⟨z6, z7, z8⟩, ⟨z9, z10, z11⟩, ⟨z12, z13, z14⟩, z15, z16, z17⟩ := hSw; go_simp; (try with_reducible rfl)
                (try simp only [List.getElem_toArray, List.getElem_cons_succ, List.getElem_cons_zero])
                (try simp only [Act.put, List.setIfInBounds_toArray, List.set_cons_zero, List.set_cons_succ])
                refine wpHold_one (k := 13) (by kernel_rfl) rfl (fun K hK => ?_)
                (try simp only [List.getElem_toArray, List.getElem_cons_succ, List.getElem_cons_zero])
                go_simp
                refine (unhide HFX _ cc_4).mono ?_
                rintro e xw_5 ⟨rfl, hb_5⟩
                have cc_5 := below_step cc_4 hb_5
                have hC_5 : (fun w' : World => (w'.cell? ⟨ba, 0, none⟩ = some (.bool ta.s) ∧ w'.cell? ⟨ba, 1, none⟩ = some (.slice ta.a1 ta.n1 ta.c1) ∧ w'.cell? ⟨ba, 2, none⟩ = some (.slice ta.a2 ta.n2 ta.c2)) ∧ (w'.cell? ⟨bb, 0, none⟩ = some (.bool tb.s) ∧ w'.cell? ⟨bb, 1, none⟩ = some (.slice tb.a1 tb.n1 tb.c1) ∧ w'.cell? ⟨bb, 2, none⟩ = some (.slice tb.a2 tb.n2 tb.c2)) ∧ (w'.cell? ⟨bun, 0, none⟩ = some (.bool tun.s) ∧ w'.cell? ⟨bun, 1, none⟩ = some (.slice tun.a1 tun.n1 tun.c1) ∧ w'.cell? ⟨bun, 2, none⟩ = some (.slice tun.a2 tun.n2 tun.c2)) ∧ (w'.cell? ⟨bq, 0, none⟩ = some (.bool t1.s) ∧ w'.cell? ⟨bq, 1, none⟩ = some (.slice t1.a1 t1.n1 t1.c1) ∧ w'.cell? ⟨bq, 2, none⟩ = some (.slice t1.a2 t1.n2 t1.c2)) ∧ (w'.cell? ⟨bq, 3, none⟩ = some (.bool t2.s) ∧ w'.cell? ⟨bq, 4, none⟩ = some (.slice t2.a1 t2.n1 t2.c1) ∧ w'.cell? ⟨bq, 5, none⟩ = some (.slice t2.a2 t2.n2 t2.c2)) ∧ (w'.cell? ⟨bq, 6, none⟩ = some (.bool t3.s) ∧ w'.cell? ⟨bq, 7, none⟩ = some (.slice t3.a1 t3.n1 t3.c1) ∧ w'.cell? ⟨bq, 8, none⟩ = some (.slice t3.a2 t3.n2 t3.c2))) xw_5 := unhide HCE _ cc_5
                refine hK.out _ _ hC_5 ?_
                clear hK K
                (try simp only [Act.put, List.setIfInBounds_toArray, List.set_cons_zero, List.set_cons_succ])
                refine wpHold_take (i := 14) (v := ?_) rfl (by kernel_rfl) (by kernel_rfl) (by kernel_rfl) (fun _ _ _ h => h) (Or.inl ⟨by rfl, ?_⟩) hC_5 ?_
                rotate_left
                · intro w hSw; clear hSw; go_simp; (try with_reducible rfl)
                (try simp only [List.getElem_toArray, List.getElem_cons_succ, List.getElem_cons_zero])
                (try simp only [Act.put, List.setIfInBounds_toArray, List.set_cons_zero, List.set_cons_succ])
                refine wpHold_take (i := 15) (v := ?_) rfl (by kernel_rfl) (by kernel_rfl) (by kernel_rfl) (fun _ _ _ h => h) (Or.inl ⟨by rfl, ?_⟩) hC_5 ?_
                rotate_left
                · intro w hSw; clear hSw; go_simp; (try with_reducible rfl)
                (try simp only [List.getElem_toArray, List.getElem_cons_succ, List.getElem_cons_zero])
                (try simp only [Act.put, List.setIfInBounds_toArray, List.set_cons_zero, List.set_cons_succ])
                refine wpHold_take (i := 16) (v := ?_) rfl (by kernel_rfl) (by kernel_rfl) (by kernel_rfl) (fun _ _ _ h => h) (Or.inl ⟨by rfl, ?_⟩) hC_5 ?_
                rotate_left
                · intro w hSw; clear hSw; go_simp; (try with_reducible rfl)
                (try simp only [List.getElem_toArray, List.getElem_cons_succ, List.getElem_cons_zero])
                (try simp only [Act.put, List.setIfInBounds_toArray, List.set_cons_zero, List.set_cons_succ])
                refine wpHold_take (i := 17) (v := ?_) rfl (by kernel_rfl) (by kernel_rfl) (by kernel_rfl) (fun _ _ _ h => h) (Or.inl ⟨by rfl, ?_⟩) hC_5 ?_
                rotate_left
                · intro w hSw; clear hSw; go_simp; (try with_reducible rfl)
                (try simp only [List.getElem_toArray, List.getElem_cons_succ, List.getElem_cons_zero])
                (try simp only [Act.put, List.setIfInBounds_toArray, List.set_cons_zero, List.set_cons_succ])
                refine wpHold_take (i := 18) (v := ?_) rfl (by kernel_rfl) (by kernel_rfl) (by kernel_rfl) (fun _ _ _ h => h) (Or.inl ⟨by rfl, ?_⟩) hC_5 ?_
                rotate_left
                · intro w hSw; (try dsimp only at hSw); obtain ⟨⟨z0, z1, z2⟩, ⟨z3, z4, z5⟩, ⟨z6, z7, z8⟩, ⟨z9, z10, z11⟩, ⟨z12, z13, z14⟩, z15, z16, z17⟩ := hSw; go_simp; (try with_reducible rfl)
                (try simp only [List.getElem_toArray, List.getElem_cons_succ, List.getElem_cons_zero])
                (try simp only [Act.put, List.setIfInBounds_toArray, List.set_cons_zero, List.set_cons_succ])
                refine wpHold_take (i := 19) (v := ?_) rfl (by kernel_rfl) (by kernel_rfl) (by kernel_rfl) (fun _ _ _ h => h) (Or.inl ⟨by rfl, ?_⟩) hC_5 ?_
                rotate_left
                · intro w hSw; (try dsimp only at hSw); obtain ⟨⟨z0, z1, z2⟩, ⟨z3, z4, z5⟩, ⟨z6, z7, z8⟩, ⟨z9, z10, z11⟩, ⟨z12, z13, z14⟩, z15, z16, z17⟩ := hSw; go_simp; (try with_reducible rfl)
                (try simp only [List.getElem_toArray, List.getElem_cons_succ, List.getElem_cons_zero])
                (try simp only [Act.put, List.setIfInBounds_toArray, List.set_cons_zero, List.set_cons_succ])
                refine wpHold_take (i := 20) (v := ?_) rfl (by kernel_rfl) (by kernel_rfl) (by kernel_rfl) (fun _ _ _ h => h) (Or.inl ⟨by rfl, ?_⟩) hC_5 ?_
                rotate_left
                · intro w hSw; clear hSw; go_simp; (try with_reducible rfl)
                (try simp only [List.getElem_toArray, List.getElem_cons_succ, List.getElem_cons_zero])
                (try simp only [Act.put, List.setIfInBounds_toArray, List.set_cons_zero, List.set_cons_succ])
                refine wpHold_take (i := 21) (v := ?_) rfl (by kernel_rfl) (by kernel_rfl) (by kernel_rfl) (fun _ _ _ h => h) (Or.inl ⟨by rfl, ?_⟩) hC_5 ?_
                rotate_left
                · intro w hSw; (try dsimp only at hSw); obtain ⟨⟨z0, z1, z2⟩, ⟨z3, z4, z5⟩, ⟨z6, z7, z8⟩, ⟨z9, z10, z11⟩, ⟨z12, z13, z14⟩, z15, z16, z17⟩ := hSw; go_simp; (try with_reducible rfl)
                (try simp only [List.getElem_toArray, List.getElem_cons_succ, List.getElem_cons_zero])
                (try simp only [Act.put, List.setIfInBounds_toArray, List.set_cons_zero, List.set_cons_succ])
                refine wpHold_one (k := 22) (by kernel_rfl) rfl (fun K hK => ?_)
                (try simp only [List.getElem_toArray, List.getElem_cons_succ, List.getElem_cons_zero])
                go_simp
                refine (unhide HF5 _ cc_5).mono ?_
                rintro e xw_6 ⟨xv_6, rfl, hv_6, hb_6⟩
                have cc_6 := below_step cc_5 hb_6
                have hC_6 : (fun w' : World => (w'.cell? ⟨ba, 0, none⟩ = some (.bool ta.s) ∧ w'.cell? ⟨ba, 1, none⟩ = some (.slice ta.a1 ta.n1 ta.c1) ∧ w'.cell? ⟨ba, 2, none⟩ = some (.slice ta.a2 ta.n2 ta.c2)) ∧ (w'.cell? ⟨bb, 0, none⟩ = some (.bool tb.s) ∧ w'.cell? ⟨bb, 1, none⟩ = some (.slice tb.a1 tb.n1 tb.c1) ∧ w'.cell? ⟨bb, 2, none⟩ = some (.slice tb.a2 tb.n2 tb.c2)) ∧ (w'.cell? ⟨bun, 0, none⟩ = some (.bool tun.s) ∧ w'.cell? ⟨bun, 1, none⟩ = some (.slice tun.a1 tun.n1 tun.c1) ∧ w'.cell? ⟨bun, 2, none⟩ = some (.slice tun.a2 tun.n2 tun.c2)) ∧ (w'.cell? ⟨bq, 0, none⟩ = some (.bool t1.s) ∧ w'.cell? ⟨bq, 1, none⟩ = some (.slice t1.a1 t1.n1 t1.c1) ∧ w'.cell? ⟨bq, 2, none⟩ = some (.slice t1.a2 t1.n2 t1.c2)) ∧ (w'.cell? ⟨bq, 3, none⟩ = some (.bool t2.s) ∧ w'.cell? ⟨bq, 4, none⟩ = some (.slice t2.a1 t2.n1 t2.c1) ∧ w'.cell? ⟨bq, 5, none⟩ = some (.slice t2.a2 t2.n2 t2.c2)) ∧ (w'.cell? ⟨bq, 6, none⟩ = some (.bool t3.s) ∧ w'.cell? ⟨bq, 7, none⟩ = some (.slice t3.a1 t3.n1 t3.c1) ∧ w'.cell? ⟨bq, 8, none⟩ = some (.slice t3.a2 t3.n2 t3.c2))) xw_6 := unhide HCE _ cc_6
                refine hK.out _ _ hC_6 ?_
                clear hK K
                (try simp only [Act.put, List.setIfInBounds_toArray, List.set_cons_zero, List.set_cons_succ])
                refine wpHold_one (k := 23) (by kernel_rfl) rfl (fun K hK => ?_)
                (try simp only [List.getElem_toArray, List.getElem_cons_succ, List.getElem_cons_zero])
                go_simp
                refine (unhide HF6 _ _ cc_6 hv_6).mono ?_
                rintro e xw_7 ⟨rfl, hb_7⟩
                have cc_7 := below_step cc_6 hb_7
                have hC_7 : (fun w' : World => (w'.cell? ⟨ba, 0, none⟩ = some (.bool ta.s) ∧ w'.cell? ⟨ba, 1, none⟩ = some (.slice ta.a1 ta.n1 ta.c1) ∧ w'.cell? ⟨ba, 2, none⟩ = some (.slice ta.a2 ta.n2 ta.c2)) ∧ (w'.cell? ⟨bb, 0, none⟩ = some (.bool tb.s) ∧ w'.cell? ⟨bb, 1, none⟩ = some (.slice tb.a1 tb.n1 tb.c1) ∧ w'.cell? ⟨bb, 2, none⟩ = some (.slice tb.a2 tb.n2 tb.c2)) ∧ (w'.cell? ⟨bun, 0, none⟩ = some (.bool tun.s) ∧ w'.cell? ⟨bun, 1, none⟩ = some (.slice tun.a1 tun.n1 tun.c1) ∧ w'.cell? ⟨bun, 2, none⟩ = some (.slice tun.a2 tun.n2 tun.c2)) ∧ (w'.cell? ⟨bq, 0, none⟩ = some (.bool t1.s) ∧ w'.cell? ⟨bq, 1, none⟩ = some (.slice t1.a1 t1.n1 t1.c1) ∧ w'.cell? ⟨bq, 2, none⟩ = some (.slice t1.a2 t1.n2 t1.c2)) ∧ (w'.cell? ⟨bq, 3, none⟩ = some (.bool t2.s) ∧ w'.cell? ⟨bq, 4, none⟩ = some (.slice t2.a1 t2.n1 t2.c1) ∧ w'.cell? ⟨bq, 5, none⟩ = some (.slice t2.a2 t2.n2 t2.c2)) ∧ (w'.cell? ⟨bq, 6, none⟩ = some (.bool t3.s) ∧ w'.cell? ⟨bq, 7, none⟩ = some (.slice t3.a1 t3.n1 t3.c1) ∧ w'.cell? ⟨bq, 8, none⟩ = some (.slice t3.a2 t3.n2 t3.c2))) xw_7 := unhide HCE _ cc_7
                refine hK.out _ _ hC_7 ?_
                clear hK K
                (try simp only [Act.put, List.setIfInBounds_toArray, List.set_cons_zero, List.set_cons_succ])
                refine wpHold_take (i := 24) (v := ?_) rfl (by kernel_rfl) (by kernel_rfl) (by kernel_rfl) (fun _ _ _ h => h) (Or.inl ⟨by rfl, ?_⟩) hC_7 ?_
                rotate_left
                · intro w hSw; clear hSw; go_simp; (try with_reducible rfl)
                (try simp only [List.getElem_toArray, List.getElem_cons_succ, List.getElem_cons_zero])
                (try simp only [Act.put, List.setIfInBounds_toArray, List.set_cons_zero, List.set_cons_succ])
                refine wpHold_one (k := 25) (by kernel_rfl) rfl (fun K hK => ?_)
                (try simp only [List.getElem_toArray, List.getElem_cons_succ, List.getElem_cons_zero])
                go_simp
                refine hK.out _ _ hC_7 ?_
                clear hK K
                (try simp only [Act.put, List.setIfInBounds_toArray, List.set_cons_zero, List.set_cons_succ])
                refine wpHold_done (by kernel_rfl) ?_ _
                have HFIN := hide (below_step (unhide HBBe) cc_7)
                clear hb_1 hC_1 cc_1 hb_2 hC_2 cc_2 hb_3 hC_3 cc_3 hb_4 hC_4 cc_4 hb_5 hC_5 cc_5 hb_6 hC_6 cc_6 hb_7 hC_7 cc_7 hv_1 hv_2 hv_3 hv_6 hC0 bd0 dfx
                go_wp2
                go_ret
                exact ⟨rfl, unhide HFIN⟩
            · have hov : (((n : Nat) : Int) : Rat) ≤ a := (Rat.not_lt.1 hfit)
              have HWA := hide (wait_over ta.val a n xw_4 (unhide HX_ba_t).2 (unhide HRA) (unhide HH0) hov (by omega))
              have HOV := hide hov
              simp only [Tri.val] at HWA
              clear hov
              go_wp2_with fail
              refine (unhide HWA).mono ?_
              rintro e w_q ⟨rfl, hbx⟩
              clear cba_0 cba_1 cba_2
              have hb_q := below_step hbx (alloc_below w_q (.cells #[.bool false, .slice none 0 0, .slice none 0 0, .bool false, .slice none 0 0, .slice none 0 0, .bool false, .slice none 0 0, .slice none 0 0] 48))
              have HB_61 := hide (below_step (unhide HB_t) hb_q)
              have HX_ba_61 := hide ((unhide HX_ba_t).keep hb_q)
              have HX_bb_61 := hide ((unhide HX_bb_t).keep hb_q)
              clear HB_t HX_ba_t HX_bb_t
              clear hbx hb_q HWA
              obtain ⟨cba_0, cba_1, cba_2⟩ := (unhide HX_ba_61).cells _ (Below.refl _ _)
              go_wp2_with fail
              obtain ⟨Wq, hWq⟩ : ∃ W, w_q.alloc (.cells #[.bool false, .slice none 0 0, .slice none 0 0, .bool false, .slice none 0 0, .slice none 0 0, .bool false, .slice none 0 0, .slice none 0 0] 48) = W := ⟨_, rfl⟩
              clear cba_0 cba_1 cba_2
              rw [hWq] at HB_61 HX_ba_61 HX_bb_61 ⊢
              clear hWq
              have HRN : Hid (RS (((n : Nat) : Int) : Rat) 1) := word_RS (show n ≤ 1000 by omega)
              have HCO : Hid (∀ W, Below Wq.heap.size Wq W → (fun w' : World => (w'.cell? ⟨ba, 0, none⟩ = some (.bool ta.s) ∧ w'.cell? ⟨ba, 1, none⟩ = some (.slice ta.a1 ta.n1 ta.c1) ∧ w'.cell? ⟨ba, 2, none⟩ = some (.slice ta.a2 ta.n2 ta.c2))) W) := fun W hW => (unhide HX_ba_61).cells W hW
              have HWHc : Hid (∀ W, Calls Tryd.prog 12 #[.int .i64 (n : Int)] W fun e w' => ∃ v, e = .returned v ∧ RatIs w' v (((n : Nat) : Int) : Rat) ∧ Below W.heap.size W w') := fun W => whole_any (n : Int) (by omega) (by omega) W
              have HF4 : Hid (∃ x : Int, 0 ≤ x ∧ x ≤ 1 ∧ ∀ W v (hW : Below Wq.heap.size Wq W) (hv : RatIs W v (((n : Nat) : Int) : Rat)), Calls Tryd.prog 17 #[.agg #[.bool ta.s, .slice ta.a1 ta.n1 ta.c1, .slice ta.a2 ta.n2 ta.c2], v] W fun e w' => e = .returned (.int .i64 x) ∧ Below W.heap.size W w') := ⟨cmpv a (((n : Nat) : Int) : Rat), (cmpv_ge (unhide HOV)).1, (cmpv_ge (unhide HOV)).2, fun W v hW hv => cmpR_all ta.val v _ _ W ((unhide HX_ba_61).2.below hW) hv 1 (unhide HRA) (unhide HRN) (by rw [KKe]; omega)⟩
              obtain ⟨fx, fx0, fx1, hfx⟩ := unhide HF4
              have HFX := hide hfx
              have dfx : decide (0 ≤ fx) = true := decide_eq_true fx0
              clear hfx HF4
              refine wp_region_hold (fun w' : World => (w'.cell? ⟨ba, 0, none⟩ = some (.bool ta.s) ∧ w'.cell? ⟨ba, 1, none⟩ = some (.slice ta.a1 ta.n1 ta.c1) ∧ w'.cell? ⟨ba, 2, none⟩ = some (.slice ta.a2 ta.n2 ta.c2))) (by kernel_rfl) ?_
              have bd0 : Below Wq.heap.size Wq Wq.drew := (Below.refl _ _).drew
              have hC0 : (fun w' : World => (w'.cell? ⟨ba, 0, none⟩ = some (.bool ta.s) ∧ w'.cell? ⟨ba, 1, none⟩ = some (.slice ta.a1 ta.n1 ta.c1) ∧ w'.cell? ⟨ba, 2, none⟩ = some (.slice ta.a2 ta.n2 ta.c2))) Wq.drew := unhide HCO _ bd0
              refine wpHold_take (i := 0) (v := ?_) rfl (by kernel_rfl) (by kernel_rfl) (by kernel_rfl) (fun _ _ _ h => h) (Or.inl ⟨by rfl, ?_⟩) hC0 ?_
              rotate_left
              · intro w hSw; (try dsimp only at hSw); obtain ⟨z0, z1, z2⟩ := hSw; go_simp; (try with_reducible rfl)
              (try simp only [List.getElem_toArray, List.getElem_cons_succ, List.getElem_cons_zero])
              (try simp only [Act.put, List.setIfInBounds_toArray, List.set_cons_zero, List.set_cons_succ])
              refine wpHold_take (i := 1) (v := ?_) rfl (by kernel_rfl) (by kernel_rfl) (by kernel_rfl) (fun _ _ _ h => h) (Or.inl ⟨by rfl, ?_⟩) hC0 ?_
              rotate_left
              · intro w hSw; clear hSw; go_simp; (try with_reducible rfl)
              (try simp only [List.getElem_toArray, List.getElem_cons_succ, List.getElem_cons_zero])
              (try simp only [Act.put, List.setIfInBounds_toArray, List.set_cons_zero, List.set_cons_succ])
              refine wpHold_one (k := 2) (by kernel_rfl) rfl (fun K hK => ?_)
              (try simp only [List.getElem_toArray, List.getElem_cons_succ, List.getElem_cons_zero])
              go_simp
              refine (unhide HWHc _).mono ?_
              rintro e xw_1 ⟨xv_1, rfl, hv_1, hb_1⟩
              have cc_1 := below_step bd0 hb_1
              have hC_1 : (fun w' : World => (w'.cell? ⟨ba, 0, none⟩ = some (.bool ta.s) ∧ w'.cell? ⟨ba, 1, none⟩ = some (.slice ta.a1 ta.n1 ta.c1) ∧ w'.cell? ⟨ba, 2, none⟩ = some (.slice ta.a2 ta.n2 ta.c2))) xw_1 := unhide HCO _ cc_1
              refine hK.out _ _ hC_1 ?_
              clear hK K
              (try simp only [Act.put, List.setIfInBounds_toArray, List.set_cons_zero, List.set_cons_succ])
              refine wpHold_one (k := 3) (by kernel_rfl) rfl (fun K hK => ?_)
              (try simp only [List.getElem_toArray, List.getElem_cons_succ, List.getElem_cons_zero])
              go_simp
              refine (unhide HFX _ _ cc_1 hv_1).mono ?_
              rintro e xw_2 ⟨rfl, hb_2⟩
              have cc_2 := below_step cc_1 hb_2
              have hC_2 : (fun w' : World => (w'.cell? ⟨ba, 0, none⟩ = some (.bool ta.s) ∧ w'.cell? ⟨ba, 1, none⟩ = some (.slice ta.a1 ta.n1 ta.c1) ∧ w'.cell? ⟨ba, 2, none⟩ = some (.slice ta.a2 ta.n2 ta.c2))) xw_2 := unhide HCO _ cc_2
              refine hK.out _ _ hC_2 ?_
              clear hK K
              (try simp only [Act.put, List.setIfInBounds_toArray, List.set_cons_zero, List.set_cons_succ])
              refine wpHold_take (i := 4) (v := ?_) rfl (by kernel_rfl) (by kernel_rfl) (by kernel_rfl) (fun _ _ _ h => h) (Or.inl ⟨by rfl, ?_⟩) hC_2 ?_
              rotate_left
              · intro w hSw; clear hSw; go_simp; (try with_reducible rfl)
              (try simp only [List.getElem_toArray, List.getElem_cons_succ, List.getElem_cons_zero])
              (try simp only [Act.put, List.setIfInBounds_toArray, List.set_cons_zero, List.set_cons_succ])
              refine wpHold_one (k := 5) (by kernel_rfl) rfl (fun K hK => ?_)
              (try simp only [List.getElem_toArray, List.getElem_cons_succ, List.getElem_cons_zero])
              go_simp
              refine hK.out _ _ hC_2 ?_
              clear hK K
              (try simp only [Act.put, List.setIfInBounds_toArray, List.set_cons_zero, List.set_cons_succ])
              refine wpHold_done (by kernel_rfl) ?_ _
              have HFIN := hide (below_step (unhide HB_61) cc_2)
              clear hb_1 hC_1 cc_1 hb_2 hC_2 cc_2 hv_1 hC0 bd0 dfx
              go_wp2
              go_ret
              exact ⟨rfl, unhide HFIN⟩
          · have HSG1 : Hid (∀ W, Below Wbc.heap.size Wbc W → Calls Tryd.prog 16 #[.agg #[.bool ta.s, .slice ta.a1 ta.n1 ta.c1, .slice ta.a2 ta.n2 ta.c2]] W fun e w' => e = .returned (.int .i64 0) ∧ Below W.heap.size W w') := fun W hW => by
              have h := unhide HSG W hW
              have h0 := Rat.num_nonneg.2 (unhide HH0)
              rw [show a.num = 0 by omega] at h
              exact h
            have HAP := hide hap
            clear hap
            go_wp2_with fail
            refine wp_region_hold (fun w' : World => (w'.cell? ⟨ba, 0, none⟩ = some (.bool ta.s) ∧ w'.cell? ⟨ba, 1, none⟩ = some (.slice ta.a1 ta.n1 ta.c1) ∧ w'.cell? ⟨ba, 2, none⟩ = some (.slice ta.a2 ta.n2 ta.c2)) ∧ (w'.cell? ⟨bb, 0, none⟩ = some (.bool tb.s) ∧ w'.cell? ⟨bb, 1, none⟩ = some (.slice tb.a1 tb.n1 tb.c1) ∧ w'.cell? ⟨bb, 2, none⟩ = some (.slice tb.a2 tb.n2 tb.c2)) ∧ (w'.cell? ⟨bc, 0, none⟩ = some (.bool tc.s) ∧ w'.cell? ⟨bc, 1, none⟩ = some (.slice tc.a1 tc.n1 tc.c1) ∧ w'.cell? ⟨bc, 2, none⟩ = some (.slice tc.a2 tc.n2 tc.c2)) ∧ (w'.cell? ⟨bp, op + n * 3, none⟩ = some (.bool tp.s) ∧ w'.cell? ⟨bp, op + n * 3 + 1, none⟩ = some (.slice tp.a1 tp.n1 tp.c1) ∧ w'.cell? ⟨bp, op + n * 3 + 2, none⟩ = some (.slice tp.a2 tp.n2 tp.c2))) (by kernel_rfl) ?_
            have bd0 : Below Wbc.heap.size Wbc Wbc.drew := (Below.refl _ _).drew
            have hC0 : (fun w' : World => (w'.cell? ⟨ba, 0, none⟩ = some (.bool ta.s) ∧ w'.cell? ⟨ba, 1, none⟩ = some (.slice ta.a1 ta.n1 ta.c1) ∧ w'.cell? ⟨ba, 2, none⟩ = some (.slice ta.a2 ta.n2 ta.c2)) ∧ (w'.cell? ⟨bb, 0, none⟩ = some (.bool tb.s) ∧ w'.cell? ⟨bb, 1, none⟩ = some (.slice tb.a1 tb.n1 tb.c1) ∧ w'.cell? ⟨bb, 2, none⟩ = some (.slice tb.a2 tb.n2 tb.c2)) ∧ (w'.cell? ⟨bc, 0, none⟩ = some (.bool tc.s) ∧ w'.cell? ⟨bc, 1, none⟩ = some (.slice tc.a1 tc.n1 tc.c1) ∧ w'.cell? ⟨bc, 2, none⟩ = some (.slice tc.a2 tc.n2 tc.c2)) ∧ (w'.cell? ⟨bp, op + n * 3, none⟩ = some (.bool tp.s) ∧ w'.cell? ⟨bp, op + n * 3 + 1, none⟩ = some (.slice tp.a1 tp.n1 tp.c1) ∧ w'.cell? ⟨bp, op + n * 3 + 2, none⟩ = some (.slice tp.a2 tp.n2 tp.c2))) Wbc.drew := unhide HCC _ bd0
            refine wpHold_take (i := 0) (v := ?_) rfl (by kernel_rfl) (by kernel_rfl) (by kernel_rfl) (fun _ _ _ h => h) (Or.inl ⟨by rfl, ?_⟩) hC0 ?_
            rotate_left
            · intro w hSw; clear hSw; go_simp; (try with_reducible rfl)
            (try simp only [List.getElem_toArray, List.getElem_cons_succ, List.getElem_cons_zero])
            (try simp only [Act.put, List.setIfInBounds_toArray, List.set_cons_zero, List.set_cons_succ])
            refine wpHold_take (i := 1) (v := ?_) rfl (by kernel_rfl) (by kernel_rfl) (by kernel_rfl) (fun _ _ _ h => h) (Or.inl ⟨by rfl, ?_⟩) hC0 ?_
            rotate_left
            · intro w hSw; clear hSw; go_simp; (try with_reducible rfl)
            (try simp only [List.getElem_toArray, List.getElem_cons_succ, List.getElem_cons_zero])
            (try simp only [Act.put, List.setIfInBounds_toArray, List.set_cons_zero, List.set_cons_succ])
            refine wpHold_take (i := 2) (v := ?_) rfl (by kernel_rfl) (by kernel_rfl) (by kernel_rfl) (fun _ _ _ h => h) (Or.inl ⟨by rfl, ?_⟩) hC0 ?_
            rotate_left
            · intro w hSw; clear hSw; go_simp; (try with_reducible rfl)
            (try simp only [List.getElem_toArray, List.getElem_cons_succ, List.getElem_cons_zero])
            (try simp only [Act.put, List.setIfInBounds_toArray, List.set_cons_zero, List.set_cons_succ])
            refine wpHold_take (i := 3) (v := ?_) rfl (by kernel_rfl) (by kernel_rfl) (by kernel_rfl) (fun _ _ _ h => h) (Or.inl ⟨by rfl, ?_⟩) hC0 ?_
            rotate_left
            · intro w hSw; clear hSw; go_simp; (try with_reducible rfl)
            (try simp only [List.getElem_toArray, List.getElem_cons_succ, List.getElem_cons_zero])
            (try simp only [Act.put, List.setIfInBounds_toArray, List.set_cons_zero, List.set_cons_succ])
            refine wpHold_take (i := 4) (v := ?_) rfl (by kernel_rfl) (by kernel_rfl) (by kernel_rfl) (fun _ _ _ h => h) (Or.inl ⟨by rfl, ?_⟩) hC0 ?_
            rotate_left
            · intro w hSw; clear hSw; go_simp; (try with_reducible rfl)
            (try simp only [List.getElem_toArray, List.getElem_cons_succ, List.getElem_cons_zero])
            (try simp only [Act.put, List.setIfInBounds_toArray, List.set_cons_zero, List.set_cons_succ])
            refine wpHold_take (i := 5) (v := ?_) rfl (by kernel_rfl) (by kernel_rfl) (by kernel_rfl) (fun _ _ _ h => h) (Or.inl ⟨by rfl, ?_⟩) hC0 ?_
            rotate_left
            · intro w hSw; clear hSw; go_simp; (try with_reducible rfl)
            (try simp only [List.getElem_toArray, List.getElem_cons_succ, List.getElem_cons_zero])
            (try simp only [Act.put, List.setIfInBounds_toArray, List.set_cons_zero, List.set_cons_succ])
            refine wpHold_take (i := 6) (v := ?_) rfl (by kernel_rfl) (by kernel_rfl) (by kernel_rfl) (fun _ _ _ h => h) (Or.inl ⟨by rfl, ?_⟩) hC0 ?_
            rotate_left
            · intro w hSw; clear hSw; go_simp; (try with_reducible rfl)
            (try simp only [List.getElem_toArray, List.getElem_cons_succ, List.getElem_cons_zero])
            (try simp only [Act.put, List.setIfInBounds_toArray, List.set_cons_zero, List.set_cons_succ])
            refine wpHold_take (i := 7) (v := ?_) rfl (by kernel_rfl) (by kernel_rfl) (by kernel_rfl) (fun _ _ _ h => h) (Or.inl ⟨by rfl, ?_⟩) hC0 ?_
            rotate_left
            · intro w hSw; clear hSw; go_simp; (try with_reducible rfl)
            (try simp only [List.getElem_toArray, List.getElem_cons_succ, List.getElem_cons_zero])
            (try simp only [Act.put, List.setIfInBounds_toArray, List.set_cons_zero, List.set_cons_succ])
            refine wpHold_take (i := 8) (v := ?_) rfl (by kernel_rfl) (by kernel_rfl) (by kernel_rfl) (fun _ _ _ h => h) (Or.inl ⟨by rfl, ?_⟩) hC0 ?_
            rotate_left
            · intro w hSw; clear hSw; go_simp; (try with_reducible rfl)
            (try simp only [List.getElem_toArray, List.getElem_cons_succ, List.getElem_cons_zero])
            (try simp only [Act.put, List.setIfInBounds_toArray, List.set_cons_zero, List.set_cons_succ])
            refine wpHold_take (i := 9) (v := ?_) rfl (by kernel_rfl) (by kernel_rfl) (by kernel_rfl) (fun _ _ _ h => h) (Or.inl ⟨by rfl, ?_⟩) hC0 ?_
            rotate_left
            · intro w hSw; clear hSw; go_simp; (try with_reducible rfl)
            (try simp only [List.getElem_toArray, List.getElem_cons_succ, List.getElem_cons_zero])
            (try simp only [Act.put, List.setIfInBounds_toArray, List.set_cons_zero, List.set_cons_succ])
            refine wpHold_take (i := 10) (v := ?_) rfl (by kernel_rfl) (by kernel_rfl) (by kernel_rfl) (fun _ _ _ h => h) (Or.inl ⟨by rfl, ?_⟩) hC0 ?_
            rotate_left
            · intro w hSw; clear hSw; go_simp; (try with_reducible rfl)
            (try simp only [List.getElem_toArray, List.getElem_cons_succ, List.getElem_cons_zero])
            (try simp only [Act.put, List.setIfInBounds_toArray, List.set_cons_zero, List.set_cons_succ])
            refine wpHold_take (i := 11) (v := ?_) rfl (by kernel_rfl) (by kernel_rfl) (by kernel_rfl) (fun _ _ _ h => h) (Or.inl ⟨by rfl, ?_⟩) hC0 ?_
            rotate_left
            · intro w hSw; clear hSw; go_simp; (try with_reducible rfl)
            (try simp only [List.getElem_toArray, List.getElem_cons_succ, List.getElem_cons_zero])
            (try simp only [Act.put, List.setIfInBounds_toArray, List.set_cons_zero, List.set_cons_succ])
            refine wpHold_take (i := 12) (v := ?_) rfl (by kernel_rfl) (by kernel_rfl) (by kernel_rfl) (fun _ _ _ h => h) (Or.inl ⟨by rfl, ?_⟩) hC0 ?_
            rotate_left
            · intro w hSw; clear hSw; go_simp; (try with_reducible rfl)
            (try simp only [List.getElem_toArray, List.getElem_cons_succ, List.getElem_cons_zero])
            (try simp only [Act.put, List.setIfInBounds_toArray, List.set_cons_zero, List.set_cons_succ])
            refine wpHold_take (i := 13) (v := ?_) rfl (by kernel_rfl) (by kernel_rfl) (by kernel_rfl) (fun _ _ _ h => h) (Or.inl ⟨by rfl, ?_⟩) hC0 ?_
            rotate_left
            · intro w hSw; clear hSw; go_simp; (try with_reducible rfl)
            (try simp only [List.getElem_toArray, List.getElem_cons_succ, List.getElem_cons_zero])
            (try simp only [Act.put, List.setIfInBounds_toArray, List.set_cons_zero, List.set_cons_succ])
            refine wpHold_take (i := 14) (v := ?_) rfl (by kernel_rfl) (by kernel_rfl) (by kernel_rfl) (fun _ _ _ h => h) (Or.inl ⟨by rfl, ?_⟩) hC0 ?_
            rotate_left
            · intro w hSw; clear hSw; go_simp; (try with_reducible rfl)
            (try simp only [List.getElem_toArray, List.getElem_cons_succ, List.getElem_cons_zero])
            (try simp only [Act.put, List.setIfInBounds_toArray, List.set_cons_zero, List.set_cons_succ])
            refine wpHold_take (i := 15) (v := ?_) rfl (by kernel_rfl) (by kernel_rfl) (by kernel_rfl) (fun _ _ _ h => h) (Or.inl ⟨by rfl, ?_⟩) hC0 ?_
            rotate_left
            · intro w hSw; clear hSw; go_simp; (try with_reducible rfl)
            (try simp only [List.getElem_toArray, List.getElem_cons_succ, List.getElem_cons_zero])
            (try simp only [Act.put, List.setIfInBounds_toArray, List.set_cons_zero, List.set_cons_succ])
            refine wpHold_take (i := 16) (v := ?_) rfl (by kernel_rfl) (by kernel_rfl) (by kernel_rfl) (fun _ _ _ h => h) (Or.inl ⟨by rfl, ?_⟩) hC0 ?_
            rotate_left
            · intro w hSw; clear hSw; go_simp; (try with_reducible rfl)
            (try simp only [List.getElem_toArray, List.getElem_cons_succ, List.getElem_cons_zero])
            (try simp only [Act.put, List.setIfInBounds_toArray, List.set_cons_zero, List.set_cons_succ])
            refine wpHold_take (i := 17) (v := ?_) rfl (by kernel_rfl) (by kernel_rfl) (by kernel_rfl) (fun _ _ _ h => h) (Or.inl ⟨by rfl, ?_⟩) hC0 ?_
            rotate_left
            · intro w hSw; (try dsimp only at hSw); obtain ⟨⟨z0, z1, z2⟩, ⟨z3, z4, z5⟩, ⟨z6, z7, z8⟩, z9, z10, z11⟩ := hSw; go_simp; (try with_reducible rfl)
            (try simp only [List.getElem_toArray, List.getElem_cons_succ, List.getElem_cons_zero])
            (try simp only [Act.put, List.setIfInBounds_toArray, List.set_cons_zero, List.set_cons_succ])
            refine wpHold_take (i := 18) (v := ?_) rfl (by kernel_rfl) (by kernel_rfl) (by kernel_rfl) (fun _ _ _ h => h) (Or.inl ⟨by rfl, ?_⟩) hC0 ?_
            rotate_left
            · intro w hSw; (try dsimp only at hSw); obtain ⟨⟨z0, z1, z2⟩, ⟨z3, z4, z5⟩, ⟨z6, z7, z8⟩, z9, z10, z11⟩ := hSw; go_simp; (try with_reducible rfl)
            (try simp only [List.getElem_toArray, List.getElem_cons_succ, List.getElem_cons_zero])
            (try simp only [Act.put, List.setIfInBounds_toArray, List.set_cons_zero, List.set_cons_succ])
            refine wpHold_one (k := 19) (by kernel_rfl) rfl (fun K hK => ?_)
            (try simp only [List.getElem_toArray, List.getElem_cons_succ, List.getElem_cons_zero])
            go_simp
            refine (unhide HLK _ bd0).mono ?_
            rintro e xw_1 ⟨rfl, hb_1⟩
            have cc_1 := below_step bd0 hb_1
            have hC_1 : (fun w' : World => (w'.cell? ⟨ba, 0, none⟩ = some (.bool ta.s) ∧ w'.cell? ⟨ba, 1, none⟩ = some (.slice ta.a1 ta.n1 ta.c1) ∧ w'.cell? ⟨ba, 2, none⟩ = some (.slice ta.a2 ta.n2 ta.c2)) ∧ (w'.cell? ⟨bb, 0, none⟩ = some (.bool tb.s) ∧ w'.cell? ⟨bb, 1, none⟩ = some (.slice tb.a1 tb.n1 tb.c1) ∧ w'.cell? ⟨bb, 2, none⟩ = some (.slice tb.a2 tb.n2 tb.c2)) ∧ (w'.cell? ⟨bc, 0, none⟩ = some (.bool tc.s) ∧ w'.cell? ⟨bc, 1, none⟩ = some (.slice tc.a1 tc.n1 tc.c1) ∧ w'.cell? ⟨bc, 2, none⟩ = some (.slice tc.a2 tc.n2 tc.c2)) ∧ (w'.cell? ⟨bp, op + n * 3, none⟩ = some (.bool tp.s) ∧ w'.cell? ⟨bp, op + n * 3 + 1, none⟩ = some (.slice tp.a1 tp.n1 tp.c1) ∧ w'.cell? ⟨bp, op + n * 3 + 2, none⟩ = some (.slice tp.a2 tp.n2 tp.c2))) xw_1 := unhide HCC _ cc_1
            refine hK.out _ _ hC_1 ?_
            clear hK K
            (try simp only [Act.put, List.setIfInBounds_toArray, List.set_cons_zero, List.set_cons_succ])
            refine wpHold_take (i := 20) (v := ?_) rfl (by kernel_rfl) (by kernel_rfl) (by kernel_rfl) (fun _ _ _ h => h) (Or.inl ⟨by rfl, ?_⟩) hC_1 ?_
            rotate_left
            · intro w hSw; clear hSw; go_simp; (try with_reducible rfl)
            (try simp only [List.getElem_toArray, List.getElem_cons_succ, List.getElem_cons_zero])
            (try simp only [Act.put, List.setIfInBounds_toArray, List.set_cons_zero, List.set_cons_succ])
            refine wpHold_take (i := 21) (v := ?_) rfl (by kernel_rfl) (by kernel_rfl) (by kernel_rfl) (fun _ _ _ h => h) (Or.inl ⟨by rfl, ?_⟩) hC_1 ?_
            rotate_left
            · intro w hSw; clear hSw; go_simp; (try with_reducible rfl)
            (try simp only [List.getElem_toArray, List.getElem_cons_succ, List.getElem_cons_zero])
            (try simp only [Act.put, List.setIfInBounds_toArray, List.set_cons_zero, List.set_cons_succ])
            refine wpHold_take (i := 22) (v := ?_) rfl (by kernel_rfl) (by kernel_rfl) (by kernel_rfl) (fun _ _ _ h => h) (Or.inl ⟨by rfl, ?_⟩) hC_1 ?_
            rotate_left
            · intro w hSw; clear hSw; go_simp; (try with_reducible rfl)
            (try simp only [List.getElem_toArray, List.getElem_cons_succ, List.getElem_cons_zero])
            (try simp only [Act.put, List.setIfInBounds_toArray, List.set_cons_zero, List.set_cons_succ])
            refine wpHold_take (i := 23) (v := ?_) rfl (by kernel_rfl) (by kernel_rfl) (by kernel_rfl) (fun _ _ _ h => h) (Or.inl ⟨by rfl, ?_⟩) hC_1 ?_
            rotate_left
            · intro w hSw; (try dsimp only at hSw); obtain ⟨⟨z0, z1, z2⟩, ⟨z3, z4, z5⟩, ⟨z6, z7, z8⟩, z9, z10, z11⟩ := hSw; go_simp; (try with_reducible rfl)
            (try simp only [List.getElem_toArray, List.getElem_cons_succ, List.getElem_cons_zero])
            (try simp only [Act.put, List.setIfInBounds_toArray, List.set_cons_zero, List.set_cons_succ])
            refine wpHold_take (i := 24) (v := ?_) rfl (by kernel_rfl) (by kernel_rfl) (by kernel_rfl) (fun _ _ _ h => h) (Or.inl ⟨by rfl, ?_⟩) hC_1 ?_
            rotate_left
            · intro w hSw; (try dsimp only at hSw); obtain ⟨⟨z0, z1, z2⟩, ⟨z3, z4, z5⟩, ⟨z6, z7, z8⟩, z9, z10, z11⟩ := hSw; go_simp; (try with_reducible rfl)
            (try simp only [List.getElem_toArray, List.getElem_cons_succ, List.getElem_cons_zero])
            (try simp only [Act.put, List.setIfInBounds_toArray, List.set_cons_zero, List.set_cons_succ])
            refine wpHold_one (k := 25) (by kernel_rfl) rfl (fun K hK => ?_)
            (try simp only [List.getElem_toArray, List.getElem_cons_succ, List.getElem_cons_zero])
            go_simp
            refine (unhide HCX _ cc_1).mono ?_
            rintro e xw_2 ⟨rfl, hb_2⟩
            have cc_2 := below_step cc_1 hb_2
            have hC_2 : (fun w' : World => (w'.cell? ⟨ba, 0, none⟩ = some (.bool ta.s) ∧ w'.cell? ⟨ba, 1, none⟩ = some (.slice ta.a1 ta.n1 ta.c1) ∧ w'.cell? ⟨ba, 2, none⟩ = some (.slice ta.a2 ta.n2 ta.c2)) ∧ (w'.cell? ⟨bb, 0, none⟩ = some (.bool tb.s) ∧ w'.cell? ⟨bb, 1, none⟩ = some (.slice tb.a1 tb.n1 tb.c1) ∧ w'.cell? ⟨bb, 2, none⟩ = some (.slice tb.a2 tb.n2 tb.c2)) ∧ (w'.cell? ⟨bc, 0, none⟩ = some (.bool tc.s) ∧ w'.cell? ⟨bc, 1, none⟩ = some (.slice tc.a1 tc.n1 tc.c1) ∧ w'.cell? ⟨bc, 2, none⟩ = some (.slice tc.a2 tc.n2 tc.c2)) ∧ (w'.cell? ⟨bp, op + n * 3, none⟩ = some (.bool tp.s) ∧ w'.cell? ⟨bp, op + n * 3 + 1, none⟩ = some (.slice tp.a1 tp.n1 tp.c1) ∧ w'.cell? ⟨bp, op + n * 3 + 2, none⟩ = some (.slice tp.a2 tp.n2 tp.c2))) xw_2 := unhide HCC _ cc_2
            refine hK.out _ _ hC_2 ?_
            clear hK K
            (try simp only [Act.put, List.setIfInBounds_toArray, List.set_cons_zero, List.set_cons_succ])
            refine wpHold_take (i := 26) (v := ?_) rfl (by kernel_rfl) (by kernel_rfl) (by kernel_rfl) (fun _ _ _ h => h) (Or.inl ⟨by rfl, ?_⟩) hC_2 ?_
            rotate_left
            · intro w hSw; clear hSw; go_simp; (try with_reducible rfl)
            (try simp only [List.getElem_toArray, List.getElem_cons_succ, List.getElem_cons_zero])
            (try simp only [Act.put, List.setIfInBounds_toArray, List.set_cons_zero, List.set_cons_succ])
            refine wpHold_take (i := 27) (v := ?_) rfl (by kernel_rfl) (by kernel_rfl) (by kernel_rfl) (fun _ _ _ h => h) (Or.inl ⟨by rfl, ?_⟩) hC_2 ?_
            rotate_left
            · intro w hSw; clear hSw; go_simp; (try with_reducible rfl)
            (try simp only [List.getElem_toArray, List.getElem_cons_succ, List.getElem_cons_zero])
            (try simp only [Act.put, List.setIfInBounds_toArray, List.set_cons_zero, List.set_cons_succ])
            refine wpHold_take (i := 28) (v := ?_) rfl (by kernel_rfl) (by kernel_rfl) (by kernel_rfl) (fun _ _ _ h => h) (Or.inl ⟨by rfl, ?_⟩) hC_2 ?_
            rotate_left
            · intro w hSw; clear hSw; go_simp; (try with_reducible rfl)
            (try simp only [List.getElem_toArray, List.getElem_cons_succ, List.getElem_cons_zero])
            (try simp only [Act.put, List.setIfInBounds_toArray, List.set_cons_zero, List.set_cons_succ])
            refine wpHold_take (i := 29) (v := ?_) rfl (by kernel_rfl) (by kernel_rfl) (by kernel_rfl) (fun _ _ _ h => h) (Or.inl ⟨by rfl, ?_⟩) hC_2 ?_
            rotate_left
            · intro w hSw; clear hSw; go_simp; (try with_reducible rfl)
            (try simp only [List.getElem_toArray, List.getElem_cons_succ, List.getElem_cons_zero])
            (try simp only [Act.put, List.setIfInBounds_toArray, List.set_cons_zero, List.set_cons_succ])
            refine wpHold_take (i := 30) (v := ?_) rfl (by kernel_rfl) (by kernel_rfl) (by kernel_rfl) (fun _ _ _ h => h) (Or.inl ⟨by rfl, ?_⟩) hC_2 ?_
            rotate_left
            · intro w hSw; clear hSw; go_simp; (try with_reducible rfl)
            (try simp only [List.getElem_toArray, List.getElem_cons_succ, List.getElem_cons_zero])
            (try simp only [Act.put, List.setIfInBounds_toArray, List.set_cons_zero, List.set_cons_succ])
            refine wpHold_take (i := 31) (v := ?_) rfl (by kernel_rfl) (by kernel_rfl) (by kernel_rfl) (fun _ _ _ h => h) (Or.inl ⟨by rfl, ?_⟩) hC_2 ?_
            rotate_left
            · intro w hSw; clear hSw; go_simp; (try with_reducible rfl)
            (try simp only [List.getElem_toArray, List.getElem_cons_succ, List.getElem_cons_zero])
            (try simp only [Act.put, List.setIfInBounds_toArray, List.set_cons_zero, List.set_cons_succ])
            refine wpHold_take (i := 32) (v := ?_) rfl (by kernel_rfl) (by kernel_rfl) (by kernel_rfl) (fun _ _ _ h => h) (Or.inl ⟨by rfl, ?_⟩) hC_2 ?_
            rotate_left
            · intro w hSw; (try dsimp only at hSw); obtain ⟨⟨z0, z1, z2⟩, ⟨z3, z4, z5⟩, ⟨z6, z7, z8⟩, z9, z10, z11⟩ := hSw; go_simp; (try with_reducible rfl)
            (try simp only [List.getElem_toArray, List.getElem_cons_succ, List.getElem_cons_zero])
            (try simp only [Act.put, List.setIfInBounds_toArray, List.set_cons_zero, List.set_cons_succ])
            refine wpHold_one (k := 33) (by kernel_rfl) rfl (fun K hK => ?_)
            (try simp only [List.getElem_toArray, List.getElem_cons_succ, List.getElem_cons_zero])
            go_simp
            refine (unhide HSG1 _ cc_2).mono ?_
            rintro e xw_3 ⟨rfl, hb_3⟩
            have cc_3 := below_step cc_2 hb_3
            have hC_3 : (fun w' : World => (w'.cell? ⟨ba, 0, none⟩ = some (.bool ta.s) ∧ w'.cell? ⟨ba, 1, none⟩ = some (.slice ta.a1 ta.n1 ta.c1) ∧ w'.cell? ⟨ba, 2, none⟩ = some (.slice ta.a2 ta.n2 ta.c2)) ∧ (w'.cell? ⟨bb, 0, none⟩ = some (.bool tb.s) ∧ w'.cell? ⟨bb, 1, none⟩ = some (.slice tb.a1 tb.n1 tb.c1) ∧ w'.cell? ⟨bb, 2, none⟩ = some (.slice tb.a2 tb.n2 tb.c2)) ∧ (w'.cell? ⟨bc, 0, none⟩ = some (.bool tc.s) ∧ w'.cell? ⟨bc, 1, none⟩ = some (.slice tc.a1 tc.n1 tc.c1) ∧ w'.cell? ⟨bc, 2, none⟩ = some (.slice tc.a2 tc.n2 tc.c2)) ∧ (w'.cell? ⟨bp, op + n * 3, none⟩ = some (.bool tp.s) ∧ w'.cell? ⟨bp, op + n * 3 + 1, none⟩ = some (.slice tp.a1 tp.n1 tp.c1) ∧ w'.cell? ⟨bp, op + n * 3 + 2, none⟩ = some (.slice tp.a2 tp.n2 tp.c2))) xw_3 := unhide HCC _ cc_3
            refine hK.out _ _ hC_3 ?_
            clear hK K
            (try simp only [Act.put, List.setIfInBounds_toArray, List.set_cons_zero, List.set_cons_succ])
            refine wpHold_take (i := 34) (v := ?_) rfl (by kernel_rfl) (by kernel_rfl) (by kernel_rfl) (fun _ _ _ h => h) (Or.inl ⟨by rfl, ?_⟩) hC_3 ?_
            rotate_left
            · intro w hSw; clear hSw; go_simp; (try with_reducible rfl)
            (try simp only [List.getElem_toArray, List.getElem_cons_succ, List.getElem_cons_zero])
            (try simp only [Act.put, List.setIfInBounds_toArray, List.set_cons_zero, List.set_cons_succ])
            refine wpHold_take (i := 35) (v := ?_) rfl (by kernel_rfl) (by kernel_rfl) (by kernel_rfl) (fun _ _ _ h => h) (Or.inl ⟨by rfl, ?_⟩) hC_3 ?_
            rotate_left
            · intro w hSw; clear hSw; go_simp; (try with_reducible rfl)
            (try simp only [List.getElem_toArray, List.getElem_cons_succ, List.getElem_cons_zero])
            (try simp only [Act.put, List.setIfInBounds_toArray, List.set_cons_zero, List.set_cons_succ])
            refine wpHold_take (i := 36) (v := ?_) rfl (by kernel_rfl) (by kernel_rfl) (by kernel_rfl) (fun _ _ _ h => h) (Or.inl ⟨by rfl, ?_⟩) hC_3 ?_
            rotate_left
            · intro w hSw; clear hSw; go_simp; (try with_reducible rfl)
            (try simp only [List.getElem_toArray, List.getElem_cons_succ, List.getElem_cons_zero])
            (try simp only [Act.put, List.setIfInBounds_toArray, List.set_cons_zero, List.set_cons_succ])
            refine wpHold_take (i := 37) (v := undef) rfl (by kernel_rfl) (by kernel_rfl) (by kernel_rfl) (fun _ _ _ h => h) (Or.inr ⟨by rfl, rfl⟩) hC_3 ?_
            (try simp only [List.getElem_toArray, List.getElem_cons_succ, List.getElem_cons_zero])
            (try simp only [Act.put, List.setIfInBounds_toArray, List.set_cons_zero, List.set_cons_succ])
            refine wpHold_take (i := 38) (v := undef) rfl (by kernel_rfl) (by kernel_rfl) (by kernel_rfl) (fun _ _ _ h => h) (Or.inr ⟨by rfl, rfl⟩) hC_3 ?_
            (try simp only [List.getElem_toArray, List.getElem_cons_succ, List.getElem_cons_zero])
            (try simp only [Act.put, List.setIfInBounds_toArray, List.set_cons_zero, List.set_cons_succ])
            refine wpHold_take (i := 39) (v := undef) rfl (by kernel_rfl) (by kernel_rfl) (by kernel_rfl) (fun _ _ _ h => h) (Or.inr ⟨by rfl, rfl⟩) hC_3 ?_
            (try simp only [List.getElem_toArray, List.getElem_cons_succ, List.getElem_cons_zero])
            (try simp only [Act.put, List.setIfInBounds_toArray, List.set_cons_zero, List.set_cons_succ])
            refine wpHold_take (i := 40) (v := undef) rfl (by kernel_rfl) (by kernel_rfl) (by kernel_rfl) (fun _ _ _ h => h) (Or.inr ⟨by rfl, rfl⟩) hC_3 ?_
            (try simp only [List.getElem_toArray, List.getElem_cons_succ, List.getElem_cons_zero])
            (try simp only [Act.put, List.setIfInBounds_toArray, List.set_cons_zero, List.set_cons_succ])
            refine wpHold_take (i := 41) (v := ?_) rfl (by kernel_rfl) (by kernel_rfl) (by kernel_rfl) (fun _ _ _ h => h) (Or.inl ⟨by rfl, ?_⟩) hC_3 ?_
            rotate_left
            · intro w hSw; clear hSw; go_simp; (try with_reducible rfl)
            (try simp only [List.getElem_toArray, List.getElem_cons_succ, List.getElem_cons_zero])
            (try simp only [Act.put, List.setIfInBounds_toArray, List.set_cons_zero, List.set_cons_succ])
            refine wpHold_take (i := 42) (v := ?_) rfl (by kernel_rfl) (by kernel_rfl) (by kernel_rfl) (fun _ _ _ h => h) (Or.inl ⟨by rfl, ?_⟩) hC_3 ?_
            rotate_left
            · intro w hSw; clear hSw; go_simp; (try with_reducible rfl)
            (try simp only [List.getElem_toArray, List.getElem_cons_succ, List.getElem_cons_zero])
            (try simp only [Act.put, List.setIfInBounds_toArray, List.set_cons_zero, List.set_cons_succ])
            refine wpHold_done (by kernel_rfl) ?_ _
            have BR := cc_3
            have HX_ba_t := hide ((unhide HX_ba_43).keep BR)
            have HX_bb_t := hide ((unhide HX_bb_43).keep BR)
            have HB_t := hide (below_step (unhide HB_43) BR)
            clear BR hb_1 hC_1 cc_1 hb_2 hC_2 cc_2 hb_3 hC_3 cc_3 hC0 bd0 HCC HLK HCX HCL HSG dcx dn HRP HSG1 
            obtain ⟨cba_0, cba_1, cba_2⟩ := (unhide HX_ba_t).cells _ (Below.refl _ _)
            have hft : a < (((n : Nat) : Int) : Rat) := (by
              have e : a = 0 := Rat.num_eq_zero.1 (by have := Rat.num_nonneg.2 (unhide HH0); have := unhide HAP; omega)
              rw [e]; have := Bth.cast_pos (n - 1); rw [show n - 1 + 1 = n by omega] at this; exact this)
            have HFT := hide hft
            have HWA := hide (wait_any ta.val a n xw_3 (unhide HX_ba_t).2 (unhide HRA) (unhide HH0) hft (by omega))
            simp only [Tri.val] at HWA
            clear hft
            go_wp2_with fail
            refine (unhide HWA).mono ?_
            rintro e w_q ⟨t1, t2, t3, rfl, r1, r2, r3, hbx⟩
            clear cba_0 cba_1 cba_2
            have hb_q := below_step hbx (alloc_below w_q (.cells #[.bool t1.s, .slice t1.a1 t1.n1 t1.c1, .slice t1.a2 t1.n2 t1.c2, .bool t2.s, .slice t2.a1 t2.n1 t2.c1, .slice t2.a2 t2.n2 t2.c2, .bool t3.s, .slice t3.a1 t3.n1 t3.c1, .slice t3.a2 t3.n2 t3.c2] 48))
            have HB_61 := hide (below_step (unhide HB_t) hb_q)
            have HX_ba_61 := hide ((unhide HX_ba_t).keep hb_q)
            have HX_bb_61 := hide ((unhide HX_bb_t).keep hb_q)
            clear HB_t HX_ba_t HX_bb_t
            have XQ : QB (w_q.alloc (.cells #[.bool t1.s, .slice t1.a1 t1.n1 t1.c1, .slice t1.a2 t1.n2 t1.c2, .bool t2.s, .slice t2.a1 t2.n1 t2.c1, .slice t2.a2 t2.n2 t2.c2, .bool t3.s, .slice t3.a1 t3.n1 t3.c1, .slice t3.a2 t3.n2 t3.c2] 48)) w_q.heap.size t1 t2 t3 := heap_alloc_new w_q _
            have R1 := r1.below (alloc_below w_q (.cells #[.bool t1.s, .slice t1.a1 t1.n1 t1.c1, .slice t1.a2 t1.n2 t1.c2, .bool t2.s, .slice t2.a1 t2.n1 t2.c1, .slice t2.a2 t2.n2 t2.c2, .bool t3.s, .slice t3.a1 t3.n1 t3.c1, .slice t3.a2 t3.n2 t3.c2] 48))
            have R2 := r2.below (alloc_below w_q (.cells #[.bool t1.s, .slice t1.a1 t1.n1 t1.c1, .slice t1.a2 t1.n2 t1.c2, .bool t2.s, .slice t2.a1 t2.n1 t2.c1, .slice t2.a2 t2.n2 t2.c2, .bool t3.s, .slice t3.a1 t3.n1 t3.c1, .slice t3.a2 t3.n2 t3.c2] 48))
            have R3 := r3.below (alloc_below w_q (.cells #[.bool t1.s, .slice t1.a1 t1.n1 t1.c1, .slice t1.a2 t1.n2 t1.c2, .bool t2.s, .slice t2.a1 t2.n1 t2.c1, .slice t2.a2 t2.n2 t2.c2, .bool t3.s, .slice t3.a1 t3.n1 t3.c1, .slice t3.a2 t3.n2 t3.c2] 48))
            obtain ⟨Wq, hWq⟩ : ∃ W, w_q.alloc (.cells #[.bool t1.s, .slice t1.a1 t1.n1 t1.c1, .slice t1.a2 t1.n2 t1.c2, .bool t2.s, .slice t2.a1 t2.n1 t2.c1, .slice t2.a2 t2.n2 t2.c2, .bool t3.s, .slice t3.a1 t3.n1 t3.c1, .slice t3.a2 t3.n2 t3.c2] 48) = W := ⟨_, rfl⟩
            obtain ⟨bq, hcq⟩ : ∃ b, w_q.heap.size = b := ⟨_, rfl⟩
            rw [hWq] at XQ R1 R2 R3 HB_61 HX_ba_61 HX_bb_61
            rw [hcq] at XQ
            have HQB := hide XQ
            have HR1 := hide R1
            have HR2 := hide R2
            have HR3 := hide R3
            clear r1 r2 r3 R1 R2 R3 XQ hbx hb_q HWA
            go_wp2_with fail
            clear hWq hcq
            have HRN : Hid (RS (((n : Nat) : Int) : Rat) 1) := word_RS (show n ≤ 1000 by omega)
            have HCU : Hid (∀ W, Below Wq.heap.size Wq W → (fun w' : World => (w'.cell? ⟨ba, 0, none⟩ = some (.bool ta.s) ∧ w'.cell? ⟨ba, 1, none⟩ = some (.slice ta.a1 ta.n1 ta.c1) ∧ w'.cell? ⟨ba, 2, none⟩ = some (.slice ta.a2 ta.n2 ta.c2)) ∧ (w'.cell? ⟨bb, 0, none⟩ = some (.bool tb.s) ∧ w'.cell? ⟨bb, 1, none⟩ = some (.slice tb.a1 tb.n1 tb.c1) ∧ w'.cell? ⟨bb, 2, none⟩ = some (.slice tb.a2 tb.n2 tb.c2))) W) := fun W hW => ⟨(unhide HX_ba_61).cells W hW, (unhide HX_bb_61).cells W hW⟩
            have HS1 := hide (spare_RS (unhide HRA) (unhide HRN))
            have HM1 := hide ((RS.mul (unhide HRA) (unhide HEB1)).mono (show 1 + 1600 ≤ 1700 by omega))
            have HU1 := hide ((RS.add (unhide HS1) (unhide HM1)).mono (show 3 + 1700 + 1 ≤ 1800 by omega))
            have HWHc : Hid (∀ W, Calls Tryd.prog 12 #[.int .i64 (n : Int)] W fun e w' => ∃ v, e = .returned v ∧ RatIs w' v (((n : Nat) : Int) : Rat) ∧ Below W.heap.size W w') := fun W => whole_any (n : Int) (by omega) (by omega) W
            have HSUc : Hid (∀ W v (hW : Below Wq.heap.size Wq W) (hv : RatIs W v (((n : Nat) : Int) : Rat)), Calls Tryd.prog 19 #[v, .agg #[.bool ta.s, .slice ta.a1 ta.n1 ta.c1, .slice ta.a2 ta.n2 ta.c2]] W fun e w' => ∃ v, e = .returned v ∧ RatIs w' v ((((n : Nat) : Int) : Rat) - a) ∧ Below W.heap.size W w') := fun W v hW hv => subR_any v _ _ _ W hv ((unhide HX_ba_61).2.below hW) 1 (unhide HRN) (unhide HRA) (by rw [KKe]; omega)
            have HMUc : Hid (∀ W (hW : Below Wq.heap.size Wq W), Calls Tryd.prog 10 #[.agg #[.bool ta.s, .slice ta.a1 ta.n1 ta.c1, .slice ta.a2 ta.n2 ta.c2], .agg #[.bool tb.s, .slice tb.a1 tb.n1 tb.c1, .slice tb.a2 tb.n2 tb.c2]] W fun e w' => ∃ v, e = .returned v ∧ RatIs w' v (a * Bth.eb a n) ∧ Below W.heap.size W w') := fun W hW => mulR_any _ _ _ _ W ((unhide HX_ba_61).2.below hW) ((unhide HX_bb_61).2.below hW) 1600 ((unhide HRA).mono (by omega)) (unhide HEB1) (by rw [KKe]; omega)
            have HADc : Hid (∀ W v v' (hv : RatIs W v ((((n : Nat) : Int) : Rat) - a)) (hv' : RatIs W v' (a * Bth.eb a n)), Calls Tryd.prog 20 #[v, v'] W fun e w' => ∃ v, e = .returned v ∧ RatIs w' v ((((n : Nat) : Int) : Rat) - a + a * Bth.eb a n) ∧ Below W.heap.size W w') := fun W v v' hv hv' => addR_any v v' _ _ W hv hv' 1700 ((unhide HS1).mono (by omega)) (unhide HM1) (by rw [KKe]; omega)
            refine wp_region_hold (fun w' : World => (w'.cell? ⟨ba, 0, none⟩ = some (.bool ta.s) ∧ w'.cell? ⟨ba, 1, none⟩ = some (.slice ta.a1 ta.n1 ta.c1) ∧ w'.cell? ⟨ba, 2, none⟩ = some (.slice ta.a2 ta.n2 ta.c2)) ∧ (w'.cell? ⟨bb, 0, none⟩ = some (.bool tb.s) ∧ w'.cell? ⟨bb, 1, none⟩ = some (.slice tb.a1 tb.n1 tb.c1) ∧ w'.cell? ⟨bb, 2, none⟩ = some (.slice tb.a2 tb.n2 tb.c2))) (by kernel_rfl) ?_
            have bd0 : Below Wq.heap.size Wq Wq.drew := (Below.refl _ _).drew
            obtain ⟨Wx, hWx⟩ : ∃ W, Wq.drew = W := ⟨_, rfl⟩
            rw [hWx] at bd0 ⊢
            have hC0 : (fun w' : World => (w'.cell? ⟨ba, 0, none⟩ = some (.bool ta.s) ∧ w'.cell? ⟨ba, 1, none⟩ = some (.slice ta.a1 ta.n1 ta.c1) ∧ w'.cell? ⟨ba, 2, none⟩ = some (.slice ta.a2 ta.n2 ta.c2)) ∧ (w'.cell? ⟨bb, 0, none⟩ = some (.bool tb.s) ∧ w'.cell? ⟨bb, 1, none⟩ = some (.slice tb.a1 tb.n1 tb.c1) ∧ w'.cell? ⟨bb, 2, none⟩ = some (.slice tb.a2 tb.n2 tb.c2))) Wx := unhide HCU _ bd0
            refine wpHold_take (i := 0) (v := ?_) rfl (by kernel_rfl) (by kernel_rfl) (by kernel_rfl) (fun _ _ _ h => h) (Or.inl ⟨by rfl, ?_⟩) hC0 ?_
            rotate_left
            · intro w hSw; clear hSw; go_simp; (try with_reducible rfl)
            (try simp only [List.getElem_toArray, List.getElem_cons_succ, List.getElem_cons_zero])
            (try simp only [Act.put, List.setIfInBounds_toArray, List.set_cons_zero, List.set_cons_succ])
            refine wpHold_take (i := 2) (v := ?_) rfl (by kernel_rfl) (by kernel_rfl) (by kernel_rfl) (fun _ _ _ h => h) (Or.inl ⟨by rfl, ?_⟩) hC0 ?_
            rotate_left
            · intro w hSw; (try dsimp only at hSw); obtain ⟨⟨z0, z1, z2⟩, z3, z4, z5⟩ := hSw; go_simp; (try with_reducible rfl)
            (try simp only [List.getElem_toArray, List.getElem_cons_succ, List.getElem_cons_zero])
            (try simp only [Act.put, List.setIfInBounds_toArray, List.set_cons_zero, List.set_cons_succ])
            refine wpHold_take (i := 4) (v := ?_) rfl (by kernel_rfl) (by kernel_rfl) (by kernel_rfl) (fun _ _ _ h => h) (Or.inl ⟨by rfl, ?_⟩) hC0 ?_
            rotate_left
            · intro w hSw; (try dsimp only at hSw); obtain ⟨⟨z0, z1, z2⟩, z3, z4, z5⟩ := hSw; go_simp; (try with_reducible rfl)
            (try simp only [List.getElem_toArray, List.getElem_cons_succ, List.getElem_cons_zero])
            (try simp only [Act.put, List.setIfInBounds_toArray, List.set_cons_zero, List.set_cons_succ])
            refine wpHold_take (i := 5) (v := ?_) rfl (by kernel_rfl) (by kernel_rfl) (by kernel_rfl) (fun _ _ _ h => h) (Or.inl ⟨by rfl, ?_⟩) hC0 ?_
            rotate_left
            · intro w hSw; (try dsimp only at hSw); obtain ⟨⟨z0, z1, z2⟩, z3, z4, z5⟩ := hSw; go_simp; (try with_reducible rfl)
            (try simp only [List.getElem_toArray, List.getElem_cons_succ, List.getElem_cons_zero])
            (try simp only [Act.put, List.setIfInBounds_toArray, List.set_cons_zero, List.set_cons_succ])
            refine wpHold_listed (n := 6) (L' := (fun nc nl => #[true, decide (1 ≤ nc), true, decide (2 ≤ nc), true, true, decide (3 ≤ nc), decide (4 ≤ nc), nl, false]) 0 false) (by kernel_rfl) (by kernel_rfl) ?_
            refine wpHold_name (fun a0 ha0 => ?_)
            refine chain_one_any 4 (fun nc nl => #[true, decide (1 ≤ nc), true, decide (2 ≤ nc), true, true, decide (3 ≤ nc), decide (4 ≤ nc), nl, false]) (fun nc => match nc with | 0 => 1 | 1 => 3 | 2 => 6 | _ => 7) 8 1 (fun nc nl na W => ∃ s1 s2 s3 s4 s5, na = ((((a0.put (some 128) s1).put (some 130) s2).put (some 133) s3).put (some 134) s4).put (some 16) s5 ∧ FourJ ((((n : Nat) : Int) : Rat)) ((((n : Nat) : Int) : Rat) - a) (a * Bth.eb a n) ((((n : Nat) : Int) : Rat) - a + a * Bth.eb a n) Wx nc nl W s1 s2 s3 s4 s5) ?_ ?_ ?_ (fun c => rfl) ?_ ?_ ?_ 5 0 false (by omega) (by rfl) _ _ ⟨undef, undef, undef, undef, undef, by subst ha0; rfl, Below.refl _ _, fun h => absurd h (by decide), fun h => absurd h (by decide), fun h => absurd h (by decide), fun h => absurd h (by decide), fun h => by cases h⟩
            · clear ha0
              intro nc nl hnc
              match nc, hnc with
              | 0, _ => cases nl <;> (show (_ : Bool) = _; kernel_rfl)
              | 1, _ => cases nl <;> (show (_ : Bool) = _; kernel_rfl)
              | 2, _ => cases nl <;> (show (_ : Bool) = _; kernel_rfl)
              | 3, _ => cases nl <;> (show (_ : Bool) = _; kernel_rfl)
              | 4, _ => cases nl <;> (show (_ : Bool) = _; kernel_rfl)
            · clear ha0
              intro nc nl hnc
              match nc, hnc with
              | 0, _ => cases nl <;> (intro _; show (_ : Bool) = _; kernel_rfl)
              | 1, _ => cases nl <;> (intro _; show (_ : Bool) = _; kernel_rfl)
              | 2, _ => cases nl <;> (intro _; show (_ : Bool) = _; kernel_rfl)
              | 3, _ => cases nl <;> (intro _; show (_ : Bool) = _; kernel_rfl)
              | 4, _ => cases nl <;> (intro h; first | (show (_ : Bool) = _; kernel_rfl) | exact absurd h (by decide))
            · clear ha0
              intro nc nl hnc
              match nc, hnc with
              | 0, _ => rfl
              | 1, _ => rfl
              | 2, _ => rfl
              | 3, _ => rfl
            · rintro nc nl na wv hnc ⟨s1, s2, s3, s4, s5, rfl, J⟩
              subst ha0
              match nc, hnc, J with
              | 0, _, J =>
                refine wpOp_step rfl (fun K hK => ?_)
                (try simp only [Act.put, List.setIfInBounds_toArray, List.set_cons_zero, List.set_cons_succ] at hK ⊢)
                (try simp only [List.getElem_toArray, List.getElem_cons_succ, List.getElem_cons_zero])
                go_simp
                refine (unhide HWHc wv).mono ?_
                rintro e wz ⟨v, rfl, hv, hb⟩
                exact hK _ _ ⟨unhide HCU _ (below_step bd0 (below_step J.bl hb)), v, s2, s3, s4, s5, rfl, below_step J.bl hb, fun _ => hv, fun h => absurd h (by decide), fun h => absurd h (by decide), fun h => absurd h (by decide), fun h => by
                  obtain ⟨b, e1, e2, e3⟩ := J.al h
                  exact ⟨b, e1, e2.keep hb, e3⟩⟩
              | 1, _, J =>
                refine wpOp_step rfl (fun K hK => ?_)
                (try simp only [Act.put, List.setIfInBounds_toArray, List.set_cons_zero, List.set_cons_succ] at hK ⊢)
                (try simp only [List.getElem_toArray, List.getElem_cons_succ, List.getElem_cons_zero])
                go_simp
                refine (unhide HSUc wv _ (below_step bd0 J.bl) (J.r1 (by decide))).mono ?_
                rintro e wz ⟨v, rfl, hv, hb⟩
                exact hK _ _ ⟨unhide HCU _ (below_step bd0 (below_step J.bl hb)), s1, v, s3, s4, s5, rfl, below_step J.bl hb, fun _ => (J.r1 (by decide)).below hb, fun _ => hv, fun h => absurd h (by decide), fun h => absurd h (by decide), fun h => by
                  obtain ⟨b, e1, e2, e3⟩ := J.al h
                  exact ⟨b, e1, e2.keep hb, e3⟩⟩
              | 2, _, J =>
                refine wpOp_step rfl (fun K hK => ?_)
                (try simp only [Act.put, List.setIfInBounds_toArray, List.set_cons_zero, List.set_cons_succ] at hK ⊢)
                (try simp only [List.getElem_toArray, List.getElem_cons_succ, List.getElem_cons_zero])
                go_simp
                refine (unhide HMUc wv (below_step bd0 J.bl)).mono ?_
                rintro e wz ⟨v, rfl, hv, hb⟩
                exact hK _ _ ⟨unhide HCU _ (below_step bd0 (below_step J.bl hb)), s1, s2, v, s4, s5, rfl, below_step J.bl hb, fun _ => (J.r1 (by decide)).below hb, fun _ => (J.r2 (by decide)).below hb, fun _ => hv, fun h => absurd h (by decide), fun h => by
                  obtain ⟨b, e1, e2, e3⟩ := J.al h
                  exact ⟨b, e1, e2.keep hb, e3⟩⟩
              | 3, _, J =>
                refine wpOp_step rfl (fun K hK => ?_)
                (try simp only [Act.put, List.setIfInBounds_toArray, List.set_cons_zero, List.set_cons_succ] at hK ⊢)
                (try simp only [List.getElem_toArray, List.getElem_cons_succ, List.getElem_cons_zero])
                go_simp
                refine (unhide HADc wv _ _ (J.r2 (by decide)) (J.r3 (by decide))).mono ?_
                rintro e wz ⟨v, rfl, hv, hb⟩
                exact hK _ _ ⟨unhide HCU _ (below_step bd0 (below_step J.bl hb)), s1, s2, s3, v, s5, rfl, below_step J.bl hb, fun _ => (J.r1 (by decide)).below hb, fun _ => (J.r2 (by decide)).below hb, fun _ => (J.r3 (by decide)).below hb, fun _ => hv, fun h => by
                  obtain ⟨b, e1, e2, e3⟩ := J.al h
                  exact ⟨b, e1, e2.keep hb, e3⟩⟩
            · rintro nc na wv ⟨s1, s2, s3, s4, s5, rfl, J⟩
              subst ha0
              refine wpOp_step rfl (fun K hK => ?_)
              (try simp only [Act.put, List.setIfInBounds_toArray, List.set_cons_zero, List.set_cons_succ] at hK ⊢)
              (try simp only [List.getElem_toArray, List.getElem_cons_succ, List.getElem_cons_zero])
              go_simp
              have hb := alloc_below wv (.cells #[.bool false, .slice none 0 0, .slice none 0 0] 34)
              exact hK _ _ ⟨unhide HCU _ (below_step bd0 (below_step J.bl hb)), s1, s2, s3, s4, .pointer (some ⟨wv.heap.size, 0, none⟩), rfl, below_step J.bl hb, fun h => (J.r1 h).below hb, fun h => (J.r2 h).below hb, fun h => (J.r3 h).below hb, fun h => (J.r4 h).below hb, fun _ => ⟨wv.heap.size, rfl, BoxIs.new (t := zTri) (rat_zero _), J.bl.size⟩⟩
            · rintro na wv ⟨s1, s2, s3, s4, s5, rfl, J⟩
              subst ha0
              obtain ⟨bun, rfl, B10, e10⟩ := J.al rfl
              obtain ⟨tun, rfl, r0⟩ := tri_of (J.r4 (by decide))
              simp only [Tri.val]
              (try simp only [Act.put, List.setIfInBounds_toArray, List.set_cons_zero, List.set_cons_succ])
              have ⟨l0, l1, l2⟩ := B10.free
              have ⟨k0, k1, k2⟩ := B10.cells _ (Below.refl _ _)
              have NB := B10.set r0
              have e10' : Wq.heap.size ≤ bun := Nat.le_trans bd0.size e10
              have YB := (((below_step bd0 J.bl).setCell (p := ⟨bun, 0, none⟩) e10' (.bool tun.s)).setCell (p := ⟨bun, 1, none⟩) e10' (.slice tun.a1 tun.n1 tun.c1)).setCell (p := ⟨bun, 2, none⟩) e10' (.slice tun.a2 tun.n2 tun.c2)
              have HG_bun := hide e10'
              have hCn : (fun w' : World => (w'.cell? ⟨ba, 0, none⟩ = some (.bool ta.s) ∧ w'.cell? ⟨ba, 1, none⟩ = some (.slice ta.a1 ta.n1 ta.c1) ∧ w'.cell? ⟨ba, 2, none⟩ = some (.slice ta.a2 ta.n2 ta.c2)) ∧ (w'.cell? ⟨bb, 0, none⟩ = some (.bool tb.s) ∧ w'.cell? ⟨bb, 1, none⟩ = some (.slice tb.a1 tb.n1 tb.c1) ∧ w'.cell? ⟨bb, 2, none⟩ = some (.slice tb.a2 tb.n2 tb.c2))) _ := unhide HCU _ YB
              obtain ⟨Wbun, hWy⟩ : ∃ W, ((wv.setCell ⟨bun, 0, none⟩ (.bool tun.s)).setCell ⟨bun, 1, none⟩ (.slice tun.a1 tun.n1 tun.c1)).setCell ⟨bun, 2, none⟩ (.slice tun.a2 tun.n2 tun.c2) = W := ⟨_, rfl⟩
              rw [hWy] at NB YB hCn
              have HX_bun := hide NB
              have HY_bun := hide YB
              clear J B10 r0 hC0 YB NB e10'
              refine wpHold_one (k := 9) (by kernel_rfl) rfl (fun K hK => ?_)
              (try simp only [List.getElem_toArray, List.getElem_cons_succ, List.getElem_cons_zero])
              go_simp
              refine hK.out _ _ hCn ?_
              clear hK K
              (try simp only [Act.put, List.setIfInBounds_toArray, List.set_cons_zero, List.set_cons_succ])
              refine wpHold_done (by kernel_rfl) ?_ _
              clear hCn l0 l1 l2 k0 k1 k2 hWy e10 bd0 hWx
              have HAe := hide ((unhide HX_ba_61).keep (unhide HY_bun))
              have HBe := hide ((unhide HX_bb_61).keep (unhide HY_bun))
              have HQe := hide ((unhide HQB).keep (unhide HY_bun))
              have HR1e := hide ((unhide HR1).below (unhide HY_bun))
              have HR2e := hide ((unhide HR2).below (unhide HY_bun))
              have HR3e := hide ((unhide HR3).below (unhide HY_bun))
              have HBBe := hide (below_step (unhide HB_61) (unhide HY_bun))
              have HEC := hide (ec_RS (unhide HRA) (unhide HRN) (show n ≤ 20 by omega) (unhide HH0) (unhide HFT))
              have HET := hide ((RS.div' (unhide HEC) (unhide HS1) (pos_num (Bth.spare_pos (unhide HFT)))).mono (show 2100 + 3 ≤ 2200 by omega))
              have HNE := hide ((RS.mul (unhide HRN) (unhide HEB1)).mono (show 1 + 1600 ≤ 1700 by omega))
              have HTA := hide ((RS.mul (unhide HET) (unhide HRA)).mono (show 2200 + 1 ≤ 2300 by omega))
              have HCE : Hid (∀ W, Below Wbun.heap.size Wbun W → (fun w' : World => (w'.cell? ⟨ba, 0, none⟩ = some (.bool ta.s) ∧ w'.cell? ⟨ba, 1, none⟩ = some (.slice ta.a1 ta.n1 ta.c1) ∧ w'.cell? ⟨ba, 2, none⟩ = some (.slice ta.a2 ta.n2 ta.c2)) ∧ (w'.cell? ⟨bb, 0, none⟩ = some (.bool tb.s) ∧ w'.cell? ⟨bb, 1, none⟩ = some (.slice tb.a1 tb.n1 tb.c1) ∧ w'.cell? ⟨bb, 2, none⟩ = some (.slice tb.a2 tb.n2 tb.c2)) ∧ (w'.cell? ⟨bun, 0, none⟩ = some (.bool tun.s) ∧ w'.cell? ⟨bun, 1, none⟩ = some (.slice tun.a1 tun.n1 tun.c1) ∧ w'.cell? ⟨bun, 2, none⟩ = some (.slice tun.a2 tun.n2 tun.c2)) ∧ (w'.cell? ⟨bq, 0, none⟩ = some (.bool t1.s) ∧ w'.cell? ⟨bq, 1, none⟩ = some (.slice t1.a1 t1.n1 t1.c1) ∧ w'.cell? ⟨bq, 2, none⟩ = some (.slice t1.a2 t1.n2 t1.c2)) ∧ (w'.cell? ⟨bq, 3, none⟩ = some (.bool t2.s) ∧ w'.cell? ⟨bq, 4, none⟩ = some (.slice t2.a1 t2.n1 t2.c1) ∧ w'.cell? ⟨bq, 5, none⟩ = some (.slice t2.a2 t2.n2 t2.c2)) ∧ (w'.cell? ⟨bq, 6, none⟩ = some (.bool t3.s) ∧ w'.cell? ⟨bq, 7, none⟩ = some (.slice t3.a1 t3.n1 t3.c1) ∧ w'.cell? ⟨bq, 8, none⟩ = some (.slice t3.a2 t3.n2 t3.c2))) W) := fun W hW => ⟨(unhide HAe).cells W hW, (unhide HBe).cells W hW, (unhide HX_bun).cells W hW, ((unhide HQe).keep hW).cells⟩
              have HTB : Hid (∀ W, Below Wbun.heap.size Wbun W → Tab W) := fun W hW => tab_below (unhide HTAB) (below_step (unhide HBBe) hW)
              have HF1 : Hid (∀ W (hW : Below Wbun.heap.size Wbun W), Calls Tryd.prog 10 #[.agg #[.bool t1.s, .slice t1.a1 t1.n1 t1.c1, .slice t1.a2 t1.n2 t1.c2], .agg #[.bool tun.s, .slice tun.a1 tun.n1 tun.c1, .slice tun.a2 tun.n2 tun.c2]] W fun e w' => ∃ v, e = .returned v ∧ RatIs w' v ((((n : Nat) : Int) : Rat) * Bth.eb a n) ∧ Below W.heap.size W w') := fun W hW => by
                have h := mulR_any t1.val tun.val _ _ W ((unhide HR1e).below hW) ((unhide HX_bun).2.below hW) 2200 ((unhide HEC).mono (by omega)) ((unhide HU1).mono (by omega)) (by rw [KKe]; omega)
                rw [Bth.ec_under (unhide HH0) (unhide HFT)] at h
                exact h
              have HF2 : Hid (∀ W v (hW : Below Wbun.heap.size Wbun W) (hv : RatIs W v (((n : Nat) : Int) : Rat)), Calls Tryd.prog 10 #[v, .agg #[.bool tb.s, .slice tb.a1 tb.n1 tb.c1, .slice tb.a2 tb.n2 tb.c2]] W fun e w' => ∃ v, e = .returned v ∧ RatIs w' v ((((n : Nat) : Int) : Rat) * Bth.eb a n) ∧ Below W.heap.size W w') := fun W v hW hv => mulR_any v _ _ _ W hv ((unhide HBe).2.below hW) 1600 ((unhide HRN).mono (by omega)) (unhide HEB1) (by rw [KKe]; omega)
              have HF3 : Hid (∀ W v v' (hW : Below Wbun.heap.size Wbun W) (hv : RatIs W v ((((n : Nat) : Int) : Rat) * Bth.eb a n)) (hv' : RatIs W v' ((((n : Nat) : Int) : Rat) * Bth.eb a n)), Calls Tryd.prog 9 #[v, v'] W fun e w' => e = .returned (.bool true) ∧ Below W.heap.size W w') := fun W v v' hW hv hv' => like_any v v' _ W hv hv' 1700 (unhide HNE) (by rw [KKe]; omega) (unhide HTB W hW)
              have HF4 : Hid (∃ x : Int, 0 ≤ x ∧ x ≤ 1 ∧ ∀ W, Below Wbun.heap.size Wbun W → Calls Tryd.prog 17 #[.agg #[.bool t1.s, .slice t1.a1 t1.n1 t1.c1, .slice t1.a2 t1.n2 t1.c2], .agg #[.bool tb.s, .slice tb.a1 tb.n1 tb.c1, .slice tb.a2 tb.n2 tb.c2]] W fun e w' => e = .returned (.int .i64 x) ∧ Below W.heap.size W w') := ⟨cmpv (Bth.ec a n) (Bth.eb a n), (cmpv_ge (Bth.ec_ge (unhide HH0) (unhide HFT))).1, (cmpv_ge (Bth.ec_ge (unhide HH0) (unhide HFT))).2, fun W hW => cmpR_all t1.val tb.val _ _ W ((unhide HR1e).below hW) ((unhide HBe).2.below hW) 2200 ((unhide HEC).mono (by omega)) ((unhide HEB1).mono (by omega)) (by rw [KKe]; omega)⟩
              have HF5 : Hid (∀ W (hW : Below Wbun.heap.size Wbun W), Calls Tryd.prog 10 #[.agg #[.bool ta.s, .slice ta.a1 ta.n1 ta.c1, .slice ta.a2 ta.n2 ta.c2], .agg #[.bool t2.s, .slice t2.a1 t2.n1 t2.c1, .slice t2.a2 t2.n2 t2.c2]] W fun e w' => ∃ v, e = .returned v ∧ RatIs w' v (Bth.ec a n / ((((n : Nat) : Int) : Rat) - a) * a) ∧ Below W.heap.size W w') := fun W hW => by
                have h := mulR_any ta.val t2.val _ _ W ((unhide HAe).2.below hW) ((unhide HR2e).below hW) 2200 ((unhide HRA).mono (by omega)) (unhide HET) (by rw [KKe]; omega)
                rw [Rat.mul_comm a] at h
                exact h
              have HF6 : Hid (∀ W v (hW : Below Wbun.heap.size Wbun W) (hv : RatIs W v (Bth.ec a n / ((((n : Nat) : Int) : Rat) - a) * a)), Calls Tryd.prog 9 #[.agg #[.bool t3.s, .slice t3.a1 t3.n1 t3.c1, .slice t3.a2 t3.n2 t3.c2], v] W fun e w' => e = .returned (.bool true) ∧ Below W.heap.size W w') := fun W v hW hv => like_any t3.val v _ W ((unhide HR3e).below hW) hv 2300 (unhide HTA) (by rw [KKe]; omega) (unhide HTB W hW)
              obtain ⟨fx, fx0, fx1, hfx⟩ := unhide HF4
              have HFX := hide hfx
              have dfx : decide (0 ≤ fx) = true := decide_eq_true fx0
              clear hfx HF4
              go_wp2_with fail
              refine wp_region_hold (fun w' : World => (w'.cell? ⟨ba, 0, none⟩ = some (.bool ta.s) ∧ w'.cell? ⟨ba, 1, none⟩ = some (.slice ta.a1 ta.n1 ta.c1) ∧ w'.cell? ⟨ba, 2, none⟩ = some (.slice ta.a2 ta.n2 ta.c2)) ∧ (w'.cell? ⟨bb, 0, none⟩ = some (.bool tb.s) ∧ w'.cell? ⟨bb, 1, none⟩ = some (.slice tb.a1 tb.n1 tb.c1) ∧ w'.cell? ⟨bb, 2, none⟩ = some (.slice tb.a2 tb.n2 tb.c2)) ∧ (w'.cell? ⟨bun, 0, none⟩ = some (.bool tun.s) ∧ w'.cell? ⟨bun, 1, none⟩ = some (.slice tun.a1 tun.n1 tun.c1) ∧ w'.cell? ⟨bun, 2, none⟩ = some (.slice tun.a2 tun.n2 tun.c2)) ∧ (w'.cell? ⟨bq, 0, none⟩ = some (.bool t1.s) ∧ w'.cell? ⟨bq, 1, none⟩ = some (.slice t1.a1 t1.n1 t1.c1) ∧ w'.cell? ⟨bq, 2, none⟩ = some (.slice t1.a2 t1.n2 t1.c2)) ∧ (w'.cell? ⟨bq, 3, none⟩ = some (.bool t2.s) ∧ w'.cell? ⟨bq, 4, none⟩ = some (.slice t2.a1 t2.n1 t2.c1) ∧ w'.cell? ⟨bq, 5, none⟩ = some (.slice t2.a2 t2.n2 t2.c2)) ∧ (w'.cell? ⟨bq, 6, none⟩ = some (.bool t3.s) ∧ w'.cell? ⟨bq, 7, none⟩ = some (.slice t3.a1 t3.n1 t3.c1) ∧ w'.cell? ⟨bq, 8, none⟩ = some (.slice t3.a2 t3.n2 t3.c2))) (by kernel_rfl) ?_
              have bd0 : Below Wbun.heap.size Wbun Wbun.drew := (Below.refl _ _).drew
              have hC0 : (fun w' : World => (w'.cell? ⟨ba, 0, none⟩ = some (.bool ta.s) ∧ w'.cell? ⟨ba, 1, none⟩ = some (.slice ta.a1 ta.n1 ta.c1) ∧ w'.cell? ⟨ba, 2, none⟩ = some (.slice ta.a2 ta.n2 ta.c2)) ∧ (w'.cell? ⟨bb, 0, none⟩ = some (.bool tb.s) ∧ w'.cell? ⟨bb, 1, none⟩ = some (.slice tb.a1 tb.n1 tb.c1) ∧ w'.cell? ⟨bb, 2, none⟩ = some (.slice tb.a2 tb.n2 tb.c2)) ∧ (w'.cell? ⟨bun, 0, none⟩ = some (.bool tun.s) ∧ w'.cell? ⟨bun, 1, none⟩ = some (.slice tun.a1 tun.n1 tun.c1) ∧ w'.cell? ⟨bun, 2, none⟩ = some (.slice tun.a2 tun.n2 tun.c2)) ∧ (w'.cell? ⟨bq, 0, none⟩ = some (.bool t1.s) ∧ w'.cell? ⟨bq, 1, none⟩ = some (.slice t1.a1 t1.n1 t1.c1) ∧ w'.cell? ⟨bq, 2, none⟩ = some (.slice t1.a2 t1.n2 t1.c2)) ∧ (w'.cell? ⟨bq, 3, none⟩ = some (.bool t2.s) ∧ w'.cell? ⟨bq, 4, none⟩ = some (.slice t2.a1 t2.n1 t2.c1) ∧ w'.cell? ⟨bq, 5, none⟩ = some (.slice t2.a2 t2.n2 t2.c2)) ∧ (w'.cell? ⟨bq, 6, none⟩ = some (.bool t3.s) ∧ w'.cell? ⟨bq, 7, none⟩ = some (.slice t3.a1 t3.n1 t3.c1) ∧ w'.cell? ⟨bq, 8, none⟩ = some (.slice t3.a2 t3.n2 t3.c2))) Wbun.drew := unhide HCE _ bd0
              refine wpHold_take (i := 0) (v := ?_) rfl (by kernel_rfl) (by kernel_rfl) (by kernel_rfl) (fun _ _ _ h => h) (Or.inl ⟨by rfl, ?_⟩) hC0 ?_
              rotate_left
              · intro w hSw; clear hSw; go_simp; (try with_reducible rfl)
              (try simp only [List.getElem_toArray, List.getElem_cons_succ, List.getElem_cons_zero])
              (try simp only [Act.put, List.setIfInBounds_toArray, List.set_cons_zero, List.set_cons_succ])
              refine wpHold_take (i := 1) (v := ?_) rfl (by kernel_rfl) (by kernel_rfl) (by kernel_rfl) (fun _ _ _ h => h) (Or.inl ⟨by rfl, ?_⟩) hC0 ?_
              rotate_left
              · intro w hSw; (try dsimp only at hSw); obtain ⟨⟨z0, z1, z2⟩, ⟨z3, z4, z5⟩, ⟨z6, z7, z8⟩, ⟨z9, z10, z11⟩, ⟨z12, z13, z14⟩, z15, z16, z17⟩ := hSw; go_simp; (try with_reducible rfl)
              (try simp only [List.getElem_toArray, List.getElem_cons_succ, List.getElem_cons_zero])
              (try simp only [Act.put, List.setIfInBounds_toArray, List.set_cons_zero, List.set_cons_succ])
              refine wpHold_take (i := 2) (v := ?_) rfl (by kernel_rfl) (by kernel_rfl) (by kernel_rfl) (fun _ _ _ h => h) (Or.inl ⟨by rfl, ?_⟩) hC0 ?_
              rotate_left
              · intro w hSw; (try dsimp only at hSw); obtain ⟨⟨z0, z1, z2⟩, ⟨z3, z4, z5⟩, ⟨z6, z7, z8⟩, ⟨z9, z10, z11⟩, ⟨z12, z13, z14⟩, z15, z16, z17⟩ := hSw; go_simp; (try with_reducible rfl)
              (try simp only [List.getElem_toArray, List.getElem_cons_succ, List.getElem_cons_zero])
              (try simp only [Act.put, List.setIfInBounds_toArray, List.set_cons_zero, List.set_cons_succ])
              refine wpHold_take (i := 4) (v := ?_) rfl (by kernel_rfl) (by kernel_rfl) (by kernel_rfl) (fun _ _ _ h => h) (Or.inl ⟨by rfl, ?_⟩) hC0 ?_
              rotate_left
              · intro w hSw; clear hSw; go_simp; (try with_reducible rfl)
              (try simp only [List.getElem_toArray, List.getElem_cons_succ, List.getElem_cons_zero])
              (try simp only [Act.put, List.setIfInBounds_toArray, List.set_cons_zero, List.set_cons_succ])
              refine wpHold_take (i := 6) (v := ?_) rfl (by kernel_rfl) (by kernel_rfl) (by kernel_rfl) (fun _ _ _ h => h) (Or.inl ⟨by rfl, ?_⟩) hC0 ?_
              rotate_left
              · intro w hSw; (try dsimp only at hSw); obtain ⟨⟨z0, z1, z2⟩, ⟨z3, z4, z5⟩, ⟨z6, z7, z8⟩, ⟨z9, z10, z11⟩, ⟨z12, z13, z14⟩, z15, z16, z17⟩ := hSw; go_simp; (try with_reducible rfl)
              (try simp only [List.getElem_toArray, List.getElem_cons_succ, List.getElem_cons_zero])
              (try simp only [Act.put, List.setIfInBounds_toArray, List.set_cons_zero, List.set_cons_succ])
              refine wpHold_one (k := 3) (by kernel_rfl) rfl (fun K hK => ?_)
              (try simp only [List.getElem_toArray, List.getElem_cons_succ, List.getElem_cons_zero])
              go_simp
              refine (unhide HF1 _ bd0).mono ?_
              rintro e xw_1 ⟨xv_1, rfl, hv_1, hb_1⟩
              have cc_1 := below_step bd0 hb_1
              have hC_1 : (fun w' : World => (w'.cell? ⟨ba, 0, none⟩ = some (.bool ta.s) ∧ w'.cell? ⟨ba, 1, none⟩ = some (.slice ta.a1 ta.n1 ta.c1) ∧ w'.cell? ⟨ba, 2, none⟩ = some (.slice ta.a2 ta.n2 ta.c2)) ∧ (w'.cell? ⟨bb, 0, none⟩ = some (.bool tb.s) ∧ w'.cell? ⟨bb, 1, none⟩ = some (.slice tb.a1 tb.n1 tb.c1) ∧ w'.cell? ⟨bb, 2, none⟩ = some (.slice tb.a2 tb.n2 tb.c2)) ∧ (w'.cell? ⟨bun, 0, none⟩ = some (.bool tun.s) ∧ w'.cell? ⟨bun, 1, none⟩ = some (.slice tun.a1 tun.n1 tun.c1) ∧ w'.cell? ⟨bun, 2, none⟩ = some (.slice tun.a2 tun.n2 tun.c2)) ∧ (w'.cell? ⟨bq, 0, none⟩ = some (.bool t1.s) ∧ w'.cell? ⟨bq, 1, none⟩ = some (.slice t1.a1 t1.n1 t1.c1) ∧ w'.cell? ⟨bq, 2, none⟩ = some (.slice t1.a2 t1.n2 t1.c2)) ∧ (w'.cell? ⟨bq, 3, none⟩ = some (.bool t2.s) ∧ w'.cell? ⟨bq, 4, none⟩ = some (.slice t2.a1 t2.n1 t2.c1) ∧ w'.cell? ⟨bq, 5, none⟩ = some (.slice t2.a2 t2.n2 t2.c2)) ∧ (w'.cell? ⟨bq, 6, none⟩ = some (.bool t3.s) ∧ w'.cell? ⟨bq, 7, none⟩ = some (.slice t3.a1 t3.n1 t3.c1) ∧ w'.cell? ⟨bq, 8, none⟩ = some (.slice t3.a2 t3.n2 t3.c2))) xw_1 := unhide HCE _ cc_1
              refine hK.out _ _ hC_1 ?_
              clear hK K
              (try simp only [Act.put, List.setIfInBounds_toArray, List.set_cons_zero, List.set_cons_succ])
              refine wpHold_one (k := 5) (by kernel_rfl) rfl (fun K hK => ?_)
              (try simp only [List.getElem_toArray, List.getElem_cons_succ, List.getElem_cons_zero])
              go_simp
              refine (unhide HWHc _).mono ?_
              rintro e xw_2 ⟨xv_2, rfl, hv_2, hb_2⟩
              have cc_2 := below_step cc_1 hb_2
              have hC_2 : (fun w' : World => (w'.cell? ⟨ba, 0, none⟩ = some (.bool ta.s) ∧ w'.cell? ⟨ba, 1, none⟩ = some (.slice ta.a1 ta.n1 ta.c1) ∧ w'.cell? ⟨ba, 2, none⟩ = some (.slice ta.a2 ta.n2 ta.c2)) ∧ (w'.cell? ⟨bb, 0, none⟩ = some (.bool tb.s) ∧ w'.cell? ⟨bb, 1, none⟩ = some (.slice tb.a1 tb.n1 tb.c1) ∧ w'.cell? ⟨bb, 2, none⟩ = some (.slice tb.a2 tb.n2 tb.c2)) ∧ (w'.cell? ⟨bun, 0, none⟩ = some (.bool tun.s) ∧ w'.cell? ⟨bun, 1, none⟩ = some (.slice tun.a1 tun.n1 tun.c1) ∧ w'.cell? ⟨bun, 2, none⟩ = some (.slice tun.a2 tun.n2 tun.c2)) ∧ (w'.cell? ⟨bq, 0, none⟩ = some (.bool t1.s) ∧ w'.cell? ⟨bq, 1, none⟩ = some (.slice t1.a1 t1.n1 t1.c1) ∧ w'.cell? ⟨bq, 2, none⟩ = some (.slice t1.a2 t1.n2 t1.c2)) ∧ (w'.cell? ⟨bq, 3, none⟩ = some (.bool t2.s) ∧ w'.cell? ⟨bq, 4, none⟩ = some (.slice t2.a1 t2.n1 t2.c1) ∧ w'.cell? ⟨bq, 5, none⟩ = some (.slice t2.a2 t2.n2 t2.c2)) ∧ (w'.cell? ⟨bq, 6, none⟩ = some (.bool t3.s) ∧ w'.cell? ⟨bq, 7, none⟩ = some (.slice t3.a1 t3.n1 t3.c1) ∧ w'.cell? ⟨bq, 8, none⟩ = some (.slice t3.a2 t3.n2 t3.c2))) xw_2 := unhide HCE _ cc_2
              refine hK.out _ _ hC_2 ?_
              clear hK K
              (try simp only [Act.put, List.setIfInBounds_toArray, List.set_cons_zero, List.set_cons_succ])
              refine wpHold_one (k := 7) (by kernel_rfl) rfl (fun K hK => ?_)
              (try simp only [List.getElem_toArray, List.getElem_cons_succ, List.getElem_cons_zero])
              go_simp
              refine (unhide HF2 _ _ cc_2 hv_2).mono ?_
              rintro e xw_3 ⟨xv_3, rfl, hv_3, hb_3⟩
              have cc_3 := below_step cc_2 hb_3
              have hC_3 : (fun w' : World => (w'.cell? ⟨ba, 0, none⟩ = some (.bool ta.s) ∧ w'.cell? ⟨ba, 1, none⟩ = some (.slice ta.a1 ta.n1 ta.c1) ∧ w'.cell? ⟨ba, 2, none⟩ = some (.slice ta.a2 ta.n2 ta.c2)) ∧ (w'.cell? ⟨bb, 0, none⟩ = some (.bool tb.s) ∧ w'.cell? ⟨bb, 1, none⟩ = some (.slice tb.a1 tb.n1 tb.c1) ∧ w'.cell? ⟨bb, 2, none⟩ = some (.slice tb.a2 tb.n2 tb.c2)) ∧ (w'.cell? ⟨bun, 0, none⟩ = some (.bool tun.s) ∧ w'.cell? ⟨bun, 1, none⟩ = some (.slice tun.a1 tun.n1 tun.c1) ∧ w'.cell? ⟨bun, 2, none⟩ = some (.slice tun.a2 tun.n2 tun.c2)) ∧ (w'.cell? ⟨bq, 0, none⟩ = some (.bool t1.s) ∧ w'.cell? ⟨bq, 1, none⟩ = some (.slice t1.a1 t1.n1 t1.c1) ∧ w'.cell? ⟨bq, 2, none⟩ = some (.slice t1.a2 t1.n2 t1.c2)) ∧ (w'.cell? ⟨bq, 3, none⟩ = some (.bool t2.s) ∧ w'.cell? ⟨bq, 4, none⟩ = some (.slice t2.a1 t2.n1 t2.c1) ∧ w'.cell? ⟨bq, 5, none⟩ = some (.slice t2.a2 t2.n2 t2.c2)) ∧ (w'.cell? ⟨bq, 6, none⟩ = some (.bool t3.s) ∧ w'.cell? ⟨bq, 7, none⟩ = some (.slice t3.a1 t3.n1 t3.c1) ∧ w'.cell? ⟨bq, 8, none⟩ = some (.slice t3.a2 t3.n2 t3.c2))) xw_3 := unhide HCE _ cc_3
              refine hK.out _ _ hC_3 ?_
              clear hK K
              (try simp only [Act.put, List.setIfInBounds_toArray, List.set_cons_zero, List.set_cons_succ])
              refine wpHold_one (k := 8) (by kernel_rfl) rfl (fun K hK => ?_)
              (try simp only [List.getElem_toArray, List.getElem_cons_succ, List.getElem_cons_zero])
              go_simp
              refine (unhide HF3 _ _ _ cc_3 ((hv_1.below hb_2).below hb_3) hv_3).mono ?_
              rintro e xw_4 ⟨rfl, hb_4⟩
              have cc_4 := below_step cc_3 hb_4
              have hC_4 : (fun w' : World => (w'.cell? ⟨ba, 0, none⟩ = some (.bool ta.s) ∧ w'.cell? ⟨ba, 1, none⟩ = some (.slice ta.a1 ta.n1 ta.c1) ∧ w'.cell? ⟨ba, 2, none⟩ = some (.slice ta.a2 ta.n2 ta.c2)) ∧ (w'.cell? ⟨bb, 0, none⟩ = some (.bool tb.s) ∧ w'.cell? ⟨bb, 1, none⟩ = some (.slice tb.a1 tb.n1 tb.c1) ∧ w'.cell? ⟨bb, 2, none⟩ = some (.slice tb.a2 tb.n2 tb.c2)) ∧ (w'.cell? ⟨bun, 0, none⟩ = some (.bool tun.s) ∧ w'.cell? ⟨bun, 1, none⟩ = some (.slice tun.a1 tun.n1 tun.c1) ∧ w'.cell? ⟨bun, 2, none⟩ = some (.slice tun.a2 tun.n2 tun.c2)) ∧ (w'.cell? ⟨bq, 0, none⟩ = some (.bool t1.s) ∧ w'.cell? ⟨bq, 1, none⟩ = some (.slice t1.a1 t1.n1 t1.c1) ∧ w'.cell? ⟨bq, 2, none⟩ = some (.slice t1.a2 t1.n2 t1.c2)) ∧ (w'.cell? ⟨bq, 3, none⟩ = some (.bool t2.s) ∧ w'.cell? ⟨bq, 4, none⟩ = some (.slice t2.a1 t2.n1 t2.c1) ∧ w'.cell? ⟨bq, 5, none⟩ = some (.slice t2.a2 t2.n2 t2.c2)) ∧ (w'.cell? ⟨bq, 6, none⟩ = some (.bool t3.s) ∧ w'.cell? ⟨bq, 7, none⟩ = some (.slice t3.a1 t3.n1 t3.c1) ∧ w'.cell? ⟨bq, 8, none⟩ = some (.slice t3.a2 t3.n2 t3.c2))) xw_4 := unhide HCE _ cc_4
              refine hK.out _ _ hC_4 ?_
              clear hK K
              (try simp only [Act.put, List.setIfInBounds_toArray, List.set_cons_zero, List.set_cons_succ])
              refine wpHold_take (i := 9) (v := ?_) rfl (by kernel_rfl) (by kernel_rfl) (by kernel_rfl) (fun _ _ _ h => h) (Or.inl ⟨by rfl, ?_⟩) hC_4 ?_
              rotate_left
              · intro w hSw; clear hSw; go_simp; (try with_reducible rfl)
              (try simp only [List.getElem_toArray, List.getElem_cons_succ, List.getElem_cons_zero])
              (try simp only [Act.put, List.setIfInBounds_toArray, List.set_cons_zero, List.set_cons_succ])
              refine wpHold_take (i := 10) (v := ?_) rfl (by kernel_rfl) (by kernel_rfl) (by kernel_rfl) (fun _ _ _ h => h) (Or.inl ⟨by rfl, ?_⟩) hC_4 ?_
              rotate_left
              · intro w hSw; clear hSw; go_simp; (try with_reducible rfl)
              (try simp only [List.getElem_toArray, List.getElem_cons_succ, List.getElem_cons_zero])
              (try simp only [Act.put, List.setIfInBounds_toArray, List.set_cons_zero, List.set_cons_succ])
              refine wpHold_take (i := 11) (v := ?_) rfl (by kernel_rfl) (by kernel_rfl) (by kernel_rfl) (fun _ _ _ h => h) (Or.inl ⟨by rfl, ?_⟩) hC_4 ?_
              rotate_left
              · intro w hSw; (try dsimp only at hSw); obtain ⟨⟨z0, z1, z2⟩, ⟨z3, z4, z5⟩, ⟨z6, z7, z8⟩, ⟨z9, z10, z11⟩, ⟨z12, z13, z14⟩, z15, z16, z17⟩ := hSw; go_simp; (try with_reducible rfl)
              (try simp only [List.getElem_toArray, List.getElem_cons_succ, List.getElem_cons_zero])
              (try simp only [Act.put, List.setIfInBounds_toArray, List.set_cons_zero, List.set_cons_succ])
              refine wpHold_take (i := 12) (v := ?_) rfl (by kernel_rfl) (by kernel_rfl) (by kernel_rfl) (fun _ _ _ h => h) (Or.inl ⟨by rfl, ?_⟩) hC_4 ?_
              rotate_left
              · intro w hSw; (try dsimp only at hSw); obtain ⟨⟨z0, z1, z2⟩, ⟨z3, z4, z5⟩, ⟨z6, z7, z8⟩, ⟨z9, z10, z11⟩, ⟨z12, z13, z14⟩, z15, z16, z17⟩ := hSw; go_simp; (try with_reducible rfl)
              (try simp only [List.getElem_toArray, List.getElem_cons_succ, List.getElem_cons_zero])
              (try simp only [Act.put, List.setIfInBounds_toArray, List.set_cons_zero, List.set_cons_succ])
              refine wpHold_one (k := 13) (by kernel_rfl) rfl (fun K hK => ?_)
              (try simp only [List.getElem_toArray, List.getElem_cons_succ, List.getElem_cons_zero])
              go_simp
              refine (unhide HFX _ cc_4).mono ?_
              rintro e xw_5 ⟨rfl, hb_5⟩
              have cc_5 := below_step cc_4 hb_5
              have hC_5 : (fun w' : World => (w'.cell? ⟨ba, 0, none⟩ = some (.bool ta.s) ∧ w'.cell? ⟨ba, 1, none⟩ = some (.slice ta.a1 ta.n1 ta.c1) ∧ w'.cell? ⟨ba, 2, none⟩ = some (.slice ta.a2 ta.n2 ta.c2)) ∧ (w'.cell? ⟨bb, 0, none⟩ = some (.bool tb.s) ∧ w'.cell? ⟨bb, 1, none⟩ = some (.slice tb.a1 tb.n1 tb.c1) ∧ w'.cell? ⟨bb, 2, none⟩ = some (.slice tb.a2 tb.n2 tb.c2)) ∧ (w'.cell? ⟨bun, 0, none⟩ = some (.bool tun.s) ∧ w'.cell? ⟨bun, 1, none⟩ = some (.slice tun.a1 tun.n1 tun.c1) ∧ w'.cell? ⟨bun, 2, none⟩ = some (.slice tun.a2 tun.n2 tun.c2)) ∧ (w'.cell? ⟨bq, 0, none⟩ = some (.bool t1.s) ∧ w'.cell? ⟨bq, 1, none⟩ = some (.slice t1.a1 t1.n1 t1.c1) ∧ w'.cell? ⟨bq, 2, none⟩ = some (.slice t1.a2 t1.n2 t1.c2)) ∧ (w'.cell? ⟨bq, 3, none⟩ = some (.bool t2.s) ∧ w'.cell? ⟨bq, 4, none⟩ = some (.slice t2.a1 t2.n1 t2.c1) ∧ w'.cell? ⟨bq, 5, none⟩ = some (.slice t2.a2 t2.n2 t2.c2)) ∧ (w'.cell? ⟨bq, 6, none⟩ = some (.bool t3.s) ∧ w'.cell? ⟨bq, 7, none⟩ = some (.slice t3.a1 t3.n1 t3.c1) ∧ w'.cell? ⟨bq, 8, none⟩ = some (.slice t3.a2 t3.n2 t3.c2))) xw_5 := unhide HCE _ cc_5
              refine hK.out _ _ hC_5 ?_
              clear hK K
              (try simp only [Act.put, List.setIfInBounds_toArray, List.set_cons_zero, List.set_cons_succ])
              refine wpHold_take (i := 14) (v := ?_) rfl (by kernel_rfl) (by kernel_rfl) (by kernel_rfl) (fun _ _ _ h => h) (Or.inl ⟨by rfl, ?_⟩) hC_5 ?_
              rotate_left
              · intro w hSw; clear hSw; go_simp; (try with_reducible rfl)
              (try simp only [List.getElem_toArray, List.getElem_cons_succ, List.getElem_cons_zero])
              (try simp only [Act.put, List.setIfInBounds_toArray, List.set_cons_zero, List.set_cons_succ])
              refine wpHold_take (i := 15) (v := ?_) rfl (by kernel_rfl) (by kernel_rfl) (by kernel_rfl) (fun _ _ _ h => h) (Or.inl ⟨by rfl, ?_⟩) hC_5 ?_
              rotate_left
              · intro w hSw; clear hSw; go_simp; (try with_reducible rfl)
              (try simp only [List.getElem_toArray, List.getElem_cons_succ, List.getElem_cons_zero])
              (try simp only [Act.put, List.setIfInBounds_toArray, List.set_cons_zero, List.set_cons_succ])
              refine wpHold_take (i := 16) (v := ?_) rfl (by kernel_rfl) (by kernel_rfl) (by kernel_rfl) (fun _ _ _ h => h) (Or.inl ⟨by rfl, ?_⟩) hC_5 ?_
              rotate_left
              · intro w hSw; clear hSw; go_simp; (try with_reducible rfl)
              (try simp only [List.getElem_toArray, List.getElem_cons_succ, List.getElem_cons_zero])
              (try simp only [Act.put, List.setIfInBounds_toArray, List.set_cons_zero, List.set_cons_succ])
              refine wpHold_take (i := 17) (v := ?_) rfl (by kernel_rfl) (by kernel_rfl) (by kernel_rfl) (fun _ _ _ h => h) (Or.inl ⟨by rfl, ?_⟩) hC_5 ?_
              rotate_left
              · intro w hSw; clear hSw; go_simp; (try with_reducible rfl)
              (try simp only [List.getElem_toArray, List.getElem_cons_succ, List.getElem_cons_zero])
              (try simp only [Act.put, List.setIfInBounds_toArray, List.set_cons_zero, List.set_cons_succ])
              refine wpHold_take (i := 18) (v := ?_) rfl (by kernel_rfl) (by kernel_rfl) (by kernel_rfl) (fun _ _ _ h => h) (Or.inl ⟨by rfl, ?_⟩) hC_5 ?_
              rotate_left
              · intro w hSw; (try dsimp only at hSw); obtain ⟨⟨z0, z1, z2⟩, ⟨z3, z4, z5⟩, ⟨z6, z7, z8⟩, ⟨z9, z10, z11⟩, ⟨z12, z13, z14⟩, z15, z16, z17⟩ := hSw; go_simp; (try with_reducible rfl)
              (try simp only [List.getElem_toArray, List.getElem_cons_succ, List.getElem_cons_zero])
              (try simp only [Act.put, List.setIfInBounds_toArray, List.set_cons_zero, List.set_cons_succ])
              refine wpHold_take (i := 19) (v := ?_) rfl (by kernel_rfl) (by kernel_rfl) (by kernel_rfl) (fun _ _ _ h => h) (Or.inl ⟨by rfl, ?_⟩) hC_5 ?_
              rotate_left
              · intro w hSw; (try dsimp only at hSw); obtain ⟨⟨z0, z1, z2⟩, ⟨z3, z4, z5⟩, ⟨z6, z7, z8⟩, ⟨z9, z10, z11⟩, ⟨z12, z13, z14⟩, z15, z16, z17⟩ := hSw; go_simp; (try with_reducible rfl)
              (try simp only [List.getElem_toArray, List.getElem_cons_succ, List.getElem_cons_zero])
              (try simp only [Act.put, List.setIfInBounds_toArray, List.set_cons_zero, List.set_cons_succ])
              refine wpHold_take (i := 20) (v := ?_) rfl (by kernel_rfl) (by kernel_rfl) (by kernel_rfl) (fun _ _ _ h => h) (Or.inl ⟨by rfl, ?_⟩) hC_5 ?_
              rotate_left
              · intro w hSw; clear hSw; go_simp; (try with_reducible rfl)
              (try simp only [List.getElem_toArray, List.getElem_cons_succ, List.getElem_cons_zero])
              (try simp only [Act.put, List.setIfInBounds_toArray, List.set_cons_zero, List.set_cons_succ])
              refine wpHold_take (i := 21) (v := ?_) rfl (by kernel_rfl) (by kernel_rfl) (by kernel_rfl) (fun _ _ _ h => h) (Or.inl ⟨by rfl, ?_⟩) hC_5 ?_
              rotate_left
              · intro w hSw; (try dsimp only at hSw); obtain ⟨⟨z0, z1, z2⟩, ⟨z3, z4, z5⟩, ⟨z6, z7, z8⟩, ⟨z9, z10, z11⟩, ⟨z12, z13, z14⟩, z15, z16, z17⟩ := hSw; go_simp; (try with_reducible rfl)
              (try simp only [List.getElem_toArray, List.getElem_cons_succ, List.getElem_cons_zero])
              (try simp only [Act.put, List.setIfInBounds_toArray, List.set_cons_zero, List.set_cons_succ])
              refine wpHold_one (k := 22) (by kernel_rfl) rfl (fun K hK => ?_)
              (try simp only [List.getElem_toArray, List.getElem_cons_succ, List.getElem_cons_zero])
              go_simp
              refine (unhide HF5 _ cc_5).mono ?_
              rintro e xw_6 ⟨xv_6, rfl, hv_6, hb_6⟩
              have cc_6 := below_step cc_5 hb_6
              have hC_6 : (fun w' : World => (w'.cell? ⟨ba, 0, none⟩ = some (.bool ta.s) ∧ w'.cell? ⟨ba, 1, none⟩ = some (.slice ta.a1 ta.n1 ta.c1) ∧ w'.cell? ⟨ba, 2, none⟩ = some (.slice ta.a2 ta.n2 ta.c2)) ∧ (w'.cell? ⟨bb, 0, none⟩ = some (.bool tb.s) ∧ w'.cell? ⟨bb, 1, none⟩ = some (.slice tb.a1 tb.n1 tb.c1) ∧ w'.cell? ⟨bb, 2, none⟩ = some (.slice tb.a2 tb.n2 tb.c2)) ∧ (w'.cell? ⟨bun, 0, none⟩ = some (.bool tun.s) ∧ w'.cell? ⟨bun, 1, none⟩ = some (.slice tun.a1 tun.n1 tun.c1) ∧ w'.cell? ⟨bun, 2, none⟩ = some (.slice tun.a2 tun.n2 tun.c2)) ∧ (w'.cell? ⟨bq, 0, none⟩ = some (.bool t1.s) ∧ w'.cell? ⟨bq, 1, none⟩ = some (.slice t1.a1 t1.n1 t1.c1) ∧ w'.cell? ⟨bq, 2, none⟩ = some (.slice t1.a2 t1.n2 t1.c2)) ∧ (w'.cell? ⟨bq, 3, none⟩ = some (.bool t2.s) ∧ w'.cell? ⟨bq, 4, none⟩ = some (.slice t2.a1 t2.n1 t2.c1) ∧ w'.cell? ⟨bq, 5, none⟩ = some (.slice t2.a2 t2.n2 t2.c2)) ∧ (w'.cell? ⟨bq, 6, none⟩ = some (.bool t3.s) ∧ w'.cell? ⟨bq, 7, none⟩ = some (.slice t3.a1 t3.n1 t3.c1) ∧ w'.cell? ⟨bq, 8, none⟩ = some (.slice t3.a2 t3.n2 t3.c2))) xw_6 := unhide HCE _ cc_6
              refine hK.out _ _ hC_6 ?_
              clear hK K
              (try simp only [Act.put, List.setIfInBounds_toArray, List.set_cons_zero, List.set_cons_succ])
              refine wpHold_one (k := 23) (by kernel_rfl) rfl (fun K hK => ?_)
              (try simp only [List.getElem_toArray, List.getElem_cons_succ, List.getElem_cons_zero])
              go_simp
              refine (unhide HF6 _ _ cc_6 hv_6).mono ?_
              rintro e xw_7 ⟨rfl, hb_7⟩
              have cc_7 := below_step cc_6 hb_7
              have hC_7 : (fun w' : World => (w'.cell? ⟨ba, 0, none⟩ = some (.bool ta.s) ∧ w'.cell? ⟨ba, 1, none⟩ = some (.slice ta.a1 ta.n1 ta.c1) ∧ w'.cell? ⟨ba, 2, none⟩ = some (.slice ta.a2 ta.n2 ta.c2)) ∧ (w'.cell? ⟨bb, 0, none⟩ = some (.bool tb.s) ∧ w'.cell? ⟨bb, 1, none⟩ = some (.slice tb.a1 tb.n1 tb.c1) ∧ w'.cell? ⟨bb, 2, none⟩ = some (.slice tb.a2 tb.n2 tb.c2)) ∧ (w'.cell? ⟨bun, 0, none⟩ = some (.bool tun.s) ∧ w'.cell? ⟨bun, 1, none⟩ = some (.slice tun.a1 tun.n1 tun.c1) ∧ w'.cell? ⟨bun, 2, none⟩ = some (.slice tun.a2 tun.n2 tun.c2)) ∧ (w'.cell? ⟨bq, 0, none⟩ = some (.bool t1.s) ∧ w'.cell? ⟨bq, 1, none⟩ = some (.slice t1.a1 t1.n1 t1.c1) ∧ w'.cell? ⟨bq, 2, none⟩ = some (.slice t1.a2 t1.n2 t1.c2)) ∧ (w'.cell? ⟨bq, 3, none⟩ = some (.bool t2.s) ∧ w'.cell? ⟨bq, 4, none⟩ = some (.slice t2.a1 t2.n1 t2.c1) ∧ w'.cell? ⟨bq, 5, none⟩ = some (.slice t2.a2 t2.n2 t2.c2)) ∧ (w'.cell? ⟨bq, 6, none⟩ = some (.bool t3.s) ∧ w'.cell? ⟨bq, 7, none⟩ = some (.slice t3.a1 t3.n1 t3.c1) ∧ w'.cell? ⟨bq, 8, none⟩ = some (.slice t3.a2 t3.n2 t3.c2))) xw_7 := unhide HCE _ cc_7
              refine hK.out _ _ hC_7 ?_
              clear hK K
              (try simp only [Act.put, List.setIfInBounds_toArray, List.set_cons_zero, List.set_cons_succ])
              refine wpHold_take (i := 24) (v := ?_) rfl (by kernel_rfl) (by kernel_rfl) (by kernel_rfl) (fun _ _ _ h => h) (Or.inl ⟨by rfl, ?_⟩) hC_7 ?_
              rotate_left
              · intro w hSw; clear hSw; go_simp; (try with_reducible rfl)
              (try simp only [List.getElem_toArray, List.getElem_cons_succ, List.getElem_cons_zero])
              (try simp only [Act.put, List.setIfInBounds_toArray, List.set_cons_zero, List.set_cons_succ])
              refine wpHold_one (k := 25) (by kernel_rfl) rfl (fun K hK => ?_)
              (try simp only [List.getElem_toArray, List.getElem_cons_succ, List.getElem_cons_zero])
              go_simp
              refine hK.out _ _ hC_7 ?_
              clear hK K
              (try simp only [Act.put, List.setIfInBounds_toArray, List.set_cons_zero, List.set_cons_succ])
              refine wpHold_done (by kernel_rfl) ?_ _
              have HFIN := hide (below_step (unhide HBBe) cc_7)
              clear hb_1 hC_1 cc_1 hb_2 hC_2 cc_2 hb_3 hC_3 cc_3 hb_4 hC_4 cc_4 hb_5 hC_5 cc_5 hb_6 hC_6 cc_6 hb_7 hC_7 cc_7 hv_1 hv_2 hv_3 hv_6 hC0 bd0 dfx
              go_wp2
              go_ret
              exact ⟨rfl, unhide HFIN⟩
        · have dn : decide (0 < n) = false := decide_eq_false hn0
          go_wp2_with fail
          refine wp_region_hold (fun w' : World => (w'.cell? ⟨ba, 0, none⟩ = some (.bool ta.s) ∧ w'.cell? ⟨ba, 1, none⟩ = some (.slice ta.a1 ta.n1 ta.c1) ∧ w'.cell? ⟨ba, 2, none⟩ = some (.slice ta.a2 ta.n2 ta.c2)) ∧ (w'.cell? ⟨bb, 0, none⟩ = some (.bool tb.s) ∧ w'.cell? ⟨bb, 1, none⟩ = some (.slice tb.a1 tb.n1 tb.c1) ∧ w'.cell? ⟨bb, 2, none⟩ = some (.slice tb.a2 tb.n2 tb.c2)) ∧ (w'.cell? ⟨bc, 0, none⟩ = some (.bool tc.s) ∧ w'.cell? ⟨bc, 1, none⟩ = some (.slice tc.a1 tc.n1 tc.c1) ∧ w'.cell? ⟨bc, 2, none⟩ = some (.slice tc.a2 tc.n2 tc.c2)) ∧ (w'.cell? ⟨bp, op + n * 3, none⟩ = some (.bool tp.s) ∧ w'.cell? ⟨bp, op + n * 3 + 1, none⟩ = some (.slice tp.a1 tp.n1 tp.c1) ∧ w'.cell? ⟨bp, op + n * 3 + 2, none⟩ = some (.slice tp.a2 tp.n2 tp.c2))) (by kernel_rfl) ?_
          have bd0 : Below Wbc.heap.size Wbc Wbc.drew := (Below.refl _ _).drew
          have hC0 : (fun w' : World => (w'.cell? ⟨ba, 0, none⟩ = some (.bool ta.s) ∧ w'.cell? ⟨ba, 1, none⟩ = some (.slice ta.a1 ta.n1 ta.c1) ∧ w'.cell? ⟨ba, 2, none⟩ = some (.slice ta.a2 ta.n2 ta.c2)) ∧ (w'.cell? ⟨bb, 0, none⟩ = some (.bool tb.s) ∧ w'.cell? ⟨bb, 1, none⟩ = some (.slice tb.a1 tb.n1 tb.c1) ∧ w'.cell? ⟨bb, 2, none⟩ = some (.slice tb.a2 tb.n2 tb.c2)) ∧ (w'.cell? ⟨bc, 0, none⟩ = some (.bool tc.s) ∧ w'.cell? ⟨bc, 1, none⟩ = some (.slice tc.a1 tc.n1 tc.c1) ∧ w'.cell? ⟨bc, 2, none⟩ = some (.slice tc.a2 tc.n2 tc.c2)) ∧ (w'.cell? ⟨bp, op + n * 3, none⟩ = some (.bool tp.s) ∧ w'.cell? ⟨bp, op + n * 3 + 1, none⟩ = some (.slice tp.a1 tp.n1 tp.c1) ∧ w'.cell? ⟨bp, op + n * 3 + 2, none⟩ = some (.slice tp.a2 tp.n2 tp.c2))) Wbc.drew := unhide HCC _ bd0
          refine wpHold_take (i := 0) (v := ?_) rfl (by kernel_rfl) (by kernel_rfl) (by kernel_rfl) (fun _ _ _ h => h) (Or.inl ⟨by rfl, ?_⟩) hC0 ?_
          rotate_left
          · intro w hSw; clear hSw; go_simp; (try with_reducible rfl)
          (try simp only [List.getElem_toArray, List.getElem_cons_succ, List.getElem_cons_zero])
          (try simp only [Act.put, List.setIfInBounds_toArray, List.set_cons_zero, List.set_cons_succ])
          refine wpHold_take (i := 1) (v := ?_) rfl (by kernel_rfl) (by kernel_rfl) (by kernel_rfl) (fun _ _ _ h => h) (Or.inl ⟨by rfl, ?_⟩) hC0 ?_
          rotate_left
          · intro w hSw; clear hSw; go_simp; (try with_reducible rfl)
          (try simp only [List.getElem_toArray, List.getElem_cons_succ, List.getElem_cons_zero])
          (try simp only [Act.put, List.setIfInBounds_toArray, List.set_cons_zero, List.set_cons_succ])
          refine wpHold_take (i := 2) (v := ?_) rfl (by kernel_rfl) (by kernel_rfl) (by kernel_rfl) (fun _ _ _ h => h) (Or.inl ⟨by rfl, ?_⟩) hC0 ?_
          rotate_left
          · intro w hSw; clear hSw; go_simp; (try with_reducible rfl)
          (try simp only [List.getElem_toArray, List.getElem_cons_succ, List.getElem_cons_zero])
          (try simp only [Act.put, List.setIfInBounds_toArray, List.set_cons_zero, List.set_cons_succ])
          refine wpHold_take (i := 3) (v := ?_) rfl (by kernel_rfl) (by kernel_rfl) (by kernel_rfl) (fun _ _ _ h => h) (Or.inl ⟨by rfl, ?_⟩) hC0 ?_
          rotate_left
          · intro w hSw; clear hSw; go_simp; (try with_reducible rfl)
          (try simp only [List.getElem_toArray, List.getElem_cons_succ, List.getElem_cons_zero])
          (try simp only [Act.put, List.setIfInBounds_toArray, List.set_cons_zero, List.set_cons_succ])
          refine wpHold_take (i := 4) (v := ?_) rfl (by kernel_rfl) (by kernel_rfl) (by kernel_rfl) (fun _ _ _ h => h) (Or.inl ⟨by rfl, ?_⟩) hC0 ?_
          rotate_left
          · intro w hSw; clear hSw; go_simp; (try with_reducible rfl)
          (try simp only [List.getElem_toArray, List.getElem_cons_succ, List.getElem_cons_zero])
          (try simp only [Act.put, List.setIfInBounds_toArray, List.set_cons_zero, List.set_cons_succ])
          refine wpHold_take (i := 5) (v := ?_) rfl (by kernel_rfl) (by kernel_rfl) (by kernel_rfl) (fun _ _ _ h => h) (Or.inl ⟨by rfl, ?_⟩) hC0 ?_
          rotate_left
          · intro w hSw; clear hSw; go_simp; (try with_reducible rfl)
          (try simp only [List.getElem_toArray, List.getElem_cons_succ, List.getElem_cons_zero])
          (try simp only [Act.put, List.setIfInBounds_toArray, List.set_cons_zero, List.set_cons_succ])
          refine wpHold_take (i := 6) (v := ?_) rfl (by kernel_rfl) (by kernel_rfl) (by kernel_rfl) (fun _ _ _ h => h) (Or.inl ⟨by rfl, ?_⟩) hC0 ?_
          rotate_left
          · intro w hSw; clear hSw; go_simp; (try with_reducible rfl)
          (try simp only [List.getElem_toArray, List.getElem_cons_succ, List.getElem_cons_zero])
          (try simp only [Act.put, List.setIfInBounds_toArray, List.set_cons_zero, List.set_cons_succ])
          refine wpHold_take (i := 7) (v := ?_) rfl (by kernel_rfl) (by kernel_rfl) (by kernel_rfl) (fun _ _ _ h => h) (Or.inl ⟨by rfl, ?_⟩) hC0 ?_
          rotate_left
          · intro w hSw; clear hSw; go_simp; (try with_reducible rfl)
          (try simp only [List.getElem_toArray, List.getElem_cons_succ, List.getElem_cons_zero])
          (try simp only [Act.put, List.setIfInBounds_toArray, List.set_cons_zero, List.set_cons_succ])
          refine wpHold_take (i := 8) (v := ?_) rfl (by kernel_rfl) (by kernel_rfl) (by kernel_rfl) (fun _ _ _ h => h) (Or.inl ⟨by rfl, ?_⟩) hC0 ?_
          rotate_left
          · intro w hSw; clear hSw; go_simp; (try with_reducible rfl)
          (try simp only [List.getElem_toArray, List.getElem_cons_succ, List.getElem_cons_zero])
          (try simp only [Act.put, List.setIfInBounds_toArray, List.set_cons_zero, List.set_cons_succ])
          refine wpHold_take (i := 9) (v := ?_) rfl (by kernel_rfl) (by kernel_rfl) (by kernel_rfl) (fun _ _ _ h => h) (Or.inl ⟨by rfl, ?_⟩) hC0 ?_
          rotate_left
          · intro w hSw; clear hSw; go_simp; (try with_reducible rfl)
          (try simp only [List.getElem_toArray, List.getElem_cons_succ, List.getElem_cons_zero])
          (try simp only [Act.put, List.setIfInBounds_toArray, List.set_cons_zero, List.set_cons_succ])
          refine wpHold_take (i := 10) (v := ?_) rfl (by kernel_rfl) (by kernel_rfl) (by kernel_rfl) (fun _ _ _ h => h) (Or.inl ⟨by rfl, ?_⟩) hC0 ?_
          rotate_left
          · intro w hSw; clear hSw; go_simp; (try with_reducible rfl)
          (try simp only [List.getElem_toArray, List.getElem_cons_succ, List.getElem_cons_zero])
          (try simp only [Act.put, List.setIfInBounds_toArray, List.set_cons_zero, List.set_cons_succ])
          refine wpHold_take (i := 11) (v := ?_) rfl (by kernel_rfl) (by kernel_rfl) (by kernel_rfl) (fun _ _ _ h => h) (Or.inl ⟨by rfl, ?_⟩) hC0 ?_
          rotate_left
          · intro w hSw; clear hSw; go_simp; (try with_reducible rfl)
          (try simp only [List.getElem_toArray, List.getElem_cons_succ, List.getElem_cons_zero])
          (try simp only [Act.put, List.setIfInBounds_toArray, List.set_cons_zero, List.set_cons_succ])
          refine wpHold_take (i := 12) (v := ?_) rfl (by kernel_rfl) (by kernel_rfl) (by kernel_rfl) (fun _ _ _ h => h) (Or.inl ⟨by rfl, ?_⟩) hC0 ?_
          rotate_left
          · intro w hSw; clear hSw; go_simp; (try with_reducible rfl)
          (try simp only [List.getElem_toArray, List.getElem_cons_succ, List.getElem_cons_zero])
          (try simp only [Act.put, List.setIfInBounds_toArray, List.set_cons_zero, List.set_cons_succ])
          refine wpHold_take (i := 13) (v := ?_) rfl (by kernel_rfl) (by kernel_rfl) (by kernel_rfl) (fun _ _ _ h => h) (Or.inl ⟨by rfl, ?_⟩) hC0 ?_
          rotate_left
          · intro w hSw; clear hSw; go_simp; (try with_reducible rfl)
          (try simp only [List.getElem_toArray, List.getElem_cons_succ, List.getElem_cons_zero])
          (try simp only [Act.put, List.setIfInBounds_toArray, List.set_cons_zero, List.set_cons_succ])
          refine wpHold_take (i := 14) (v := ?_) rfl (by kernel_rfl) (by kernel_rfl) (by kernel_rfl) (fun _ _ _ h => h) (Or.inl ⟨by rfl, ?_⟩) hC0 ?_
          rotate_left
          · intro w hSw; clear hSw; go_simp; (try with_reducible rfl)
          (try simp only [List.getElem_toArray, List.getElem_cons_succ, List.getElem_cons_zero])
          (try simp only [Act.put, List.setIfInBounds_toArray, List.set_cons_zero, List.set_cons_succ])
          refine wpHold_take (i := 15) (v := ?_) rfl (by kernel_rfl) (by kernel_rfl) (by kernel_rfl) (fun _ _ _ h => h) (Or.inl ⟨by rfl, ?_⟩) hC0 ?_
          rotate_left
          · intro w hSw; clear hSw; go_simp; (try with_reducible rfl)
          (try simp only [List.getElem_toArray, List.getElem_cons_succ, List.getElem_cons_zero])
          (try simp only [Act.put, List.setIfInBounds_toArray, List.set_cons_zero, List.set_cons_succ])
          refine wpHold_take (i := 16) (v := ?_) rfl (by kernel_rfl) (by kernel_rfl) (by kernel_rfl) (fun _ _ _ h => h) (Or.inl ⟨by rfl, ?_⟩) hC0 ?_
          rotate_left
          · intro w hSw; clear hSw; go_simp; (try with_reducible rfl)
          (try simp only [List.getElem_toArray, List.getElem_cons_succ, List.getElem_cons_zero])
          (try simp only [Act.put, List.setIfInBounds_toArray, List.set_cons_zero, List.set_cons_succ])
          refine wpHold_take (i := 17) (v := ?_) rfl (by kernel_rfl) (by kernel_rfl) (by kernel_rfl) (fun _ _ _ h => h) (Or.inl ⟨by rfl, ?_⟩) hC0 ?_
          rotate_left
          · intro w hSw; (try dsimp only at hSw); obtain ⟨⟨z0, z1, z2⟩, ⟨z3, z4, z5⟩, ⟨z6, z7, z8⟩, z9, z10, z11⟩ := hSw; go_simp; (try with_reducible rfl)
          (try simp only [List.getElem_toArray, List.getElem_cons_succ, List.getElem_cons_zero])
          (try simp only [Act.put, List.setIfInBounds_toArray, List.set_cons_zero, List.set_cons_succ])
          refine wpHold_take (i := 18) (v := ?_) rfl (by kernel_rfl) (by kernel_rfl) (by kernel_rfl) (fun _ _ _ h => h) (Or.inl ⟨by rfl, ?_⟩) hC0 ?_
          rotate_left
          · intro w hSw; (try dsimp only at hSw); obtain ⟨⟨z0, z1, z2⟩, ⟨z3, z4, z5⟩, ⟨z6, z7, z8⟩, z9, z10, z11⟩ := hSw; go_simp; (try with_reducible rfl)
          (try simp only [List.getElem_toArray, List.getElem_cons_succ, List.getElem_cons_zero])
          (try simp only [Act.put, List.setIfInBounds_toArray, List.set_cons_zero, List.set_cons_succ])
          refine wpHold_one (k := 19) (by kernel_rfl) rfl (fun K hK => ?_)
          (try simp only [List.getElem_toArray, List.getElem_cons_succ, List.getElem_cons_zero])
          go_simp
          refine (unhide HLK _ bd0).mono ?_
          rintro e xw_1 ⟨rfl, hb_1⟩
          have cc_1 := below_step bd0 hb_1
          have hC_1 : (fun w' : World => (w'.cell? ⟨ba, 0, none⟩ = some (.bool ta.s) ∧ w'.cell? ⟨ba, 1, none⟩ = some (.slice ta.a1 ta.n1 ta.c1) ∧ w'.cell? ⟨ba, 2, none⟩ = some (.slice ta.a2 ta.n2 ta.c2)) ∧ (w'.cell? ⟨bb, 0, none⟩ = some (.bool tb.s) ∧ w'.cell? ⟨bb, 1, none⟩ = some (.slice tb.a1 tb.n1 tb.c1) ∧ w'.cell? ⟨bb, 2, none⟩ = some (.slice tb.a2 tb.n2 tb.c2)) ∧ (w'.cell? ⟨bc, 0, none⟩ = some (.bool tc.s) ∧ w'.cell? ⟨bc, 1, none⟩ = some (.slice tc.a1 tc.n1 tc.c1) ∧ w'.cell? ⟨bc, 2, none⟩ = some (.slice tc.a2 tc.n2 tc.c2)) ∧ (w'.cell? ⟨bp, op + n * 3, none⟩ = some (.bool tp.s) ∧ w'.cell? ⟨bp, op + n * 3 + 1, none⟩ = some (.slice tp.a1 tp.n1 tp.c1) ∧ w'.cell? ⟨bp, op + n * 3 + 2, none⟩ = some (.slice tp.a2 tp.n2 tp.c2))) xw_1 := unhide HCC _ cc_1
          refine hK.out _ _ hC_1 ?_
          clear hK K
          (try simp only [Act.put, List.setIfInBounds_toArray, List.set_cons_zero, List.set_cons_succ])
          refine wpHold_take (i := 20) (v := ?_) rfl (by kernel_rfl) (by kernel_rfl) (by kernel_rfl) (fun _ _ _ h => h) (Or.inl ⟨by rfl, ?_⟩) hC_1 ?_
          rotate_left
          · intro w hSw; clear hSw; go_simp; (try with_reducible rfl)
          (try simp only [List.getElem_toArray, List.getElem_cons_succ, List.getElem_cons_zero])
          (try simp only [Act.put, List.setIfInBounds_toArray, List.set_cons_zero, List.set_cons_succ])
          refine wpHold_take (i := 21) (v := ?_) rfl (by kernel_rfl) (by kernel_rfl) (by kernel_rfl) (fun _ _ _ h => h) (Or.inl ⟨by rfl, ?_⟩) hC_1 ?_
          rotate_left
          · intro w hSw; clear hSw; go_simp; (try with_reducible rfl)
          (try simp only [List.getElem_toArray, List.getElem_cons_succ, List.getElem_cons_zero])
          (try simp only [Act.put, List.setIfInBounds_toArray, List.set_cons_zero, List.set_cons_succ])
          refine wpHold_take (i := 22) (v := ?_) rfl (by kernel_rfl) (by kernel_rfl) (by kernel_rfl) (fun _ _ _ h => h) (Or.inl ⟨by rfl, ?_⟩) hC_1 ?_
          rotate_left
          · intro w hSw; clear hSw; go_simp; (try with_reducible rfl)
          (try simp only [List.getElem_toArray, List.getElem_cons_succ, List.getElem_cons_zero])
          (try simp only [Act.put, List.setIfInBounds_toArray, List.set_cons_zero, List.set_cons_succ])
          refine wpHold_take (i := 23) (v := ?_) rfl (by kernel_rfl) (by kernel_rfl) (by kernel_rfl) (fun _ _ _ h => h) (Or.inl ⟨by rfl, ?_⟩) hC_1 ?_
          rotate_left
          · intro w hSw; (try dsimp only at hSw); obtain ⟨⟨z0, z1, z2⟩, ⟨z3, z4, z5⟩, ⟨z6, z7, z8⟩, z9, z10, z11⟩ := hSw; go_simp; (try with_reducible rfl)
          (try simp only [List.getElem_toArray, List.getElem_cons_succ, List.getElem_cons_zero])
          (try simp only [Act.put, List.setIfInBounds_toArray, List.set_cons_zero, List.set_cons_succ])
          refine wpHold_take (i := 24) (v := ?_) rfl (by kernel_rfl) (by kernel_rfl) (by kernel_rfl) (fun _ _ _ h => h) (Or.inl ⟨by rfl, ?_⟩) hC_1 ?_
          rotate_left
          · intro w hSw; (try dsimp only at hSw); obtain ⟨⟨z0, z1, z2⟩, ⟨z3, z4, z5⟩, ⟨z6, z7, z8⟩, z9, z10, z11⟩ := hSw; go_simp; (try with_reducible rfl)
          (try simp only [List.getElem_toArray, List.getElem_cons_succ, List.getElem_cons_zero])
          (try simp only [Act.put, List.setIfInBounds_toArray, List.set_cons_zero, List.set_cons_succ])
          refine wpHold_one (k := 25) (by kernel_rfl) rfl (fun K hK => ?_)
          (try simp only [List.getElem_toArray, List.getElem_cons_succ, List.getElem_cons_zero])
          go_simp
          refine (unhide HCX _ cc_1).mono ?_
          rintro e xw_2 ⟨rfl, hb_2⟩
          have cc_2 := below_step cc_1 hb_2
          have hC_2 : (fun w' : World => (w'.cell? ⟨ba, 0, none⟩ = some (.bool ta.s) ∧ w'.cell? ⟨ba, 1, none⟩ = some (.slice ta.a1 ta.n1 ta.c1) ∧ w'.cell? ⟨ba, 2, none⟩ = some (.slice ta.a2 ta.n2 ta.c2)) ∧ (w'.cell? ⟨bb, 0, none⟩ = some (.bool tb.s) ∧ w'.cell? ⟨bb, 1, none⟩ = some (.slice tb.a1 tb.n1 tb.c1) ∧ w'.cell? ⟨bb, 2, none⟩ = some (.slice tb.a2 tb.n2 tb.c2)) ∧ (w'.cell? ⟨bc, 0, none⟩ = some (.bool tc.s) ∧ w'.cell? ⟨bc, 1, none⟩ = some (.slice tc.a1 tc.n1 tc.c1) ∧ w'.cell? ⟨bc, 2, none⟩ = some (.slice tc.a2 tc.n2 tc.c2)) ∧ (w'.cell? ⟨bp, op + n * 3, none⟩ = some (.bool tp.s) ∧ w'.cell? ⟨bp, op + n * 3 + 1, none⟩ = some (.slice tp.a1 tp.n1 tp.c1) ∧ w'.cell? ⟨bp, op + n * 3 + 2, none⟩ = some (.slice tp.a2 tp.n2 tp.c2))) xw_2 := unhide HCC _ cc_2
          refine hK.out _ _ hC_2 ?_
          clear hK K
          (try simp only [Act.put, List.setIfInBounds_toArray, List.set_cons_zero, List.set_cons_succ])
          refine wpHold_take (i := 26) (v := ?_) rfl (by kernel_rfl) (by kernel_rfl) (by kernel_rfl) (fun _ _ _ h => h) (Or.inl ⟨by rfl, ?_⟩) hC_2 ?_
          rotate_left
          · intro w hSw; clear hSw; go_simp; (try with_reducible rfl)
          (try simp only [List.getElem_toArray, List.getElem_cons_succ, List.getElem_cons_zero])
          (try simp only [Act.put, List.setIfInBounds_toArray, List.set_cons_zero, List.set_cons_succ])
          refine wpHold_take (i := 27) (v := ?_) rfl (by kernel_rfl) (by kernel_rfl) (by kernel_rfl) (fun _ _ _ h => h) (Or.inl ⟨by rfl, ?_⟩) hC_2 ?_
          rotate_left
          · intro w hSw; clear hSw; go_simp; (try with_reducible rfl)
          (try simp only [List.getElem_toArray, List.getElem_cons_succ, List.getElem_cons_zero])
          (try simp only [Act.put, List.setIfInBounds_toArray, List.set_cons_zero, List.set_cons_succ])
          refine wpHold_take (i := 28) (v := ?_) rfl (by kernel_rfl) (by kernel_rfl) (by kernel_rfl) (fun _ _ _ h => h) (Or.inl ⟨by rfl, ?_⟩) hC_2 ?_
          rotate_left
          · intro w hSw; clear hSw; go_simp; (try with_reducible rfl)
          (try simp only [List.getElem_toArray, List.getElem_cons_succ, List.getElem_cons_zero])
          (try simp only [Act.put, List.setIfInBounds_toArray, List.set_cons_zero, List.set_cons_succ])
          refine wpHold_take (i := 29) (v := ?_) rfl (by kernel_rfl) (by kernel_rfl) (by kernel_rfl) (fun _ _ _ h => h) (Or.inl ⟨by rfl, ?_⟩) hC_2 ?_
          rotate_left
          · intro w hSw; clear hSw; go_simp; (try with_reducible rfl)
          (try simp only [List.getElem_toArray, List.getElem_cons_succ, List.getElem_cons_zero])
          (try simp only [Act.put, List.setIfInBounds_toArray, List.set_cons_zero, List.set_cons_succ])
          refine wpHold_take (i := 30) (v := ?_) rfl (by kernel_rfl) (by kernel_rfl) (by kernel_rfl) (fun _ _ _ h => h) (Or.inl ⟨by rfl, ?_⟩) hC_2 ?_
          rotate_left
          · intro w hSw; clear hSw; go_simp; (try with_reducible rfl)
          (try simp only [List.getElem_toArray, List.getElem_cons_succ, List.getElem_cons_zero])
          (try simp only [Act.put, List.setIfInBounds_toArray, List.set_cons_zero, List.set_cons_succ])
          refine wpHold_take (i := 31) (v := ?_) rfl (by kernel_rfl) (by kernel_rfl) (by kernel_rfl) (fun _ _ _ h => h) (Or.inl ⟨by rfl, ?_⟩) hC_2 ?_
          rotate_left
          · intro w hSw; clear hSw; go_simp; (try with_reducible rfl)
          (try simp only [List.getElem_toArray, List.getElem_cons_succ, List.getElem_cons_zero])
          (try simp only [Act.put, List.setIfInBounds_toArray, List.set_cons_zero, List.set_cons_succ])
          refine wpHold_take (i := 32) (v := undef) rfl (by kernel_rfl) (by kernel_rfl) (by kernel_rfl) (fun _ _ _ h => h) (Or.inr ⟨by rfl, rfl⟩) hC_2 ?_
          (try simp only [List.getElem_toArray, List.getElem_cons_succ, List.getElem_cons_zero])
          (try simp only [Act.put, List.setIfInBounds_toArray, List.set_cons_zero, List.set_cons_succ])
          refine wpHold_take (i := 33) (v := undef) rfl (by kernel_rfl) (by kernel_rfl) (by kernel_rfl) (fun _ _ _ h => h) (Or.inr ⟨by rfl, rfl⟩) hC_2 ?_
          (try simp only [List.getElem_toArray, List.getElem_cons_succ, List.getElem_cons_zero])
          (try simp only [Act.put, List.setIfInBounds_toArray, List.set_cons_zero, List.set_cons_succ])
          refine wpHold_take (i := 34) (v := undef) rfl (by kernel_rfl) (by kernel_rfl) (by kernel_rfl) (fun _ _ _ h => h) (Or.inr ⟨by rfl, rfl⟩) hC_2 ?_
          (try simp only [List.getElem_toArray, List.getElem_cons_succ, List.getElem_cons_zero])
          (try simp only [Act.put, List.setIfInBounds_toArray, List.set_cons_zero, List.set_cons_succ])
          refine wpHold_take (i := 35) (v := ?_) rfl (by kernel_rfl) (by kernel_rfl) (by kernel_rfl) (fun _ _ _ h => h) (Or.inl ⟨by rfl, ?_⟩) hC_2 ?_
          rotate_left
          · intro w hSw; clear hSw; go_simp; (try with_reducible rfl)
          (try simp only [List.getElem_toArray, List.getElem_cons_succ, List.getElem_cons_zero])
          (try simp only [Act.put, List.setIfInBounds_toArray, List.set_cons_zero, List.set_cons_succ])
          refine wpHold_take (i := 36) (v := ?_) rfl (by kernel_rfl) (by kernel_rfl) (by kernel_rfl) (fun _ _ _ h => h) (Or.inl ⟨by rfl, ?_⟩) hC_2 ?_
          rotate_left
          · intro w hSw; clear hSw; go_simp; (try with_reducible rfl)
          (try simp only [List.getElem_toArray, List.getElem_cons_succ, List.getElem_cons_zero])
          (try simp only [Act.put, List.setIfInBounds_toArray, List.set_cons_zero, List.set_cons_succ])
          refine wpHold_take (i := 37) (v := undef) rfl (by kernel_rfl) (by kernel_rfl) (by kernel_rfl) (fun _ _ _ h => h) (Or.inr ⟨by rfl, rfl⟩) hC_2 ?_
          (try simp only [List.getElem_toArray, List.getElem_cons_succ, List.getElem_cons_zero])
          (try simp only [Act.put, List.setIfInBounds_toArray, List.set_cons_zero, List.set_cons_succ])
          refine wpHold_take (i := 38) (v := undef) rfl (by kernel_rfl) (by kernel_rfl) (by kernel_rfl) (fun _ _ _ h => h) (Or.inr ⟨by rfl, rfl⟩) hC_2 ?_
          (try simp only [List.getElem_toArray, List.getElem_cons_succ, List.getElem_cons_zero])
          (try simp only [Act.put, List.setIfInBounds_toArray, List.set_cons_zero, List.set_cons_succ])
          refine wpHold_take (i := 39) (v := undef) rfl (by kernel_rfl) (by kernel_rfl) (by kernel_rfl) (fun _ _ _ h => h) (Or.inr ⟨by rfl, rfl⟩) hC_2 ?_
          (try simp only [List.getElem_toArray, List.getElem_cons_succ, List.getElem_cons_zero])
          (try simp only [Act.put, List.setIfInBounds_toArray, List.set_cons_zero, List.set_cons_succ])
          refine wpHold_take (i := 40) (v := undef) rfl (by kernel_rfl) (by kernel_rfl) (by kernel_rfl) (fun _ _ _ h => h) (Or.inr ⟨by rfl, rfl⟩) hC_2 ?_
          (try simp only [List.getElem_toArray, List.getElem_cons_succ, List.getElem_cons_zero])
          (try simp only [Act.put, List.setIfInBounds_toArray, List.set_cons_zero, List.set_cons_succ])
          refine wpHold_take (i := 41) (v := ?_) rfl (by kernel_rfl) (by kernel_rfl) (by kernel_rfl) (fun _ _ _ h => h) (Or.inl ⟨by rfl, ?_⟩) hC_2 ?_
          rotate_left
          · intro w hSw; clear hSw; go_simp; (try with_reducible rfl)
          (try simp only [List.getElem_toArray, List.getElem_cons_succ, List.getElem_cons_zero])
          (try simp only [Act.put, List.setIfInBounds_toArray, List.set_cons_zero, List.set_cons_succ])
          refine wpHold_take (i := 42) (v := ?_) rfl (by kernel_rfl) (by kernel_rfl) (by kernel_rfl) (fun _ _ _ h => h) (Or.inl ⟨by rfl, ?_⟩) hC_2 ?_
          rotate_left
          · intro w hSw; clear hSw; go_simp; (try with_reducible rfl)
          (try simp only [List.getElem_toArray, List.getElem_cons_succ, List.getElem_cons_zero])
          (try simp only [Act.put, List.setIfInBounds_toArray, List.set_cons_zero, List.set_cons_succ])
          refine wpHold_done (by kernel_rfl) ?_ _
          have BR := cc_2
          have HX_ba_t := hide ((unhide HX_ba_43).keep BR)
          have HX_bb_t := hide ((unhide HX_bb_43).keep BR)
          have HB_t := hide (below_step (unhide HB_43) BR)
          clear BR hb_1 hC_1 cc_1 hb_2 hC_2 cc_2 hC0 bd0 HCC HLK HCX HCL HSG dcx dn HRP 
          obtain ⟨cba_0, cba_1, cba_2⟩ := (unhide HX_ba_t).cells _ (Below.refl _ _)
          have hov : (((n : Nat) : Int) : Rat) ≤ a := (by
            have h := unhide HH0
            have e : n = 0 := by omega
            rw [e]; exact h)
          have HWA := hide (wait_over ta.val a n xw_2 (unhide HX_ba_t).2 (unhide HRA) (unhide HH0) hov (by omega))
          have HOV := hide hov
          simp only [Tri.val] at HWA
          clear hov
          go_wp2_with fail
          refine (unhide HWA).mono ?_
          rintro e w_q ⟨rfl, hbx⟩
          clear cba_0 cba_1 cba_2
          have hb_q := below_step hbx (alloc_below w_q (.cells #[.bool false, .slice none 0 0, .slice none 0 0, .bool false, .slice none 0 0, .slice none 0 0, .bool false, .slice none 0 0, .slice none 0 0] 48))
          have HB_61 := hide (below_step (unhide HB_t) hb_q)
          have HX_ba_61 := hide ((unhide HX_ba_t).keep hb_q)
          have HX_bb_61 := hide ((unhide HX_bb_t).keep hb_q)
          clear HB_t HX_ba_t HX_bb_t
          clear hbx hb_q HWA
          obtain ⟨cba_0, cba_1, cba_2⟩ := (unhide HX_ba_61).cells _ (Below.refl _ _)
          go_wp2_with fail
          obtain ⟨Wq, hWq⟩ : ∃ W, w_q.alloc (.cells #[.bool false, .slice none 0 0, .slice none 0 0, .bool false, .slice none 0 0, .slice none 0 0, .bool false, .slice none 0 0, .slice none 0 0] 48) = W := ⟨_, rfl⟩
          clear cba_0 cba_1 cba_2
          rw [hWq] at HB_61 HX_ba_61 HX_bb_61 ⊢
          clear hWq
          have HRN : Hid (RS (((n : Nat) : Int) : Rat) 1) := word_RS (show n ≤ 1000 by omega)
          have HCO : Hid (∀ W, Below Wq.heap.size Wq W → (fun w' : World => (w'.cell? ⟨ba, 0, none⟩ = some (.bool ta.s) ∧ w'.cell? ⟨ba, 1, none⟩ = some (.slice ta.a1 ta.n1 ta.c1) ∧ w'.cell? ⟨ba, 2, none⟩ = some (.slice ta.a2 ta.n2 ta.c2))) W) := fun W hW => (unhide HX_ba_61).cells W hW
          have HWHc : Hid (∀ W, Calls Tryd.prog 12 #[.int .i64 (n : Int)] W fun e w' => ∃ v, e = .returned v ∧ RatIs w' v (((n : Nat) : Int) : Rat) ∧ Below W.heap.size W w') := fun W => whole_any (n : Int) (by omega) (by omega) W
          have HF4 : Hid (∃ x : Int, 0 ≤ x ∧ x ≤ 1 ∧ ∀ W v (hW : Below Wq.heap.size Wq W) (hv : RatIs W v (((n : Nat) : Int) : Rat)), Calls Tryd.prog 17 #[.agg #[.bool ta.s, .slice ta.a1 ta.n1 ta.c1, .slice ta.a2 ta.n2 ta.c2], v] W fun e w' => e = .returned (.int .i64 x) ∧ Below W.heap.size W w') := ⟨cmpv a (((n : Nat) : Int) : Rat), (cmpv_ge (unhide HOV)).1, (cmpv_ge (unhide HOV)).2, fun W v hW hv => cmpR_all ta.val v _ _ W ((unhide HX_ba_61).2.below hW) hv 1 (unhide HRA) (unhide HRN) (by rw [KKe]; omega)⟩
          obtain ⟨fx, fx0, fx1, hfx⟩ := unhide HF4
          have HFX := hide hfx
          have dfx : decide (0 ≤ fx) = true := decide_eq_true fx0
          clear hfx HF4
          refine wp_region_hold (fun w' : World => (w'.cell? ⟨ba, 0, none⟩ = some (.bool ta.s) ∧ w'.cell? ⟨ba, 1, none⟩ = some (.slice ta.a1 ta.n1 ta.c1) ∧ w'.cell? ⟨ba, 2, none⟩ = some (.slice ta.a2 ta.n2 ta.c2))) (by kernel_rfl) ?_
          have bd0 : Below Wq.heap.size Wq Wq.drew := (Below.refl _ _).drew
          have hC0 : (fun w' : World => (w'.cell? ⟨ba, 0, none⟩ = some (.bool ta.s) ∧ w'.cell? ⟨ba, 1, none⟩ = some (.slice ta.a1 ta.n1 ta.c1) ∧ w'.cell? ⟨ba, 2, none⟩ = some (.slice ta.a2 ta.n2 ta.c2))) Wq.drew := unhide HCO _ bd0
          refine wpHold_take (i := 0) (v := ?_) rfl (by kernel_rfl) (by kernel_rfl) (by kernel_rfl) (fun _ _ _ h => h) (Or.inl ⟨by rfl, ?_⟩) hC0 ?_
          rotate_left
          · intro w hSw; (try dsimp only at hSw); obtain ⟨z0, z1, z2⟩ := hSw; go_simp; (try with_reducible rfl)
          (try simp only [List.getElem_toArray, List.getElem_cons_succ, List.getElem_cons_zero])
          (try simp only [Act.put, List.setIfInBounds_toArray, List.set_cons_zero, List.set_cons_succ])
          refine wpHold_take (i := 1) (v := ?_) rfl (by kernel_rfl) (by kernel_rfl) (by kernel_rfl) (fun _ _ _ h => h) (Or.inl ⟨by rfl, ?_⟩) hC0 ?_
          rotate_left
          · intro w hSw; clear hSw; go_simp; (try with_reducible rfl)
          (try simp only [List.getElem_toArray, List.getElem_cons_succ, List.getElem_cons_zero])
          (try simp only [Act.put, List.setIfInBounds_toArray, List.set_cons_zero, List.set_cons_succ])
          refine wpHold_one (k := 2) (by kernel_rfl) rfl (fun K hK => ?_)
          (try simp only [List.getElem_toArray, List.getElem_cons_succ, List.getElem_cons_zero])
          go_simp
          refine (unhide HWHc _).mono ?_
          rintro e xw_1 ⟨xv_1, rfl, hv_1, hb_1⟩
          have cc_1 := below_step bd0 hb_1
          have hC_1 : (fun w' : World => (w'.cell? ⟨ba, 0, none⟩ = some (.bool ta.s) ∧ w'.cell? ⟨ba, 1, none⟩ = some (.slice ta.a1 ta.n1 ta.c1) ∧ w'.cell? ⟨ba, 2, none⟩ = some (.slice ta.a2 ta.n2 ta.c2))) xw_1 := unhide HCO _ cc_1
          refine hK.out _ _ hC_1 ?_
          clear hK K
          (try simp only [Act.put, List.setIfInBounds_toArray, List.set_cons_zero, List.set_cons_succ])
          refine wpHold_one (k := 3) (by kernel_rfl) rfl (fun K hK => ?_)
          (try simp only [List.getElem_toArray, List.getElem_cons_succ, List.getElem_cons_zero])
          go_simp
          refine (unhide HFX _ _ cc_1 hv_1).mono ?_
          rintro e xw_2 ⟨rfl, hb_2⟩
          have cc_2 := below_step cc_1 hb_2
          have hC_2 : (fun w' : World => (w'.cell? ⟨ba, 0, none⟩ = some (.bool ta.s) ∧ w'.cell? ⟨ba, 1, none⟩ = some (.slice ta.a1 ta.n1 ta.c1) ∧ w'.cell? ⟨ba, 2, none⟩ = some (.slice ta.a2 ta.n2 ta.c2))) xw_2 := unhide HCO _ cc_2
          refine hK.out _ _ hC_2 ?_
          clear hK K
          (try simp only [Act.put, List.setIfInBounds_toArray, List.set_cons_zero, List.set_cons_succ])
          refine wpHold_take (i := 4) (v := ?_) rfl (by kernel_rfl) (by kernel_rfl) (by kernel_rfl) (fun _ _ _ h => h) (Or.inl ⟨by rfl, ?_⟩) hC_2 ?_
          rotate_left
          · intro w hSw; clear hSw; go_simp; (try with_reducible rfl)
          (try simp only [List.getElem_toArray, List.getElem_cons_succ, List.getElem_cons_zero])
          (try simp only [Act.put, List.setIfInBounds_toArray, List.set_cons_zero, List.set_cons_succ])
          refine wpHold_one (k := 5) (by kernel_rfl) rfl (fun K hK => ?_)
          (try simp only [List.getElem_toArray, List.getElem_cons_succ, List.getElem_cons_zero])
          go_simp
          refine hK.out _ _ hC_2 ?_
          clear hK K
          (try simp only [Act.put, List.setIfInBounds_toArray, List.set_cons_zero, List.set_cons_succ])
          refine wpHold_done (by kernel_rfl) ?_ _
          have HFIN := hide (below_step (unhide HB_61) cc_2)
          clear hb_1 hC_1 cc_1 hb_2 hC_2 cc_2 hv_1 hC0 bd0 dfx
          go_wp2
          go_ret
          exact ⟨rfl, unhide HFIN⟩
end Go.Proofs.YtigilnkcjblhcaaDoor
