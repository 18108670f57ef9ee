/- ChanceTails: the law's walk. -/
import Derived.Test.YtdicbnchkfclaaaDoorW69
import Derived.Test.YtdicbnchkfclaaaDoorX2
import Derived.Test.YtdicbnchkfclaaaDoorW66
namespace Go.Proofs.YtdicbnchkfclaaaDoor
open Go.RowKit Go.Sort Go.Shelf

theorem over_zero (qs : List Rat) : wsum qs (over 0) qs.length = wsum qs (fun j => ((j ^ 1 : Nat) : Int)) qs.length :=
  wsum_congr qs _ (fun j _ => by show max ((j : Int) - ((0 : Nat) : Int)) 0 = _; rw [Nat.pow_one]; omega)

theorem tail_step {qs : List Rat} {n : Nat} (hs : qsum qs qs.length = 1) (hn : n < qs.length) : wsum qs (over n) qs.length - wsum qs (over (n + 1)) qs.length = (1 - qsum qs n) - qs[n]! := by
  rw [over_step, hs, show min qs.length (n + 1) = n + 1 by omega]
  show 1 - (qsum qs n + qs[n]!) = _
  grind

theorem one_RS : RS (1 : Rat) 1 := whole_RS (x := 1) ⟨by decide, by decide⟩
theorem RS.sub {a b : Rat} {i j : Nat} (ha : RS a i) (hb : RS b j) : RS (a - b) (i + j + 1) := by
  rw [Rat.sub_eq_add_neg]; exact ha.add hb.neg

set_option maxHeartbeats 16000000 in
set_option maxRecDepth 100000 in
set_option linter.unusedSimpArgs false in
theorem chanceTails_any (v : Value) (ps : List (Int × Int)) (w : World) (htab : Tab w) (h : PairsAre w v ps) :
    Calls Tryd.prog 4 #[v] w fun e w' => e = .returned (.bool true) ∧ Below w.heap.size w w' := by
  have HP := hide h
  obtain ⟨a, c, rfl, h1, h2, h4, h3⟩ := h
  have H4 := hide h4
  clear h3 h4
  by_cases hlen : (25 : Int) < (ps.length : Int)
  · clear H4 HP htab
    go_enter Tryd.func4, Tryd.ntmps4
    go_wp2
    go_ret
    exact ⟨rfl, Below.refl _ _⟩
  have hlq : (pqs ps).length = ps.length := pqs_length ps
  have hrs := pqs_RS (unhide H4)
  obtain ⟨qs, hqs⟩ : ∃ qs, pqs ps = qs := ⟨_, rfl⟩
  have HLW := hide (law_any _ ps w (unhide HP) (by omega))
  rw [hqs] at hlq hrs HLW
  have hl25 : qs.length ≤ 25 := by omega
  have HRS := hide hrs
  have HTAB := hide htab
  have HLQ := hide hlq
  clear hrs htab hlq HP hqs H4
  have KKe : KK = 1099511627776 := rfl
  have HMO : Hid (∀ W v, LawIs W v qs → chk qs = 0 → Calls Tryd.prog 11 #[v, .int .i64 1] W fun e w' => ∃ v, e = .returned (.tuple #[v, .nilIface]) ∧ RatIs w' v (wsum qs (fun j => ((j ^ 1 : Nat) : Int)) qs.length) ∧ Below W.heap.size W w') := fun W v hl hc => moment_any v qs 1 1 W hl (unhide HRS) (by rw [KKe]; omega) hc (by decide)
  have HME : Hid (∀ W v, LawIs W v qs → chk qs ≠ 0 → Calls Tryd.prog 11 #[v, .int .i64 1] W fun e w' => e = .returned (.tuple #[zAgg, .iface 68 (.int .i64 (chk qs))]) ∧ Below W.heap.size W w') := fun W v hl hc => by
    have := moment_err v qs 1 1 W hl (unhide HRS) (by rw [KKe]; omega) hc
    rw [errV_not hc] at this
    exact this
  have HOV : Hid (∀ W v (n : Nat), LawIs W v qs → chk qs = 0 → n ≤ 100 → Calls Tryd.prog 18 #[v, .int .i64 (n : Int)] W fun e w' => ∃ v, e = .returned (.tuple #[v, .nilIface]) ∧ RatIs w' v (wsum qs (over n) qs.length) ∧ Below W.heap.size W w') := fun W v n hl hc hn => over_any v qs 1 n W hl (unhide HRS) (by rw [KKe]; omega) hc hn
  have HCO : Hid (∀ W, Below w.heap.size w W → Calls Tryd.prog 8 #[] W fun e w' => ∃ v, e = .returned (.tuple #[v, .bool true]) ∧ Below W.heap.size W w') := fun W hW => coins_any W (tab_below (unhide HTAB) hW)
  go_enter Tryd.func4, Tryd.ntmps4
  go_wp2_with fail
  refine (unhide HLW).mono ?_
  rintro e w1 ⟨v1, rfl, hl1, hb1⟩
  have HL1 := hide hl1
  have HBW := hide hb1
  clear hb1 HLW
  by_cases hc : chk qs = 0
  · obtain ⟨hq0, hq1, _, hsum⟩ := chk_zero hc
    obtain ⟨a1, cp1, rfl, m1, m2, m3⟩ := hl1
    obtain ⟨ba, oa, rfl, hba, hcs⟩ := m3 hq0
    have HCS := hide hcs
    have HSUM := hide hsum
    have HCK := hide hc
    have HB_0 := hide (Below.refl w1.heap.size w1)
    clear m3 hcs hsum hc
    go_wp2_with fail
    refine (unhide HMO _ _ (unhide HL1) (unhide HCK)).mono ?_
    rintro e w_1 ⟨v2, rfl, hv2, hbx⟩
    obtain ⟨tm, rfl, hr_1⟩ := tri_of hv2
    simp only [Tri.val]
    have HG_b4 := hide (below_step (unhide HB_0) hbx).size
    have hb_1 := below_step hbx (alloc_below w_1 (.cells #[.bool tm.s, .slice tm.a1 tm.n1 tm.c1, .slice tm.a2 tm.n2 tm.c2] 36))
    have HB_2 := hide (below_step (unhide HB_0) hb_1)
    clear HB_0
    have HX_b4_1 := hide (BoxIs.new hr_1)
    obtain ⟨Wb4, hW_1⟩ : ∃ W, w_1.alloc (.cells #[.bool tm.s, .slice tm.a1 tm.n1 tm.c1, .slice tm.a2 tm.n2 tm.c2] 36) = W := ⟨_, rfl⟩
    obtain ⟨b4, hc_1⟩ : ∃ b, w_1.heap.size = b := ⟨_, rfl⟩
    rw [hW_1] at HB_2 HX_b4_1
    rw [hc_1] at HX_b4_1 HG_b4
    clear hv2 hr_1 hbx hb_1
    go_wp2_with fail
    clear hW_1 hc_1
    refine (unhide HCO _ (below_step (unhide HBW) (unhide HB_2))).mono ?_
    rintro e w_3 ⟨v3, rfl, hbx⟩
    have HB_4 := hide (below_step (unhide HB_2) hbx)
    have HX_b4_4 := hide ((unhide HX_b4_1).keep hbx)
    clear HB_2 HX_b4_1
    clear hbx
    go_wp2_with fail
    refine (whole_any 1 (by decide) (by decide) _).mono ?_
    rintro e w_5 ⟨v4, rfl, hv4, hbx⟩
    obtain ⟨t8, rfl, hr_5⟩ := tri_of hv4
    simp only [Tri.val]
    have HL_b4_b8 := hide (Nat.lt_of_lt_of_le (unhide HX_b4_4).lt hbx.size)
    have HG_b8 := hide (below_step (unhide HB_4) hbx).size
    have hb_5 := below_step hbx (alloc_below w_5 (.cells #[.bool t8.s, .slice t8.a1 t8.n1 t8.c1, .slice t8.a2 t8.n2 t8.c2] 36))
    have HB_6 := hide (below_step (unhide HB_4) hb_5)
    have HX_b4_6 := hide ((unhide HX_b4_4).keep hb_5)
    clear HB_4 HX_b4_4
    have HX_b8_5 := hide (BoxIs.new hr_5)
    obtain ⟨Wb8, hW_5⟩ : ∃ W, w_5.alloc (.cells #[.bool t8.s, .slice t8.a1 t8.n1 t8.c1, .slice t8.a2 t8.n2 t8.c2] 36) = W := ⟨_, rfl⟩
    obtain ⟨b8, hc_5⟩ : ∃ b, w_5.heap.size = b := ⟨_, rfl⟩
    rw [hW_5] at HB_6 HX_b4_6 HX_b8_5
    rw [hc_5] at HX_b8_5 HL_b4_b8 HG_b8
    clear hv4 hr_5 hbx hb_5
    go_wp2_with fail
    clear hW_5 hc_5
    have HM0 := unhide HB_6
    have HQM := hide (unhide HX_b8_5).lt
    go_loopw [9] (fun vn wr => ∃ (n : Nat) (t : Tri), vn = .int .i64 (n : Int) ∧ n ≤ qs.length ∧ Below w1.heap.size w1 wr ∧ BoxIs wr b4 tm (wsum qs (fun j => ((j ^ 1 : Nat) : Int)) qs.length) ∧ BoxIs wr b8 t (1 - qsum qs n)) (fun vn _ => qs.length - (intOf vn).toNat)
    case atStart => exact ⟨0, t8, rfl, Nat.zero_le _, unhide HB_6, unhide HX_b4_6, by have := unhide HX_b8_5; show BoxIs _ _ _ (1 - 0); rw [show (1 : Rat) - 0 = ((1 : Int) : Rat) by have e1 : ((1 : Int) : Rat) = 1 := rfl; rw [e1]; grind]; exact this⟩
    case round =>
      obtain ⟨n, t, rfl, hn, bl, X4, X8⟩ := hrel
      have HB_r := hide bl
      have HX_b4_r := hide X4
      have HX_b8_r := hide X8
      clear bl X4 X8 HM0 HQM
      by_cases hlt : n < qs.length
      · have i1 : (n : Int) < (ps.length : Int) := by have := unhide HLQ; omega
        have i2 : (n : Int) < (qs.length : Int) := by omega
        have i3 : ((n : Int) == 100) = false := by rw [beq_eq_false_iff_ne]; omega
        have HOV1 : Hid (∀ W, Below w1.heap.size w1 W → Calls Tryd.prog 18 #[.slice (some ⟨ba, oa, none⟩) qs.length cp1, .int .i64 (n : Int)] W fun e w' => ∃ v, e = .returned (.tuple #[v, .nilIface]) ∧ RatIs w' v (wsum qs (over n) qs.length) ∧ Below W.heap.size W w') := fun W hW => unhide HOV W _ n ((unhide HL1).below hW) (unhide HCK) (by omega)
        have HOV2 : Hid (∀ W, Below w1.heap.size w1 W → Calls Tryd.prog 18 #[.slice (some ⟨ba, oa, none⟩) qs.length cp1, .int .i64 ((n : Int) + 1)] W fun e w' => ∃ v, e = .returned (.tuple #[v, .nilIface]) ∧ RatIs w' v (wsum qs (over (n + 1)) qs.length) ∧ Below W.heap.size W w') := fun W hW => unhide HOV W _ (n + 1) ((unhide HL1).below hW) (unhide HCK) (by omega)
        go_wp2_with fail
        refine (unhide HOV1 _ (unhide HB_r)).mono ?_
        rintro e w_51 ⟨v6, rfl, hv6, hbx⟩
        obtain ⟨ta, rfl, hr_51⟩ := tri_of hv6
        simp only [Tri.val]
        have HL_b4_b10 := hide (Nat.lt_of_lt_of_le (unhide HX_b4_r).lt hbx.size)
        have HL_b8_b10 := hide (Nat.lt_of_lt_of_le (unhide HX_b8_r).lt hbx.size)
        have HG_b10 := hide (below_step (unhide HB_r) hbx).size
        have hb_51 := below_step hbx (alloc_below w_51 (.cells #[.bool ta.s, .slice ta.a1 ta.n1 ta.c1, .slice ta.a2 ta.n2 ta.c2] 36))
        have HB_52 := hide (below_step (unhide HB_r) hb_51)
        have HX_b4_52 := hide ((unhide HX_b4_r).keep hb_51)
        have HX_b8_52 := hide ((unhide HX_b8_r).keep hb_51)
        clear HB_r HX_b4_r HX_b8_r
        have HX_b10_51 := hide (BoxIs.new hr_51)
        obtain ⟨Wb10, hW_51⟩ : ∃ W, w_51.alloc (.cells #[.bool ta.s, .slice ta.a1 ta.n1 ta.c1, .slice ta.a2 ta.n2 ta.c2] 36) = W := ⟨_, rfl⟩
        obtain ⟨b10, hc_51⟩ : ∃ b, w_51.heap.size = b := ⟨_, rfl⟩
        rw [hW_51] at HB_52 HX_b4_52 HX_b8_52 HX_b10_51
        rw [hc_51] at HX_b10_51 HL_b4_b10 HL_b8_b10 HG_b10
        clear hv6 hr_51 hbx hb_51
        go_wp2_with fail
        clear hW_51 hc_51
        refine (unhide HOV2 _ (unhide HB_52)).mono ?_
        rintro e w_53 ⟨v7, rfl, hv7, hbx⟩
        obtain ⟨tb, rfl, hr_53⟩ := tri_of hv7
        simp only [Tri.val]
        have HL_b4_b12 := hide (Nat.lt_of_lt_of_le (unhide HX_b4_52).lt hbx.size)
        have HL_b8_b12 := hide (Nat.lt_of_lt_of_le (unhide HX_b8_52).lt hbx.size)
        have HL_b10_b12 := hide (Nat.lt_of_lt_of_le (unhide HX_b10_51).lt hbx.size)
        have HG_b12 := hide (below_step (unhide HB_52) hbx).size
        have hb_53 := below_step hbx (alloc_below w_53 (.cells #[.bool tb.s, .slice tb.a1 tb.n1 tb.c1, .slice tb.a2 tb.n2 tb.c2] 36))
        have HB_54 := hide (below_step (unhide HB_52) hb_53)
        have HX_b4_54 := hide ((unhide HX_b4_52).keep hb_53)
        have HX_b8_54 := hide ((unhide HX_b8_52).keep hb_53)
        have HX_b10_54 := hide ((unhide HX_b10_51).keep hb_53)
        clear HB_52 HX_b4_52 HX_b8_52 HX_b10_51
        have HX_b12_53 := hide (BoxIs.new hr_53)
        obtain ⟨Wb12, hW_53⟩ : ∃ W, w_53.alloc (.cells #[.bool tb.s, .slice tb.a1 tb.n1 tb.c1, .slice tb.a2 tb.n2 tb.c2] 36) = W := ⟨_, rfl⟩
        obtain ⟨b12, hc_53⟩ : ∃ b, w_53.heap.size = b := ⟨_, rfl⟩
        rw [hW_53] at HB_54 HX_b4_54 HX_b8_54 HX_b10_54 HX_b12_53
        rw [hc_53] at HX_b12_53 HL_b4_b12 HL_b8_b12 HL_b10_b12 HG_b12
        clear hv7 hr_53 hbx hb_53
        go_wp2_with fail
        clear hW_53 hc_53
        obtain ⟨s', p1, p2, n1, d1, n2, d2, k0, k1, k2, r⟩ := unhide HCS n hlt
        obtain ⟨tx, rfl, rfl, rfl, rfl, rfl, rfl, rfl⟩ : ∃ t : Tri, s' = t.s ∧ p1 = t.a1 ∧ p2 = t.a2 ∧ n1 = t.n1 ∧ d1 = t.c1 ∧ n2 = t.n2 ∧ d2 = t.c2 := ⟨⟨s', p1, p2, n1, d1, n2, d2⟩, rfl, rfl, rfl, rfl, rfl, rfl, rfl⟩
        have bd0 : Below Wb12.heap.size Wb12 Wb12.drew := (Below.refl _ _).drew
        have HCC : Hid (∀ W, Below Wb12.heap.size Wb12 W → (fun w' : World => (w'.cell? ⟨b8, 0, none⟩ = some (.bool t.s) ∧ w'.cell? ⟨b8, 1, none⟩ = some (.slice t.a1 t.n1 t.c1) ∧ w'.cell? ⟨b8, 2, none⟩ = some (.slice t.a2 t.n2 t.c2)) ∧ w'.cell? ⟨ba, oa + n * 3, none⟩ = some (.bool tx.s) ∧ w'.cell? ⟨ba, oa + n * 3 + 1, none⟩ = some (.slice tx.a1 tx.n1 tx.c1) ∧ w'.cell? ⟨ba, oa + n * 3 + 2, none⟩ = some (.slice tx.a2 tx.n2 tx.c2)) W) := fun W hW => ⟨(unhide HX_b8_54).cells W hW, by
          have b := below_step (unhide HB_54) hW
          rw [b.cell (p := ⟨ba, oa + n * 3, none⟩) hba, b.cell (p := ⟨ba, oa + n * 3 + 1, none⟩) hba, b.cell (p := ⟨ba, oa + n * 3 + 2, none⟩) hba]
          exact ⟨k0, k1, k2⟩⟩
        have rx : RatIs Wb12.drew tx.val qs[n]! := (r.below (unhide HB_54)).below bd0
        have rsq := qsum_RS (unhide HRS) n (by omega)
        have rs1 : RS (1 - qsum qs n) 200 := (one_RS.sub rsq).mono (by omega)
        have rs2 : RS qs[n]! 200 := (unhide HRS n hlt).mono (by omega)
        have HSU := hide (subR_any _ _ _ _ Wb12.drew ((unhide HX_b8_54).2.below bd0) rx 200 rs1 rs2 (by rw [KKe]; omega))
        have HRM := hide ((one_RS.sub rsq).sub (unhide HRS n hlt))
        clear k0 k1 k2 r rx rsq rs1 rs2
        have hi0 : (0 : Int) ≤ (n : Int) := by omega
        refine wp_region_till (fun w' : World => (w'.cell? ⟨b8, 0, none⟩ = some (.bool t.s) ∧ w'.cell? ⟨b8, 1, none⟩ = some (.slice t.a1 t.n1 t.c1) ∧ w'.cell? ⟨b8, 2, none⟩ = some (.slice t.a2 t.n2 t.c2)) ∧ w'.cell? ⟨ba, oa + n * 3, none⟩ = some (.bool tx.s) ∧ w'.cell? ⟨ba, oa + n * 3 + 1, none⟩ = some (.slice tx.a1 tx.n1 tx.c1) ∧ w'.cell? ⟨ba, oa + n * 3 + 2, none⟩ = some (.slice tx.a2 tx.n2 tx.c2)) 6 (by kernel_rfl) ?_
        have hC0 : (fun w' : World => (w'.cell? ⟨b8, 0, none⟩ = some (.bool t.s) ∧ w'.cell? ⟨b8, 1, none⟩ = some (.slice t.a1 t.n1 t.c1) ∧ w'.cell? ⟨b8, 2, none⟩ = some (.slice t.a2 t.n2 t.c2)) ∧ w'.cell? ⟨ba, oa + n * 3, none⟩ = some (.bool tx.s) ∧ w'.cell? ⟨ba, oa + n * 3 + 1, none⟩ = some (.slice tx.a1 tx.n1 tx.c1) ∧ w'.cell? ⟨ba, oa + n * 3 + 2, none⟩ = some (.slice tx.a2 tx.n2 tx.c2)) Wb12.drew := unhide HCC _ bd0
        refine wpTill_take (i := 0) (v := ?_) rfl (by kernel_rfl) (by kernel_rfl) (by kernel_rfl) (by kernel_rfl) (by kernel_rfl) (by kernel_rfl) (fun _ _ _ h => h) (Or.inl ⟨by rfl, ?_⟩) hC0 ?_
        rotate_left
        · intro w hSw; (try dsimp only at hSw); obtain ⟨⟨z0, z1, z2⟩, z3, z4, z5⟩ := hSw; go_simp; (try with_reducible rfl)
        (try simp only [List.getElem_toArray, List.getElem_cons_succ, List.getElem_cons_zero])
        (try simp only [Act.put, List.setIfInBounds_toArray, List.set_cons_zero, List.set_cons_succ])
        refine wpTill_pure (i := 1) (v := ?_) rfl (by kernel_rfl) (by kernel_rfl) (by kernel_rfl) (by kernel_rfl) (fun _ _ _ h => h) (Or.inl ⟨by rfl, ?_⟩) (fun _ => hC0) ?_
        rotate_left
        · intro w hSw; clear hSw; go_simp; (try with_reducible rfl)
        (try simp only [List.getElem_toArray, List.getElem_cons_succ, List.getElem_cons_zero])
        (try simp only [Act.put, List.setIfInBounds_toArray, List.set_cons_zero, List.set_cons_succ])
        refine wpTill_pure (i := 2) (v := ?_) rfl (by kernel_rfl) (by kernel_rfl) (by kernel_rfl) (by kernel_rfl) (fun _ _ _ h => h) (Or.inl ⟨by rfl, ?_⟩) (fun _ => hC0) ?_
        rotate_left
        · intro w hSw; clear hSw; go_simp; (try with_reducible rfl)
        (try simp only [List.getElem_toArray, List.getElem_cons_succ, List.getElem_cons_zero])
        (try simp only [Act.put, List.setIfInBounds_toArray, List.set_cons_zero, List.set_cons_succ])
        refine wpTill_pure (i := 3) (v := ?_) rfl (by kernel_rfl) (by kernel_rfl) (by kernel_rfl) (by kernel_rfl) (fun _ _ _ h => h) (Or.inl ⟨by rfl, ?_⟩) (fun _ => hC0) ?_
        rotate_left
        · intro w hSw; clear hSw; go_simp; (try with_reducible rfl)
        (try simp only [List.getElem_toArray, List.getElem_cons_succ, List.getElem_cons_zero])
        (try simp only [Act.put, List.setIfInBounds_toArray, List.set_cons_zero, List.set_cons_succ])
        refine wpTill_take (i := 4) (v := ?_) rfl (by kernel_rfl) (by kernel_rfl) (by kernel_rfl) (by kernel_rfl) (by kernel_rfl) (by kernel_rfl) (fun _ _ _ h => h) (Or.inl ⟨by rfl, ?_⟩) hC0 ?_
        rotate_left
        · intro w hSw; (try dsimp only at hSw); obtain ⟨⟨z0, z1, z2⟩, z3, z4, z5⟩ := hSw; go_simp; (try with_reducible rfl)
        (try simp only [List.getElem_toArray, List.getElem_cons_succ, List.getElem_cons_zero])
        (try simp only [Act.put, List.setIfInBounds_toArray, List.set_cons_zero, List.set_cons_succ])
        refine wpTill_one (k := 5) (by kernel_rfl) rfl (fun K hK => ?_)
        (try simp only [List.getElem_toArray, List.getElem_cons_succ, List.getElem_cons_zero])
        go_simp
        refine (unhide HSU).mono ?_
        rintro e w8 ⟨v8, rfl, hv8, hb8⟩
        have b8b := below_step bd0 hb8
        have hC8 : (fun w' : World => (w'.cell? ⟨b8, 0, none⟩ = some (.bool t.s) ∧ w'.cell? ⟨b8, 1, none⟩ = some (.slice t.a1 t.n1 t.c1) ∧ w'.cell? ⟨b8, 2, none⟩ = some (.slice t.a2 t.n2 t.c2)) ∧ w'.cell? ⟨ba, oa + n * 3, none⟩ = some (.bool tx.s) ∧ w'.cell? ⟨ba, oa + n * 3 + 1, none⟩ = some (.slice tx.a1 tx.n1 tx.c1) ∧ w'.cell? ⟨ba, oa + n * 3 + 2, none⟩ = some (.slice tx.a2 tx.n2 tx.c2)) w8 := unhide HCC _ b8b
        obtain ⟨t9, rfl, hr9⟩ := tri_of hv8
        have Y8 := (unhide HX_b8_54).keep b8b
        have Y4 := (unhide HX_b4_54).keep b8b
        have Y10 := (unhide HX_b10_54).keep b8b
        have Y12 := (unhide HX_b12_53).keep b8b
        have ⟨l0, l1, l2⟩ := Y8.free
        have ⟨⟨y0, y1, y2⟩, _⟩ := hC8
        have Z8 := hide (Y8.set hr9)
        have Z4 := hide (Y4.other Y8 (by have := unhide HL_b4_b8; omega) (.bool t9.s) (.slice t9.a1 t9.n1 t9.c1) (.slice t9.a2 t9.n2 t9.c2))
        have Z10 := hide (Y10.other Y8 (by have := unhide HL_b8_b10; omega) (.bool t9.s) (.slice t9.a1 t9.n1 t9.c1) (.slice t9.a2 t9.n2 t9.c2))
        have Z12 := hide (Y12.other Y8 (by have := unhide HL_b8_b12; omega) (.bool t9.s) (.slice t9.a1 t9.n1 t9.c1) (.slice t9.a2 t9.n2 t9.c2))
        have ZB := hide ((((below_step (unhide HB_54) b8b).setCell (p := ⟨b8, 0, none⟩) (unhide HG_b8) (.bool t9.s)).setCell (p := ⟨b8, 1, none⟩) (unhide HG_b8) (.slice t9.a1 t9.n1 t9.c1)).setCell (p := ⟨b8, 2, none⟩) (unhide HG_b8) (.slice t9.a2 t9.n2 t9.c2))
        simp only [Tri.val]
        clear Y8 Y4 Y10 Y12 hv8 hr9
        refine hK.out _ _ (fun _ => hC8) ?_
        clear hK K
        (try simp only [Act.put, List.setIfInBounds_toArray, List.set_cons_zero, List.set_cons_succ])
        refine wpTill_one (k := 6) (by kernel_rfl) rfl (fun K hK => ?_)
        (try simp only [List.getElem_toArray, List.getElem_cons_succ, List.getElem_cons_zero])
        go_simp
        refine hK.out _ _ (fun h => absurd (h.symm.trans (by kernel_rfl)) Bool.false_ne_true) ?_
        clear hK K
        (try simp only [Act.put, List.setIfInBounds_toArray, List.set_cons_zero, List.set_cons_succ])
        refine wpTill_done (by kernel_rfl) ?_ _
        clear hC0 hC8 bd0 b8b hb8 y0 y1 y2 l0 l1 l2 HCC HSU
        obtain ⟨W9, hW9⟩ : ∃ W, ((w8.setCell ⟨b8, 0, none⟩ (.bool t9.s)).setCell ⟨b8, 1, none⟩ (.slice t9.a1 t9.n1 t9.c1)).setCell ⟨b8, 2, none⟩ (.slice t9.a2 t9.n2 t9.c2) = W := ⟨_, rfl⟩
        rw [hW9] at Z8 Z4 Z10 Z12 ZB ⊢
        clear hW9
        go_wp2_with fail
        have hst := tail_step (unhide HSUM) hlt
        have rsa : ∀ m, RS (wsum qs (over m) qs.length) 200 := fun m => (wsum_RS (unhide HRS) (F := over m) (fun j hj => over_I64 (by omega)) qs.length (Nat.le_refl _)).mono (by omega)
        have bd0 : Below W9.heap.size W9 W9.drew := (Below.refl _ _).drew
        have HCC : Hid (∀ W, Below W9.heap.size W9 W → (fun w' : World => (w'.cell? ⟨b10, 0, none⟩ = some (.bool ta.s) ∧ w'.cell? ⟨b10, 1, none⟩ = some (.slice ta.a1 ta.n1 ta.c1) ∧ w'.cell? ⟨b10, 2, none⟩ = some (.slice ta.a2 ta.n2 ta.c2)) ∧ (w'.cell? ⟨b12, 0, none⟩ = some (.bool tb.s) ∧ w'.cell? ⟨b12, 1, none⟩ = some (.slice tb.a1 tb.n1 tb.c1) ∧ w'.cell? ⟨b12, 2, none⟩ = some (.slice tb.a2 tb.n2 tb.c2)) ∧ (w'.cell? ⟨b8, 0, none⟩ = some (.bool t9.s) ∧ w'.cell? ⟨b8, 1, none⟩ = some (.slice t9.a1 t9.n1 t9.c1) ∧ w'.cell? ⟨b8, 2, none⟩ = some (.slice t9.a2 t9.n2 t9.c2)) ∧ w'.cell? ⟨b4, 0, none⟩ = some (.bool tm.s) ∧ w'.cell? ⟨b4, 1, none⟩ = some (.slice tm.a1 tm.n1 tm.c1) ∧ w'.cell? ⟨b4, 2, none⟩ = some (.slice tm.a2 tm.n2 tm.c2)) W) := fun W hW => ⟨(unhide Z10).cells W hW, (unhide Z12).cells W hW, (unhide Z8).cells W hW, (unhide Z4).cells W hW⟩
        have HTB : Hid (∀ W, Below W9.heap.size W9 W → Tab W) := fun W hW => tab_below (unhide HTAB) (below_step (below_step (unhide HBW) (unhide ZB)) hW)
        have HSU : Hid (∀ W, Below W9.heap.size W9 W → Calls Tryd.prog 12 #[.agg #[.bool ta.s, .slice ta.a1 ta.n1 ta.c1, .slice ta.a2 ta.n2 ta.c2], .agg #[.bool tb.s, .slice tb.a1 tb.n1 tb.c1, .slice tb.a2 tb.n2 tb.c2]] W fun e w' => ∃ v, e = .returned v ∧ RatIs w' v ((1 - qsum qs n) - qs[n]!) ∧ Below W.heap.size W w') := fun W hW => by
          have := subR_any ta.val tb.val _ _ W ((unhide Z10).2.below hW) ((unhide Z12).2.below hW) 200 (rsa n) (rsa (n + 1)) (by rw [KKe]; omega)
          rw [hst] at this
          exact this
        have HLI : Hid (∀ W v, Below W9.heap.size W9 W → RatIs W v ((1 - qsum qs n) - qs[n]!) → Calls Tryd.prog 14 #[v, .agg #[.bool t9.s, .slice t9.a1 t9.n1 t9.c1, .slice t9.a2 t9.n2 t9.c2]] W fun e w' => e = .returned (.bool true) ∧ Below W.heap.size W w') := fun W v hW hv => like_any v t9.val _ W hv ((unhide Z8).2.below hW) 200 ((unhide HRM).mono (by omega)) (by rw [KKe]; omega) (unhide HTB W hW)
        have HL0 : Hid (n = 0 → ∀ W, Below W9.heap.size W9 W → Calls Tryd.prog 14 #[.agg #[.bool ta.s, .slice ta.a1 ta.n1 ta.c1, .slice ta.a2 ta.n2 ta.c2], .agg #[.bool tm.s, .slice tm.a1 tm.n1 tm.c1, .slice tm.a2 tm.n2 tm.c2]] W fun e w' => e = .returned (.bool true) ∧ Below W.heap.size W w') := fun h0 W hW => by
          have z10 := (unhide Z10).2
          rw [h0, over_zero] at z10
          have hr := rsa 0
          rw [over_zero] at hr
          exact like_any ta.val tm.val _ W (z10.below hW) ((unhide Z4).2.below hW) 200 hr (by rw [KKe]; omega) (unhide HTB W hW)
        have FIN : BoxIs W9 b8 t9 (1 - qsum qs (n + 1)) := by
          have := unhide Z8
          rw [show (1 : Rat) - qsum qs (n + 1) = 1 - qsum qs n - qs[n]! by show 1 - (qsum qs n + qs[n]!) = _; grind]
          exact this
        have HFIN := hide FIN
        clear rsa hst FIN
        by_cases hz : n = 0
        · have hz1 : ((n : Int) == 0) = true := by rw [beq_iff_eq]; omega
          refine wp_region_hold (fun w' : World => (w'.cell? ⟨b10, 0, none⟩ = some (.bool ta.s) ∧ w'.cell? ⟨b10, 1, none⟩ = some (.slice ta.a1 ta.n1 ta.c1) ∧ w'.cell? ⟨b10, 2, none⟩ = some (.slice ta.a2 ta.n2 ta.c2)) ∧ (w'.cell? ⟨b12, 0, none⟩ = some (.bool tb.s) ∧ w'.cell? ⟨b12, 1, none⟩ = some (.slice tb.a1 tb.n1 tb.c1) ∧ w'.cell? ⟨b12, 2, none⟩ = some (.slice tb.a2 tb.n2 tb.c2)) ∧ (w'.cell? ⟨b8, 0, none⟩ = some (.bool t9.s) ∧ w'.cell? ⟨b8, 1, none⟩ = some (.slice t9.a1 t9.n1 t9.c1) ∧ w'.cell? ⟨b8, 2, none⟩ = some (.slice t9.a2 t9.n2 t9.c2)) ∧ w'.cell? ⟨b4, 0, none⟩ = some (.bool tm.s) ∧ w'.cell? ⟨b4, 1, none⟩ = some (.slice tm.a1 tm.n1 tm.c1) ∧ w'.cell? ⟨b4, 2, none⟩ = some (.slice tm.a2 tm.n2 tm.c2)) (by kernel_rfl) ?_
          have hC0 : (fun w' : World => (w'.cell? ⟨b10, 0, none⟩ = some (.bool ta.s) ∧ w'.cell? ⟨b10, 1, none⟩ = some (.slice ta.a1 ta.n1 ta.c1) ∧ w'.cell? ⟨b10, 2, none⟩ = some (.slice ta.a2 ta.n2 ta.c2)) ∧ (w'.cell? ⟨b12, 0, none⟩ = some (.bool tb.s) ∧ w'.cell? ⟨b12, 1, none⟩ = some (.slice tb.a1 tb.n1 tb.c1) ∧ w'.cell? ⟨b12, 2, none⟩ = some (.slice tb.a2 tb.n2 tb.c2)) ∧ (w'.cell? ⟨b8, 0, none⟩ = some (.bool t9.s) ∧ w'.cell? ⟨b8, 1, none⟩ = some (.slice t9.a1 t9.n1 t9.c1) ∧ w'.cell? ⟨b8, 2, none⟩ = some (.slice t9.a2 t9.n2 t9.c2)) ∧ w'.cell? ⟨b4, 0, none⟩ = some (.bool tm.s) ∧ w'.cell? ⟨b4, 1, none⟩ = some (.slice tm.a1 tm.n1 tm.c1) ∧ w'.cell? ⟨b4, 2, none⟩ = some (.slice tm.a2 tm.n2 tm.c2)) W9.drew := unhide HCC _ bd0
          refine wpHold_take (i := 0) (v := ?_) rfl (by kernel_rfl) (by kernel_rfl) (by kernel_rfl) (fun _ _ _ h => h) (Or.inl ⟨by rfl, ?_⟩) hC0 ?_
          rotate_left
          · intro w hSw; clear hSw; go_simp; (try with_reducible rfl)
          (try simp only [List.getElem_toArray, List.getElem_cons_succ, List.getElem_cons_zero])
          (try simp only [Act.put, List.setIfInBounds_toArray, List.set_cons_zero, List.set_cons_succ])
          refine wpHold_take (i := 1) (v := ?_) rfl (by kernel_rfl) (by kernel_rfl) (by kernel_rfl) (fun _ _ _ h => h) (Or.inl ⟨by rfl, ?_⟩) hC0 ?_
          rotate_left
          · intro w hSw; clear hSw; go_simp; (try with_reducible rfl)
          (try simp only [List.getElem_toArray, List.getElem_cons_succ, List.getElem_cons_zero])
          (try simp only [Act.put, List.setIfInBounds_toArray, List.set_cons_zero, List.set_cons_succ])
          refine wpHold_take (i := 2) (v := ?_) rfl (by kernel_rfl) (by kernel_rfl) (by kernel_rfl) (fun _ _ _ h => h) (Or.inl ⟨by rfl, ?_⟩) hC0 ?_
          rotate_left
          · intro w hSw; clear hSw; go_simp; (try with_reducible rfl)
          (try simp only [List.getElem_toArray, List.getElem_cons_succ, List.getElem_cons_zero])
          (try simp only [Act.put, List.setIfInBounds_toArray, List.set_cons_zero, List.set_cons_succ])
          refine wpHold_take (i := 3) (v := ?_) rfl (by kernel_rfl) (by kernel_rfl) (by kernel_rfl) (fun _ _ _ h => h) (Or.inl ⟨by rfl, ?_⟩) hC0 ?_
          rotate_left
          · intro w hSw; clear hSw; go_simp; (try with_reducible rfl)
          (try simp only [List.getElem_toArray, List.getElem_cons_succ, List.getElem_cons_zero])
          (try simp only [Act.put, List.setIfInBounds_toArray, List.set_cons_zero, List.set_cons_succ])
          refine wpHold_take (i := 4) (v := ?_) rfl (by kernel_rfl) (by kernel_rfl) (by kernel_rfl) (fun _ _ _ h => h) (Or.inl ⟨by rfl, ?_⟩) hC0 ?_
          rotate_left
          · intro w hSw; clear hSw; go_simp; (try with_reducible rfl)
          (try simp only [List.getElem_toArray, List.getElem_cons_succ, List.getElem_cons_zero])
          (try simp only [Act.put, List.setIfInBounds_toArray, List.set_cons_zero, List.set_cons_succ])
          refine wpHold_take (i := 5) (v := ?_) rfl (by kernel_rfl) (by kernel_rfl) (by kernel_rfl) (fun _ _ _ h => h) (Or.inl ⟨by rfl, ?_⟩) hC0 ?_
          rotate_left
          · intro w hSw; clear hSw; go_simp; (try with_reducible rfl)
          (try simp only [List.getElem_toArray, List.getElem_cons_succ, List.getElem_cons_zero])
          (try simp only [Act.put, List.setIfInBounds_toArray, List.set_cons_zero, List.set_cons_succ])
          refine wpHold_take (i := 6) (v := ?_) rfl (by kernel_rfl) (by kernel_rfl) (by kernel_rfl) (fun _ _ _ h => h) (Or.inl ⟨by rfl, ?_⟩) hC0 ?_
          rotate_left
          · intro w hSw; clear hSw; go_simp; (try with_reducible rfl)
          (try simp only [List.getElem_toArray, List.getElem_cons_succ, List.getElem_cons_zero])
          (try simp only [Act.put, List.setIfInBounds_toArray, List.set_cons_zero, List.set_cons_succ])
          refine wpHold_take (i := 7) (v := ?_) rfl (by kernel_rfl) (by kernel_rfl) (by kernel_rfl) (fun _ _ _ h => h) (Or.inl ⟨by rfl, ?_⟩) hC0 ?_
          rotate_left
          · intro w hSw; clear hSw; go_simp; (try with_reducible rfl)
          (try simp only [List.getElem_toArray, List.getElem_cons_succ, List.getElem_cons_zero])
          (try simp only [Act.put, List.setIfInBounds_toArray, List.set_cons_zero, List.set_cons_succ])
          refine wpHold_take (i := 8) (v := ?_) rfl (by kernel_rfl) (by kernel_rfl) (by kernel_rfl) (fun _ _ _ h => h) (Or.inl ⟨by rfl, ?_⟩) hC0 ?_
          rotate_left
          · intro w hSw; clear hSw; go_simp; (try with_reducible rfl)
          (try simp only [List.getElem_toArray, List.getElem_cons_succ, List.getElem_cons_zero])
          (try simp only [Act.put, List.setIfInBounds_toArray, List.set_cons_zero, List.set_cons_succ])
          refine wpHold_take (i := 9) (v := ?_) rfl (by kernel_rfl) (by kernel_rfl) (by kernel_rfl) (fun _ _ _ h => h) (Or.inl ⟨by rfl, ?_⟩) hC0 ?_
          rotate_left
          · intro w hSw; clear hSw; go_simp; (try with_reducible rfl)
          (try simp only [List.getElem_toArray, List.getElem_cons_succ, List.getElem_cons_zero])
          (try simp only [Act.put, List.setIfInBounds_toArray, List.set_cons_zero, List.set_cons_succ])
          refine wpHold_take (i := 10) (v := ?_) rfl (by kernel_rfl) (by kernel_rfl) (by kernel_rfl) (fun _ _ _ h => h) (Or.inl ⟨by rfl, ?_⟩) hC0 ?_
          rotate_left
          · intro w hSw; (try dsimp only at hSw); obtain ⟨⟨z0, z1, z2⟩, ⟨z3, z4, z5⟩, ⟨z6, z7, z8⟩, z9, z10, z11⟩ := hSw; go_simp; (try with_reducible rfl)
          (try simp only [List.getElem_toArray, List.getElem_cons_succ, List.getElem_cons_zero])
          (try simp only [Act.put, List.setIfInBounds_toArray, List.set_cons_zero, List.set_cons_succ])
          refine wpHold_take (i := 11) (v := ?_) rfl (by kernel_rfl) (by kernel_rfl) (by kernel_rfl) (fun _ _ _ h => h) (Or.inl ⟨by rfl, ?_⟩) hC0 ?_
          rotate_left
          · intro w hSw; (try dsimp only at hSw); obtain ⟨⟨z0, z1, z2⟩, ⟨z3, z4, z5⟩, ⟨z6, z7, z8⟩, z9, z10, z11⟩ := hSw; go_simp; (try with_reducible rfl)
          (try simp only [List.getElem_toArray, List.getElem_cons_succ, List.getElem_cons_zero])
          (try simp only [Act.put, List.setIfInBounds_toArray, List.set_cons_zero, List.set_cons_succ])
          refine wpHold_one (k := 12) (by kernel_rfl) rfl (fun K hK => ?_)
          (try simp only [List.getElem_toArray, List.getElem_cons_succ, List.getElem_cons_zero])
          go_simp
          refine (unhide HL0 hz W9.drew bd0).mono ?_
          rintro e w10 ⟨rfl, hb10⟩
          have c10 := below_step bd0 hb10
          have hC10 : (fun w' : World => (w'.cell? ⟨b10, 0, none⟩ = some (.bool ta.s) ∧ w'.cell? ⟨b10, 1, none⟩ = some (.slice ta.a1 ta.n1 ta.c1) ∧ w'.cell? ⟨b10, 2, none⟩ = some (.slice ta.a2 ta.n2 ta.c2)) ∧ (w'.cell? ⟨b12, 0, none⟩ = some (.bool tb.s) ∧ w'.cell? ⟨b12, 1, none⟩ = some (.slice tb.a1 tb.n1 tb.c1) ∧ w'.cell? ⟨b12, 2, none⟩ = some (.slice tb.a2 tb.n2 tb.c2)) ∧ (w'.cell? ⟨b8, 0, none⟩ = some (.bool t9.s) ∧ w'.cell? ⟨b8, 1, none⟩ = some (.slice t9.a1 t9.n1 t9.c1) ∧ w'.cell? ⟨b8, 2, none⟩ = some (.slice t9.a2 t9.n2 t9.c2)) ∧ w'.cell? ⟨b4, 0, none⟩ = some (.bool tm.s) ∧ w'.cell? ⟨b4, 1, none⟩ = some (.slice tm.a1 tm.n1 tm.c1) ∧ w'.cell? ⟨b4, 2, none⟩ = some (.slice tm.a2 tm.n2 tm.c2)) w10 := unhide HCC _ c10
          refine hK.out _ _ hC10 ?_
          clear hK K
          (try simp only [Act.put, List.setIfInBounds_toArray, List.set_cons_zero, List.set_cons_succ])
          refine wpHold_take (i := 13) (v := ?_) rfl (by kernel_rfl) (by kernel_rfl) (by kernel_rfl) (fun _ _ _ h => h) (Or.inl ⟨by rfl, ?_⟩) hC10 ?_
          rotate_left
          · intro w hSw; clear hSw; go_simp; (try with_reducible rfl)
          (try simp only [List.getElem_toArray, List.getElem_cons_succ, List.getElem_cons_zero])
          (try simp only [Act.put, List.setIfInBounds_toArray, List.set_cons_zero, List.set_cons_succ])
          refine wpHold_take (i := 14) (v := ?_) rfl (by kernel_rfl) (by kernel_rfl) (by kernel_rfl) (fun _ _ _ h => h) (Or.inl ⟨by rfl, ?_⟩) hC10 ?_
          rotate_left
          · intro w hSw; clear hSw; go_simp; (try with_reducible rfl)
          (try simp only [List.getElem_toArray, List.getElem_cons_succ, List.getElem_cons_zero])
          (try simp only [Act.put, List.setIfInBounds_toArray, List.set_cons_zero, List.set_cons_succ])
          refine wpHold_take (i := 15) (v := ?_) rfl (by kernel_rfl) (by kernel_rfl) (by kernel_rfl) (fun _ _ _ h => h) (Or.inl ⟨by rfl, ?_⟩) hC10 ?_
          rotate_left
          · intro w hSw; clear hSw; go_simp; (try with_reducible rfl)
          (try simp only [List.getElem_toArray, List.getElem_cons_succ, List.getElem_cons_zero])
          (try simp only [Act.put, List.setIfInBounds_toArray, List.set_cons_zero, List.set_cons_succ])
          refine wpHold_take (i := 16) (v := ?_) rfl (by kernel_rfl) (by kernel_rfl) (by kernel_rfl) (fun _ _ _ h => h) (Or.inl ⟨by rfl, ?_⟩) hC10 ?_
          rotate_left
          · intro w hSw; clear hSw; go_simp; (try with_reducible rfl)
          (try simp only [List.getElem_toArray, List.getElem_cons_succ, List.getElem_cons_zero])
          (try simp only [Act.put, List.setIfInBounds_toArray, List.set_cons_zero, List.set_cons_succ])
          refine wpHold_take (i := 17) (v := ?_) rfl (by kernel_rfl) (by kernel_rfl) (by kernel_rfl) (fun _ _ _ h => h) (Or.inl ⟨by rfl, ?_⟩) hC10 ?_
          rotate_left
          · intro w hSw; (try dsimp only at hSw); obtain ⟨⟨z0, z1, z2⟩, ⟨z3, z4, z5⟩, ⟨z6, z7, z8⟩, z9, z10, z11⟩ := hSw; go_simp; (try with_reducible rfl)
          (try simp only [List.getElem_toArray, List.getElem_cons_succ, List.getElem_cons_zero])
          (try simp only [Act.put, List.setIfInBounds_toArray, List.set_cons_zero, List.set_cons_succ])
          refine wpHold_take (i := 18) (v := ?_) rfl (by kernel_rfl) (by kernel_rfl) (by kernel_rfl) (fun _ _ _ h => h) (Or.inl ⟨by rfl, ?_⟩) hC10 ?_
          rotate_left
          · intro w hSw; (try dsimp only at hSw); obtain ⟨⟨z0, z1, z2⟩, ⟨z3, z4, z5⟩, ⟨z6, z7, z8⟩, z9, z10, z11⟩ := hSw; go_simp; (try with_reducible rfl)
          (try simp only [List.getElem_toArray, List.getElem_cons_succ, List.getElem_cons_zero])
          (try simp only [Act.put, List.setIfInBounds_toArray, List.set_cons_zero, List.set_cons_succ])
          refine wpHold_take (i := 20) (v := ?_) rfl (by kernel_rfl) (by kernel_rfl) (by kernel_rfl) (fun _ _ _ h => h) (Or.inl ⟨by rfl, ?_⟩) hC10 ?_
          rotate_left
          · intro w hSw; (try dsimp only at hSw); obtain ⟨⟨z0, z1, z2⟩, ⟨z3, z4, z5⟩, ⟨z6, z7, z8⟩, z9, z10, z11⟩ := hSw; go_simp; (try with_reducible rfl)
          (try simp only [List.getElem_toArray, List.getElem_cons_succ, List.getElem_cons_zero])
          (try simp only [Act.put, List.setIfInBounds_toArray, List.set_cons_zero, List.set_cons_succ])
          refine wpHold_one (k := 19) (by kernel_rfl) rfl (fun K hK => ?_)
          (try simp only [List.getElem_toArray, List.getElem_cons_succ, List.getElem_cons_zero])
          go_simp
          refine (unhide HSU w10 c10).mono ?_
          rintro e w11 ⟨v11, rfl, hv11, hb11⟩
          have c11 := below_step c10 hb11
          have hC11 : (fun w' : World => (w'.cell? ⟨b10, 0, none⟩ = some (.bool ta.s) ∧ w'.cell? ⟨b10, 1, none⟩ = some (.slice ta.a1 ta.n1 ta.c1) ∧ w'.cell? ⟨b10, 2, none⟩ = some (.slice ta.a2 ta.n2 ta.c2)) ∧ (w'.cell? ⟨b12, 0, none⟩ = some (.bool tb.s) ∧ w'.cell? ⟨b12, 1, none⟩ = some (.slice tb.a1 tb.n1 tb.c1) ∧ w'.cell? ⟨b12, 2, none⟩ = some (.slice tb.a2 tb.n2 tb.c2)) ∧ (w'.cell? ⟨b8, 0, none⟩ = some (.bool t9.s) ∧ w'.cell? ⟨b8, 1, none⟩ = some (.slice t9.a1 t9.n1 t9.c1) ∧ w'.cell? ⟨b8, 2, none⟩ = some (.slice t9.a2 t9.n2 t9.c2)) ∧ w'.cell? ⟨b4, 0, none⟩ = some (.bool tm.s) ∧ w'.cell? ⟨b4, 1, none⟩ = some (.slice tm.a1 tm.n1 tm.c1) ∧ w'.cell? ⟨b4, 2, none⟩ = some (.slice tm.a2 tm.n2 tm.c2)) w11 := unhide HCC _ c11
          refine hK.out _ _ hC11 ?_
          clear hK K
          (try simp only [Act.put, List.setIfInBounds_toArray, List.set_cons_zero, List.set_cons_succ])
          refine wpHold_one (k := 21) (by kernel_rfl) rfl (fun K hK => ?_)
          (try simp only [List.getElem_toArray, List.getElem_cons_succ, List.getElem_cons_zero])
          go_simp
          refine (unhide HLI w11 v11 c11 hv11).mono ?_
          rintro e w12 ⟨rfl, hb12⟩
          have c12 := below_step c11 hb12
          have hC12 : (fun w' : World => (w'.cell? ⟨b10, 0, none⟩ = some (.bool ta.s) ∧ w'.cell? ⟨b10, 1, none⟩ = some (.slice ta.a1 ta.n1 ta.c1) ∧ w'.cell? ⟨b10, 2, none⟩ = some (.slice ta.a2 ta.n2 ta.c2)) ∧ (w'.cell? ⟨b12, 0, none⟩ = some (.bool tb.s) ∧ w'.cell? ⟨b12, 1, none⟩ = some (.slice tb.a1 tb.n1 tb.c1) ∧ w'.cell? ⟨b12, 2, none⟩ = some (.slice tb.a2 tb.n2 tb.c2)) ∧ (w'.cell? ⟨b8, 0, none⟩ = some (.bool t9.s) ∧ w'.cell? ⟨b8, 1, none⟩ = some (.slice t9.a1 t9.n1 t9.c1) ∧ w'.cell? ⟨b8, 2, none⟩ = some (.slice t9.a2 t9.n2 t9.c2)) ∧ w'.cell? ⟨b4, 0, none⟩ = some (.bool tm.s) ∧ w'.cell? ⟨b4, 1, none⟩ = some (.slice tm.a1 tm.n1 tm.c1) ∧ w'.cell? ⟨b4, 2, none⟩ = some (.slice tm.a2 tm.n2 tm.c2)) w12 := unhide HCC _ c12
          refine hK.out _ _ hC12 ?_
          clear hK K
          (try simp only [Act.put, List.setIfInBounds_toArray, List.set_cons_zero, List.set_cons_succ])
          refine wpHold_take (i := 22) (v := ?_) rfl (by kernel_rfl) (by kernel_rfl) (by kernel_rfl) (fun _ _ _ h => h) (Or.inl ⟨by rfl, ?_⟩) hC12 ?_
          rotate_left
          · intro w hSw; clear hSw; go_simp; (try with_reducible rfl)
          (try simp only [List.getElem_toArray, List.getElem_cons_succ, List.getElem_cons_zero])
          (try simp only [Act.put, List.setIfInBounds_toArray, List.set_cons_zero, List.set_cons_succ])
          refine wpHold_take (i := 23) (v := ?_) rfl (by kernel_rfl) (by kernel_rfl) (by kernel_rfl) (fun _ _ _ h => h) (Or.inl ⟨by rfl, ?_⟩) hC12 ?_
          rotate_left
          · intro w hSw; clear hSw; go_simp; (try with_reducible rfl)
          (try simp only [List.getElem_toArray, List.getElem_cons_succ, List.getElem_cons_zero])
          (try simp only [Act.put, List.setIfInBounds_toArray, List.set_cons_zero, List.set_cons_succ])
          refine wpHold_done (by kernel_rfl) ?_ _
          have E1 := hide (below_step (unhide ZB) c12)
          have E2 := hide ((unhide Z4).keep c12)
          have E3 := hide ((unhide HFIN).keep c12)
          clear hC0 hC10 hC11 hC12 bd0 c10 c11 c12 hb11 hb12 hv11 hb10
          go_wp2_with fail
          exact ⟨⟨n + 1, t9, by go_num, hlt, unhide E1, unhide E2, unhide E3⟩, by simp [intOf]; omega⟩
        · have hz1 : ((n : Int) == 0) = false := by rw [beq_eq_false_iff_ne]; omega
          refine wp_region_hold (fun w' : World => (w'.cell? ⟨b10, 0, none⟩ = some (.bool ta.s) ∧ w'.cell? ⟨b10, 1, none⟩ = some (.slice ta.a1 ta.n1 ta.c1) ∧ w'.cell? ⟨b10, 2, none⟩ = some (.slice ta.a2 ta.n2 ta.c2)) ∧ (w'.cell? ⟨b12, 0, none⟩ = some (.bool tb.s) ∧ w'.cell? ⟨b12, 1, none⟩ = some (.slice tb.a1 tb.n1 tb.c1) ∧ w'.cell? ⟨b12, 2, none⟩ = some (.slice tb.a2 tb.n2 tb.c2)) ∧ (w'.cell? ⟨b8, 0, none⟩ = some (.bool t9.s) ∧ w'.cell? ⟨b8, 1, none⟩ = some (.slice t9.a1 t9.n1 t9.c1) ∧ w'.cell? ⟨b8, 2, none⟩ = some (.slice t9.a2 t9.n2 t9.c2)) ∧ w'.cell? ⟨b4, 0, none⟩ = some (.bool tm.s) ∧ w'.cell? ⟨b4, 1, none⟩ = some (.slice tm.a1 tm.n1 tm.c1) ∧ w'.cell? ⟨b4, 2, none⟩ = some (.slice tm.a2 tm.n2 tm.c2)) (by kernel_rfl) ?_
          have hC0 : (fun w' : World => (w'.cell? ⟨b10, 0, none⟩ = some (.bool ta.s) ∧ w'.cell? ⟨b10, 1, none⟩ = some (.slice ta.a1 ta.n1 ta.c1) ∧ w'.cell? ⟨b10, 2, none⟩ = some (.slice ta.a2 ta.n2 ta.c2)) ∧ (w'.cell? ⟨b12, 0, none⟩ = some (.bool tb.s) ∧ w'.cell? ⟨b12, 1, none⟩ = some (.slice tb.a1 tb.n1 tb.c1) ∧ w'.cell? ⟨b12, 2, none⟩ = some (.slice tb.a2 tb.n2 tb.c2)) ∧ (w'.cell? ⟨b8, 0, none⟩ = some (.bool t9.s) ∧ w'.cell? ⟨b8, 1, none⟩ = some (.slice t9.a1 t9.n1 t9.c1) ∧ w'.cell? ⟨b8, 2, none⟩ = some (.slice t9.a2 t9.n2 t9.c2)) ∧ w'.cell? ⟨b4, 0, none⟩ = some (.bool tm.s) ∧ w'.cell? ⟨b4, 1, none⟩ = some (.slice tm.a1 tm.n1 tm.c1) ∧ w'.cell? ⟨b4, 2, none⟩ = some (.slice tm.a2 tm.n2 tm.c2)) W9.drew := unhide HCC _ bd0
          refine wpHold_take (i := 0) (v := ?_) rfl (by kernel_rfl) (by kernel_rfl) (by kernel_rfl) (fun _ _ _ h => h) (Or.inl ⟨by rfl, ?_⟩) hC0 ?_
          rotate_left
          · intro w hSw; clear hSw; go_simp; (try with_reducible rfl)
          (try simp only [List.getElem_toArray, List.getElem_cons_succ, List.getElem_cons_zero])
          (try simp only [Act.put, List.setIfInBounds_toArray, List.set_cons_zero, List.set_cons_succ])
          refine wpHold_take (i := 1) (v := ?_) rfl (by kernel_rfl) (by kernel_rfl) (by kernel_rfl) (fun _ _ _ h => h) (Or.inl ⟨by rfl, ?_⟩) hC0 ?_
          rotate_left
          · intro w hSw; clear hSw; go_simp; (try with_reducible rfl)
          (try simp only [List.getElem_toArray, List.getElem_cons_succ, List.getElem_cons_zero])
          (try simp only [Act.put, List.setIfInBounds_toArray, List.set_cons_zero, List.set_cons_succ])
          refine wpHold_take (i := 2) (v := ?_) rfl (by kernel_rfl) (by kernel_rfl) (by kernel_rfl) (fun _ _ _ h => h) (Or.inl ⟨by rfl, ?_⟩) hC0 ?_
          rotate_left
          · intro w hSw; clear hSw; go_simp; (try with_reducible rfl)
          (try simp only [List.getElem_toArray, List.getElem_cons_succ, List.getElem_cons_zero])
          (try simp only [Act.put, List.setIfInBounds_toArray, List.set_cons_zero, List.set_cons_succ])
          refine wpHold_take (i := 3) (v := ?_) rfl (by kernel_rfl) (by kernel_rfl) (by kernel_rfl) (fun _ _ _ h => h) (Or.inl ⟨by rfl, ?_⟩) hC0 ?_
          rotate_left
          · intro w hSw; clear hSw; go_simp; (try with_reducible rfl)
          (try simp only [List.getElem_toArray, List.getElem_cons_succ, List.getElem_cons_zero])
          (try simp only [Act.put, List.setIfInBounds_toArray, List.set_cons_zero, List.set_cons_succ])
          refine wpHold_take (i := 4) (v := ?_) rfl (by kernel_rfl) (by kernel_rfl) (by kernel_rfl) (fun _ _ _ h => h) (Or.inl ⟨by rfl, ?_⟩) hC0 ?_
          rotate_left
          · intro w hSw; clear hSw; go_simp; (try with_reducible rfl)
          (try simp only [List.getElem_toArray, List.getElem_cons_succ, List.getElem_cons_zero])
          (try simp only [Act.put, List.setIfInBounds_toArray, List.set_cons_zero, List.set_cons_succ])
          refine wpHold_take (i := 5) (v := ?_) rfl (by kernel_rfl) (by kernel_rfl) (by kernel_rfl) (fun _ _ _ h => h) (Or.inl ⟨by rfl, ?_⟩) hC0 ?_
          rotate_left
          · intro w hSw; clear hSw; go_simp; (try with_reducible rfl)
          (try simp only [List.getElem_toArray, List.getElem_cons_succ, List.getElem_cons_zero])
          (try simp only [Act.put, List.setIfInBounds_toArray, List.set_cons_zero, List.set_cons_succ])
          refine wpHold_take (i := 6) (v := ?_) rfl (by kernel_rfl) (by kernel_rfl) (by kernel_rfl) (fun _ _ _ h => h) (Or.inl ⟨by rfl, ?_⟩) hC0 ?_
          rotate_left
          · intro w hSw; clear hSw; go_simp; (try with_reducible rfl)
          (try simp only [List.getElem_toArray, List.getElem_cons_succ, List.getElem_cons_zero])
          (try simp only [Act.put, List.setIfInBounds_toArray, List.set_cons_zero, List.set_cons_succ])
          refine wpHold_take (i := 7) (v := ?_) rfl (by kernel_rfl) (by kernel_rfl) (by kernel_rfl) (fun _ _ _ h => h) (Or.inl ⟨by rfl, ?_⟩) hC0 ?_
          rotate_left
          · intro w hSw; clear hSw; go_simp; (try with_reducible rfl)
          (try simp only [List.getElem_toArray, List.getElem_cons_succ, List.getElem_cons_zero])
          (try simp only [Act.put, List.setIfInBounds_toArray, List.set_cons_zero, List.set_cons_succ])
          refine wpHold_take (i := 8) (v := ?_) rfl (by kernel_rfl) (by kernel_rfl) (by kernel_rfl) (fun _ _ _ h => h) (Or.inl ⟨by rfl, ?_⟩) hC0 ?_
          rotate_left
          · intro w hSw; clear hSw; go_simp; (try with_reducible rfl)
          (try simp only [List.getElem_toArray, List.getElem_cons_succ, List.getElem_cons_zero])
          (try simp only [Act.put, List.setIfInBounds_toArray, List.set_cons_zero, List.set_cons_succ])
          refine wpHold_take (i := 9) (v := ?_) rfl (by kernel_rfl) (by kernel_rfl) (by kernel_rfl) (fun _ _ _ h => h) (Or.inl ⟨by rfl, ?_⟩) hC0 ?_
          rotate_left
          · intro w hSw; clear hSw; go_simp; (try with_reducible rfl)
          (try simp only [List.getElem_toArray, List.getElem_cons_succ, List.getElem_cons_zero])
          (try simp only [Act.put, List.setIfInBounds_toArray, List.set_cons_zero, List.set_cons_succ])
          refine wpHold_take (i := 10) (v := undef) rfl (by kernel_rfl) (by kernel_rfl) (by kernel_rfl) (fun _ _ _ h => h) (Or.inr ⟨by rfl, rfl⟩) hC0 ?_
          (try simp only [List.getElem_toArray, List.getElem_cons_succ, List.getElem_cons_zero])
          (try simp only [Act.put, List.setIfInBounds_toArray, List.set_cons_zero, List.set_cons_succ])
          refine wpHold_take (i := 11) (v := undef) rfl (by kernel_rfl) (by kernel_rfl) (by kernel_rfl) (fun _ _ _ h => h) (Or.inr ⟨by rfl, rfl⟩) hC0 ?_
          (try simp only [List.getElem_toArray, List.getElem_cons_succ, List.getElem_cons_zero])
          (try simp only [Act.put, List.setIfInBounds_toArray, List.set_cons_zero, List.set_cons_succ])
          refine wpHold_one (k := 12) (by kernel_rfl) rfl (fun K hK => ?_)
          (try simp only [List.getElem_toArray, List.getElem_cons_succ, List.getElem_cons_zero])
          go_simp
          refine hK.out _ _ hC0 ?_
          clear hK K
          (try simp only [Act.put, List.setIfInBounds_toArray, List.set_cons_zero, List.set_cons_succ])
          refine wpHold_take (i := 13) (v := undef) rfl (by kernel_rfl) (by kernel_rfl) (by kernel_rfl) (fun _ _ _ h => h) (Or.inr ⟨by rfl, rfl⟩) hC0 ?_
          (try simp only [List.getElem_toArray, List.getElem_cons_succ, List.getElem_cons_zero])
          (try simp only [Act.put, List.setIfInBounds_toArray, List.set_cons_zero, List.set_cons_succ])
          refine wpHold_take (i := 14) (v := ?_) rfl (by kernel_rfl) (by kernel_rfl) (by kernel_rfl) (fun _ _ _ h => h) (Or.inl ⟨by rfl, ?_⟩) hC0 ?_
          rotate_left
          · intro w hSw; clear hSw; go_simp; (try with_reducible rfl)
          (try simp only [List.getElem_toArray, List.getElem_cons_succ, List.getElem_cons_zero])
          (try simp only [Act.put, List.setIfInBounds_toArray, List.set_cons_zero, List.set_cons_succ])
          refine wpHold_take (i := 15) (v := ?_) rfl (by kernel_rfl) (by kernel_rfl) (by kernel_rfl) (fun _ _ _ h => h) (Or.inl ⟨by rfl, ?_⟩) hC0 ?_
          rotate_left
          · intro w hSw; clear hSw; go_simp; (try with_reducible rfl)
          (try simp only [List.getElem_toArray, List.getElem_cons_succ, List.getElem_cons_zero])
          (try simp only [Act.put, List.setIfInBounds_toArray, List.set_cons_zero, List.set_cons_succ])
          refine wpHold_take (i := 16) (v := ?_) rfl (by kernel_rfl) (by kernel_rfl) (by kernel_rfl) (fun _ _ _ h => h) (Or.inl ⟨by rfl, ?_⟩) hC0 ?_
          rotate_left
          · intro w hSw; clear hSw; go_simp; (try with_reducible rfl)
          (try simp only [List.getElem_toArray, List.getElem_cons_succ, List.getElem_cons_zero])
          (try simp only [Act.put, List.setIfInBounds_toArray, List.set_cons_zero, List.set_cons_succ])
          refine wpHold_take (i := 17) (v := ?_) rfl (by kernel_rfl) (by kernel_rfl) (by kernel_rfl) (fun _ _ _ h => h) (Or.inl ⟨by rfl, ?_⟩) hC0 ?_
          rotate_left
          · intro w hSw; (try dsimp only at hSw); obtain ⟨⟨z0, z1, z2⟩, ⟨z3, z4, z5⟩, ⟨z6, z7, z8⟩, z9, z10, z11⟩ := hSw; go_simp; (try with_reducible rfl)
          (try simp only [List.getElem_toArray, List.getElem_cons_succ, List.getElem_cons_zero])
          (try simp only [Act.put, List.setIfInBounds_toArray, List.set_cons_zero, List.set_cons_succ])
          refine wpHold_take (i := 18) (v := ?_) rfl (by kernel_rfl) (by kernel_rfl) (by kernel_rfl) (fun _ _ _ h => h) (Or.inl ⟨by rfl, ?_⟩) hC0 ?_
          rotate_left
          · intro w hSw; (try dsimp only at hSw); obtain ⟨⟨z0, z1, z2⟩, ⟨z3, z4, z5⟩, ⟨z6, z7, z8⟩, z9, z10, z11⟩ := hSw; go_simp; (try with_reducible rfl)
          (try simp only [List.getElem_toArray, List.getElem_cons_succ, List.getElem_cons_zero])
          (try simp only [Act.put, List.setIfInBounds_toArray, List.set_cons_zero, List.set_cons_succ])
          refine wpHold_take (i := 20) (v := ?_) rfl (by kernel_rfl) (by kernel_rfl) (by kernel_rfl) (fun _ _ _ h => h) (Or.inl ⟨by rfl, ?_⟩) hC0 ?_
          rotate_left
          · intro w hSw; (try dsimp only at hSw); obtain ⟨⟨z0, z1, z2⟩, ⟨z3, z4, z5⟩, ⟨z6, z7, z8⟩, z9, z10, z11⟩ := hSw; go_simp; (try with_reducible rfl)
          (try simp only [List.getElem_toArray, List.getElem_cons_succ, List.getElem_cons_zero])
          (try simp only [Act.put, List.setIfInBounds_toArray, List.set_cons_zero, List.set_cons_succ])
          refine wpHold_one (k := 19) (by kernel_rfl) rfl (fun K hK => ?_)
          (try simp only [List.getElem_toArray, List.getElem_cons_succ, List.getElem_cons_zero])
          go_simp
          refine (unhide HSU W9.drew bd0).mono ?_
          rintro e w11 ⟨v11, rfl, hv11, hb11⟩
          have c11 := below_step bd0 hb11
          have hC11 : (fun w' : World => (w'.cell? ⟨b10, 0, none⟩ = some (.bool ta.s) ∧ w'.cell? ⟨b10, 1, none⟩ = some (.slice ta.a1 ta.n1 ta.c1) ∧ w'.cell? ⟨b10, 2, none⟩ = some (.slice ta.a2 ta.n2 ta.c2)) ∧ (w'.cell? ⟨b12, 0, none⟩ = some (.bool tb.s) ∧ w'.cell? ⟨b12, 1, none⟩ = some (.slice tb.a1 tb.n1 tb.c1) ∧ w'.cell? ⟨b12, 2, none⟩ = some (.slice tb.a2 tb.n2 tb.c2)) ∧ (w'.cell? ⟨b8, 0, none⟩ = some (.bool t9.s) ∧ w'.cell? ⟨b8, 1, none⟩ = some (.slice t9.a1 t9.n1 t9.c1) ∧ w'.cell? ⟨b8, 2, none⟩ = some (.slice t9.a2 t9.n2 t9.c2)) ∧ w'.cell? ⟨b4, 0, none⟩ = some (.bool tm.s) ∧ w'.cell? ⟨b4, 1, none⟩ = some (.slice tm.a1 tm.n1 tm.c1) ∧ w'.cell? ⟨b4, 2, none⟩ = some (.slice tm.a2 tm.n2 tm.c2)) w11 := unhide HCC _ c11
          refine hK.out _ _ hC11 ?_
          clear hK K
          (try simp only [Act.put, List.setIfInBounds_toArray, List.set_cons_zero, List.set_cons_succ])
          refine wpHold_one (k := 21) (by kernel_rfl) rfl (fun K hK => ?_)
          (try simp only [List.getElem_toArray, List.getElem_cons_succ, List.getElem_cons_zero])
          go_simp
          refine (unhide HLI w11 v11 c11 hv11).mono ?_
          rintro e w12 ⟨rfl, hb12⟩
          have c12 := below_step c11 hb12
          have hC12 : (fun w' : World => (w'.cell? ⟨b10, 0, none⟩ = some (.bool ta.s) ∧ w'.cell? ⟨b10, 1, none⟩ = some (.slice ta.a1 ta.n1 ta.c1) ∧ w'.cell? ⟨b10, 2, none⟩ = some (.slice ta.a2 ta.n2 ta.c2)) ∧ (w'.cell? ⟨b12, 0, none⟩ = some (.bool tb.s) ∧ w'.cell? ⟨b12, 1, none⟩ = some (.slice tb.a1 tb.n1 tb.c1) ∧ w'.cell? ⟨b12, 2, none⟩ = some (.slice tb.a2 tb.n2 tb.c2)) ∧ (w'.cell? ⟨b8, 0, none⟩ = some (.bool t9.s) ∧ w'.cell? ⟨b8, 1, none⟩ = some (.slice t9.a1 t9.n1 t9.c1) ∧ w'.cell? ⟨b8, 2, none⟩ = some (.slice t9.a2 t9.n2 t9.c2)) ∧ w'.cell? ⟨b4, 0, none⟩ = some (.bool tm.s) ∧ w'.cell? ⟨b4, 1, none⟩ = some (.slice tm.a1 tm.n1 tm.c1) ∧ w'.cell? ⟨b4, 2, none⟩ = some (.slice tm.a2 tm.n2 tm.c2)) w12 := unhide HCC _ c12
          refine hK.out _ _ hC12 ?_
          clear hK K
          (try simp only [Act.put, List.setIfInBounds_toArray, List.set_cons_zero, List.set_cons_succ])
          refine wpHold_take (i := 22) (v := ?_) rfl (by kernel_rfl) (by kernel_rfl) (by kernel_rfl) (fun _ _ _ h => h) (Or.inl ⟨by rfl, ?_⟩) hC12 ?_
          rotate_left
          · intro w hSw; clear hSw; go_simp; (try with_reducible rfl)
          (try simp only [List.getElem_toArray, List.getElem_cons_succ, List.getElem_cons_zero])
          (try simp only [Act.put, List.setIfInBounds_toArray, List.set_cons_zero, List.set_cons_succ])
          refine wpHold_take (i := 23) (v := ?_) rfl (by kernel_rfl) (by kernel_rfl) (by kernel_rfl) (fun _ _ _ h => h) (Or.inl ⟨by rfl, ?_⟩) hC12 ?_
          rotate_left
          · intro w hSw; clear hSw; go_simp; (try with_reducible rfl)
          (try simp only [List.getElem_toArray, List.getElem_cons_succ, List.getElem_cons_zero])
          (try simp only [Act.put, List.setIfInBounds_toArray, List.set_cons_zero, List.set_cons_succ])
          refine wpHold_done (by kernel_rfl) ?_ _
          have E1 := hide (below_step (unhide ZB) c12)
          have E2 := hide ((unhide Z4).keep c12)
          have E3 := hide ((unhide HFIN).keep c12)
          clear hC0 hC11 hC12 bd0 c11 c12 hb11 hb12 hv11
          go_wp2_with fail
          exact ⟨⟨n + 1, t9, by go_num, hlt, unhide E1, unhide E2, unhide E3⟩, by simp [intOf]; omega⟩
      · obtain rfl : n = qs.length := by omega
        have i1 : ¬ (qs.length : Int) < (ps.length : Int) := by have := unhide HLQ; omega
        have E1 := hide (below_step (unhide HBW) (unhide HB_r))
        go_wp2
        go_ret
        exact ⟨rfl, unhide E1⟩
  · have HB_0 := hide (Below.refl w1.heap.size w1)
    have HCK := hide hc
    clear hc
    go_wp2_with fail
    refine (unhide HME _ _ (unhide HL1) (unhide HCK)).mono ?_
    rintro e w2 ⟨rfl, hb2⟩
    simp only [zAgg]
    generalize chk qs = k at *
    have X2 := BoxIs.new (w := w2) (t := zTri) (q := 0) (rat_zero _)
    have hb2' := below_step hb2 (alloc_below w2 (.cells #[.bool zTri.s, .slice zTri.a1 zTri.n1 zTri.c1, .slice zTri.a2 zTri.n2 zTri.c2] 36))
    have HB2 := hide (below_step (unhide HBW) hb2')
    have HX2 := hide X2
    obtain ⟨W2, hW2⟩ : ∃ W, w2.alloc (.cells #[.bool false, .slice none 0 0, .slice none 0 0] 36) = W := ⟨_, rfl⟩
    obtain ⟨b4, hb4⟩ : ∃ b, w2.heap.size = b := ⟨_, rfl⟩
    have hW2' : w2.alloc (.cells #[.bool zTri.s, .slice zTri.a1 zTri.n1 zTri.c1, .slice zTri.a2 zTri.n2 zTri.c2] 36) = W2 := hW2
    rw [hW2'] at HB2 HX2
    rw [hb4] at HX2
    have HWE := hide hW2
    have Hb4 := hide hb4
    clear X2 hb2 hb2' hW2' hW2 hb4
    go_wp2_with fail
    rw [unhide HWE, unhide Hb4]
    refine (unhide HCO _ (unhide HB2)).mono ?_
    rintro e w3 ⟨v3, rfl, hb3⟩
    have X3 := (unhide HX2).keep hb3
    obtain ⟨k0, k1, k2⟩ := X3.cells _ (Below.refl _ _)
    simp only [zTri] at k0 k1 k2
    have HSG := hide (sign_any _ _ _ X3.2)
    have HB3 := hide (below_step (unhide HB2) hb3)
    simp only [Tri.val, zTri] at HSG
    clear X3 hb3
    go_wp2_with fail
    refine (unhide HSG).mono ?_
    rintro e w4 ⟨rfl, hb4⟩
    have HB4 := hide (below_step (unhide HB3) hb4)
    clear hb4
    go_wp2
    go_ret
    exact ⟨rfl, unhide HB4⟩
end Go.Proofs.YtdicbnchkfclaaaDoor
