/- The program's Run: what the server does second by second. -/
import Derived.Test.YteflciddadjilaaDoorP7
namespace Go.Proofs.YteflciddadjilaaDoor
open Go.RowKit Go.Sort Sim

set_option maxHeartbeats 8000000 in
set_option maxRecDepth 100000 in
theorem run_5 (a : Option Addr) (n c : Nat) (f : Nat → T3) (r : Nat) (w : World) (ha : TRow w a n c f) (hg : Good n f) (hj : jcode n f = 0) (hr : r = 5) :
    Calls Tryd.prog 15 #[.slice a n c, .int .i64 (r : Int)] w fun e w' => ∃ v t, e = .returned (.tuple #[v, .nilIface]) ∧ Done (qOf n f r) t ∧ OwnP w' w.heap.size v (pcsT (sim (qOf n f r) t).ps) ∧ Below w.heap.size w w' := by
  subst hr
  have hr1 : 1 ≤ 5 := by decide
  have hr6 : 5 ≤ 6 := by decide
  have HC := hide (check_any a n c f w ha)
  have HV : Hid (errV (jcode n f) = .nilIface) := by rw [hj]; exact rfl
  have HA := hide ha
  have HG := hide hg
  clear ha hg hj
  go_enter Tryd.func15, Tryd.ntmps15
  go_wp2_with fail
  refine (unhide HC).mono ?_
  rintro e w1 ⟨rfl, hb1⟩
  rw [unhide HV]
  have HS := hide (sizes_any a n c f w1 ((unhide HA).below hb1) (unhide HG).few)
  have HB1 := hide hb1
  clear hb1 HC HV
  go_wp2_with fail
  refine (unhide HS).mono ?_
  rintro e w2 ⟨rfl, hO2, hb2⟩
  obtain ⟨G, hG⟩ : ∃ G, w1.heap.size = G := ⟨_, rfl⟩
  have HB2 := hide hb2
  rw [hG] at hO2 ⊢
  have HO2 := hide hO2
  have HGe := hide hG
  have HR := hide (rank_any 5 hr1 hr6 a n c G w2)
  clear hb2 hO2 HS hG
  go_wp2_with fail
  refine (unhide HR).mono ?_
  rintro e w3 ⟨fk, caps, rfl, hR3, hb3⟩
  have HR3 := hide hR3
  have HB3 := hide hb3
  have HCh := hide (chooser_any n G fk caps w3)
  clear hR3 hb3 HR
  go_wp2_with fail
  refine (unhide HCh).mono ?_
  rintro e W0 ⟨B1, B2, rfl, hc1, hc2, hl1, hl2, hb4⟩
  have HST : Hid (Stat w W0 a n c f 5 G B1 B2 fk caps) :=
    ⟨unhide HA, ⟨_, ((unhide HO2).keep (unhide HB3)).keep hb4⟩, hc1, hc2, (unhide HR3).keep (fun B x n c h => by rw [hb4.cell (p := ⟨B, 0, none⟩) (World.block_lt_of_cell? w3 ⟨B, 0, none⟩ h)]; exact h), by rw [← unhide HGe]; exact (unhide HB1).size, below_step (unhide HB1) (below_step (unhide HB2) (below_step (unhide HB3) hb4))⟩
  have HL0 : Hid (RunAt w W0 W0 n f 5 G 0 0 (.slice none 0 0)) := by
    refine ⟨Dyn.refl _ _, ?_, OwnP.start _ _, Nat.zero_le _, fun i hi => absurd hi (Nat.not_lt_zero _), fun j hj => (by cases hj), by show 0 + nsum (qOf n f 5).S n ≤ _; omega⟩
    refine (((unhide HO2).keep (unhide HB3)).keep hb4).congr fun j hj => ?_
    have := (unhide HG).size j hj
    show (f j).2.1 = (((f j).2.1.toNat : Nat) : Int)
    omega
  clear hc1 hc2 hl1 hl2 hb4 HO2 HB1 HB2 HB3 HR3 HCh
  go_wp2_with fail
  go_loopw [10, 11, 12] (fun vp vn vc wr => ∃ t came : Nat, vn = .int .i64 (t : Int) ∧ vc = .int .i64 (came : Int) ∧ RunAt w W0 wr n f 5 G t came vp ∧ t ≤ 61000000000) (fun _ vn _ _ => 61000000001 - (intOf vn).toNat)
  case atStart => exact ⟨0, 0, rfl, rfl, unhide HL0, by omega⟩
  case round =>
    clear HL0
    obtain ⟨t, came, rfl, rfl, hT, ht⟩ := hrel
    have HT := hide hT
    have HTT := hide ht
    clear hT ht
    obtain ⟨wq, hwq⟩ : ∃ W, W = wr := ⟨_, rfl⟩
    rw [← hwq] at HT ⊢
    clear hwq
    go_wp2_with fail
    go_loopw [12] (fun vc wr => ∃ came : Nat, vc = .int .i64 (came : Int) ∧ RunAt w W0 wr n f 5 G t came u10) (fun vc _ => n - (intOf vc).toNat)
    case atStart => exact ⟨came, rfl, unhide HT⟩
    case round =>
      clear HT
      obtain ⟨came, rfl, T⟩ := hrel
      have hn60 : (came : Int) ≤ 60 := by have := (unhide HG).few; have := T.few; omega
      by_cases hlt : came < n
      · obtain ⟨b, o, rfl, hbl, hc⟩ := ((unhide HST).trow.below (T.dyn.all (unhide HST))).2.2 (by omega)
        have ⟨k0, _, _⟩ := hc came hlt
        have ha := (unhide HG).at0 came hlt
        have i1 : (came : Int) < (n : Int) := by omega
        obtain ⟨y, hy⟩ : ∃ x, (f came).1 = x := ⟨_, rfl⟩
        rw [hy] at k0
        have HA2 : Hid (0 ≤ y ∧ y ≤ 1000000000 ∧ (f came).1.toNat = y.toNat) := (by rw [← hy]; exact ⟨ha.1, ha.2, rfl⟩ : 0 ≤ y ∧ y ≤ 1000000000 ∧ (f came).1.toNat = y.toNat)
        by_cases hle : y ≤ (t : Int)
        · have FIN := hide (T.more hlt (by omega))
          clear T hc ha hy
          go_wp2
          exact ⟨⟨came + 1, by go_num, unhide FIN⟩, by simp [intOf]; omega⟩
        · have HTX : Hid (t < (f came).1.toNat) := (by omega : t < (f came).1.toNat)
          have hdl : decide (y ≤ (t : Int)) = false := decide_eq_false hle
          have HN := hide (next_any (T.dyn.rank (unhide HST)) T.few (unhide HG).few ((unhide HST).trow.below (T.dyn.all (unhide HST))) (T.dyn.cell (unhide HST) (unhide HST).box1 (fun _ e => by cases e)) T.left (T.dyn.cell (unhide HST) (unhide HST).box2 (fun _ e => by cases e)))
          rw [T.choice (unhide HG) hr1 hr6 (fun _ => unhide HTX)] at HN
          have HTW : Hid (∀ dd, RunAt w W0 (wr.drewN dd) n f 5 G t came u10) := fun dd => T.keep (below_drewN _ dd)
          clear T hc ha hy
          go_wp2_with fail
          refine (unhide HN).mono ?_
          rintro e w9 ⟨rfl, dd, rfl⟩
          have T := unhide HTW dd
          clear HN HTW
          cases hcho : Sim.choice (qOf n f 5) (sim (qOf n f 5) t) t with
          | none =>
            simp only [bv, ov, Option.getD_none, Option.isSome_none]
            have hcb : ((came : Int) == (n : Int)) = false := by rw [beq_eq_false_iff_ne]; omega
            obtain ⟨T2, ht2⟩ := T.idle (unhide HG) hlt (unhide HTX) hcho
            rw [(unhide HA2).2.2] at T2 ht2
            have FIN := hide T2
            have FT := hide (T2.time (unhide HG))
            have FL := hide ht2
            clear T T2 hcho ht2
            go_wp2
            refine ⟨⟨y.toNat, came, ?_, rfl, unhide FIN, unhide FT⟩, ?_⟩
            · have := (unhide HA2).1; rw [Int.toNat_of_nonneg this]
            · simp [intOf]; have := unhide FT; have := unhide FL; omega
          | some j =>
            by_cases hxy : (t : Int) + (((sim (qOf n f 5) t).lf j : Nat) : Int) ≤ y
            · have ⟨hlp, hjn0⟩ := left_pos hcho
              have hjn : j < n := hjn0
              simp only [bv, ov, Option.getD_some, Option.isSome_some]
              obtain ⟨x, hx⟩ : ∃ x : Nat, (sim (qOf n f 5) t).lf j = x := ⟨_, rfl⟩
              have g0 := T.left.cell hjn
              have g1 := T.left.free j
              have hxb := T.lf_le (unhide HG) hjn
              rw [hx] at g0 hlp hxb hxy
              have i2 : (j : Int) < (n : Int) := by omega
              have hmn : min ((t : Int) + (x : Int)) y = (t : Int) + (x : Int) := by omega
              obtain ⟨d, hd⟩ : ∃ d : Nat, x = d := ⟨_, rfl⟩
              have hd0 : 0 < d := by omega
              have hdx : d ≤ x := by omega
              have hw1 : IntKind.i64.wrap ((t : Int) + (x : Int)) = (t : Int) + (x : Int) := by rw [IntKind.wrap_i64]; omega
              have hw2 : IntKind.i64.wrap (((t : Int) + (x : Int)) - (t : Int)) = (d : Int) := by rw [IntKind.wrap_i64]; omega
              have hw3 : IntKind.i64.wrap ((x : Int) - (d : Int)) = (x : Int) - (d : Int) := by rw [IntKind.wrap_i64]; omega
              obtain ⟨w3, e3⟩ : ∃ W, (wr.drewN dd).setCell ⟨G, j, none⟩ (.int .i64 ((x : Int) - (d : Int))) = W := ⟨_, rfl⟩
              have SV : ∀ v', _ := fun v' => T.serve (v' := v') (w3 := w3) (unhide HG) hcho (d := d) hd0 (by rw [hx]; exact hdx) (fun h => absurd h (by decide)) (fun _ _ => by have := unhide HA2; omega) T (by rw [hx]; exact e3)
              have HS1 := hide (SV .nilIface).1
              have HSV : Hid (∀ v' w4 w5, Below w3.heap.size w3 w4 → OwnP w5 W0.heap.size v' (joinT (pcsT (sim (qOf n f 5) t).ps) ((j : Int), (t : Int), ((t + d : Nat) : Int))) → w4.grownBy w5 u10.ownBlock → RunAt w W0 w5 n f 5 G (t + d) came v') := fun v' => (SV v').2
              have HPL : Hid ((pcsT (sim (qOf n f 5) t).ps).length ≤ 1000000000000) := Nat.le_trans (by rw [pcsT_length]; exact ps_short _ t) (Nat.le_trans (unhide HTT) (by decide))
              have HJ := hide (joined_any W0.heap.size u10 (pcsT (sim (qOf n f 5) t).ps) (j : Int) (t : Int) ((t : Int) + (x : Int)) w3 (unhide HS1).1 (unhide HPL) (unhide HS1).2)
              have et : ((t + d : Nat) : Int) = ((t : Int) + (x : Int)) := by omega
              rw [et] at HSV
              have HET := hide et
              have HD0 := hide hd0
              have HXB := hide hxb
              have HDX := hide hdx
              clear SV T hcho hx et HS1 HPL hxb hdx hd0 hlp hd
              go_wp2_with fail
              refine (unhide HJ).mono ?_
              rintro e w5 ⟨v', rfl, ho5, hg5⟩
              have FIN := hide (unhide HSV v' w3 w5 (Below.refl _ _) ho5 hg5)
              have FT := hide ((unhide FIN).time (unhide HG))
              clear ho5 hg5 HSV HJ e3 hw1 hw2 hw3
              go_wp2
              refine ⟨⟨t + d, came, ?_, rfl, unhide FIN, unhide FT⟩, ?_⟩
              · rw [unhide HET]
              · have h1 := unhide HET
                have h2 := unhide HD0
                have h3 := unhide FT
                have h4 : ((((t : Int) + (x : Int)) : Int)).toNat = t + d := by omega
                simp only [intOf, Int.toNat_natCast]
                rw [h4]
                omega
            · have ⟨hlp, hjn0⟩ := left_pos hcho
              have hjn : j < n := hjn0
              simp only [bv, ov, Option.getD_some, Option.isSome_some]
              obtain ⟨x, hx⟩ : ∃ x : Nat, (sim (qOf n f 5) t).lf j = x := ⟨_, rfl⟩
              have g0 := T.left.cell hjn
              have g1 := T.left.free j
              have hxb := T.lf_le (unhide HG) hjn
              rw [hx] at g0 hlp hxb hxy
              have i2 : (j : Int) < (n : Int) := by omega
              have hmn : min ((t : Int) + (x : Int)) y = y := by omega
              obtain ⟨d, hd⟩ : ∃ d : Nat, y.toNat - t = d := ⟨_, rfl⟩
              have hyy := unhide HA2
              have hd0 : 0 < d := by omega
              have hdx : d ≤ x := by omega
              have hw1 : IntKind.i64.wrap ((t : Int) + (x : Int)) = (t : Int) + (x : Int) := by rw [IntKind.wrap_i64]; omega
              have hw2 : IntKind.i64.wrap (y - (t : Int)) = (d : Int) := by rw [IntKind.wrap_i64]; omega
              have hw3 : IntKind.i64.wrap ((x : Int) - (d : Int)) = (x : Int) - (d : Int) := by rw [IntKind.wrap_i64]; omega
              obtain ⟨w3, e3⟩ : ∃ W, (wr.drewN dd).setCell ⟨G, j, none⟩ (.int .i64 ((x : Int) - (d : Int))) = W := ⟨_, rfl⟩
              have SV : ∀ v', _ := fun v' => T.serve (v' := v') (w3 := w3) (unhide HG) hcho (d := d) hd0 (by rw [hx]; exact hdx) (fun h => absurd h (by decide)) (fun _ _ => by have := unhide HA2; omega) T (by rw [hx]; exact e3)
              have HS1 := hide (SV .nilIface).1
              have HSV : Hid (∀ v' w4 w5, Below w3.heap.size w3 w4 → OwnP w5 W0.heap.size v' (joinT (pcsT (sim (qOf n f 5) t).ps) ((j : Int), (t : Int), ((t + d : Nat) : Int))) → w4.grownBy w5 u10.ownBlock → RunAt w W0 w5 n f 5 G (t + d) came v') := fun v' => (SV v').2
              have HPL : Hid ((pcsT (sim (qOf n f 5) t).ps).length ≤ 1000000000000) := Nat.le_trans (by rw [pcsT_length]; exact ps_short _ t) (Nat.le_trans (unhide HTT) (by decide))
              have HJ := hide (joined_any W0.heap.size u10 (pcsT (sim (qOf n f 5) t).ps) (j : Int) (t : Int) y w3 (unhide HS1).1 (unhide HPL) (unhide HS1).2)
              have et : ((t + d : Nat) : Int) = y := by omega
              rw [et] at HSV
              have HET := hide et
              have HD0 := hide hd0
              have HXB := hide hxb
              have HDX := hide hdx
              clear SV T hcho hx et HS1 HPL hxb hdx hd0 hlp hd hyy
              go_wp2_with fail
              refine (unhide HJ).mono ?_
              rintro e w5 ⟨v', rfl, ho5, hg5⟩
              have FIN := hide (unhide HSV v' w3 w5 (Below.refl _ _) ho5 hg5)
              have FT := hide ((unhide FIN).time (unhide HG))
              clear ho5 hg5 HSV HJ e3 hw1 hw2 hw3
              go_wp2
              refine ⟨⟨t + d, came, ?_, rfl, unhide FIN, unhide FT⟩, ?_⟩
              · rw [unhide HET]
              · have h1 := unhide HET
                have h2 := unhide HD0
                have h3 := unhide FT
                have h4 : ((y : Int)).toNat = t + d := by omega
                simp only [intOf, Int.toNat_natCast]
                rw [h4]
                omega
      · have HCN : Hid (came = n) := (by have := T.few; omega : came = n)
        have i1 : ¬ (came : Int) < (n : Int) := by omega
        have HN := hide (next_any (T.dyn.rank (unhide HST)) T.few (unhide HG).few ((unhide HST).trow.below (T.dyn.all (unhide HST))) (T.dyn.cell (unhide HST) (unhide HST).box1 (fun _ e => by cases e)) T.left (T.dyn.cell (unhide HST) (unhide HST).box2 (fun _ e => by cases e)))
        rw [T.choice (unhide HG) hr1 hr6 (fun h => absurd h hlt)] at HN
        have HTW : Hid (∀ dd, RunAt w W0 (wr.drewN dd) n f 5 G t came u10) := fun dd => T.keep (below_drewN _ dd)
        clear T
        go_wp2_with fail
        refine (unhide HN).mono ?_
        rintro e w9 ⟨rfl, dd, rfl⟩
        have T := unhide HTW dd
        clear HN HTW
        cases hcho : Sim.choice (qOf n f 5) (sim (qOf n f 5) t) t with
        | none =>
          have hnl := none_left hcho
          simp only [bv, ov, Option.getD_none, Option.isSome_none]
          have FIN : Hid (Done (qOf n f 5) t) := fun i hi => hnl i hi (T.come i (by rw [unhide HCN]; exact hi))
          have FO := hide (OwnP_base T.own (unhide HST).bl.size)
          have FB := hide (T.dyn.all (unhide HST))
          have hci : ((came : Int) == (n : Int)) = true := by rw [beq_iff_eq, unhide HCN]
          clear hnl T hcho
          go_wp2
          go_ret2
          exact ⟨_, t, rfl, unhide FIN, unhide FO, unhide FB⟩
        | some j =>
          have ⟨hlp, hjn0⟩ := left_pos hcho
          have hjn : j < n := hjn0
          simp only [bv, ov, Option.getD_some, Option.isSome_some]
          obtain ⟨x, hx⟩ : ∃ x : Nat, (sim (qOf n f 5) t).lf j = x := ⟨_, rfl⟩
          have g0 := T.left.cell hjn
          have g1 := T.left.free j
          have hxb := T.lf_le (unhide HG) hjn
          rw [hx] at g0 hlp hxb
          have i2 : (j : Int) < (n : Int) := by omega
          obtain ⟨d, hd⟩ : ∃ d : Nat, x = d := ⟨_, rfl⟩
          have hd0 : 0 < d := by omega
          have hdx : d ≤ x := by omega
          have hw1 : IntKind.i64.wrap ((t : Int) + (x : Int)) = (t : Int) + (x : Int) := by rw [IntKind.wrap_i64]; omega
          have hw2 : IntKind.i64.wrap (((t : Int) + (x : Int)) - (t : Int)) = (d : Int) := by rw [IntKind.wrap_i64]; omega
          have hw3 : IntKind.i64.wrap ((x : Int) - (d : Int)) = (x : Int) - (d : Int) := by rw [IntKind.wrap_i64]; omega
          obtain ⟨w3, e3⟩ : ∃ W, (wr.drewN dd).setCell ⟨G, j, none⟩ (.int .i64 ((x : Int) - (d : Int))) = W := ⟨_, rfl⟩
          have SV : ∀ v', _ := fun v' => T.serve (v' := v') (w3 := w3) (unhide HG) hcho (d := d) hd0 (by rw [hx]; exact hdx) (fun h => absurd h (by decide)) (fun _ h => absurd h hlt) T (by rw [hx]; exact e3)
          have HS1 := hide (SV .nilIface).1
          have HSV : Hid (∀ v' w4 w5, Below w3.heap.size w3 w4 → OwnP w5 W0.heap.size v' (joinT (pcsT (sim (qOf n f 5) t).ps) ((j : Int), (t : Int), ((t + d : Nat) : Int))) → w4.grownBy w5 u10.ownBlock → RunAt w W0 w5 n f 5 G (t + d) came v') := fun v' => (SV v').2
          have HPL : Hid ((pcsT (sim (qOf n f 5) t).ps).length ≤ 1000000000000) := Nat.le_trans (by rw [pcsT_length]; exact ps_short _ t) (Nat.le_trans (unhide HTT) (by decide))
          have HJ := hide (joined_any W0.heap.size u10 (pcsT (sim (qOf n f 5) t).ps) (j : Int) (t : Int) ((t : Int) + (x : Int)) w3 (unhide HS1).1 (unhide HPL) (unhide HS1).2)
          have et : ((t + d : Nat) : Int) = ((t : Int) + (x : Int)) := by omega
          rw [et] at HSV
          have HET := hide et
          have HD0 := hide hd0
          have HXB := hide hxb
          have HDX := hide hdx
          clear SV T hcho hx et HS1 HPL hxb hdx hd0 hlp hd
          go_wp2_with fail
          refine (unhide HJ).mono ?_
          rintro e w5 ⟨v', rfl, ho5, hg5⟩
          have FIN := hide (unhide HSV v' w3 w5 (Below.refl _ _) ho5 hg5)
          have FT := hide ((unhide FIN).time (unhide HG))
          clear ho5 hg5 HSV HJ e3 hw1 hw2 hw3
          go_wp2
          refine ⟨⟨t + d, came, ?_, rfl, unhide FIN, unhide FT⟩, ?_⟩
          · rw [unhide HET]
          · have h1 := unhide HET
            have h2 := unhide HD0
            have h3 := unhide FT
            have h4 : ((((t : Int) + (x : Int)) : Int)).toNat = t + d := by omega
            simp only [intOf, Int.toNat_natCast]
            rw [h4]
            omega
end Go.Proofs.YteflciddadjilaaDoor
