/- PathWork: the walk. -/
import Derived.Test.YtfebbjbobogkcaaP16
import Derived.Test.YtfebbjbobogkcaaH1
namespace Go.Proofs.Ytfebbjbobogkcaa
open Go.RowKit Go.Sort Sim

theorem pick_fix (a : Int) (n : Nat) (hn : 0 < n) (hn1 : n ≤ 1000) : ∃ k : Nat, k < n ∧ ∀ w : World, Calls Try.prog 18 #[.int .i64 a, .int .i64 (n : Int)] w fun e w' => e = .returned (.int .i64 (k : Int)) ∧ w' = w := by
  have e1 : IntKind.u64.wrap (n : Int) = (n : Int) := by rw [IntKind.wrap_u64]; omega
  obtain ⟨x, hx⟩ : ∃ x, IntKind.u64.wrap a = x := ⟨_, rfl⟩
  have hx0 : 0 ≤ x := by rw [← hx, IntKind.wrap_u64]; omega
  have hx1 : x < 18446744073709551616 := by rw [← hx, IntKind.wrap_u64]; omega
  have hz : ((n : Int) == 0) = false := by rw [beq_eq_false_iff_ne]; omega
  have hm0 : 0 ≤ x % (n : Int) := Int.emod_nonneg _ (by omega)
  have hm1 : x % (n : Int) < (n : Int) := Int.emod_lt_of_pos _ (by omega)
  obtain ⟨k, hk⟩ : ∃ k : Nat, x % (n : Int) = (k : Int) := ⟨(x % (n : Int)).toNat, by omega⟩
  have hkn : k < n := by omega
  refine ⟨k, hkn, fun w => ?_⟩
  clear hm0 hm1
  go_enter Try.func18, Try.ntmps18
  go_wp2
  go_ret
  exact ⟨rfl, rfl⟩

def CW (b o : Nat) (x y z : Int) (bl ol : Nat) (la : Int) (W : World) : Prop := W.cell? ⟨b, o, none⟩ = some (.int .i64 x) ∧ W.cell? ⟨b, o + 1, none⟩ = some (.int .i64 y) ∧ W.cell? ⟨b, o + 2, none⟩ = some (.int .i64 z) ∧ W.cell? ⟨bl, ol, none⟩ = some (.int .i64 la)

/-- How much is still to be done. -/
def WK (n : Nat) (f : Nat → T3) (at_ : Int) : Int := wk f at_ n - ((cnt (qOf n f 1) at_.toNat : Nat) : Int)

theorem pieces_of {n : Nat} {f : Nat → T3} (hg : Good n f) {r t : Nat} (hd : Done (qOf n f r) t) {w : World} {B : Nat} {v : Value} (ho : OwnP w B v (pcsT (sim (qOf n f r) t).ps)) :
    ∃ a c m g, v = .slice a m c ∧ TRow w a m c g ∧ PcOk n f g m ∧ isum (fun i => (g i).2.2 - (g i).2.1) m = isum (fun i => (f i).2.1) n ∧ (∀ k, k ≤ m → 0 ≤ isum (fun i => (g i).2.2 - (g i).2.1) k ∧ isum (fun i => (g i).2.2 - (g i).2.1) k ≤ 60000000000) ∧ ∀ at_, wpc g at_ (wk f at_ n) m = WK n f at_ := by
  obtain ⟨a, c, rfl, ht⟩ := ho.trow
  refine ⟨a, c, _, _, rfl, ht, pc_ok hg hd, lens_all hg hd, fun k hk => ?_, fun at_ => ?_⟩
  · rw [pcsT_length] at hk
    rw [lens_take (t := t) (fun p hp => ⟨((ps_ok t).1 p hp).2.2.1, ((ps_ok t).1 p hp).2.2.2⟩) k hk]
    have h1 := clip_take t (sim (qOf n f r) t).ps k
    rw [clip_all hd] at h1
    have h2 := sizes_fit hg r
    have h3 : nsum (qOf n f r).S (qOf n f r).N ≤ 60000000000 := h2
    omega
  · have hW := wk_bd hg at_ n (Nat.le_refl _)
    have hfew := hg.few
    have e : clip at_.toNat (sim (qOf n f r) t).ps = cnt (qOf n f 1) at_.toNat := by
      rw [clip_sim]
      have a : cnt (qOf n f r) (min at_.toNat t) = cnt (qOf n f r) at_.toNat := by
        rcases Nat.le_total at_.toNat t with c | c
        · rw [Nat.min_eq_left c]
        · rw [Nat.min_eq_right c]
          obtain ⟨d, hd'⟩ := Nat.le.dest c
          rw [← hd']
          exact (cnt_done hd d).symm
      rw [a]
      exact cnt_same (q := qOf n f r) (p := qOf n f 1) rfl (fun _ _ => rfl) (fun _ _ => rfl) _
    have hb : clip at_.toNat (sim (qOf n f r) t).ps ≤ 60000000000 := by
      rw [clip_sim]
      have h1 := cnt_lf (qOf n f r) (min at_.toNat t)
      have h2 := sizes_fit hg r
      have h3 : nsum (qOf n f r).S (qOf n f r).N ≤ 60000000000 := h2
      omega
    rw [pcsT_length, wpc_take (fun p hp => by have := ps_fit hg r hd p hp; exact this.2.2) at_ _ (by omega) (by omega) hb _ (Nat.le_refl _), List.take_length, e]
    rfl

set_option maxHeartbeats 8000000 in
set_option maxRecDepth 100000 in
set_option linter.unusedSimpArgs false in
theorem pathWork_any (a : Option Addr) (n c : Nat) (f : Nat → T3) (x1 x2 wh : Int) (w : World) (ha : TRow w a n c f) :
    Calls Try.prog 6 #[.slice a n c, .int .i64 x1, .int .i64 x2, .int .i64 wh] w fun e w' => e = .returned (.bool true) ∧ Below w.heap.size w w' := by
  have hc1 := ha.1
  have hc2 := ha.2.1
  by_cases hn : (30 : Int) < (n : Int)
  · go_enter Try.func6, Try.ntmps6
    go_wp2
    go_ret
    exact ⟨rfl, Below.refl _ _⟩
  have HA := hide ha
  have HP1 := hide (pick_any x1 6 (by decide) (by decide) w)
  have HP2 := hide (pick_any x2 6 (by decide) (by decide) w)
  clear ha
  go_enter Try.func6, Try.ntmps6
  go_wp2_with fail
  refine (unhide HP1).mono ?_
  rintro e w0 ⟨k1, rfl, hk1, hw⟩
  obtain rfl := hw.symm
  clear HP1
  go_wp2_with fail
  refine (unhide HP2).mono ?_
  rintro e w0 ⟨k2, rfl, hk2, hw⟩
  obtain rfl := hw.symm
  clear HP2
  by_cases hj : jcode n f = 0
  · have HJ := hide hj
    have HR1 : Hid (Calls Try.prog 15 #[.slice a n c, .int .i64 (1 + (k1 : Int))] w fun e w' => ∃ v t, e = .returned (.tuple #[v, .nilIface]) ∧ Done (qOf n f (k1 + 1)) t ∧ OwnP w' w.heap.size v (pcsT (sim (qOf n f (k1 + 1)) t).ps) ∧ Below w.heap.size w w') := by
      have h := run_any a n c f (k1 + 1) w (unhide HA) hj (by omega) (by omega)
      rw [show ((k1 + 1 : Nat) : Int) = 1 + (k1 : Int) by omega] at h
      exact h
    clear hj
    go_wp2_with fail
    refine (unhide HR1).mono ?_
    rintro e w1 ⟨v, t, rfl, hd, ho, hb⟩
    have HD := hide hd
    have HO := hide ho
    have HB := hide hb
    have HR2 : Hid (Calls Try.prog 15 #[.slice a n c, .int .i64 (1 + (k2 : Int))] w1 fun e w' => ∃ v t, e = .returned (.tuple #[v, .nilIface]) ∧ Done (qOf n f (k2 + 1)) t ∧ OwnP w' w1.heap.size v (pcsT (sim (qOf n f (k2 + 1)) t).ps) ∧ Below w1.heap.size w1 w') := by
      have h := run_any a n c f (k2 + 1) w1 ((unhide HA).below (unhide HB)) (unhide HJ) (by omega) (by omega)
      rw [show ((k2 + 1 : Nat) : Int) = 1 + (k2 : Int) by omega] at h
      exact h
    clear hd ho hb HR1
    go_wp2_with fail
    refine (unhide HR2).mono ?_
    rintro e w2 ⟨v2, t2, rfl, hd2, ho2, hb2⟩
    have HD2 := hide hd2
    have HO2 := hide ho2
    have HO1 := hide ((unhide HO).keep hb2)
    have HB2 := hide (below_step (unhide HB) hb2)
    have HSe := hide (served_any w2)
    clear hd2 ho2 hb2 HR2 HO HB
    go_wp2_with fail
    refine (unhide HSe).mono ?_
    rintro e w3 ⟨rfl, hb3⟩
    have HB3 := hide (below_step (unhide HB2) hb3)
    have hg := good_of (unhide HJ)
    obtain ⟨ap, cp, m, gp, rfl, htp, hpo, hln, hls, hwp⟩ := pieces_of hg (unhide HD) ((unhide HO1).keep hb3)
    obtain ⟨aq, cq, m2, gq, rfl, htq, _, _, _, hwq⟩ := pieces_of hg (unhide HD2) ((unhide HO2).keep hb3)
    have HTP := hide htp
    have HTQ := hide htq
    have HPO := hide hpo
    have HLN := hide hln
    have HLS := hide hls
    have hmc := htp.1
    have hmc2 := htp.2.1
    have HWP : Hid (∀ (at_ : Int) W, Below w3.heap.size w3 W → Calls Try.prog 12 #[.slice a n c, .slice ap m cp, .int .i64 at_] W fun e w' => e = .returned (.int .i64 (WK n f at_)) ∧ Below W.heap.size W w') := fun at_ W hW => by
      have h := work_any a ap n c m cp f gp at_ W (((unhide HA).below (unhide HB3)).below hW) (htp.below hW)
      rw [hwp at_] at h
      exact h
    have HWQ : Hid (∀ (at_ : Int) W, Below w3.heap.size w3 W → Calls Try.prog 12 #[.slice a n c, .slice aq m2 cq, .int .i64 at_] W fun e w' => e = .returned (.int .i64 (WK n f at_)) ∧ Below W.heap.size W w') := fun at_ W hW => by
      have h := work_any a aq n c m2 cq f gq at_ W (((unhide HA).below (unhide HB3)).below hW) (htq.below hW)
      rw [hwq at_] at h
      exact h
    have HG := hide hg
    clear htp htq hpo hln hls hwp hwq hg hb3 HSe HO1 HO2 HD HD2 HB2
    obtain ⟨kp, hkp, hpk⟩ := pick_fix wh 3 (by decide) (by decide)
    have HPK : Hid (∀ w : World, Calls Try.prog 18 #[.int .i64 wh, .int .i64 3] w fun e w' => e = .returned (.int .i64 (kp : Int)) ∧ w' = w) := hpk
    clear hpk
    go_wp2_with fail
    go_loopw [13] (fun vi wr => ∃ i : Int, vi = .int .i64 i ∧ -1 ≤ i ∧ i ≤ (m : Int) ∧ Below w3.heap.size w3 wr) (fun vi _ => ((m : Int) - intOf vi).toNat)
    case atStart => exact ⟨-1, rfl, by omega, by omega, Below.refl _ _⟩
    case round =>
      obtain ⟨i, rfl, hi0, hi1, hb⟩ := hrel
      by_cases hlt : i < (m : Int)
      · by_cases hneg : i < 0
        · have HC1 := hide (unhide HWP wh wr hb)
          have HBw := hide hb
          clear hb
          go_wp2_with fail
          refine (unhide HC1).mono ?_
          rintro e w4 ⟨rfl, hb4⟩
          have HC2 := hide (unhide HWQ wh w4 (below_step (unhide HBw) hb4))
          have FB := hide (below_step (unhide HBw) hb4)
          clear hb4 HC1
          go_wp2_with fail
          refine (unhide HC2).mono ?_
          rintro e w5 ⟨rfl, hb5⟩
          have FB := hide (below_step (unhide FB) hb5)
          clear hb5 HC2
          go_wp2
          exact ⟨⟨i + 1, by go_num, by omega, by omega, unhide FB⟩, by simp [intOf]; omega⟩
        · obtain ⟨j, rfl⟩ : ∃ j : Nat, i = (j : Int) := ⟨i.toNat, by omega⟩
          obtain ⟨b, o, rfl, hbl, hc3⟩ := ((unhide HTP).below hb).2.2 (by omega)
          have ⟨_, _, q2⟩ := hc3 j (by omega)
          have hpb := (unhide HPO).pos j (by omega)
          obtain ⟨z, hz⟩ : ∃ z, (gp j).2.2 = z := ⟨_, rfl⟩
          rw [hz] at q2 hpb
          have w1 : IntKind.i64.wrap (z - (kp : Int)) = z - (kp : Int) := by rw [IntKind.wrap_i64]; omega
          have HC1 : Hid (∀ q, Calls Try.prog _ _ (wr.drewN q) _) := fun q => unhide HWP (z - (kp : Int)) (wr.drewN q) (below_step hb (below_drewN _ _))
          have HBw := hide hb
          clear hb hc3 hpb hz
          go_wp2_with fail
          go_quiet ((go_at_call 18; exact Calls.quiet_of_same (unhide HPK _)))
          go_wp2_with fail
          refine (unhide HC1 _).mono ?_
          rintro e w4 ⟨rfl, hb4⟩
          have FB := hide (below_step (below_step (unhide HBw) (below_drewN _ _)) hb4)
          have HC2 := hide (unhide HWQ (z - (kp : Int)) w4 (unhide FB))
          clear hb4 HC1
          go_wp2_with fail
          refine (unhide HC2).mono ?_
          rintro e w5 ⟨rfl, hb5⟩
          have FB := hide (below_step (unhide FB) hb5)
          clear hb5 HC2
          go_wp2
          exact ⟨⟨(j : Int) + 1, by go_num, by omega, by omega, unhide FB⟩, by simp [intOf]; omega⟩
      · obtain rfl : i = (m : Int) := by omega
        have HBw := hide hb
        clear hb HWP HWQ
        obtain ⟨wq, hwq⟩ : ∃ W, W = wr := ⟨_, rfl⟩
        rw [← hwq] at HBw ⊢
        clear hwq
        go_wp2_with fail
        go_loopw [15, 16] (fun vn vi wr => ∃ i q : Nat, vi = .int .i64 (i : Int) ∧ vn = .int .i64 (isum (fun i => (gp i).2.2 - (gp i).2.1) i) ∧ i ≤ m ∧ wr = wq.drewN q) (fun _ vi _ => m - (intOf vi).toNat)
        case atStart => exact ⟨0, 0, rfl, rfl, Nat.zero_le _, rfl⟩
        case round =>
          obtain ⟨i, q, rfl, rfl, hi, hwr⟩ := hrel
          have HW := hide hwr
          have bw : Below wq.heap.size wq wr := by rw [hwr]; exact below_drewN _ _
          by_cases hlt : i < m
          · have e0 : (i : Int) < (m : Int) := by omega
            by_cases hpos : i = 0
            · have hltH := hide hlt
              obtain ⟨b, o, rfl, hbl, hc3⟩ := ((unhide HTP).below (below_step (unhide HBw) bw)).2.2 (by omega)
              have ⟨q0, q1, q2⟩ := hc3 i hlt

              obtain ⟨j, hj1, hj2, hj3⟩ := (unhide HPO).job i hlt
              have hpb := (unhide HPO).pos i hlt
              obtain ⟨bl, ol, el, hbll, hcl⟩ := ((unhide HA).below (below_step (unhide HB3) (below_step (unhide HBw) bw))).2.2 (by omega)
              have ⟨l0, _, _⟩ := hcl j hj2
              have hls1 := unhide HLS i (by omega)
              have FIN : Hid (isum (fun i => (gp i).2.2 - (gp i).2.1) (i + 1) = isum (fun i => (gp i).2.2 - (gp i).2.1) i + ((gp i).2.2 - (gp i).2.1)) := rfl
              obtain ⟨N, hN⟩ : ∃ N, isum (fun i => (gp i).2.2 - (gp i).2.1) i = N := ⟨_, rfl⟩
              obtain ⟨y, hy⟩ : ∃ z, (gp i).2.1 = z := ⟨_, rfl⟩
              obtain ⟨z, hz⟩ : ∃ z, (gp i).2.2 = z := ⟨_, rfl⟩
              obtain ⟨la, hla⟩ : ∃ z, (f j).1 = z := ⟨_, rfl⟩
              rw [hN] at hls1 FIN ⊢
              rw [hj1] at q0
              rw [hy] at q1 hpb hj3 FIN
              rw [hz] at q2 hpb FIN
              rw [hla] at l0 hj3
              have w1 : IntKind.i64.wrap (z - y) = z - y := by rw [IntKind.wrap_i64]; omega
              have w2 : IntKind.i64.wrap (N + (z - y)) = N + (z - y) := by rw [IntKind.wrap_i64]; omega
              have e1 : (j : Int) < (n : Int) := by omega
              have e2 : (0 : Int) ≤ (j : Int) := by omega
              have d1 : decide ((j : Int) < 0) = false := decide_eq_false (by omega)
              have d2 : decide ((n : Int) ≤ (j : Int)) = false := decide_eq_false (by omega)
              have d3 : decide (z ≤ y) = false := decide_eq_false (by omega)
              have d4 : decide (y < la) = false := decide_eq_false (by omega)

              subst el
              obtain ⟨I, hI⟩ : ∃ I : Int, (i : Int) = I := ⟨_, rfl⟩
              rw [hI] at e0 ⊢
              have hti : I.toNat = i := by omega
              have eI0 : 0 ≤ I := by omega
              have d6 : decide (0 < I) = false := decide_eq_false (by omega)
              have HII := hide hI
              clear hc3 hcl hN hy hz hla hj1 hls1 hpb hj3 bw hwr hpos hlt hI hi
              have d2' : decide (n ≤ j) = false := decide_eq_false (by omega)
              have d2'' : ¬ n ≤ j := by omega
              have HCC : Hid (∀ W, Below wr.heap.size wr W → CW b (o + i * 3) (j : Int) y z bl (ol + j * 3) la W) := fun W h => ⟨by rw [h.cell (p := ⟨b, o + i * 3, none⟩) hbl]; exact q0, by rw [h.cell (p := ⟨b, o + i * 3 + 1, none⟩) hbl]; exact q1, by rw [h.cell (p := ⟨b, o + i * 3 + 2, none⟩) hbl]; exact q2, by rw [h.cell (p := ⟨bl, ol + j * 3, none⟩) hbll]; exact l0⟩
              go_wp2_with fail
              refine wp_region_hold (CW b (o + i * 3) (j : Int) y z bl (ol + j * 3) la) (by kernel_rfl) ?_
              have bd0 : Below wr.heap.size wr wr.drew := (Below.refl _ _).drew
              have hC0 : (CW b (o + i * 3) (j : Int) y z bl (ol + j * 3) la) wr.drew := unhide HCC _ bd0
              refine wpHold_take (i := 0) (v := ?_) rfl (by kernel_rfl) (by kernel_rfl) (by kernel_rfl) (fun _ _ _ h => h) (Or.inl ⟨by rfl, ?_⟩) hC0 ?_
              rotate_left
              · intro w hSw; clear hSw; go_simp; (try with_reducible rfl)
              (try simp only [List.getElem_toArray, List.getElem_cons_succ, List.getElem_cons_zero])
              (try simp only [Act.put, List.setIfInBounds_toArray, List.set_cons_zero, List.set_cons_succ])
              refine wpHold_take (i := 1) (v := ?_) rfl (by kernel_rfl) (by kernel_rfl) (by kernel_rfl) (fun _ _ _ h => h) (Or.inl ⟨by rfl, ?_⟩) hC0 ?_
              rotate_left
              · intro w hSw; clear hSw; go_simp; (try with_reducible rfl)
              (try simp only [List.getElem_toArray, List.getElem_cons_succ, List.getElem_cons_zero])
              (try simp only [Act.put, List.setIfInBounds_toArray, List.set_cons_zero, List.set_cons_succ])
              refine wpHold_take (i := 2) (v := ?_) rfl (by kernel_rfl) (by kernel_rfl) (by kernel_rfl) (fun _ _ _ h => h) (Or.inl ⟨by rfl, ?_⟩) hC0 ?_
              rotate_left
              · intro w hSw; clear hSw; go_simp; (try with_reducible rfl)
              (try simp only [List.getElem_toArray, List.getElem_cons_succ, List.getElem_cons_zero])
              (try simp only [Act.put, List.setIfInBounds_toArray, List.set_cons_zero, List.set_cons_succ])
              refine wpHold_take (i := 3) (v := ?_) rfl (by kernel_rfl) (by kernel_rfl) (by kernel_rfl) (fun _ _ _ h => h) (Or.inl ⟨by rfl, ?_⟩) hC0 ?_
              rotate_left
              · intro w hSw; clear hSw; go_simp; (try with_reducible rfl)
              (try simp only [List.getElem_toArray, List.getElem_cons_succ, List.getElem_cons_zero])
              (try simp only [Act.put, List.setIfInBounds_toArray, List.set_cons_zero, List.set_cons_succ])
              refine wpHold_take (i := 4) (v := ?_) rfl (by kernel_rfl) (by kernel_rfl) (by kernel_rfl) (fun _ _ _ h => h) (Or.inl ⟨by rfl, ?_⟩) hC0 ?_
              rotate_left
              · intro w hSw; (try dsimp only at hSw); obtain ⟨h0, h1, h2, h3⟩ := hSw; go_simp; (try with_reducible rfl)
              (try simp only [List.getElem_toArray, List.getElem_cons_succ, List.getElem_cons_zero])
              (try simp only [Act.put, List.setIfInBounds_toArray, List.set_cons_zero, List.set_cons_succ])
              refine wpHold_take (i := 5) (v := ?_) rfl (by kernel_rfl) (by kernel_rfl) (by kernel_rfl) (fun _ _ _ h => h) (Or.inl ⟨by rfl, ?_⟩) hC0 ?_
              rotate_left
              · intro w hSw; clear hSw; go_simp; (try with_reducible rfl)
              (try simp only [List.getElem_toArray, List.getElem_cons_succ, List.getElem_cons_zero])
              (try simp only [Act.put, List.setIfInBounds_toArray, List.set_cons_zero, List.set_cons_succ])
              refine wpHold_take (i := 6) (v := ?_) rfl (by kernel_rfl) (by kernel_rfl) (by kernel_rfl) (fun _ _ _ h => h) (Or.inl ⟨by rfl, ?_⟩) hC0 ?_
              rotate_left
              · intro w hSw; clear hSw; go_simp; (try with_reducible rfl)
              (try simp only [List.getElem_toArray, List.getElem_cons_succ, List.getElem_cons_zero])
              (try simp only [Act.put, List.setIfInBounds_toArray, List.set_cons_zero, List.set_cons_succ])
              refine wpHold_take (i := 7) (v := ?_) rfl (by kernel_rfl) (by kernel_rfl) (by kernel_rfl) (fun _ _ _ h => h) (Or.inl ⟨by rfl, ?_⟩) hC0 ?_
              rotate_left
              · intro w hSw; clear hSw; go_simp; (try with_reducible rfl)
              (try simp only [List.getElem_toArray, List.getElem_cons_succ, List.getElem_cons_zero])
              (try simp only [Act.put, List.setIfInBounds_toArray, List.set_cons_zero, List.set_cons_succ])
              refine wpHold_take (i := 8) (v := ?_) rfl (by kernel_rfl) (by kernel_rfl) (by kernel_rfl) (fun _ _ _ h => h) (Or.inl ⟨by rfl, ?_⟩) hC0 ?_
              rotate_left
              · intro w hSw; clear hSw; go_simp; (try with_reducible rfl)
              (try simp only [List.getElem_toArray, List.getElem_cons_succ, List.getElem_cons_zero])
              (try simp only [Act.put, List.setIfInBounds_toArray, List.set_cons_zero, List.set_cons_succ])
              refine wpHold_take (i := 9) (v := ?_) rfl (by kernel_rfl) (by kernel_rfl) (by kernel_rfl) (fun _ _ _ h => h) (Or.inl ⟨by rfl, ?_⟩) hC0 ?_
              rotate_left
              · intro w hSw; clear hSw; go_simp; (try with_reducible rfl)
              (try simp only [List.getElem_toArray, List.getElem_cons_succ, List.getElem_cons_zero])
              (try simp only [Act.put, List.setIfInBounds_toArray, List.set_cons_zero, List.set_cons_succ])
              refine wpHold_take (i := 10) (v := ?_) rfl (by kernel_rfl) (by kernel_rfl) (by kernel_rfl) (fun _ _ _ h => h) (Or.inl ⟨by rfl, ?_⟩) hC0 ?_
              rotate_left
              · intro w hSw; clear hSw; go_simp; (try with_reducible rfl)
              (try simp only [List.getElem_toArray, List.getElem_cons_succ, List.getElem_cons_zero])
              (try simp only [Act.put, List.setIfInBounds_toArray, List.set_cons_zero, List.set_cons_succ])
              refine wpHold_take (i := 11) (v := ?_) rfl (by kernel_rfl) (by kernel_rfl) (by kernel_rfl) (fun _ _ _ h => h) (Or.inl ⟨by rfl, ?_⟩) hC0 ?_
              rotate_left
              · intro w hSw; (try dsimp only at hSw); obtain ⟨h0, h1, h2, h3⟩ := hSw; go_simp; (try with_reducible rfl)
              (try simp only [List.getElem_toArray, List.getElem_cons_succ, List.getElem_cons_zero])
              (try simp only [Act.put, List.setIfInBounds_toArray, List.set_cons_zero, List.set_cons_succ])
              refine wpHold_take (i := 12) (v := ?_) rfl (by kernel_rfl) (by kernel_rfl) (by kernel_rfl) (fun _ _ _ h => h) (Or.inl ⟨by rfl, ?_⟩) hC0 ?_
              rotate_left
              · intro w hSw; clear hSw; go_simp; (try with_reducible rfl)
              (try simp only [List.getElem_toArray, List.getElem_cons_succ, List.getElem_cons_zero])
              (try simp only [Act.put, List.setIfInBounds_toArray, List.set_cons_zero, List.set_cons_succ])
              refine wpHold_take (i := 13) (v := ?_) rfl (by kernel_rfl) (by kernel_rfl) (by kernel_rfl) (fun _ _ _ h => h) (Or.inl ⟨by rfl, ?_⟩) hC0 ?_
              rotate_left
              · intro w hSw; clear hSw; go_simp; (try with_reducible rfl)
              (try simp only [List.getElem_toArray, List.getElem_cons_succ, List.getElem_cons_zero])
              (try simp only [Act.put, List.setIfInBounds_toArray, List.set_cons_zero, List.set_cons_succ])
              refine wpHold_take (i := 14) (v := ?_) rfl (by kernel_rfl) (by kernel_rfl) (by kernel_rfl) (fun _ _ _ h => h) (Or.inl ⟨by rfl, ?_⟩) hC0 ?_
              rotate_left
              · intro w hSw; clear hSw; go_simp; (try with_reducible rfl)
              (try simp only [List.getElem_toArray, List.getElem_cons_succ, List.getElem_cons_zero])
              (try simp only [Act.put, List.setIfInBounds_toArray, List.set_cons_zero, List.set_cons_succ])
              refine wpHold_take (i := 15) (v := ?_) rfl (by kernel_rfl) (by kernel_rfl) (by kernel_rfl) (fun _ _ _ h => h) (Or.inl ⟨by rfl, ?_⟩) hC0 ?_
              rotate_left
              · intro w hSw; clear hSw; go_simp; (try with_reducible rfl)
              (try simp only [List.getElem_toArray, List.getElem_cons_succ, List.getElem_cons_zero])
              (try simp only [Act.put, List.setIfInBounds_toArray, List.set_cons_zero, List.set_cons_succ])
              refine wpHold_take (i := 16) (v := ?_) rfl (by kernel_rfl) (by kernel_rfl) (by kernel_rfl) (fun _ _ _ h => h) (Or.inl ⟨by rfl, ?_⟩) hC0 ?_
              rotate_left
              · intro w hSw; clear hSw; go_simp; (try with_reducible rfl)
              (try simp only [List.getElem_toArray, List.getElem_cons_succ, List.getElem_cons_zero])
              (try simp only [Act.put, List.setIfInBounds_toArray, List.set_cons_zero, List.set_cons_succ])
              refine wpHold_take (i := 17) (v := ?_) rfl (by kernel_rfl) (by kernel_rfl) (by kernel_rfl) (fun _ _ _ h => h) (Or.inl ⟨by rfl, ?_⟩) hC0 ?_
              rotate_left
              · intro w hSw; clear hSw; go_simp; (try with_reducible rfl)
              (try simp only [List.getElem_toArray, List.getElem_cons_succ, List.getElem_cons_zero])
              (try simp only [Act.put, List.setIfInBounds_toArray, List.set_cons_zero, List.set_cons_succ])
              refine wpHold_take (i := 18) (v := ?_) rfl (by kernel_rfl) (by kernel_rfl) (by kernel_rfl) (fun _ _ _ h => h) (Or.inl ⟨by rfl, ?_⟩) hC0 ?_
              rotate_left
              · intro w hSw; clear hSw; go_simp; (try with_reducible rfl)
              (try simp only [List.getElem_toArray, List.getElem_cons_succ, List.getElem_cons_zero])
              (try simp only [Act.put, List.setIfInBounds_toArray, List.set_cons_zero, List.set_cons_succ])
              refine wpHold_take (i := 19) (v := ?_) rfl (by kernel_rfl) (by kernel_rfl) (by kernel_rfl) (fun _ _ _ h => h) (Or.inl ⟨by rfl, ?_⟩) hC0 ?_
              rotate_left
              · intro w hSw; clear hSw; go_simp; (try with_reducible rfl)
              (try simp only [List.getElem_toArray, List.getElem_cons_succ, List.getElem_cons_zero])
              (try simp only [Act.put, List.setIfInBounds_toArray, List.set_cons_zero, List.set_cons_succ])
              refine wpHold_take (i := 20) (v := ?_) rfl (by kernel_rfl) (by kernel_rfl) (by kernel_rfl) (fun _ _ _ h => h) (Or.inl ⟨by rfl, ?_⟩) hC0 ?_
              rotate_left
              · intro w hSw; clear hSw; go_simp; (try with_reducible rfl)
              (try simp only [List.getElem_toArray, List.getElem_cons_succ, List.getElem_cons_zero])
              (try simp only [Act.put, List.setIfInBounds_toArray, List.set_cons_zero, List.set_cons_succ])
              refine wpHold_take (i := 21) (v := ?_) rfl (by kernel_rfl) (by kernel_rfl) (by kernel_rfl) (fun _ _ _ h => h) (Or.inl ⟨by rfl, ?_⟩) hC0 ?_
              rotate_left
              · intro w hSw; (try dsimp only at hSw); obtain ⟨h0, h1, h2, h3⟩ := hSw; go_simp; (try with_reducible rfl)
              (try simp only [List.getElem_toArray, List.getElem_cons_succ, List.getElem_cons_zero])
              (try simp only [Act.put, List.setIfInBounds_toArray, List.set_cons_zero, List.set_cons_succ])
              refine wpHold_take (i := 22) (v := ?_) rfl (by kernel_rfl) (by kernel_rfl) (by kernel_rfl) (fun _ _ _ h => h) (Or.inl ⟨by rfl, ?_⟩) hC0 ?_
              rotate_left
              · intro w hSw; clear hSw; go_simp; (try with_reducible rfl)
              (try simp only [List.getElem_toArray, List.getElem_cons_succ, List.getElem_cons_zero])
              (try simp only [Act.put, List.setIfInBounds_toArray, List.set_cons_zero, List.set_cons_succ])
              refine wpHold_take (i := 23) (v := ?_) rfl (by kernel_rfl) (by kernel_rfl) (by kernel_rfl) (fun _ _ _ h => h) (Or.inl ⟨by rfl, ?_⟩) hC0 ?_
              rotate_left
              · intro w hSw; clear hSw; go_simp; (try with_reducible rfl)
              (try simp only [List.getElem_toArray, List.getElem_cons_succ, List.getElem_cons_zero])
              (try simp only [Act.put, List.setIfInBounds_toArray, List.set_cons_zero, List.set_cons_succ])
              refine wpHold_take (i := 24) (v := ?_) rfl (by kernel_rfl) (by kernel_rfl) (by kernel_rfl) (fun _ _ _ h => h) (Or.inl ⟨by rfl, ?_⟩) hC0 ?_
              rotate_left
              · intro w hSw; clear hSw; go_simp; (try with_reducible rfl)
              (try simp only [List.getElem_toArray, List.getElem_cons_succ, List.getElem_cons_zero])
              (try simp only [Act.put, List.setIfInBounds_toArray, List.set_cons_zero, List.set_cons_succ])
              refine wpHold_take (i := 25) (v := ?_) rfl (by kernel_rfl) (by kernel_rfl) (by kernel_rfl) (fun _ _ _ h => h) (Or.inl ⟨by rfl, ?_⟩) hC0 ?_
              rotate_left
              · intro w hSw; clear hSw; go_simp; (try with_reducible rfl)
              (try simp only [List.getElem_toArray, List.getElem_cons_succ, List.getElem_cons_zero])
              (try simp only [Act.put, List.setIfInBounds_toArray, List.set_cons_zero, List.set_cons_succ])
              refine wpHold_take (i := 26) (v := ?_) rfl (by kernel_rfl) (by kernel_rfl) (by kernel_rfl) (fun _ _ _ h => h) (Or.inl ⟨by rfl, ?_⟩) hC0 ?_
              rotate_left
              · intro w hSw; (try dsimp only at hSw); obtain ⟨h0, h1, h2, h3⟩ := hSw; go_simp; (try with_reducible rfl)
              (try simp only [List.getElem_toArray, List.getElem_cons_succ, List.getElem_cons_zero])
              (try simp only [Act.put, List.setIfInBounds_toArray, List.set_cons_zero, List.set_cons_succ])
              refine wpHold_take (i := 27) (v := ?_) rfl (by kernel_rfl) (by kernel_rfl) (by kernel_rfl) (fun _ _ _ h => h) (Or.inl ⟨by rfl, ?_⟩) hC0 ?_
              rotate_left
              · intro w hSw; clear hSw; go_simp; (try with_reducible rfl)
              (try simp only [List.getElem_toArray, List.getElem_cons_succ, List.getElem_cons_zero])
              (try simp only [Act.put, List.setIfInBounds_toArray, List.set_cons_zero, List.set_cons_succ])
              refine wpHold_take (i := 28) (v := ?_) rfl (by kernel_rfl) (by kernel_rfl) (by kernel_rfl) (fun _ _ _ h => h) (Or.inl ⟨by rfl, ?_⟩) hC0 ?_
              rotate_left
              · intro w hSw; clear hSw; go_simp; (try with_reducible rfl)
              (try simp only [List.getElem_toArray, List.getElem_cons_succ, List.getElem_cons_zero])
              (try simp only [Act.put, List.setIfInBounds_toArray, List.set_cons_zero, List.set_cons_succ])
              refine wpHold_take (i := 29) (v := ?_) rfl (by kernel_rfl) (by kernel_rfl) (by kernel_rfl) (fun _ _ _ h => h) (Or.inl ⟨by rfl, ?_⟩) hC0 ?_
              rotate_left
              · intro w hSw; clear hSw; go_simp; (try with_reducible rfl)
              (try simp only [List.getElem_toArray, List.getElem_cons_succ, List.getElem_cons_zero])
              (try simp only [Act.put, List.setIfInBounds_toArray, List.set_cons_zero, List.set_cons_succ])
              refine wpHold_take (i := 30) (v := ?_) rfl (by kernel_rfl) (by kernel_rfl) (by kernel_rfl) (fun _ _ _ h => h) (Or.inl ⟨by rfl, ?_⟩) hC0 ?_
              rotate_left
              · intro w hSw; clear hSw; go_simp; (try with_reducible rfl)
              (try simp only [List.getElem_toArray, List.getElem_cons_succ, List.getElem_cons_zero])
              (try simp only [Act.put, List.setIfInBounds_toArray, List.set_cons_zero, List.set_cons_succ])
              refine wpHold_take (i := 31) (v := ?_) rfl (by kernel_rfl) (by kernel_rfl) (by kernel_rfl) (fun _ _ _ h => h) (Or.inl ⟨by rfl, ?_⟩) hC0 ?_
              rotate_left
              · intro w hSw; clear hSw; go_simp; (try with_reducible rfl)
              (try simp only [List.getElem_toArray, List.getElem_cons_succ, List.getElem_cons_zero])
              (try simp only [Act.put, List.setIfInBounds_toArray, List.set_cons_zero, List.set_cons_succ])
              clear d6
              refine wpHold_take (i := 32) (v := ?_) rfl (by kernel_rfl) (by kernel_rfl) (by kernel_rfl) (fun _ _ _ h => h) (Or.inl ⟨by rfl, ?_⟩) hC0 ?_
              rotate_left
              · intro w hSw; clear hSw; go_simp; (try with_reducible rfl)
              (try simp only [List.getElem_toArray, List.getElem_cons_succ, List.getElem_cons_zero])
              (try simp only [Act.put, List.setIfInBounds_toArray, List.set_cons_zero, List.set_cons_succ])
              refine wpHold_take (i := 33) (v := undef) rfl (by kernel_rfl) (by kernel_rfl) (by kernel_rfl) (fun _ _ _ h => h) (Or.inr ⟨by rfl, rfl⟩) hC0 ?_
              (try simp only [List.getElem_toArray, List.getElem_cons_succ, List.getElem_cons_zero])
              (try simp only [Act.put, List.setIfInBounds_toArray, List.set_cons_zero, List.set_cons_succ])
              refine wpHold_take (i := 34) (v := undef) rfl (by kernel_rfl) (by kernel_rfl) (by kernel_rfl) (fun _ _ _ h => h) (Or.inr ⟨by rfl, rfl⟩) hC0 ?_
              (try simp only [List.getElem_toArray, List.getElem_cons_succ, List.getElem_cons_zero])
              (try simp only [Act.put, List.setIfInBounds_toArray, List.set_cons_zero, List.set_cons_succ])
              refine wpHold_take (i := 35) (v := undef) rfl (by kernel_rfl) (by kernel_rfl) (by kernel_rfl) (fun _ _ _ h => h) (Or.inr ⟨by rfl, rfl⟩) hC0 ?_
              (try simp only [List.getElem_toArray, List.getElem_cons_succ, List.getElem_cons_zero])
              (try simp only [Act.put, List.setIfInBounds_toArray, List.set_cons_zero, List.set_cons_succ])
              refine wpHold_take (i := 36) (v := undef) rfl (by kernel_rfl) (by kernel_rfl) (by kernel_rfl) (fun _ _ _ h => h) (Or.inr ⟨by rfl, rfl⟩) hC0 ?_
              (try simp only [List.getElem_toArray, List.getElem_cons_succ, List.getElem_cons_zero])
              (try simp only [Act.put, List.setIfInBounds_toArray, List.set_cons_zero, List.set_cons_succ])
              refine wpHold_take (i := 37) (v := undef) rfl (by kernel_rfl) (by kernel_rfl) (by kernel_rfl) (fun _ _ _ h => h) (Or.inr ⟨by rfl, rfl⟩) hC0 ?_
              (try simp only [List.getElem_toArray, List.getElem_cons_succ, List.getElem_cons_zero])
              (try simp only [Act.put, List.setIfInBounds_toArray, List.set_cons_zero, List.set_cons_succ])
              refine wpHold_take (i := 38) (v := undef) rfl (by kernel_rfl) (by kernel_rfl) (by kernel_rfl) (fun _ _ _ h => h) (Or.inr ⟨by rfl, rfl⟩) hC0 ?_
              (try simp only [List.getElem_toArray, List.getElem_cons_succ, List.getElem_cons_zero])
              (try simp only [Act.put, List.setIfInBounds_toArray, List.set_cons_zero, List.set_cons_succ])
              refine wpHold_take (i := 39) (v := undef) rfl (by kernel_rfl) (by kernel_rfl) (by kernel_rfl) (fun _ _ _ h => h) (Or.inr ⟨by rfl, rfl⟩) hC0 ?_
              (try simp only [List.getElem_toArray, List.getElem_cons_succ, List.getElem_cons_zero])
              (try simp only [Act.put, List.setIfInBounds_toArray, List.set_cons_zero, List.set_cons_succ])
              refine wpHold_take (i := 40) (v := undef) rfl (by kernel_rfl) (by kernel_rfl) (by kernel_rfl) (fun _ _ _ h => h) (Or.inr ⟨by rfl, rfl⟩) hC0 ?_
              (try simp only [List.getElem_toArray, List.getElem_cons_succ, List.getElem_cons_zero])
              (try simp only [Act.put, List.setIfInBounds_toArray, List.set_cons_zero, List.set_cons_succ])
              refine wpHold_take (i := 41) (v := undef) rfl (by kernel_rfl) (by kernel_rfl) (by kernel_rfl) (fun _ _ _ h => h) (Or.inr ⟨by rfl, rfl⟩) hC0 ?_
              (try simp only [List.getElem_toArray, List.getElem_cons_succ, List.getElem_cons_zero])
              (try simp only [Act.put, List.setIfInBounds_toArray, List.set_cons_zero, List.set_cons_succ])
              refine wpHold_take (i := 42) (v := undef) rfl (by kernel_rfl) (by kernel_rfl) (by kernel_rfl) (fun _ _ _ h => h) (Or.inr ⟨by rfl, rfl⟩) hC0 ?_
              (try simp only [List.getElem_toArray, List.getElem_cons_succ, List.getElem_cons_zero])
              (try simp only [Act.put, List.setIfInBounds_toArray, List.set_cons_zero, List.set_cons_succ])
              refine wpHold_take (i := 43) (v := undef) rfl (by kernel_rfl) (by kernel_rfl) (by kernel_rfl) (fun _ _ _ h => h) (Or.inr ⟨by rfl, rfl⟩) hC0 ?_
              (try simp only [List.getElem_toArray, List.getElem_cons_succ, List.getElem_cons_zero])
              (try simp only [Act.put, List.setIfInBounds_toArray, List.set_cons_zero, List.set_cons_succ])
              refine wpHold_take (i := 44) (v := undef) rfl (by kernel_rfl) (by kernel_rfl) (by kernel_rfl) (fun _ _ _ h => h) (Or.inr ⟨by rfl, rfl⟩) hC0 ?_
              (try simp only [List.getElem_toArray, List.getElem_cons_succ, List.getElem_cons_zero])
              (try simp only [Act.put, List.setIfInBounds_toArray, List.set_cons_zero, List.set_cons_succ])
              refine wpHold_take (i := 45) (v := ?_) rfl (by kernel_rfl) (by kernel_rfl) (by kernel_rfl) (fun _ _ _ h => h) (Or.inl ⟨by rfl, ?_⟩) hC0 ?_
              rotate_left
              · intro w hSw; clear hSw; go_simp; (try with_reducible rfl)
              (try simp only [List.getElem_toArray, List.getElem_cons_succ, List.getElem_cons_zero])
              (try simp only [Act.put, List.setIfInBounds_toArray, List.set_cons_zero, List.set_cons_succ])
              refine wpHold_take (i := 46) (v := ?_) rfl (by kernel_rfl) (by kernel_rfl) (by kernel_rfl) (fun _ _ _ h => h) (Or.inl ⟨by rfl, ?_⟩) hC0 ?_
              rotate_left
              · intro w hSw; clear hSw; go_simp; (try with_reducible rfl)
              (try simp only [List.getElem_toArray, List.getElem_cons_succ, List.getElem_cons_zero])
              (try simp only [Act.put, List.setIfInBounds_toArray, List.set_cons_zero, List.set_cons_succ])
              refine wpHold_take (i := 47) (v := ?_) rfl (by kernel_rfl) (by kernel_rfl) (by kernel_rfl) (fun _ _ _ h => h) (Or.inl ⟨by rfl, ?_⟩) hC0 ?_
              rotate_left
              · intro w hSw; clear hSw; go_simp; (try with_reducible rfl)
              (try simp only [List.getElem_toArray, List.getElem_cons_succ, List.getElem_cons_zero])
              (try simp only [Act.put, List.setIfInBounds_toArray, List.set_cons_zero, List.set_cons_succ])
              refine wpHold_take (i := 48) (v := ?_) rfl (by kernel_rfl) (by kernel_rfl) (by kernel_rfl) (fun _ _ _ h => h) (Or.inl ⟨by rfl, ?_⟩) hC0 ?_
              rotate_left
              · intro w hSw; clear hSw; go_simp; (try with_reducible rfl)
              (try simp only [List.getElem_toArray, List.getElem_cons_succ, List.getElem_cons_zero])
              (try simp only [Act.put, List.setIfInBounds_toArray, List.set_cons_zero, List.set_cons_succ])
              refine wpHold_take (i := 49) (v := ?_) rfl (by kernel_rfl) (by kernel_rfl) (by kernel_rfl) (fun _ _ _ h => h) (Or.inl ⟨by rfl, ?_⟩) hC0 ?_
              rotate_left
              · intro w hSw; clear hSw; go_simp; (try with_reducible rfl)
              (try simp only [List.getElem_toArray, List.getElem_cons_succ, List.getElem_cons_zero])
              (try simp only [Act.put, List.setIfInBounds_toArray, List.set_cons_zero, List.set_cons_succ])
              refine wpHold_take (i := 50) (v := ?_) rfl (by kernel_rfl) (by kernel_rfl) (by kernel_rfl) (fun _ _ _ h => h) (Or.inl ⟨by rfl, ?_⟩) hC0 ?_
              rotate_left
              · intro w hSw; clear hSw; go_simp; (try with_reducible rfl)
              (try simp only [List.getElem_toArray, List.getElem_cons_succ, List.getElem_cons_zero])
              (try simp only [Act.put, List.setIfInBounds_toArray, List.set_cons_zero, List.set_cons_succ])
              refine wpHold_take (i := 51) (v := ?_) rfl (by kernel_rfl) (by kernel_rfl) (by kernel_rfl) (fun _ _ _ h => h) (Or.inl ⟨by rfl, ?_⟩) hC0 ?_
              rotate_left
              · intro w hSw; clear hSw; go_simp; (try with_reducible rfl)
              (try simp only [List.getElem_toArray, List.getElem_cons_succ, List.getElem_cons_zero])
              (try simp only [Act.put, List.setIfInBounds_toArray, List.set_cons_zero, List.set_cons_succ])
              refine wpHold_take (i := 52) (v := ?_) rfl (by kernel_rfl) (by kernel_rfl) (by kernel_rfl) (fun _ _ _ h => h) (Or.inl ⟨by rfl, ?_⟩) hC0 ?_
              rotate_left
              · intro w hSw; (try dsimp only at hSw); obtain ⟨h0, h1, h2, h3⟩ := hSw; go_simp; (try with_reducible rfl)
              (try simp only [List.getElem_toArray, List.getElem_cons_succ, List.getElem_cons_zero])
              (try simp only [Act.put, List.setIfInBounds_toArray, List.set_cons_zero, List.set_cons_succ])
              refine wpHold_take (i := 53) (v := ?_) rfl (by kernel_rfl) (by kernel_rfl) (by kernel_rfl) (fun _ _ _ h => h) (Or.inl ⟨by rfl, ?_⟩) hC0 ?_
              rotate_left
              · intro w hSw; clear hSw; go_simp; (try with_reducible rfl)
              (try simp only [List.getElem_toArray, List.getElem_cons_succ, List.getElem_cons_zero])
              (try simp only [Act.put, List.setIfInBounds_toArray, List.set_cons_zero, List.set_cons_succ])
              refine wpHold_take (i := 54) (v := ?_) rfl (by kernel_rfl) (by kernel_rfl) (by kernel_rfl) (fun _ _ _ h => h) (Or.inl ⟨by rfl, ?_⟩) hC0 ?_
              rotate_left
              · intro w hSw; clear hSw; go_simp; (try with_reducible rfl)
              (try simp only [List.getElem_toArray, List.getElem_cons_succ, List.getElem_cons_zero])
              (try simp only [Act.put, List.setIfInBounds_toArray, List.set_cons_zero, List.set_cons_succ])
              refine wpHold_take (i := 55) (v := ?_) rfl (by kernel_rfl) (by kernel_rfl) (by kernel_rfl) (fun _ _ _ h => h) (Or.inl ⟨by rfl, ?_⟩) hC0 ?_
              rotate_left
              · intro w hSw; clear hSw; go_simp; (try with_reducible rfl)
              (try simp only [List.getElem_toArray, List.getElem_cons_succ, List.getElem_cons_zero])
              (try simp only [Act.put, List.setIfInBounds_toArray, List.set_cons_zero, List.set_cons_succ])
              refine wpHold_take (i := 56) (v := ?_) rfl (by kernel_rfl) (by kernel_rfl) (by kernel_rfl) (fun _ _ _ h => h) (Or.inl ⟨by rfl, ?_⟩) hC0 ?_
              rotate_left
              · intro w hSw; clear hSw; go_simp; (try with_reducible rfl)
              (try simp only [List.getElem_toArray, List.getElem_cons_succ, List.getElem_cons_zero])
              (try simp only [Act.put, List.setIfInBounds_toArray, List.set_cons_zero, List.set_cons_succ])
              refine wpHold_take (i := 57) (v := ?_) rfl (by kernel_rfl) (by kernel_rfl) (by kernel_rfl) (fun _ _ _ h => h) (Or.inl ⟨by rfl, ?_⟩) hC0 ?_
              rotate_left
              · intro w hSw; clear hSw; go_simp; (try with_reducible rfl)
              (try simp only [List.getElem_toArray, List.getElem_cons_succ, List.getElem_cons_zero])
              (try simp only [Act.put, List.setIfInBounds_toArray, List.set_cons_zero, List.set_cons_succ])
              refine wpHold_take (i := 58) (v := ?_) rfl (by kernel_rfl) (by kernel_rfl) (by kernel_rfl) (fun _ _ _ h => h) (Or.inl ⟨by rfl, ?_⟩) hC0 ?_
              rotate_left
              · intro w hSw; (try dsimp only at hSw); obtain ⟨h0, h1, h2, h3⟩ := hSw; go_simp; (try with_reducible rfl)
              (try simp only [List.getElem_toArray, List.getElem_cons_succ, List.getElem_cons_zero])
              (try simp only [Act.put, List.setIfInBounds_toArray, List.set_cons_zero, List.set_cons_succ])
              refine wpHold_take (i := 59) (v := ?_) rfl (by kernel_rfl) (by kernel_rfl) (by kernel_rfl) (fun _ _ _ h => h) (Or.inl ⟨by rfl, ?_⟩) hC0 ?_
              rotate_left
              · intro w hSw; clear hSw; go_simp; (try with_reducible rfl)
              (try simp only [List.getElem_toArray, List.getElem_cons_succ, List.getElem_cons_zero])
              (try simp only [Act.put, List.setIfInBounds_toArray, List.set_cons_zero, List.set_cons_succ])
              refine wpHold_take (i := 60) (v := ?_) rfl (by kernel_rfl) (by kernel_rfl) (by kernel_rfl) (fun _ _ _ h => h) (Or.inl ⟨by rfl, ?_⟩) hC0 ?_
              rotate_left
              · intro w hSw; clear hSw; go_simp; (try with_reducible rfl)
              (try simp only [List.getElem_toArray, List.getElem_cons_succ, List.getElem_cons_zero])
              (try simp only [Act.put, List.setIfInBounds_toArray, List.set_cons_zero, List.set_cons_succ])
              refine wpHold_take (i := 61) (v := ?_) rfl (by kernel_rfl) (by kernel_rfl) (by kernel_rfl) (fun _ _ _ h => h) (Or.inl ⟨by rfl, ?_⟩) hC0 ?_
              rotate_left
              · intro w hSw; (try dsimp only at hSw); obtain ⟨h0, h1, h2, h3⟩ := hSw; go_simp; (try with_reducible rfl)
              (try simp only [List.getElem_toArray, List.getElem_cons_succ, List.getElem_cons_zero])
              (try simp only [Act.put, List.setIfInBounds_toArray, List.set_cons_zero, List.set_cons_succ])
              refine wpHold_take (i := 62) (v := ?_) rfl (by kernel_rfl) (by kernel_rfl) (by kernel_rfl) (fun _ _ _ h => h) (Or.inl ⟨by rfl, ?_⟩) hC0 ?_
              rotate_left
              · intro w hSw; clear hSw; go_simp; (try with_reducible rfl)
              (try simp only [List.getElem_toArray, List.getElem_cons_succ, List.getElem_cons_zero])
              (try simp only [Act.put, List.setIfInBounds_toArray, List.set_cons_zero, List.set_cons_succ])
              refine wpHold_take (i := 63) (v := ?_) rfl (by kernel_rfl) (by kernel_rfl) (by kernel_rfl) (fun _ _ _ h => h) (Or.inl ⟨by rfl, ?_⟩) hC0 ?_
              rotate_left
              · intro w hSw; clear hSw; go_simp; (try with_reducible rfl)
              (try simp only [List.getElem_toArray, List.getElem_cons_succ, List.getElem_cons_zero])
              (try simp only [Act.put, List.setIfInBounds_toArray, List.set_cons_zero, List.set_cons_succ])
              refine wpHold_done (by kernel_rfl) ?_ _
              obtain ⟨wy, hwy⟩ : ∃ W, wr.drew = W := ⟨_, rfl⟩
              rw [hwy]
              have bwy : Below wr.heap.size wr wy := by rw [← hwy]; exact drew_below _
              have ⟨y0, y1, y2, y3⟩ := unhide HCC wy bwy
              have HWY := hide hwy
              clear hwy bwy hC0 bd0 q0 q1 q2 l0
              skip
              go_wp2_with fail
              go_quiet (fail)
              go_wp2
              exact ⟨⟨i + 1, q + (1 + nq), by rw [← unhide HII]; go_num, by rw [unhide FIN], unhide hltH, by rw [← unhide HWY, unhide HW]; first | rfl | simp [Nat.add_assoc]⟩, by have := unhide hltH; have := unhide HII; simp [intOf]; omega⟩
            · obtain ⟨k, hki⟩ : ∃ k : Nat, k + 1 = i := ⟨i - 1, by omega⟩
              have hltH := hide hlt
              obtain ⟨b, o, rfl, hbl, hc3⟩ := ((unhide HTP).below (below_step (unhide HBw) bw)).2.2 (by omega)
              have ⟨q0, q1, q2⟩ := hc3 i (by omega)
              have ⟨_, _, r2⟩ := hc3 k (by omega)
              have hnx := (unhide HPO).next k (by omega)
              rw [hki] at hnx
              obtain ⟨j, hj1, hj2, hj3⟩ := (unhide HPO).job i (by omega)
              have hpb := (unhide HPO).pos i (by omega)
              obtain ⟨bl, ol, el, hbll, hcl⟩ := ((unhide HA).below (below_step (unhide HB3) (below_step (unhide HBw) bw))).2.2 (by omega)
              have ⟨l0, _, _⟩ := hcl j hj2
              have hls1 := unhide HLS i (by omega)
              have FIN : Hid (isum (fun i => (gp i).2.2 - (gp i).2.1) (i + 1) = isum (fun i => (gp i).2.2 - (gp i).2.1) i + ((gp i).2.2 - (gp i).2.1)) := rfl
              obtain ⟨N, hN⟩ : ∃ N, isum (fun i => (gp i).2.2 - (gp i).2.1) i = N := ⟨_, rfl⟩
              obtain ⟨y, hy⟩ : ∃ z, (gp i).2.1 = z := ⟨_, rfl⟩
              obtain ⟨z, hz⟩ : ∃ z, (gp i).2.2 = z := ⟨_, rfl⟩
              obtain ⟨la, hla⟩ : ∃ z, (f j).1 = z := ⟨_, rfl⟩
              rw [hN] at hls1 FIN ⊢
              rw [hj1] at q0
              rw [hy] at q1 hpb hj3 FIN hnx
              rw [hz] at q2 hpb FIN
              rw [hla] at l0 hj3
              have w1 : IntKind.i64.wrap (z - y) = z - y := by rw [IntKind.wrap_i64]; omega
              have w2 : IntKind.i64.wrap (N + (z - y)) = N + (z - y) := by rw [IntKind.wrap_i64]; omega
              have e1 : (j : Int) < (n : Int) := by omega
              have e2 : (0 : Int) ≤ (j : Int) := by omega
              have d1 : decide ((j : Int) < 0) = false := decide_eq_false (by omega)
              have d2 : decide ((n : Int) ≤ (j : Int)) = false := decide_eq_false (by omega)
              have d3 : decide (z ≤ y) = false := decide_eq_false (by omega)
              have d4 : decide (y < la) = false := decide_eq_false (by omega)
              obtain ⟨pz, hpz⟩ : ∃ z, (gp k).2.2 = z := ⟨_, rfl⟩
              rw [hpz] at r2 hnx
              have d5 : decide (y < pz) = false := decide_eq_false (by omega)
              have w3 : IntKind.i64.wrap ((i : Int) - 1) = (k : Int) := by rw [IntKind.wrap_i64]; omega
              have w4 : IntKind.i64.wrap (k : Int) = (k : Int) := by rw [IntKind.wrap_i64]; omega
              have d6 : decide ((0 : Int) < (i : Int)) = true := decide_eq_true (by omega)
              have d7 : decide (0 < i) = true := decide_eq_true (by omega)
              have e7 : (k : Int) < (m : Int) := by omega
              clear hpz hnx
              subst el
              clear hc3 hcl hN hy hz hla hj1 hls1 hpb hj3 bw hwr hpos hki hlt
              go_wp2_with fail
              go_quiet (fail)
              obtain ⟨nq1, rfl⟩ : ∃ k, k = nq := ⟨_, rfl⟩
              go_wp2_with fail
              go_quiet (fail)
              go_wp2
              exact ⟨⟨i + 1, q + nq1 + nq, by go_num, by rw [unhide FIN], unhide hltH, by rw [unhide HW]; simp [Nat.add_assoc]⟩, by have := unhide hltH; simp [intOf]; omega⟩
          · obtain rfl : i = m := by omega
            have e0 : ¬ (i : Int) < (i : Int) := by omega
            have FB2 := hide (below_step (unhide HBw) bw)
            have hTot := unhide HLN
            obtain ⟨N, hN⟩ : ∃ N, isum (fun i => (gp i).2.2 - (gp i).2.1) i = N := ⟨_, rfl⟩
            rw [hN] at hTot ⊢
            have HT := hide hTot
            clear hN hTot hwr bw
            obtain ⟨wz, hwz⟩ : ∃ W, W = wr := ⟨_, rfl⟩
            rw [← hwz] at FB2 HW ⊢
            clear hwz
            have hNb : 0 ≤ N ∧ N ≤ 60000000000 := by
              have h1 := sizes_fit (unhide HG) 1
              have h2 := isum_sizes (unhide HG) 1 n (Nat.le_refl _)
              rw [← unhide HT] at h2
              omega
            go_wp2_with fail
            go_loopw [15, 17] (fun vn vi wr => ∃ j q : Nat, vi = .int .i64 (j : Int) ∧ vn = .int .i64 (N - isum (fun i => (f i).2.1) j) ∧ j ≤ n ∧ wr = wz.drewN q) (fun _ vi _ => n - (intOf vi).toNat)
            case atStart => exact ⟨0, 0, rfl, by show _ = Value.int .i64 (N - 0); rw [Int.sub_zero], Nat.zero_le _, rfl⟩
            case round =>
              obtain ⟨j, q2, rfl, rfl, hj, hwr⟩ := hrel
              have HW2 := hide hwr
              have bw : Below wz.heap.size wz wr := by rw [hwr]; exact below_drewN _ _
              by_cases hlt2 : j < n
              · obtain ⟨bl, ol, rfl, hbll, hcl⟩ := ((unhide HA).below (below_step (unhide HB3) (below_step (unhide FB2) bw))).2.2 (by omega)
                have ⟨_, l1, _⟩ := hcl j hlt2
                have hsz := (unhide HG).size j hlt2
                have hsb : 0 ≤ isum (fun i => (f i).2.1) j ∧ isum (fun i => (f i).2.1) j ≤ 60000000000 := by
                  have h1 := isum_sizes (unhide HG) 1 j (by omega)
                  have h2 := sizes_fit (unhide HG) 1
                  have h3 : nsum (qOf n f 1).S j ≤ nsum (qOf n f 1).S n := by
                    have : ∀ d, nsum (qOf n f 1).S j ≤ nsum (qOf n f 1).S (j + d) := fun d => by
                      induction d with
                      | zero => exact Nat.le_refl _
                      | succ d ih => show _ ≤ nsum (qOf n f 1).S (j + d) + _; omega
                    have h4 := this (n - j)
                    rwa [show j + (n - j) = n by omega] at h4
                  omega
                have FIN : Hid (isum (fun i => (f i).2.1) (j + 1) = isum (fun i => (f i).2.1) j + (f j).2.1) := rfl
                obtain ⟨u, hu⟩ : ∃ u, isum (fun i => (f i).2.1) j = u := ⟨_, rfl⟩
                obtain ⟨y, hy⟩ : ∃ u, (f j).2.1 = u := ⟨_, rfl⟩
                rw [hu] at FIN hsb ⊢
                rw [hy] at FIN l1 hsz
                obtain ⟨M, hM⟩ : ∃ M, N - u = M := ⟨_, rfl⟩
                rw [hM]
                have w1 : IntKind.i64.wrap (M - y) = M - y := by rw [IntKind.wrap_i64]; omega
                have e1 : (j : Int) < (n : Int) := by omega
                have HM := hide hM
                have hltH := hide hlt2
                clear hcl hu hy hsz hsb hwr bw hM hNb
                go_wp2_with fail
                first | go_quiet (fail) | skip
                go_wp2
                first
                  | exact ⟨⟨j + 1, q2 + nq, by go_num, by rw [unhide FIN, ← unhide HM]; congr 1; omega, unhide hltH, by rw [unhide HW2]; simp⟩, by have := unhide hltH; simp [intOf]; omega⟩
                  | exact ⟨⟨j + 1, q2, by go_num, by rw [unhide FIN, ← unhide HM]; congr 1; omega, unhide hltH, unhide HW2⟩, by have := unhide hltH; simp [intOf]; omega⟩
              · obtain rfl : j = n := by omega
                have e1 : ¬ (j : Int) < (j : Int) := by omega
                have hz : N - isum (fun i => (f i).2.1) j = 0 := by have := unhide HT; omega
                rw [hz]
                have FB3 : Hid (Below w.heap.size w wr) := below_step (unhide HB3) (below_step (unhide FB2) bw)
                clear hwr bw hz hNb
                go_wp2
                go_ret
                exact ⟨rfl, unhide FB3⟩
  · have HR1 := hide (run_bad a n c f (1 + (k1 : Int)) w (unhide HA) hj)
    have HJ := hide hj
    clear hj
    go_wp2_with fail
    refine (unhide HR1).mono ?_
    rintro e w1 ⟨rfl, hb⟩
    have HB := hide hb
    have HR2 := hide (run_bad a n c f (1 + (k2 : Int)) w1 ((unhide HA).below hb) (unhide HJ))
    clear hb HR1
    go_wp2_with fail
    refine (unhide HR2).mono ?_
    rintro e w2 ⟨rfl, hb2⟩
    have HB2 := hide (below_step (unhide HB) hb2)
    have HSe := hide (served_any w2)
    clear hb2 HR2 HB
    go_wp2_with fail
    refine (unhide HSe).mono ?_
    rintro e w3 ⟨rfl, hb3⟩
    have HB3 := hide (below_step (unhide HB2) hb3)
    have HSe := hide (served_any w3)
    clear hb3 HB2
    go_wp2_with fail
    refine (unhide HSe).mono ?_
    rintro e w4 ⟨rfl, hb4⟩
    have HB4 := hide (below_step (unhide HB3) hb4)
    clear hb4 HB3
    go_wp2
    go_ret
    exact ⟨rfl, unhide HB4⟩
end Go.Proofs.Ytfebbjbobogkcaa
