/- Nets: Traffic and Open. -/
import Derived.Test.YtdaejkngmckmdaaGreatDoorN7
namespace Go.Proofs.YtdaejkngmckmdaaGreatDoor
open Go.RowKit Go.Sort Go.Shelf

/-- What Traffic says. -/
def TrafficPost (w : World) (ks : List (List Rat)) (qs : List Rat) (e : Ending) (w' : World) : Prop :=
  (GoodR ks ((0 : Int) : Rat) ∧ qs.length = ks.length ∧ NonNeg qs ∧ ∃ (v : Value) (x : Nat → Rat), e = .returned (.tuple #[v, .nilIface]) ∧ LawIs w' v (row x ks.length) ∧ Lin.Solved ks.length (Net.eqs ks.length (lf ks) (bf qs)) x ∧ (∀ i, RS (x i) XB) ∧ Below w.heap.size w w') ∨
  (∃ k : Int, e = .returned (.tuple #[.slice none 0 0, .iface 62 (.int .i64 k)]) ∧ Below w.heap.size w w')
/-- Numbers as great as pairs make them, and not too many. -/
def SmR (ks : List (List Rat)) : Prop := ks.length ≤ 1000 ∧ (∀ i, i < ks.length → (ks[i]!).length ≤ 1000) ∧ ∀ i j, i < ks.length → j < (ks[i]!).length → RS (ks[i]!)[j]! 1
def SmQ (qs : List Rat) : Prop := qs.length ≤ 1000 ∧ ∀ j, j < qs.length → RS qs[j]! 1

set_option maxHeartbeats 8000000 in
set_option maxRecDepth 100000 in
set_option linter.unusedSimpArgs false in
theorem traffic_any (vi vl : Value) (ks : List (List Rat)) (qs : List Rat) (w : World) (h : RowsAre w vl ks) (hq : LawIs w vi qs) (sm : SmR ks) (sq : SmQ qs) :
    Calls Tryz.prog 23 #[vi, vl] w (TrafficPost w ks qs) := by
  have HV := hide h
  have HQ := hide hq
  have HSM := hide sm
  have HSQ := hide sq
  obtain ⟨a, c, rfl, h1, h2, h3⟩ := h
  obtain ⟨aq, cq, rfl, q1, q2, q3⟩ := hq
  clear h3 q3 sm sq
  go_enter Tryz.func23, Tryz.ntmps23
  go_wp2_with fail
  refine (whole_any 0 (by decide) (by decide) w).mono ?_
  rintro e w1 ⟨v1, rfl, hv1, hb1⟩
  have HV1 := hide hv1
  have HB1 := hide hb1
  clear hv1 hb1
  go_wp2_with fail
  refine (checkRoutes_any _ _ ks _ w1 ((unhide HV).below (unhide HB1)) (unhide HV1) (RS.zero) (unhide HSM).1 (unhide HSM).2.2 (unhide HSM).2.1).mono ?_
  rintro e w2 ⟨(⟨hg, rfl⟩ | ⟨hg, k, rfl⟩), hb2⟩
  rotate_left
  · clear hg
    have HBX := hide (below_step (unhide HB1) hb2)
    clear hb2 HB1
    go_wp2
    go_ret2
    exact Or.inr ⟨_, rfl, unhide HBX⟩
  have HG := hide hg
  have HB2 := hide (below_step (unhide HB1) hb2)
  clear hg hb2 HB1 HV1
  by_cases hl : qs.length = ks.length
  rotate_left
  · have e1 : ((qs.length : Int) == (ks.length : Int)) = false := by rw [beq_eq_false_iff_ne]; omega
    have HBX := hide (unhide HB2)
    clear hl HB2
    go_wp2
    go_ret2
    exact Or.inr ⟨_, rfl, unhide HBX⟩
  have HL := hide hl
  have e1 : ((qs.length : Int) == (ks.length : Int)) = true := by rw [beq_iff_eq]; omega
  clear hl
  go_wp2_with fail
  refine (anyBelow_any _ qs w2 ((unhide HQ).below (unhide HB2))).mono ?_
  rintro e w3 ⟨(⟨hx, rfl⟩ | ⟨hx, rfl⟩), hb3⟩
  · clear hx
    have HBX := hide (below_step (unhide HB2) hb3)
    clear hb3 HB2
    go_wp2
    go_ret2
    exact Or.inr ⟨_, rfl, unhide HBX⟩
  have HNN := hide (Classical.not_not.1 hx)
  have HB3 := hide (below_step (unhide HB2) hb3)
  clear hx hb3 HB2
  go_wp2_with fail
  refine (visits_any _ _ ks qs w3 ks.length ((unhide HV).below (unhide HB3)) ((unhide HQ).below (unhide HB3)) rfl (fun j hj => ((unhide HG).2.2 j hj).1) (unhide HL) (unhide HG).2.1 (fun i k hi hk => (unhide HSM).2.2 i k hi (by rw [((unhide HG).2.2 i hi).1]; exact hk)) (fun k hk => (unhide HSQ).2 k (by rw [unhide HL]; exact hk))).mono ?_
  rintro e w4 (⟨v, x, rfl, hv, hx, hr, hb⟩ | ⟨hy, rfl, hb⟩)
  rotate_left
  · clear hy
    have HBX := hide (below_step (unhide HB3) hb)
    clear hb HB3
    go_wp2
    go_ret2
    exact Or.inr ⟨_, rfl, unhide HBX⟩
  have HVV := hide hv
  obtain ⟨av, cv, rfl, _, _, _⟩ := hv
  have HX := hide hx
  have HR := hide hr
  have HB4 := hide (below_step (unhide HB3) hb)
  clear hx hr hb HB3
  go_wp2
  go_ret2
  exact Or.inl ⟨unhide HG, unhide HL, unhide HNN, _, x, rfl, unhide HVV, unhide HX, unhide HR, unhide HB4⟩

/-- Loads. -/
def ldf (x : Nat → Rat) (ss : List Rat) (i : Nat) : Rat := x i / ss[i]!
/-- What Open says. -/
def OpenPost (w : World) (ks : List (List Rat)) (qs ss : List Rat) (e : Ending) (w' : World) : Prop :=
  (GoodR ks ((0 : Int) : Rat) ∧ qs.length = ks.length ∧ NonNeg qs ∧ GoodS ss ks.length ∧ ∃ (v : Value) (x : Nat → Rat), e = .returned (.tuple #[v, .nilIface]) ∧ LawIs w' v (row (ldf x ss) ks.length) ∧ Lin.Solved ks.length (Net.eqs ks.length (lf ks) (bf qs)) x ∧ (∀ i, RS (x i) XB) ∧ (∀ i, i < ks.length → ldf x ss i < ((1 : Int) : Rat)) ∧ Below w.heap.size w w') ∨
  (∃ k : Int, e = .returned (.tuple #[.slice none 0 0, .iface 62 (.int .i64 k)]) ∧ Below w.heap.size w w')

set_option maxHeartbeats 8000000 in
set_option maxRecDepth 100000 in
set_option linter.unusedSimpArgs false in
theorem open_any (vi vl vs : Value) (ks : List (List Rat)) (qs ss : List Rat) (w : World) (h : RowsAre w vl ks) (hq : LawIs w vi qs) (hs : LawIs w vs ss) (sm : SmR ks) (sq : SmQ qs) (sp : SmQ ss) :
    Calls Tryz.prog 8 #[vi, vl, vs] w (OpenPost w ks qs ss) := by
  have KKe : KK = 1099511627776 := rfl
  have HTR := hide (traffic_any vi vl ks qs w h hq sm sq)
  have HS := hide hs
  have HSP := hide sp
  have hkl := sm.1
  obtain ⟨a, c, rfl, h1, h2, h3⟩ := h
  obtain ⟨aq, cq, rfl, q1, q2, q3⟩ := hq
  obtain ⟨a2, c2, rfl, s1, s2, s3⟩ := hs
  clear h3 q3 s3 sm sq sp
  go_enter Tryz.func8, Tryz.ntmps8
  go_wp2_with fail
  refine (unhide HTR).mono ?_
  rintro e w1 (⟨hg, hl, hn, v1, x, rfl, hv1, hx, hr, hb1⟩ | ⟨k, rfl, hb1⟩)
  rotate_left
  · skip
    have HBX := hide (hb1)
    clear hb1
    go_wp2
    go_ret2
    exact Or.inr ⟨_, rfl, unhide HBX⟩
  have HG := hide hg
  have HL := hide hl
  have HNN := hide hn
  have HX := hide hx
  have HR := hide hr
  have HV1 := hide hv1
  obtain ⟨av, cv, rfl, v1, v2, v3⟩ := hv1
  rw [row_length] at v1
  have HB1 := hide hb1
  clear hg hl hn hx hr hb1 v3 HTR
  go_wp2_with fail
  refine (checkSpeeds_any _ ss ks.length w1 ((unhide HS).below (unhide HB1)) hkl).mono ?_
  rintro e w2 ⟨(⟨hgs, rfl⟩ | ⟨hgs, k, rfl⟩), hb2⟩
  rotate_left
  · clear hgs
    have HBX := hide (below_step (unhide HB1) hb2)
    clear hb2 HB1
    go_wp2
    go_ret2
    exact Or.inr ⟨_, rfl, unhide HBX⟩
  have HGS := hide hgs
  have HV2 := hide ((unhide HV1).below hb2)
  have HB2 := hide (below_step (unhide HB1) hb2)
  clear hgs hb2 HB1 HV1
  go_wp2_with fail
  refine (quotients_any _ _ (row x ks.length) ss ks.length XB w2 (unhide HV2) ((unhide HS).below (unhide HB2)) (row_length _ _) (unhide HGS).1 hkl (unhide HGS).2 (fun i hi => ⟨by rw [row_get hi]; exact unhide HR i, ((unhide HSP).2 i (by rw [(unhide HGS).1]; exact hi)).mono (by decide)⟩) (by rw [KKe]; decide)).mono ?_
  rintro e w3 ⟨v3, rfl, hv3, hb3⟩
  have er : row (qu (row x ks.length) ss) ks.length = row (ldf x ss) ks.length := row_congr (fun i hi => by unfold qu ldf; rw [row_get hi])
  rw [er] at hv3
  have HV3 := hide hv3
  obtain ⟨a3, c3, rfl, h31, h32, h33⟩ := hv3
  rw [row_length] at h31 h33 ⊢
  have H33 := hide h33
  have HB3 := hide (below_step (unhide HB2) hb3)
  have HLR : Hid (∀ i, i < ks.length → RS (ldf x ss i) (XB + 1)) := fun i hi => by
    have p := (unhide HGS).2 i (by rw [(unhide HGS).1]; exact hi)
    exact (unhide HR i).div' ((unhide HSP).2 i (by rw [(unhide HGS).1]; exact hi)) (fun x => by rw [Rat.num_eq_zero.1 x] at p; exact absurd p (by decide))
  have XBe : XB = 4000000 := rfl
  clear er h33 hb3 HB2 HV2
  obtain ⟨n, hn⟩ : ∃ n, ks.length = n := ⟨_, rfl⟩
  have HKN := hide hn
  rw [hn] at h31 H33 HLR HV3 hkl ⊢
  clear hn
  go_wp2_with fail
  go_loopw [35] (fun vi wr => ∃ i : Nat, vi = .int .i64 (i : Int) ∧ i ≤ n ∧ Below w3.heap.size w3 wr ∧ ∀ j, j < i → ldf x ss j < ((1 : Int) : Rat)) (fun vi _ => n - (intOf vi).toNat)
  case atStart => exact ⟨0, rfl, Nat.zero_le _, Below.refl _ _, fun j hj => absurd hj (Nat.not_lt_zero _)⟩
  case round =>
    obtain ⟨i, rfl, hi, hb, hz⟩ := hrel
    have HB := hide hb
    have HZ := hide hz
    by_cases hlt : i < n
    · have e1 : (i : Int) < (n : Int) := by omega
      have e0 : (0 : Int) ≤ (i : Int) := by omega
      obtain ⟨b, o, rfl, hblt, hcs⟩ := unhide H33 (by omega)
      obtain ⟨xs, xp1, xp2, xn1, xd1, xn2, xd2, xk0, xk1, xk2, xr⟩ := hcs i hlt
      obtain ⟨tx, rfl, rfl, rfl, rfl, rfl, rfl, rfl⟩ : ∃ t : Tri, xs = t.s ∧ xp1 = t.a1 ∧ xp2 = t.a2 ∧ xn1 = t.n1 ∧ xd1 = t.c1 ∧ xn2 = t.n2 ∧ xd2 = t.c2 := ⟨⟨xs, xp1, xp2, xn1, xd1, xn2, xd2⟩, rfl, rfl, rfl, rfl, rfl, rfl, rfl⟩
      rw [← (hb).cell (p := ⟨b, o + i * 3, none⟩) hblt] at xk0
      rw [← (hb).cell (p := ⟨b, o + i * 3 + 1, none⟩) hblt] at xk1
      rw [← (hb).cell (p := ⟨b, o + i * 3 + 2, none⟩) hblt] at xk2
      have Y0 := BoxIs.new (t := tx) (xr.below (hb))
      have HBA := hide (alloc_below wr (.cells #[.bool tx.s, .slice tx.a1 tx.n1 tx.c1, .slice tx.a2 tx.n2 tx.c2] 39))
      obtain ⟨W2, hW2⟩ : ∃ W, wr.alloc (.cells #[.bool tx.s, .slice tx.a1 tx.n1 tx.c1, .slice tx.a2 tx.n2 tx.c2] 39) = W := ⟨_, rfl⟩
      obtain ⟨bx, hbx⟩ : ∃ g, wr.heap.size = g := ⟨_, rfl⟩
      rw [hW2] at Y0 HBA
      rw [hbx] at Y0
      have HY := hide Y0
      have ⟨c0, c1, c2⟩ := Y0.cells _ (Below.refl _ _)
      rw [row_get hlt] at Y0
      have HYY := hide Y0
      have HB2 := hide (below_step hb (unhide HBA))
      have hqr := unhide HLR i hlt
      obtain ⟨q, hq⟩ : ∃ q, ldf x ss i = q := ⟨_, rfl⟩
      rw [hq] at HYY hqr
      have HQE := hide hq
      have HCC : Hid (∀ W, Below W2.heap.size W2 W → (fun w' : World => (w'.cell? ⟨bx, 0, none⟩ = some (.bool tx.s) ∧ w'.cell? ⟨bx, 1, none⟩ = some (.slice tx.a1 tx.n1 tx.c1) ∧ w'.cell? ⟨bx, 2, none⟩ = some (.slice tx.a2 tx.n2 tx.c2))) W) := fun W hW => (unhide HYY).cells W hW
      have HC2 : Hid (∀ W v, Below W2.heap.size W2 W → RatIs W v ((1 : Int) : Rat) → Calls Tryz.prog 26 #[.agg #[.bool tx.s, .slice tx.a1 tx.n1 tx.c1, .slice tx.a2 tx.n2 tx.c2], v] W fun e w' => e = .returned (.int .i64 (cmpv q ((1 : Int) : Rat))) ∧ Below W.heap.size W w') := fun W v hW hv => cmpR_all tx.val v _ _ W ((unhide HYY).2.below hW) hv (XB + 1) hqr (onei_RS.mono (by omega)) (by rw [KKe]; omega)
      clear hb hz Y0 HY hcs xr hq hqr
      go_wp2_with fail
      clear hW2 hbx c0 c1 c2 xk0 xk1 xk2
      by_cases hn : q < ((1 : Int) : Rat)
      · rw [cmpv_lt hn] at HC2
        have HNL := hide hn
        clear hn
        refine wp_region_hold (fun w' : World => (w'.cell? ⟨bx, 0, none⟩ = some (.bool tx.s) ∧ w'.cell? ⟨bx, 1, none⟩ = some (.slice tx.a1 tx.n1 tx.c1) ∧ w'.cell? ⟨bx, 2, none⟩ = some (.slice tx.a2 tx.n2 tx.c2))) (by kernel_rfl) ?_
        have bd0 : Below W2.heap.size W2 W2.drew := (Below.refl _ _).drew
        have hC0 : (fun w' : World => (w'.cell? ⟨bx, 0, none⟩ = some (.bool tx.s) ∧ w'.cell? ⟨bx, 1, none⟩ = some (.slice tx.a1 tx.n1 tx.c1) ∧ w'.cell? ⟨bx, 2, none⟩ = some (.slice tx.a2 tx.n2 tx.c2))) W2.drew := unhide HCC _ bd0
        refine wpHold_take (i := 0) (v := ?_) rfl (by kernel_rfl) (by kernel_rfl) (by kernel_rfl) (fun _ _ _ h => h) (Or.inl ⟨by rfl, ?_⟩) hC0 ?_
        rotate_left
        · intro w hSw; (try dsimp only at hSw); obtain ⟨z0, z1, z2⟩ := hSw; go_simp; (try with_reducible rfl)
        (try simp only [List.getElem_toArray, List.getElem_cons_succ, List.getElem_cons_zero])
        (try simp only [Act.put, List.setIfInBounds_toArray, List.set_cons_zero, List.set_cons_succ])
        refine wpHold_one (k := 1) (by kernel_rfl) rfl (fun K hK => ?_)
        (try simp only [List.getElem_toArray, List.getElem_cons_succ, List.getElem_cons_zero])
        go_simp
        refine (whole_any 1 (by decide) (by decide) _).mono ?_
        rintro e xw_1 ⟨xv_1, rfl, hv_1, hb_1⟩
        have cc_1 := below_step bd0 hb_1
        have hC_1 : (fun w' : World => (w'.cell? ⟨bx, 0, none⟩ = some (.bool tx.s) ∧ w'.cell? ⟨bx, 1, none⟩ = some (.slice tx.a1 tx.n1 tx.c1) ∧ w'.cell? ⟨bx, 2, none⟩ = some (.slice tx.a2 tx.n2 tx.c2))) xw_1 := unhide HCC _ cc_1
        refine hK.out _ _ hC_1 ?_
        clear hK K
        (try simp only [Act.put, List.setIfInBounds_toArray, List.set_cons_zero, List.set_cons_succ])
        refine wpHold_one (k := 2) (by kernel_rfl) rfl (fun K hK => ?_)
        (try simp only [List.getElem_toArray, List.getElem_cons_succ, List.getElem_cons_zero])
        go_simp
        refine (unhide HC2 _ _ cc_1 hv_1).mono ?_
        rintro e xw_2 ⟨rfl, hb_2⟩
        have cc_2 := below_step cc_1 hb_2
        have hC_2 : (fun w' : World => (w'.cell? ⟨bx, 0, none⟩ = some (.bool tx.s) ∧ w'.cell? ⟨bx, 1, none⟩ = some (.slice tx.a1 tx.n1 tx.c1) ∧ w'.cell? ⟨bx, 2, none⟩ = some (.slice tx.a2 tx.n2 tx.c2))) xw_2 := unhide HCC _ cc_2
        refine hK.out _ _ hC_2 ?_
        clear hK K
        (try simp only [Act.put, List.setIfInBounds_toArray, List.set_cons_zero, List.set_cons_succ])
        refine wpHold_take (i := 3) (v := ?_) rfl (by kernel_rfl) (by kernel_rfl) (by kernel_rfl) (fun _ _ _ h => h) (Or.inl ⟨by rfl, ?_⟩) hC_2 ?_
        rotate_left
        · intro w hSw; clear hSw; go_simp; (try with_reducible rfl)
        (try simp only [List.getElem_toArray, List.getElem_cons_succ, List.getElem_cons_zero])
        (try simp only [Act.put, List.setIfInBounds_toArray, List.set_cons_zero, List.set_cons_succ])
        refine wpHold_done (by kernel_rfl) ?_ _
        have HB4 := hide (below_step (unhide HB2) cc_2)
        clear bd0 hC0 cc_1 hC_1 cc_2 hC_2 HCC HC2 hb_1 hb_2 hv_1 HYY
        go_wp2_with fail
        refine ⟨⟨i + 1, by go_num, hlt, unhide HB4, fun j hj => ?_⟩, by simp [intOf]; omega⟩
        by_cases e : j = i
        · rw [e, unhide HQE]; exact unhide HNL
        · exact unhide HZ j (by omega)
      · have ⟨u0, u1⟩ := cmpv_ge (a := q) (b := ((1 : Int) : Rat)) (by grind)
        obtain ⟨y, hy⟩ : ∃ y, cmpv q ((1 : Int) : Rat) = y := ⟨_, rfl⟩
        rw [hy] at u0 u1 HC2
        clear hn hy
        refine wp_region_hold (fun w' : World => (w'.cell? ⟨bx, 0, none⟩ = some (.bool tx.s) ∧ w'.cell? ⟨bx, 1, none⟩ = some (.slice tx.a1 tx.n1 tx.c1) ∧ w'.cell? ⟨bx, 2, none⟩ = some (.slice tx.a2 tx.n2 tx.c2))) (by kernel_rfl) ?_
        have bd0 : Below W2.heap.size W2 W2.drew := (Below.refl _ _).drew
        have hC0 : (fun w' : World => (w'.cell? ⟨bx, 0, none⟩ = some (.bool tx.s) ∧ w'.cell? ⟨bx, 1, none⟩ = some (.slice tx.a1 tx.n1 tx.c1) ∧ w'.cell? ⟨bx, 2, none⟩ = some (.slice tx.a2 tx.n2 tx.c2))) W2.drew := unhide HCC _ bd0
        refine wpHold_take (i := 0) (v := ?_) rfl (by kernel_rfl) (by kernel_rfl) (by kernel_rfl) (fun _ _ _ h => h) (Or.inl ⟨by rfl, ?_⟩) hC0 ?_
        rotate_left
        · intro w hSw; (try dsimp only at hSw); obtain ⟨z0, z1, z2⟩ := hSw; go_simp; (try with_reducible rfl)
        (try simp only [List.getElem_toArray, List.getElem_cons_succ, List.getElem_cons_zero])
        (try simp only [Act.put, List.setIfInBounds_toArray, List.set_cons_zero, List.set_cons_succ])
        refine wpHold_one (k := 1) (by kernel_rfl) rfl (fun K hK => ?_)
        (try simp only [List.getElem_toArray, List.getElem_cons_succ, List.getElem_cons_zero])
        go_simp
        refine (whole_any 1 (by decide) (by decide) _).mono ?_
        rintro e xw_1 ⟨xv_1, rfl, hv_1, hb_1⟩
        have cc_1 := below_step bd0 hb_1
        have hC_1 : (fun w' : World => (w'.cell? ⟨bx, 0, none⟩ = some (.bool tx.s) ∧ w'.cell? ⟨bx, 1, none⟩ = some (.slice tx.a1 tx.n1 tx.c1) ∧ w'.cell? ⟨bx, 2, none⟩ = some (.slice tx.a2 tx.n2 tx.c2))) xw_1 := unhide HCC _ cc_1
        refine hK.out _ _ hC_1 ?_
        clear hK K
        (try simp only [Act.put, List.setIfInBounds_toArray, List.set_cons_zero, List.set_cons_succ])
        refine wpHold_one (k := 2) (by kernel_rfl) rfl (fun K hK => ?_)
        (try simp only [List.getElem_toArray, List.getElem_cons_succ, List.getElem_cons_zero])
        go_simp
        refine (unhide HC2 _ _ cc_1 hv_1).mono ?_
        rintro e xw_2 ⟨rfl, hb_2⟩
        have cc_2 := below_step cc_1 hb_2
        have hC_2 : (fun w' : World => (w'.cell? ⟨bx, 0, none⟩ = some (.bool tx.s) ∧ w'.cell? ⟨bx, 1, none⟩ = some (.slice tx.a1 tx.n1 tx.c1) ∧ w'.cell? ⟨bx, 2, none⟩ = some (.slice tx.a2 tx.n2 tx.c2))) xw_2 := unhide HCC _ cc_2
        refine hK.out _ _ hC_2 ?_
        clear hK K
        (try simp only [Act.put, List.setIfInBounds_toArray, List.set_cons_zero, List.set_cons_succ])
        refine wpHold_take (i := 3) (v := ?_) rfl (by kernel_rfl) (by kernel_rfl) (by kernel_rfl) (fun _ _ _ h => h) (Or.inl ⟨by rfl, ?_⟩) hC_2 ?_
        rotate_left
        · intro w hSw; clear hSw; go_simp; (try with_reducible rfl)
        (try simp only [List.getElem_toArray, List.getElem_cons_succ, List.getElem_cons_zero])
        (try simp only [Act.put, List.setIfInBounds_toArray, List.set_cons_zero, List.set_cons_succ])
        refine wpHold_done (by kernel_rfl) ?_ _
        have HBX := hide (below_step (unhide HB3) (below_step (unhide HB2) cc_2))
        clear bd0 hC0 cc_1 hC_1 cc_2 hC_2 HCC HC2 hb_1 hb_2 hv_1 HYY
        go_wp2
        go_ret2
        exact Or.inr ⟨_, rfl, unhide HBX⟩
    · obtain rfl : i = n := by omega
      have e1 : ¬ (i : Int) < (i : Int) := by omega
      have HV4 := hide ((unhide HV3).below hb)
      have HB4 := hide (below_step (unhide HB3) hb)
      clear hb hz HV3
      go_wp2
      go_ret2
      have hk := unhide HKN
      refine Or.inl ⟨unhide HG, unhide HL, unhide HNN, unhide HGS, _, x, rfl, ?_, unhide HX, unhide HR, fun j hj => unhide HZ j (by omega), unhide HB4⟩
      have hv := unhide HV4
      rw [row_length] at hv
      rw [hk]; exact hv
end Go.Proofs.YtdaejkngmckmdaaGreatDoor
