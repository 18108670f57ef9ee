/- The law's walk: RatioBack. -/
import Derived.Test.YtjeddhknmoldcaaDoorW26
import Derived.BigQuiet
import Derived.Deep.RegionHeld3
namespace Go.Proofs.YtjeddhknmoldcaaDoor
open Go.RowKit Go.Sort Go.Shelf Go.Dd

theorem box_after {w1 w3 w' : World} {x0 x1 x2 y0 y1 y2 : Value} {T : TypeId} (h1 : Below (w1.alloc (.cells #[x0, x1, x2] T)).heap.size (w1.alloc (.cells #[x0, x1, x2] T)) w3)
    (h : Below (w3.alloc (.cells #[y0, y1, y2] T)).heap.size (w3.alloc (.cells #[y0, y1, y2] T)) w') :
    w'.cell? ⟨w1.heap.size, 0, none⟩ = some x0 ∧ w'.cell? ⟨w1.heap.size, 1, none⟩ = some x1 ∧ w'.cell? ⟨w1.heap.size, 2, none⟩ = some x2 ∧
    w'.cell? ⟨w3.heap.size, 0, none⟩ = some y0 ∧ w'.cell? ⟨w3.heap.size, 1, none⟩ = some y1 ∧ w'.cell? ⟨w3.heap.size, 2, none⟩ = some y2 := by
  have a := one_box (below_step (below_step h1 (alloc_below _ _)) h)
  have b := one_box h
  exact ⟨a.1, a.2.1, a.2.2, b.1, b.2.1, b.2.2⟩

theorem lt_pw8 {x : Int} (h : x < 18446744073709551616) : x < Wd.pw 8 := Int.lt_trans h (by decide)

theorem fits_in {z : Int} (h : -9223372036854775808 ≤ z ∧ z ≤ 9223372036854775807) : fits z = (z, true) := if_pos h
theorem fits_out {z : Int} (h : ¬ (-9223372036854775808 ≤ z ∧ z ≤ 9223372036854775807)) : fits z = (0, false) := if_neg h

set_option maxHeartbeats 8000000 in
set_option maxRecDepth 100000 in
theorem ratioBack_any (x y : Int) (hx0 : -9223372036854775808 ≤ x) (hx1 : x ≤ 9223372036854775807) (hy0 : -9223372036854775808 ≤ y) (hy1 : y ≤ 9223372036854775807) (w : World) (htab : Tab w) :
    Calls Tryd.prog 3 #[.agg #[.int .i64 x, .int .i64 y]] w fun e w' => e = .returned (.bool true) ∧ Below w.heap.size w w' := by
  obtain ⟨bn, bd⟩ := qOf_bd x y hx0 hx1 hy0 hy1
  have HF := hide (f_any x y hx0 hx1 hy0 hy1 (w.alloc (.cells #[.int .i64 x, .int .i64 y] 23)))
  have HT := hide (tab_below htab (alloc_below w (.cells #[.int .i64 x, .int .i64 y] 23)))
  have HB0 := hide (alloc_below w (.cells #[.int .i64 x, .int .i64 y] 23))
  clear htab hx0 hx1 hy0 hy1
  obtain ⟨q, hq⟩ : ∃ q, qOf x y = q := ⟨_, rfl⟩
  have hq' : Rat.divInt x (if y = 0 then 1 else y) = q := hq
  rw [hq'] at HF
  rw [hq] at bn bd
  clear hq hq'
  obtain ⟨W0, hW0⟩ : ∃ W, w.alloc (.cells #[.int .i64 x, .int .i64 y] 23) = W := ⟨_, rfl⟩
  rw [hW0] at HF HT HB0
  have HWE0 := hide hW0
  clear hW0
  go_enter Tryd.func3, Tryd.ntmps3
  go_wp2_with fail
  rw [unhide HWE0]
  refine (unhide HF).mono ?_
  rintro e w1 ⟨v, rfl, hv, hb1⟩
  have HA := hide hv
  obtain ⟨ov, un, rfl, hov, hun⟩ := hv
  obtain ⟨a, n, c, rfl, _, _⟩ := hov
  obtain ⟨a2, n2, c2, rfl, _, _⟩ := hun
  obtain ⟨s, hs⟩ : ∃ s, decide (q.num < 0) = s := ⟨_, rfl⟩
  rw [hs] at HA ⊢
  have HT1 := hide (tab_below (unhide HT) hb1)
  have HB1 := hide (below_step (unhide HB0) hb1)
  clear hb1 HT HB0 HF
  obtain ⟨W1, hW1⟩ : ∃ W, w1.alloc (.cells #[.bool s, .slice a n c, .slice a2 n2 c2] 27) = W := ⟨_, rfl⟩
  have hbW1 : Below w1.heap.size w1 W1 := by rw [← hW1]; exact alloc_below _ _
  obtain ⟨t, ht⟩ : ∃ t, (⟨(qtext q).toArray⟩ : ByteArray) = t := ⟨_, rfl⟩
  have HTX := textR_small _ q W1 ((unhide HA).below hbW1) (by omega) (by omega) (tab_below (unhide HT1) hbW1)
  have HPA := fun w2 => parse_text q w2 (by omega) (by omega)
  rw [ht] at HTX HPA
  have HTX' := hide HTX
  have HPA' := hide HPA
  have HWE1 := hide hW1
  have HBW1 := hide hbW1
  clear HTX HPA hW1 hbW1 ht
  go_wp2_with fail
  rw [unhide HWE1]
  refine (unhide HTX').mono ?_
  rintro e w2 ⟨rfl, hb2⟩
  go_wp2_with fail
  refine (unhide HPA' _).mono ?_
  rintro e w3 ⟨vg, rfl, hvg, hb3⟩
  have HG := hide hvg
  obtain ⟨ov', un', rfl, hov', hun'⟩ := hvg
  obtain ⟨b, m, d, rfl, _, _⟩ := hov'
  obtain ⟨b2, m2, d2, rfl, _, _⟩ := hun'
  rw [hs] at HG ⊢
  have hb13 := below_step hb2 hb3
  obtain ⟨W, hW⟩ : ∃ W, w3.alloc (.cells #[.bool s, .slice b m d, .slice b2 m2 d2] 27) = W := ⟨_, rfl⟩
  have hbW : Below w3.heap.size w3 W := by rw [← hW]; exact alloc_below _ _
  have S0 : ∀ w', Below W.heap.size W w' → (w'.cell? ⟨w1.heap.size, 0, none⟩ = some (.bool s) ∧ w'.cell? ⟨w1.heap.size, 1, none⟩ = some (.slice a n c) ∧ w'.cell? ⟨w1.heap.size, 2, none⟩ = some (.slice a2 n2 c2) ∧
    w'.cell? ⟨w3.heap.size, 0, none⟩ = some (.bool s) ∧ w'.cell? ⟨w3.heap.size, 1, none⟩ = some (.slice b m d) ∧ w'.cell? ⟨w3.heap.size, 2, none⟩ = some (.slice b2 m2 d2)) ∧ Below W.heap.size W w' := fun w' h => by
    rw [← hW] at h ⊢
    rw [← unhide HWE1] at hb13
    exact ⟨box_after hb13 h, h⟩
  have hA3 : RatIs W _ q := (((unhide HA).below (unhide HBW1)).below hb13).below hbW
  have hG3 : RatIs W _ q := (unhide HG).below hbW
  have hT3 : Tab W := tab_below (tab_below (tab_below (unhide HT1) (unhide HBW1)) hb13) hbW
  have hB3 : Below w.heap.size w W := below_step (below_step (below_step (unhide HB1) (unhide HBW1)) hb13) hbW
  have CH : ∀ w1, Below W.heap.size W w1 → Calls Tryd.prog 7 #[] w1 fun e w' => e = .returned (.bool true) ∧ Below W.heap.size W w' := fun w1 h1 =>
    (half_any w1 (tab_below hT3 h1)).mono (by rintro e w' ⟨rfl, h⟩; exact ⟨rfl, below_step h1 h⟩)
  have CL : ∀ w1, Below W.heap.size W w1 → Calls Tryd.prog 8 #[.agg #[.bool s, .slice a n c, .slice a2 n2 c2], .agg #[.bool s, .slice b m d, .slice b2 m2 d2]] w1 fun e w' => e = .returned (.bool true) ∧ Below W.heap.size W w' := fun w1 h1 =>
    (like_same _ _ q w1 (hA3.below h1) (hG3.below h1) (by omega) (by omega) (tab_below hT3 h1)).mono (by rintro e w' ⟨rfl, h⟩; exact ⟨rfl, below_step h1 h⟩)
  have CF : ∀ w1, Below W.heap.size W w1 → Calls Tryd.prog 9 #[.agg #[.bool s, .slice a n c, .slice a2 n2 c2]] w1 fun e w' => e = .returned (.tuple #[.int .i64 (fits (q.num / q.den)).1, .bool (fits (q.num / q.den)).2]) ∧ Below W.heap.size W w' := fun w1 h1 =>
    (floor_small _ q w1 (hA3.below h1) (sm_nat (by omega)) (lt_pw8 (by omega)) (by omega)).mono (by rintro e w' ⟨rfl, h⟩; exact ⟨rfl, below_step h1 h⟩)
  have HS0 := hide S0
  have HCH := hide CH
  have HCL := hide CL
  have HA3 := hide hA3
  have HB3 := hide hB3
  have HWE := hide hW
  have hR := hide (Below.refl W.heap.size W)
  have hNs : Sm (q.num.natAbs : Int) := sm_nat (by omega)
  have hDs : Sm (q.den : Int) := sm_nat (by omega)
  clear S0 CH CL hA3 hG3 hT3 hB3 hW hbW hb13 hb2 hb3 HA HG HT1 HB1 HTX' HPA' HWE1 HBW1 HWE0 hs
  by_cases hfit : -9223372036854775808 ≤ q.num / q.den ∧ q.num / q.den ≤ 9223372036854775807
  · rw [fits_in hfit] at CF
    obtain ⟨z, hz⟩ : ∃ z, q.num / (q.den : Int) = z := ⟨_, rfl⟩
    have flo := floor_low q
    have fhi := floor_high q
    rw [hz] at CF flo fhi hfit
    obtain ⟨hz0, hz1⟩ := hfit
    have hzs : Sm ((z : Rat).num.natAbs : Int) := by rw [Rat.num_intCast]; exact sm_word (by omega)
    have hz1s : Sm ((((z : Int) : Rat) + ((1 : Int) : Rat)).num.natAbs : Int) := by rw [← Rat.intCast_add, Rat.num_intCast]; exact sm_word (by omega)
    have hzd : Sm ((z : Rat).den : Int) := by rw [Rat.den_intCast]; exact sm_word (by decide)
    have hz1d : Sm ((((z : Int) : Rat) + ((1 : Int) : Rat)).den : Int) := by rw [← Rat.intCast_add, Rat.den_intCast]; exact sm_word (by decide)
    obtain ⟨g1, hg1⟩ : ∃ g, Wd.sg ((z : Rat).num * q.den) (q.num * (z : Rat).den) = g := ⟨_, rfl⟩
    obtain ⟨g2, hg2⟩ : ∃ g, Wd.sg ((((z : Int) : Rat) + ((1 : Int) : Rat)).num * q.den) (q.num * (((z : Int) : Rat) + ((1 : Int) : Rat)).den) = g := ⟨_, rfl⟩
    rw [hg1] at flo
    rw [hg2] at fhi
    have bg1 := sg_bd ((z : Rat).num * q.den) (q.num * (z : Rat).den)
    have bg2 := sg_bd ((((z : Int) : Rat) + ((1 : Int) : Rat)).num * q.den) (q.num * (((z : Int) : Rat) + ((1 : Int) : Rat)).den)
    rw [hg1] at bg1
    rw [hg2] at bg2
    have CW : ∀ w1, Below W.heap.size W w1 → Calls Tryd.prog 10 #[.int .i64 z] w1 fun e w' => ∃ v, e = .returned v ∧ RatIs w' v (z : Rat) ∧ Below w1.heap.size w1 w' ∧ Below W.heap.size W w' := fun w1 h1 =>
      (whole_any z hz0 hz1 w1).mono (by rintro e w' ⟨v, rfl, hv, h⟩; exact ⟨v, rfl, hv, h, below_step h1 h⟩)
    have CO : ∀ w1, Below W.heap.size W w1 → Calls Tryd.prog 10 #[.int .i64 1] w1 fun e w' => ∃ v, e = .returned v ∧ RatIs w' v ((1 : Int) : Rat) ∧ Below w1.heap.size w1 w' ∧ Below W.heap.size W w' := fun w1 h1 =>
      (whole_any 1 (by decide) (by decide) w1).mono (by rintro e w' ⟨v, rfl, hv, h⟩; exact ⟨v, rfl, hv, h, below_step h1 h⟩)
    have CA : ∀ w1 v v', Below W.heap.size W w1 → RatIs w1 v (z : Rat) → RatIs w1 v' ((1 : Int) : Rat) → Calls Tryd.prog 12 #[v, v'] w1 fun e w' => ∃ v, e = .returned v ∧ RatIs w' v (((z : Int) : Rat) + ((1 : Int) : Rat)) ∧ Below W.heap.size W w' := fun w1 v v' h1 hv hv' =>
      (addR_small _ _ _ _ w1 hv hv' (by rw [Rat.num_intCast]; exact lt_pw8 (by omega)) (by rw [Rat.num_intCast]; decide) (by rw [Rat.den_intCast]; decide) (by rw [Rat.den_intCast]; decide)).mono (by rintro e w' ⟨v, rfl, hv, h⟩; exact ⟨v, rfl, hv, below_step h1 h⟩)
    have C1 : ∀ w1 v, Below W.heap.size W w1 → RatIs w1 v (z : Rat) → Calls Tryd.prog 11 #[v, .agg #[.bool s, .slice a n c, .slice a2 n2 c2]] w1 fun e w' => e = .returned (.int .i64 g1) ∧ Below W.heap.size W w' := fun w1 v h1 hv =>
      (cmpR_any _ _ _ q w1 hv ((unhide HA3).below h1) hzs hNs hzd hDs).mono (by rintro e w' ⟨rfl, h⟩; exact ⟨by rw [hg1], below_step h1 h⟩)
    have C2 : ∀ w1 v, Below W.heap.size W w1 → RatIs w1 v (((z : Int) : Rat) + ((1 : Int) : Rat)) → Calls Tryd.prog 11 #[v, .agg #[.bool s, .slice a n c, .slice a2 n2 c2]] w1 fun e w' => e = .returned (.int .i64 g2) ∧ Below W.heap.size W w' := fun w1 v h1 hv =>
      (cmpR_any _ _ _ q w1 hv ((unhide HA3).below h1) hz1s hNs hz1d hDs).mono (by rintro e w' ⟨rfl, h⟩; exact ⟨by rw [hg2], below_step h1 h⟩)
    have HCF := hide CF
    have HCW := hide CW
    have HCO := hide CO
    have HCA := hide CA
    have HC1 := hide C1
    have HC2 := hide C2
    have dec1' : decide (g1 ≤ 0) = true := decide_eq_true flo
    have dec2' : decide (0 < g2) = true := decide_eq_true fhi
    obtain ⟨bg1a, bg1b⟩ := bg1
    obtain ⟨bg2a, bg2b⟩ := bg2
    clear CF CW CO CA C1 C2 hzs hz1s hzd hz1d hg1 hg2 hz HA3 hNs hDs bn bd
    go_wp2_with fail
    rw [unhide HWE]
    refine (unhide HCH _ (unhide hR)).mono ?_
    rintro e w4 ⟨rfl, hb4⟩
    have ⟨⟨k0, k1, k2, k3, k4, k5⟩, _⟩ := unhide HS0 _ hb4
    go_wp2_with fail
    refine (unhide HCL _ hb4).mono ?_
    rintro e w5 ⟨rfl, hb5⟩
    clear k0 k1 k2 k3 k4 k5 hb4
    have ⟨⟨k0, k1, k2, k3, k4, k5⟩, _⟩ := unhide HS0 _ hb5
    go_wp2_with fail
    refine (unhide HCF _ hb5).mono ?_
    rintro e w6 ⟨rfl, hb6⟩
    clear k0 k1 k2 k3 k4 k5 hb5
    go_wp2_with fail
    refine wp_region_held_drew (S := fun w' => (w'.cell? ⟨w1.heap.size, 0, none⟩ = some (.bool s) ∧ w'.cell? ⟨w1.heap.size, 1, none⟩ = some (.slice a n c) ∧ w'.cell? ⟨w1.heap.size, 2, none⟩ = some (.slice a2 n2 c2) ∧
      w'.cell? ⟨w3.heap.size, 0, none⟩ = some (.bool s) ∧ w'.cell? ⟨w3.heap.size, 1, none⟩ = some (.slice b m d) ∧ w'.cell? ⟨w3.heap.size, 2, none⟩ = some (.slice b2 m2 d2)) ∧ Below W.heap.size W w') (by kernel_rfl) ?_ (fun hHeld => ?_)
    · exact unhide HS0 _ (Below.drew hb6)
    refine wpAnyH_take (i := 0) (v := ?_) rfl (by kernel_rfl) (by kernel_rfl) (by kernel_rfl) (fun _ _ _ h => h) (Or.inl ⟨by rfl, ?_⟩) (by assumption) ?_
    rotate_left
    · intro w hSw; (try dsimp only at hSw); go_simp; (try with_reducible rfl)
    (try simp only [List.getElem_toArray, List.getElem_cons_zero])
    (try simp only [Act.put, List.setIfInBounds_toArray, List.set_cons_zero, List.set_cons_succ])
    refine wpAnyH_take (i := 1) (v := ?_) rfl (by kernel_rfl) (by kernel_rfl) (by kernel_rfl) (fun _ _ _ h => h) (Or.inl ⟨by rfl, ?_⟩) (by assumption) ?_
    rotate_left
    · intro w hSw; (try dsimp only at hSw); go_simp; (try with_reducible rfl)
    (try simp only [List.getElem_toArray, List.getElem_cons_succ, List.getElem_cons_zero])
    (try simp only [Act.put, List.setIfInBounds_toArray, List.set_cons_zero, List.set_cons_succ])
    refine wpAnyH_take (i := 2) (v := ?_) rfl (by kernel_rfl) (by kernel_rfl) (by kernel_rfl) (fun _ _ _ h => h) (Or.inl ⟨by rfl, ?_⟩) (by assumption) ?_
    rotate_left
    · intro w hSw; (try dsimp only at hSw); go_simp; (try with_reducible rfl)
    (try simp only [List.getElem_toArray, List.getElem_cons_succ, List.getElem_cons_zero])
    (try simp only [Act.put, List.setIfInBounds_toArray, List.set_cons_zero, List.set_cons_succ])
    refine wpAnyH_take (i := 3) rfl (by kernel_rfl) (by kernel_rfl) (by kernel_rfl) (fun _ _ _ h => h) (Or.inr ⟨by rfl, rfl⟩) (by assumption) ?_
    (try simp only [List.getElem_toArray, List.getElem_cons_succ, List.getElem_cons_zero])
    (try simp only [Act.put, List.setIfInBounds_toArray, List.set_cons_zero, List.set_cons_succ])
    refine wpAnyH_take (i := 4) rfl (by kernel_rfl) (by kernel_rfl) (by kernel_rfl) (fun _ _ _ h => h) (Or.inr ⟨by rfl, rfl⟩) (by assumption) ?_
    (try simp only [List.getElem_toArray, List.getElem_cons_succ, List.getElem_cons_zero])
    (try simp only [Act.put, List.setIfInBounds_toArray, List.set_cons_zero, List.set_cons_succ])
    refine wpAnyH_take (i := 5) (v := ?_) rfl (by kernel_rfl) (by kernel_rfl) (by kernel_rfl) (fun _ _ _ h => h) (Or.inl ⟨by rfl, ?_⟩) (by assumption) ?_
    rotate_left
    · intro w hSw; (try dsimp only at hSw); go_simp; (try with_reducible rfl)
    (try simp only [List.getElem_toArray, List.getElem_cons_succ, List.getElem_cons_zero])
    (try simp only [Act.put, List.setIfInBounds_toArray, List.set_cons_zero, List.set_cons_succ])
    refine wpAnyH_take (i := 6) (v := ?_) rfl (by kernel_rfl) (by kernel_rfl) (by kernel_rfl) (fun _ _ _ h => h) (Or.inl ⟨by rfl, ?_⟩) (by assumption) ?_
    rotate_left
    · intro w hSw; (try dsimp only at hSw); go_simp; (try with_reducible rfl)
    (try simp only [List.getElem_toArray, List.getElem_cons_succ, List.getElem_cons_zero])
    (try simp only [Act.put, List.setIfInBounds_toArray, List.set_cons_zero, List.set_cons_succ])
    refine wpAnyH_take (i := 7) (v := ?_) rfl (by kernel_rfl) (by kernel_rfl) (by kernel_rfl) (fun _ _ _ h => h) (Or.inl ⟨by rfl, ?_⟩) (by assumption) ?_
    rotate_left
    · intro w hSw; (try dsimp only at hSw); go_simp; (try with_reducible rfl)
    (try simp only [List.getElem_toArray, List.getElem_cons_succ, List.getElem_cons_zero])
    (try simp only [Act.put, List.setIfInBounds_toArray, List.set_cons_zero, List.set_cons_succ])
    refine wpAnyH_take (i := 8) (v := ?_) rfl (by kernel_rfl) (by kernel_rfl) (by kernel_rfl) (fun _ _ _ h => h) (Or.inl ⟨by rfl, ?_⟩) (by assumption) ?_
    rotate_left
    · intro w hSw; (try dsimp only at hSw); go_simp; (try with_reducible rfl)
    (try simp only [List.getElem_toArray, List.getElem_cons_succ, List.getElem_cons_zero])
    (try simp only [Act.put, List.setIfInBounds_toArray, List.set_cons_zero, List.set_cons_succ])
    refine wpAnyH_take (i := 9) (v := ?_) rfl (by kernel_rfl) (by kernel_rfl) (by kernel_rfl) (fun _ _ _ h => h) (Or.inl ⟨by rfl, ?_⟩) (by assumption) ?_
    rotate_left
    · intro w hSw; (try dsimp only at hSw); go_simp; (try with_reducible rfl)
    (try simp only [List.getElem_toArray, List.getElem_cons_succ, List.getElem_cons_zero])
    (try simp only [Act.put, List.setIfInBounds_toArray, List.set_cons_zero, List.set_cons_succ])
    refine wpAnyH_take (i := 11) (v := ?_) rfl (by kernel_rfl) (by kernel_rfl) (by kernel_rfl) (fun _ _ _ h => h) (Or.inl ⟨by rfl, ?_⟩) (by assumption) ?_
    rotate_left
    · intro w hSw; (try dsimp only at hSw); go_simp; (try with_reducible rfl)
    (try simp only [List.getElem_toArray, List.getElem_cons_succ, List.getElem_cons_zero])
    (try simp only [Act.put, List.setIfInBounds_toArray, List.set_cons_zero, List.set_cons_succ])
    refine wpAnyH_ready (rs := [10]) (by kernel_rfl) (by simp) ?_
    refine AllReadyH.cons rfl (fun K hK => ?_) AllReadyH.nil
    (try simp only [List.getElem_toArray, List.getElem_cons_succ, List.getElem_cons_zero])
    go_simp
    go_at_call_of 10 (Value.int .i64 z); refine (unhide HCW _ ?_).mono ?_; (first | assumption | exact Below.drew (by assumption)); rintro e wz0 ⟨vz0, rfl, hvz0, hr0, hb0⟩
    refine hK.out _ _ ?_ (fun hHeld => ?_)
    · exact unhide HS0 _ hb0
    clear hK K
    (try simp only [Act.put, List.setIfInBounds_toArray, List.set_cons_zero, List.set_cons_succ])
    refine wpAnyH_ready (rs := [12]) (by kernel_rfl) (by simp) ?_
    refine AllReadyH.cons rfl (fun K hK => ?_) AllReadyH.nil
    (try simp only [List.getElem_toArray, List.getElem_cons_succ, List.getElem_cons_zero])
    go_simp
    go_at_call 11; refine (unhide HC1 _ _ ?_ hvz0).mono ?_; (first | assumption | exact Below.drew (by assumption)); rintro e wc ⟨rfl, hb1⟩
    refine hK.out _ _ ?_ (fun hHeld => ?_)
    · exact unhide HS0 _ hb1
    clear hK K
    (try simp only [Act.put, List.setIfInBounds_toArray, List.set_cons_zero, List.set_cons_succ])
    refine wpAnyH_take (i := 13) (v := ?_) rfl (by kernel_rfl) (by kernel_rfl) (by kernel_rfl) (fun _ _ _ h => h) (Or.inl ⟨by rfl, ?_⟩) (by assumption) ?_
    rotate_left
    · intro w hSw; (try dsimp only at hSw); go_simp; (try with_reducible rfl)
    (try simp only [List.getElem_toArray, List.getElem_cons_succ, List.getElem_cons_zero])
    (try simp only [Act.put, List.setIfInBounds_toArray, List.set_cons_zero, List.set_cons_succ])
    refine wpAnyH_take (i := 14) (v := ?_) rfl (by kernel_rfl) (by kernel_rfl) (by kernel_rfl) (fun _ _ _ h => h) (Or.inl ⟨by rfl, ?_⟩) (by assumption) ?_
    rotate_left
    · intro w hSw; (try dsimp only at hSw); go_simp; (try with_reducible rfl)
    (try simp only [List.getElem_toArray, List.getElem_cons_succ, List.getElem_cons_zero])
    (try simp only [Act.put, List.setIfInBounds_toArray, List.set_cons_zero, List.set_cons_succ])
    refine wpAnyH_take (i := 15) (v := ?_) rfl (by kernel_rfl) (by kernel_rfl) (by kernel_rfl) (fun _ _ _ h => h) (Or.inl ⟨by rfl, ?_⟩) (by assumption) ?_
    rotate_left
    · intro w hSw; (try dsimp only at hSw); go_simp; (try with_reducible rfl)
    (try simp only [List.getElem_toArray, List.getElem_cons_succ, List.getElem_cons_zero])
    (try simp only [Act.put, List.setIfInBounds_toArray, List.set_cons_zero, List.set_cons_succ])
    refine wpAnyH_take (i := 16) (v := ?_) rfl (by kernel_rfl) (by kernel_rfl) (by kernel_rfl) (fun _ _ _ h => h) (Or.inl ⟨by rfl, ?_⟩) (by assumption) ?_
    rotate_left
    · intro w hSw; (try dsimp only at hSw); go_simp; (try with_reducible rfl)
    (try simp only [List.getElem_toArray, List.getElem_cons_succ, List.getElem_cons_zero])
    (try simp only [Act.put, List.setIfInBounds_toArray, List.set_cons_zero, List.set_cons_succ])
    refine wpAnyH_take (i := 20) (v := ?_) rfl (by kernel_rfl) (by kernel_rfl) (by kernel_rfl) (fun _ _ _ h => h) (Or.inl ⟨by rfl, ?_⟩) (by assumption) ?_
    rotate_left
    · intro w hSw; (try dsimp only at hSw); go_simp; (try with_reducible rfl)
    (try simp only [List.getElem_toArray, List.getElem_cons_succ, List.getElem_cons_zero])
    (try simp only [Act.put, List.setIfInBounds_toArray, List.set_cons_zero, List.set_cons_succ])
    refine wpAnyH_ready (rs := [17]) (by kernel_rfl) (by simp) ?_
    refine AllReadyH.cons rfl (fun K hK => ?_) AllReadyH.nil
    (try simp only [List.getElem_toArray, List.getElem_cons_succ, List.getElem_cons_zero])
    go_simp
    go_at_call_of 10 (Value.int .i64 z); refine (unhide HCW _ ?_).mono ?_; (first | assumption | exact Below.drew (by assumption)); rintro e wz2 ⟨vz2, rfl, hvz2, hr2, hb2⟩
    refine hK.out _ _ ?_ (fun hHeld => ?_)
    · exact unhide HS0 _ hb2
    clear hK K
    (try simp only [Act.put, List.setIfInBounds_toArray, List.set_cons_zero, List.set_cons_succ])
    refine wpAnyH_ready (rs := [18]) (by kernel_rfl) (by simp) ?_
    refine AllReadyH.cons rfl (fun K hK => ?_) AllReadyH.nil
    (try simp only [List.getElem_toArray, List.getElem_cons_succ, List.getElem_cons_zero])
    go_simp
    go_at_call_of 10 (Value.int .i64 1); refine (unhide HCO _ ?_).mono ?_; (first | assumption | exact Below.drew (by assumption)); rintro e wo3 ⟨vo3, rfl, hvo3, hr3, hb3⟩
    refine hK.out _ _ ?_ (fun hHeld => ?_)
    · exact unhide HS0 _ hb3
    clear hK K
    (try simp only [Act.put, List.setIfInBounds_toArray, List.set_cons_zero, List.set_cons_succ])
    refine wpAnyH_ready (rs := [19]) (by kernel_rfl) (by simp) ?_
    refine AllReadyH.cons rfl (fun K hK => ?_) AllReadyH.nil
    (try simp only [List.getElem_toArray, List.getElem_cons_succ, List.getElem_cons_zero])
    go_simp
    go_at_call 12; refine (unhide HCA _ _ _ ?_ (hvz2.below hr3) hvo3).mono ?_; (first | assumption | exact Below.drew (by assumption)); rintro e wa ⟨va, rfl, hva, hb4⟩
    refine hK.out _ _ ?_ (fun hHeld => ?_)
    · exact unhide HS0 _ hb4
    clear hK K
    (try simp only [Act.put, List.setIfInBounds_toArray, List.set_cons_zero, List.set_cons_succ])
    refine wpAnyH_ready (rs := [21]) (by kernel_rfl) (by simp) ?_
    refine AllReadyH.cons rfl (fun K hK => ?_) AllReadyH.nil
    (try simp only [List.getElem_toArray, List.getElem_cons_succ, List.getElem_cons_zero])
    go_simp
    go_at_call 11; refine (unhide HC2 _ _ ?_ hva).mono ?_; (first | assumption | exact Below.drew (by assumption)); rintro e wd ⟨rfl, hb5⟩
    refine hK.out _ _ ?_ (fun hHeld => ?_)
    · exact unhide HS0 _ hb5
    clear hK K
    (try simp only [Act.put, List.setIfInBounds_toArray, List.set_cons_zero, List.set_cons_succ])
    refine wpAnyH_take (i := 22) (v := ?_) rfl (by kernel_rfl) (by kernel_rfl) (by kernel_rfl) (fun _ _ _ h => h) (Or.inl ⟨by rfl, ?_⟩) (by assumption) ?_
    rotate_left
    · intro w hSw; (try dsimp only at hSw); go_simp; (try with_reducible rfl)
    (try simp only [List.getElem_toArray, List.getElem_cons_succ, List.getElem_cons_zero])
    (try simp only [Act.put, List.setIfInBounds_toArray, List.set_cons_zero, List.set_cons_succ])
    refine wpAnyH_take (i := 23) (v := ?_) rfl (by kernel_rfl) (by kernel_rfl) (by kernel_rfl) (fun _ _ _ h => h) (Or.inl ⟨by rfl, ?_⟩) (by assumption) ?_
    rotate_left
    · intro w hSw; (try dsimp only at hSw); go_simp; (try with_reducible rfl)
    (try simp only [List.getElem_toArray, List.getElem_cons_succ, List.getElem_cons_zero])
    (try simp only [Act.put, List.setIfInBounds_toArray, List.set_cons_zero, List.set_cons_succ])
    refine wpAnyH_take (i := 24) (v := ?_) rfl (by kernel_rfl) (by kernel_rfl) (by kernel_rfl) (fun _ _ _ h => h) (Or.inl ⟨by rfl, ?_⟩) (by assumption) ?_
    rotate_left
    · intro w hSw; (try dsimp only at hSw); go_simp; (try with_reducible rfl)
    (try simp only [List.getElem_toArray, List.getElem_cons_succ, List.getElem_cons_zero])
    (try simp only [Act.put, List.setIfInBounds_toArray, List.set_cons_zero, List.set_cons_succ])
    refine wpAnyH_take (i := 25) (v := ?_) rfl (by kernel_rfl) (by kernel_rfl) (by kernel_rfl) (fun _ _ _ h => h) (Or.inl ⟨by rfl, ?_⟩) (by assumption) ?_
    rotate_left
    · intro w hSw; (try dsimp only at hSw); go_simp; (try with_reducible rfl)
    (try simp only [List.getElem_toArray, List.getElem_cons_succ, List.getElem_cons_zero])
    (try simp only [Act.put, List.setIfInBounds_toArray, List.set_cons_zero, List.set_cons_succ])
    refine wpAnyH_done (by kernel_rfl) ?_ _
    go_wp2
    go_ret
    exact ⟨rfl, below_step (unhide HB3) (by assumption)⟩
  · rw [fits_out hfit] at CF
    have HCF := hide CF
    clear CF hfit HA3 hNs hDs bn bd
    go_wp2_with fail
    rw [unhide HWE]
    refine (unhide HCH _ (unhide hR)).mono ?_
    rintro e w4 ⟨rfl, hb4⟩
    have ⟨⟨k0, k1, k2, k3, k4, k5⟩, _⟩ := unhide HS0 _ hb4
    go_wp2_with fail
    refine (unhide HCL _ hb4).mono ?_
    rintro e w5 ⟨rfl, hb5⟩
    clear k0 k1 k2 k3 k4 k5 hb4
    have ⟨⟨k0, k1, k2, k3, k4, k5⟩, _⟩ := unhide HS0 _ hb5
    go_wp2_with fail
    refine (unhide HCF _ hb5).mono ?_
    rintro e w6 ⟨rfl, hb6⟩
    clear k0 k1 k2 k3 k4 k5 hb5
    go_wp2_with fail
    go_quiet (fail)
    all_goals
      go_wp2
      go_ret
      exact ⟨rfl, below_step (unhide HB3) (by first | assumption | exact below_step hb6 (below_drewN _ _))⟩
end Go.Proofs.YtjeddhknmoldcaaDoor
