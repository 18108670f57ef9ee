/- Renewals: checkCosts, cost. -/
import Derived.Test.YtcelbgleajpenaaGreatDoorRZ1z
import Derived.Test.YtcelbgleajpenaaGreatDoorV2z
namespace Go.Proofs.YtcelbgleajpenaaGreatDoor
open Go.RowKit Go.Sort Go.Shelf

structure TwoJ (q1 q2 : Rat) (w0 : World) (c : Nat) (l : Bool) (w : World) (s1 s2 s3 : Value) : Prop where
 bl : Below w0.heap.size w0 w
 r1 : 1 ≤ c → RatIs w s1 q1
 r2 : 2 ≤ c → RatIs w s2 q2
 al : l = true → ∃ b, s3 = .pointer (some ⟨b, 0, none⟩) ∧ BoxIs w b zTri 0 ∧ w0.heap.size ≤ b

theorem sign_nn' {z : Int} (h : 0 ≤ z) : 0 ≤ z.sign := by
 rcases Int.lt_or_eq_of_le h with a | a
 ·rw [Int.sign_eq_one_of_pos a]; decide
 ·rw [← a]; decide
theorem one_RSi : RS ((1 : Int) : Rat) 1 := by
 rw [show ((1 : Int) : Rat) = 1 by simp]; exact one_RS'
def rcc (qs : List Rat) (f p : Rat) : Int := if rnc qs = 0 then (if f.num < 0 ∨ p.num < 0 then 1 else 0) else rnc qs
set_option maxHeartbeats 16000000 in
set_option maxRecDepth 100000 in
set_option linter.unusedSimpArgs false in
theorem rcosts_any (v vf vp : Value) (qs : List Rat) (qf qp : Rat) (J : Nat) (w : World) (h : LawIs w v qs) (hf0 : RatIs w vf qf) (hp0 : RatIs w vp qp) (hq : ∀ j, j < qs.length → RS qs[j]! J) (hJ : (qs.length * (J + 1) + 1 + J) + (qs.length * (J + 1) + 1 + J) + 1 ≤ KK) :
  Calls Tryz.prog 81 #[v, vf, vp] w fun e w' => e = .returned (errV (rcc qs qf qp)) ∧ Below w.heap.size w w' := by
 obtain ⟨tf, rfl, hf⟩ := tri_of hf0
 obtain ⟨tp, rfl, hp⟩ := tri_of hp0
 simp only [Tri.val]
 have bb_1 := alloc_below w (.cells #[.bool tf.s, .slice tf.a1 tf.n1 tf.c1, .slice tf.a2 tf.n2 tf.c2] 37)
 have X_1 := BoxIs.new (hf)
 obtain ⟨W_1, hW_1⟩ : ∃ W, w.alloc (.cells #[.bool tf.s, .slice tf.a1 tf.n1 tf.c1, .slice tf.a2 tf.n2 tf.c2] 37) = W := ⟨_, rfl⟩
 obtain ⟨b_f, hb_f⟩ : ∃ b, w.heap.size = b := ⟨_, rfl⟩
 rw [hW_1] at bb_1 X_1
 rw [hb_f] at X_1
 have X_1_ := X_1
 have tb_1 := bb_1
 have hg_f : w.heap.size ≤ b_f := by rw [← hb_f]; exact Nat.le_refl _
 have HG_f := hide hg_f
 have bb_2 := alloc_below W_1 (.cells #[.bool tp.s, .slice tp.a1 tp.n1 tp.c1, .slice tp.a2 tp.n2 tp.c2] 37)
 have X_2 := BoxIs.new (hp.below tb_1)
 obtain ⟨W_2, hW_2⟩ : ∃ W, W_1.alloc (.cells #[.bool tp.s, .slice tp.a1 tp.n1 tp.c1, .slice tp.a2 tp.n2 tp.c2] 37) = W := ⟨_, rfl⟩
 obtain ⟨b_p, hb_p⟩ : ∃ b, W_1.heap.size = b := ⟨_, rfl⟩
 rw [hW_2] at bb_2 X_2
 rw [hb_p] at X_2
 have X_2_ := X_2
 have tb_2 := below_step tb_1 bb_2
 have hg_p : w.heap.size ≤ b_p := by rw [← hb_p]; exact tb_1.size
 have HG_p := hide hg_p
 have HX_f := hide (fun W (hW : Below W_2.heap.size W_2 W) => (X_1_.keep bb_2).keep hW)
 have HX_p := hide (fun W (hW : Below W_2.heap.size W_2 W) => X_2_.keep hW)
 have HBW := hide (fun W (hW : Below W_2.heap.size W_2 W) => below_step tb_2 hW)
 have HB0 := hide tb_2
 clear bb_1 X_1 X_1_ tb_1 bb_2 X_2 X_2_ tb_2 hg_f hg_p
 have HC := hide (rcheck_any v qs J W_2 (h.below (unhide HB0)) hq hJ)
 have HSG_f : Hid (∀ W, Below W_2.heap.size W_2 W → Calls Tryz.prog 103 #[.agg #[.bool tf.s, .slice tf.a1 tf.n1 tf.c1, .slice tf.a2 tf.n2 tf.c2]] W fun e w' => e = .returned (.int .i64 qf.num.sign) ∧ Below W.heap.size W w') := fun W hW => sign_any tf.val qf W (unhide HX_f _ hW).2
 have HSG_p : Hid (∀ W, Below W_2.heap.size W_2 W → Calls Tryz.prog 103 #[.agg #[.bool tp.s, .slice tp.a1 tp.n1 tp.c1, .slice tp.a2 tp.n2 tp.c2]] W fun e w' => e = .returned (.int .i64 qp.num.sign) ∧ Below W.heap.size W w') := fun W hW => sign_any tp.val qp W (unhide HX_p _ hW).2
 have h' := h
 obtain ⟨a, c, rfl, -⟩ := h'
 by_cases hc : rnc qs = 0
 ·have hr : rcc qs qf qp = if qf.num < 0 ∨ qp.num < 0 then 1 else 0 := by unfold rcc; rw [if_pos hc]
  rw [hr]
  rw [hc, errV_zero] at HC
  clear h hq hJ hr hc hf0 hp0 hf hp
  generalize qs.length = n at *
  by_cases hfn : qf.num < 0
  ·rw [if_pos (Or.inl hfn)]
   have hsf : qf.num.sign = -1 := Int.sign_eq_neg_one_of_neg hfn
   rw [hsf] at HSG_f
   clear hsf
   clear hfn HSG_p
   go_enter Tryz.func81, Tryz.ntmps81
   go_wp2_with fail
   clear hW_1 hb_f hW_2 hb_p
   refine (unhide HC).mono ?_
   rintro e w1 ⟨rfl, hb1⟩
   have HS1 := hide (unhide HSG_f w1 hb1)
   have ⟨k0, k1, k2⟩ := (unhide HX_f _ hb1).cells _ (Below.refl _ _)
   have HB1 := hide hb1
   clear hb1 HC HSG_f
   go_wp2_with fail
   refine (unhide HS1).mono ?_
   rintro e w2 ⟨rfl, hb2⟩
   have HB2 := hide (below_step (unhide HB1) hb2)
   clear hb2 k0 k1 k2 HS1 HB1
   go_wp2
   go_ret
   exact ⟨rfl, unhide HBW _ (unhide HB2)⟩
  ·by_cases hpn : qp.num < 0
   ·rw [if_pos (Or.inr hpn)]
    have bd_f := sign_bd qf.num
    have hsf : 0 ≤ qf.num.sign := sign_nn' (by omega)
    obtain ⟨yf, hyf⟩ : ∃ y, qf.num.sign = y := ⟨_, rfl⟩
    rw [hyf] at HSG_f bd_f hsf
    have hd_f : decide (yf < 0) = false := decide_eq_false (by omega)
    clear hyf hsf bd_f
    have hsp : qp.num.sign = -1 := Int.sign_eq_neg_one_of_neg hpn
    rw [hsp] at HSG_p
    clear hsp
    clear hfn hpn
    go_enter Tryz.func81, Tryz.ntmps81
    go_wp2_with fail
    clear hW_1 hb_f hW_2 hb_p
    refine (unhide HC).mono ?_
    rintro e w1 ⟨rfl, hb1⟩
    have HS1 := hide (unhide HSG_f w1 hb1)
    have ⟨k0, k1, k2⟩ := (unhide HX_f _ hb1).cells _ (Below.refl _ _)
    have HB1 := hide hb1
    clear hb1 HC HSG_f
    go_wp2_with fail
    refine (unhide HS1).mono ?_
    rintro e w2 ⟨rfl, hb2⟩
    have HB2 := hide (below_step (unhide HB1) hb2)
    clear hb2 k0 k1 k2 HS1 HB1
    have HS2 := hide (unhide HSG_p w2 (unhide HB2))
    have ⟨k0, k1, k2⟩ := (unhide HX_p _ (unhide HB2)).cells _ (Below.refl _ _)
    clear HSG_p
    go_wp2_with fail
    refine (unhide HS2).mono ?_
    rintro e w3 ⟨rfl, hb3⟩
    have HB3 := hide (below_step (unhide HB2) hb3)
    clear hb3 k0 k1 k2 HS2 HB2
    go_wp2
    go_ret
    exact ⟨rfl, unhide HBW _ (unhide HB3)⟩
   ·rw [if_neg (fun h => h.elim hfn hpn)]
    have bd_f := sign_bd qf.num
    have hsf : 0 ≤ qf.num.sign := sign_nn' (by omega)
    obtain ⟨yf, hyf⟩ : ∃ y, qf.num.sign = y := ⟨_, rfl⟩
    rw [hyf] at HSG_f bd_f hsf
    have hd_f : decide (yf < 0) = false := decide_eq_false (by omega)
    clear hyf hsf bd_f
    have bd_p := sign_bd qp.num
    have hsp : 0 ≤ qp.num.sign := sign_nn' (by omega)
    obtain ⟨yp, hyp⟩ : ∃ y, qp.num.sign = y := ⟨_, rfl⟩
    rw [hyp] at HSG_p bd_p hsp
    have hd_p : decide (yp < 0) = false := decide_eq_false (by omega)
    clear hyp hsp bd_p
    clear hfn hpn
    go_enter Tryz.func81, Tryz.ntmps81
    go_wp2_with fail
    clear hW_1 hb_f hW_2 hb_p
    refine (unhide HC).mono ?_
    rintro e w1 ⟨rfl, hb1⟩
    have HS1 := hide (unhide HSG_f w1 hb1)
    have ⟨k0, k1, k2⟩ := (unhide HX_f _ hb1).cells _ (Below.refl _ _)
    have HB1 := hide hb1
    clear hb1 HC HSG_f
    go_wp2_with fail
    refine (unhide HS1).mono ?_
    rintro e w2 ⟨rfl, hb2⟩
    have HB2 := hide (below_step (unhide HB1) hb2)
    clear hb2 k0 k1 k2 HS1 HB1
    have HS2 := hide (unhide HSG_p w2 (unhide HB2))
    have ⟨k0, k1, k2⟩ := (unhide HX_p _ (unhide HB2)).cells _ (Below.refl _ _)
    clear HSG_p
    go_wp2_with fail
    refine (unhide HS2).mono ?_
    rintro e w3 ⟨rfl, hb3⟩
    have HB3 := hide (below_step (unhide HB2) hb3)
    clear hb3 k0 k1 k2 HS2 HB2
    go_wp2
    go_ret
    exact ⟨rfl, unhide HBW _ (unhide HB3)⟩
 ·have hr : rcc qs qf qp = rnc qs := by unfold rcc; rw [if_neg hc]
  rw [hr]
  rw [errV_not hc] at HC ⊢
  generalize rnc qs = k at *
  clear h hq hJ hr hc hf0 hp0 hf hp
  generalize qs.length = n at *
  go_enter Tryz.func81, Tryz.ntmps81
  go_wp2_with fail
  clear hW_1 hb_f hW_2 hb_p
  refine (unhide HC).mono ?_
  rintro e w1 ⟨rfl, hb1⟩
  have HB1 := hide hb1
  clear hb1
  go_wp2
  go_ret
  exact ⟨rfl, unhide HBW _ (unhide HB1)⟩

set_option maxHeartbeats 16000000 in
set_option maxRecDepth 100000 in
set_option linter.unusedSimpArgs false in
theorem rcost_any (vf vp vl vt : Value) (qf qp ql qt : Rat) (J0 JJ : Nat) (w : World) (hf0 : RatIs w vf qf) (hp0 : RatIs w vp qp) (hl0 : RatIs w vl ql) (ht0 : RatIs w vt qt) (rf : RS qf J0) (rp : RS qp J0) (rl : RS ql J0) (rt : RS qt J0) (hz : qt.num ≠ 0) (hJJ : 4 * J0 + 8 ≤ JJ) (hJ : JJ + JJ + 1 ≤ KK) :
  Calls Tryz.prog 82 #[vf, vp, vl, vt] w fun e w' => ∃ v, e = .returned v ∧ RatIs w' v ((qf * (((1 : Int) : Rat) - ql) + qp * ql) / qt) ∧ Below w.heap.size w w' := by
 obtain ⟨tf, rfl, hf⟩ := tri_of hf0
 obtain ⟨tp, rfl, hp⟩ := tri_of hp0
 obtain ⟨tl, rfl, hl⟩ := tri_of hl0
 obtain ⟨tt, rfl, ht⟩ := tri_of ht0
 simp only [Tri.val]
 have bb_1 := alloc_below w (.cells #[.bool tf.s, .slice tf.a1 tf.n1 tf.c1, .slice tf.a2 tf.n2 tf.c2] 37)
 have X_1 := BoxIs.new (hf)
 obtain ⟨W_1, hW_1⟩ : ∃ W, w.alloc (.cells #[.bool tf.s, .slice tf.a1 tf.n1 tf.c1, .slice tf.a2 tf.n2 tf.c2] 37) = W := ⟨_, rfl⟩
 obtain ⟨b_f, hb_f⟩ : ∃ b, w.heap.size = b := ⟨_, rfl⟩
 rw [hW_1] at bb_1 X_1
 rw [hb_f] at X_1
 have X_1_ := X_1
 have tb_1 := bb_1
 have hg_f : w.heap.size ≤ b_f := by rw [← hb_f]; exact Nat.le_refl _
 have HG_f := hide hg_f
 have bb_2 := alloc_below W_1 (.cells #[.bool tp.s, .slice tp.a1 tp.n1 tp.c1, .slice tp.a2 tp.n2 tp.c2] 37)
 have X_2 := BoxIs.new (hp.below tb_1)
 obtain ⟨W_2, hW_2⟩ : ∃ W, W_1.alloc (.cells #[.bool tp.s, .slice tp.a1 tp.n1 tp.c1, .slice tp.a2 tp.n2 tp.c2] 37) = W := ⟨_, rfl⟩
 obtain ⟨b_p, hb_p⟩ : ∃ b, W_1.heap.size = b := ⟨_, rfl⟩
 rw [hW_2] at bb_2 X_2
 rw [hb_p] at X_2
 have X_2_ := X_2
 have tb_2 := below_step tb_1 bb_2
 have hg_p : w.heap.size ≤ b_p := by rw [← hb_p]; exact tb_1.size
 have HG_p := hide hg_p
 have bb_3 := alloc_below W_2 (.cells #[.bool tl.s, .slice tl.a1 tl.n1 tl.c1, .slice tl.a2 tl.n2 tl.c2] 37)
 have X_3 := BoxIs.new (hl.below tb_2)
 obtain ⟨W_3, hW_3⟩ : ∃ W, W_2.alloc (.cells #[.bool tl.s, .slice tl.a1 tl.n1 tl.c1, .slice tl.a2 tl.n2 tl.c2] 37) = W := ⟨_, rfl⟩
 obtain ⟨b_l, hb_l⟩ : ∃ b, W_2.heap.size = b := ⟨_, rfl⟩
 rw [hW_3] at bb_3 X_3
 rw [hb_l] at X_3
 have X_3_ := X_3
 have tb_3 := below_step tb_2 bb_3
 have hg_l : w.heap.size ≤ b_l := by rw [← hb_l]; exact tb_2.size
 have HG_l := hide hg_l
 have bb_4 := alloc_below W_3 (.cells #[.bool tt.s, .slice tt.a1 tt.n1 tt.c1, .slice tt.a2 tt.n2 tt.c2] 37)
 have X_4 := BoxIs.new (ht.below tb_3)
 obtain ⟨W_4, hW_4⟩ : ∃ W, W_3.alloc (.cells #[.bool tt.s, .slice tt.a1 tt.n1 tt.c1, .slice tt.a2 tt.n2 tt.c2] 37) = W := ⟨_, rfl⟩
 obtain ⟨b_t, hb_t⟩ : ∃ b, W_3.heap.size = b := ⟨_, rfl⟩
 rw [hW_4] at bb_4 X_4
 rw [hb_t] at X_4
 have X_4_ := X_4
 have tb_4 := below_step tb_3 bb_4
 have hg_t : w.heap.size ≤ b_t := by rw [← hb_t]; exact tb_3.size
 have HG_t := hide hg_t
 have bb_5 := alloc_below W_4 (.cells #[.bool false, .slice none 0 0, .slice none 0 0] 37)
 have X_5 := BoxIs.new (w := W_4) (t := zTri) (q := 0) (rat_zero _)
 obtain ⟨W_5, hW_5⟩ : ∃ W, W_4.alloc (.cells #[.bool false, .slice none 0 0, .slice none 0 0] 37) = W := ⟨_, rfl⟩
 obtain ⟨b_R, hb_R⟩ : ∃ b, W_4.heap.size = b := ⟨_, rfl⟩
 have X_5_ : BoxIs W_5 b_R zTri 0 := by rw [← hW_5, ← hb_R]; exact X_5
 rw [hW_5] at bb_5
 have tb_5 := below_step tb_4 bb_5
 have hg_R : w.heap.size ≤ b_R := by rw [← hb_R]; exact tb_4.size
 have HG_R := hide hg_R
 have HX_f := hide (fun W (hW : Below W_5.heap.size W_5 W) => ((((X_1_.keep bb_2).keep bb_3).keep bb_4).keep bb_5).keep hW)
 have HX_p := hide (fun W (hW : Below W_5.heap.size W_5 W) => (((X_2_.keep bb_3).keep bb_4).keep bb_5).keep hW)
 have HX_l := hide (fun W (hW : Below W_5.heap.size W_5 W) => ((X_3_.keep bb_4).keep bb_5).keep hW)
 have HX_t := hide (fun W (hW : Below W_5.heap.size W_5 W) => (X_4_.keep bb_5).keep hW)
 have HX_R := hide (fun W (hW : Below W_5.heap.size W_5 W) => X_5_.keep hW)
 have HBW := hide (fun W (hW : Below W_5.heap.size W_5 W) => below_step tb_5 hW)
 have HB0 := hide tb_5
 clear bb_1 X_1 X_1_ tb_1 bb_2 X_2 X_2_ tb_2 bb_3 X_3 X_3_ tb_3 bb_4 X_4 X_4_ tb_4 bb_5 X_5 X_5_ tb_5 hg_f hg_p hg_l hg_t hg_R
 have HCC1 : Hid (∀ W, Below W_5.heap.size W_5 W → (fun w' : World => w'.cell? ⟨b_l, 0, none⟩ = some (.bool tl.s) ∧ w'.cell? ⟨b_l, 1, none⟩ = some (.slice tl.a1 tl.n1 tl.c1) ∧ w'.cell? ⟨b_l, 2, none⟩ = some (.slice tl.a2 tl.n2 tl.c2)) W) := fun W hW => (unhide HX_l _ hW).cells _ (Below.refl _ _)
 have HTL := hide (unhide HX_l _ (Below.refl _ _)).2
 have HJ := hide hJ
 have HNZ := hide hz
 have HR1 : Hid (RS ((1 : Int) : Rat) JJ) := one_RSi.mono (by omega)
 have HRL : Hid (RS ql JJ) := rl.mono (by omega)
 have HRF : Hid (RS qf JJ) := rf.mono (by omega)
 have HRP : Hid (RS qp JJ) := rp.mono (by omega)
 have HRT : Hid (RS qt JJ) := rt.mono (by omega)
 have rn := one_RSi.sub' rl
 have HRN : Hid (RS (((1 : Int) : Rat) - ql) JJ) := rn.mono (by omega)
 have HRA : Hid (RS (qf * (((1 : Int) : Rat) - ql)) JJ) := (rf.mul rn).mono (by omega)
 have HRB : Hid (RS (qp * ql) JJ) := (rp.mul rl).mono (by omega)
 have HRC : Hid (RS (qf * (((1 : Int) : Rat) - ql) + qp * ql) JJ) := ((rf.mul rn).add (rp.mul rl)).mono (by omega)
 clear hf0 hp0 hl0 ht0 hf hp hl ht rf rp rl rt rn hz hJJ hJ
 go_enter Tryz.func82, Tryz.ntmps82
 go_wp2_with fail
 clear hW_1 hb_f hW_2 hb_p hW_3 hb_l hW_4 hb_t hW_5 hb_R
 refine wp_region_hold (fun w' : World => w'.cell? ⟨b_l, 0, none⟩ = some (.bool tl.s) ∧ w'.cell? ⟨b_l, 1, none⟩ = some (.slice tl.a1 tl.n1 tl.c1) ∧ w'.cell? ⟨b_l, 2, none⟩ = some (.slice tl.a2 tl.n2 tl.c2)) (by kernel_rfl) ?_
 have bd0 : Below W_5.heap.size W_5 W_5.drew := (Below.refl _ _).drew
 obtain ⟨Wx, hWx⟩ : ∃ W, W_5.drew = W := ⟨_, rfl⟩
 rw [hWx] at bd0 ⊢
 have hC0 : (fun w' : World => w'.cell? ⟨b_l, 0, none⟩ = some (.bool tl.s) ∧ w'.cell? ⟨b_l, 1, none⟩ = some (.slice tl.a1 tl.n1 tl.c1) ∧ w'.cell? ⟨b_l, 2, none⟩ = some (.slice tl.a2 tl.n2 tl.c2)) Wx := unhide HCC1 _ bd0
 refine wpHold_take (i := 1) (v := ?_) rfl (by kernel_rfl) (by kernel_rfl) (by kernel_rfl) (fun _ _ _ h => h) (Or.inl ⟨by rfl, ?_⟩) hC0 ?_
 rotate_left
 ·intro w hSw; (try dsimp only at hSw); obtain ⟨u0, u1, u2⟩ := hSw; go_simp; (try with_reducible rfl)
 (try simp only [List.getElem_toArray, List.getElem_cons_succ, List.getElem_cons_zero])
 (try simp only [Act.put, List.setIfInBounds_toArray, List.set_cons_zero, List.set_cons_succ])
 refine wpHold_listed (n := 4) (L' := (fun nc nl => #[decide (1 ≤ nc), true, decide (2 ≤ nc), nl, false]) 0 false) (by kernel_rfl) (by kernel_rfl) ?_
 refine wpHold_name (fun a0 ha0 => ?_)
 refine two_one_any (fun nc nl => #[decide (1 ≤ nc), true, decide (2 ≤ nc), nl, false]) 0 2 3 1 (fun nc nl na W => ∃ s1 s2 s3, na = ((a0.put (some 10) s1).put (some 12) s2).put (some 9) s3 ∧ TwoJ (((1 : Int) : Rat)) (((1 : Int) : Rat) - ql) Wx nc nl W s1 s2 s3) ?_ ?_ (fun l => rfl) (fun l => rfl) (fun c => rfl) ?_ ?_ ?_ ?_ 3 0 false (by omega) (by rfl) _ _ ⟨undef, undef, undef, by subst ha0; rfl, Below.refl _ _, fun h => absurd h (by decide), fun h => absurd h (by decide), fun h => by cases h⟩
 ·clear ha0
  intro nc nl hnc
  match nc, hnc with
  | 0, _ => cases nl <;> (show (_ : Bool) = _; kernel_rfl)
  | 1, _ => cases nl <;> (show (_ : Bool) = _; kernel_rfl)
  | 2, _ => cases nl <;> (show (_ : Bool) = _; kernel_rfl)
 ·clear ha0
  intro nc nl hnc
  match nc, hnc with
  | 0, _ => cases nl <;> (intro _; show (_ : Bool) = _; kernel_rfl)
  | 1, _ => cases nl <;> (intro _; show (_ : Bool) = _; kernel_rfl)
  | 2, _ => cases nl <;> (intro h; first | (show (_ : Bool) = _; kernel_rfl) | exact absurd h (by decide))
 ·rintro nl na wv ⟨s1, s2, s3, rfl, J⟩
  subst ha0
  refine wpOp_step rfl (fun K hK => ?_)
  (try simp only [Act.put, List.setIfInBounds_toArray, List.set_cons_zero, List.set_cons_succ] at hK ⊢)
  (try simp only [List.getElem_toArray, List.getElem_cons_succ, List.getElem_cons_zero])
  go_simp
  refine (whole_any 1 (by decide) (by decide) wv).mono ?_
  rintro e wz ⟨v, rfl, hv, hb⟩
  exact hK _ _ ⟨unhide HCC1 _ (below_step bd0 (below_step J.bl hb)), v, s2, s3, rfl, below_step J.bl hb, fun _ => hv, fun h => absurd h (by decide), fun h => by
   obtain ⟨b, e1, e2, e3⟩ := J.al h
   exact ⟨b, e1, e2.keep hb, e3⟩⟩
 ·rintro nl na wv ⟨s1, s2, s3, rfl, J⟩
  subst ha0
  refine wpOp_step rfl (fun K hK => ?_)
  (try simp only [Act.put, List.setIfInBounds_toArray, List.set_cons_zero, List.set_cons_succ] at hK ⊢)
  (try simp only [List.getElem_toArray, List.getElem_cons_succ, List.getElem_cons_zero])
  go_simp
  refine (subR_any s1 tl.val _ _ wv (J.r1 (by decide)) ((unhide HTL).below (below_step bd0 J.bl)) JJ (unhide HR1) (unhide HRL) (unhide HJ)).mono ?_
  rintro e wz ⟨v, rfl, hv, hb⟩
  exact hK _ _ ⟨unhide HCC1 _ (below_step bd0 (below_step J.bl hb)), s1, v, s3, rfl, below_step J.bl hb, fun _ => (J.r1 (by decide)).below hb, fun _ => hv, fun h => by
   obtain ⟨b, e1, e2, e3⟩ := J.al h
   exact ⟨b, e1, e2.keep hb, e3⟩⟩
 ·rintro nc na wv ⟨s1, s2, s3, rfl, J⟩
  subst ha0
  refine wpOp_step rfl (fun K hK => ?_)
  (try simp only [Act.put, List.setIfInBounds_toArray, List.set_cons_zero, List.set_cons_succ] at hK ⊢)
  (try simp only [List.getElem_toArray, List.getElem_cons_succ, List.getElem_cons_zero])
  go_simp
  have hb := alloc_below wv (.cells #[.bool false, .slice none 0 0, .slice none 0 0] 37)
  exact hK _ _ ⟨unhide HCC1 _ (below_step bd0 (below_step J.bl hb)), s1, s2, .pointer (some ⟨wv.heap.size, 0, none⟩), rfl, below_step J.bl hb, fun h => (J.r1 h).below hb, fun h => (J.r2 h).below hb, fun _ => ⟨wv.heap.size, rfl, BoxIs.new (t := zTri) (rat_zero _), J.bl.size⟩⟩
 ·rintro na wv ⟨s1, s2, s3, rfl, J⟩
  subst ha0
  obtain ⟨bn, rfl, B10, e10⟩ := J.al rfl
  obtain ⟨tn, rfl, r0⟩ := tri_of (J.r2 (by decide))
  simp only [Tri.val]
  (try simp only [Act.put, List.setIfInBounds_toArray, List.set_cons_zero, List.set_cons_succ])
  have ⟨l0, l1, l2⟩ := B10.free
  have ⟨k0, k1, k2⟩ := B10.cells _ (Below.refl _ _)
  have NB := B10.set r0
  have e10' : W_5.heap.size ≤ bn := Nat.le_trans bd0.size e10
  have YB := (((below_step bd0 J.bl).setCell (p := ⟨bn, 0, none⟩) e10' (.bool tn.s)).setCell (p := ⟨bn, 1, none⟩) e10' (.slice tn.a1 tn.n1 tn.c1)).setCell (p := ⟨bn, 2, none⟩) e10' (.slice tn.a2 tn.n2 tn.c2)
  have HG_bn := hide e10'
  have hCn : (fun w' : World => w'.cell? ⟨b_l, 0, none⟩ = some (.bool tl.s) ∧ w'.cell? ⟨b_l, 1, none⟩ = some (.slice tl.a1 tl.n1 tl.c1) ∧ w'.cell? ⟨b_l, 2, none⟩ = some (.slice tl.a2 tl.n2 tl.c2)) _ := unhide HCC1 _ YB
  obtain ⟨Wbn, hWy⟩ : ∃ W, ((wv.setCell ⟨bn, 0, none⟩ (.bool tn.s)).setCell ⟨bn, 1, none⟩ (.slice tn.a1 tn.n1 tn.c1)).setCell ⟨bn, 2, none⟩ (.slice tn.a2 tn.n2 tn.c2) = W := ⟨_, rfl⟩
  rw [hWy] at NB YB hCn
  have HX_bn := hide NB
  have HY_bn := hide YB
  clear J B10 r0 hC0 YB NB e10'
  refine wpHold_one (k := 4) (by kernel_rfl) rfl (fun K hK => ?_)
  (try simp only [List.getElem_toArray, List.getElem_cons_succ, List.getElem_cons_zero])
  go_simp
  refine hK.out _ _ hCn ?_
  clear hK K
  (try simp only [Act.put, List.setIfInBounds_toArray, List.set_cons_zero, List.set_cons_succ])
  refine wpHold_done (by kernel_rfl) ?_ _
  clear hCn l0 l1 l2 k0 k1 k2 hWy e10 bd0 hWx
  have HCC2 : Hid (∀ W, Below Wbn.heap.size Wbn W → (fun w' : World => (w'.cell? ⟨b_f, 0, none⟩ = some (.bool tf.s) ∧ w'.cell? ⟨b_f, 1, none⟩ = some (.slice tf.a1 tf.n1 tf.c1) ∧ w'.cell? ⟨b_f, 2, none⟩ = some (.slice tf.a2 tf.n2 tf.c2)) ∧ (w'.cell? ⟨bn, 0, none⟩ = some (.bool tn.s) ∧ w'.cell? ⟨bn, 1, none⟩ = some (.slice tn.a1 tn.n1 tn.c1) ∧ w'.cell? ⟨bn, 2, none⟩ = some (.slice tn.a2 tn.n2 tn.c2)) ∧ (w'.cell? ⟨b_p, 0, none⟩ = some (.bool tp.s) ∧ w'.cell? ⟨b_p, 1, none⟩ = some (.slice tp.a1 tp.n1 tp.c1) ∧ w'.cell? ⟨b_p, 2, none⟩ = some (.slice tp.a2 tp.n2 tp.c2)) ∧ (w'.cell? ⟨b_l, 0, none⟩ = some (.bool tl.s) ∧ w'.cell? ⟨b_l, 1, none⟩ = some (.slice tl.a1 tl.n1 tl.c1) ∧ w'.cell? ⟨b_l, 2, none⟩ = some (.slice tl.a2 tl.n2 tl.c2)) ∧ (w'.cell? ⟨b_t, 0, none⟩ = some (.bool tt.s) ∧ w'.cell? ⟨b_t, 1, none⟩ = some (.slice tt.a1 tt.n1 tt.c1) ∧ w'.cell? ⟨b_t, 2, none⟩ = some (.slice tt.a2 tt.n2 tt.c2))) W) := fun W hW => by
   have h2 := below_step (unhide HY_bn) hW
   exact ⟨(unhide HX_f _ h2).cells _ (Below.refl _ _), (unhide HX_bn).cells W hW, (unhide HX_p _ h2).cells _ (Below.refl _ _), (unhide HX_l _ h2).cells _ (Below.refl _ _), (unhide HX_t _ h2).cells _ (Below.refl _ _)⟩
  have HTF := hide (unhide HX_f _ (unhide HY_bn)).2
  have HTP := hide (unhide HX_p _ (unhide HY_bn)).2
  have HTL2 := hide (unhide HX_l _ (unhide HY_bn)).2
  have HTT := hide (unhide HX_t _ (unhide HY_bn)).2
  clear HCC1 HTL HR1
  go_wp2_with fail
  refine wp_region_till (fun w' : World => (w'.cell? ⟨b_f, 0, none⟩ = some (.bool tf.s) ∧ w'.cell? ⟨b_f, 1, none⟩ = some (.slice tf.a1 tf.n1 tf.c1) ∧ w'.cell? ⟨b_f, 2, none⟩ = some (.slice tf.a2 tf.n2 tf.c2)) ∧ (w'.cell? ⟨bn, 0, none⟩ = some (.bool tn.s) ∧ w'.cell? ⟨bn, 1, none⟩ = some (.slice tn.a1 tn.n1 tn.c1) ∧ w'.cell? ⟨bn, 2, none⟩ = some (.slice tn.a2 tn.n2 tn.c2)) ∧ (w'.cell? ⟨b_p, 0, none⟩ = some (.bool tp.s) ∧ w'.cell? ⟨b_p, 1, none⟩ = some (.slice tp.a1 tp.n1 tp.c1) ∧ w'.cell? ⟨b_p, 2, none⟩ = some (.slice tp.a2 tp.n2 tp.c2)) ∧ (w'.cell? ⟨b_l, 0, none⟩ = some (.bool tl.s) ∧ w'.cell? ⟨b_l, 1, none⟩ = some (.slice tl.a1 tl.n1 tl.c1) ∧ w'.cell? ⟨b_l, 2, none⟩ = some (.slice tl.a2 tl.n2 tl.c2)) ∧ (w'.cell? ⟨b_t, 0, none⟩ = some (.bool tt.s) ∧ w'.cell? ⟨b_t, 1, none⟩ = some (.slice tt.a1 tt.n1 tt.c1) ∧ w'.cell? ⟨b_t, 2, none⟩ = some (.slice tt.a2 tt.n2 tt.c2))) 9 (by kernel_rfl) ?_
  have bd0 : Below Wbn.heap.size Wbn Wbn.drew := (Below.refl _ _).drew
  obtain ⟨Wd, hWd⟩ : ∃ W, Wbn.drew = W := ⟨_, rfl⟩
  rw [hWd] at bd0 ⊢
  have hC0 : (fun w' : World => (w'.cell? ⟨b_f, 0, none⟩ = some (.bool tf.s) ∧ w'.cell? ⟨b_f, 1, none⟩ = some (.slice tf.a1 tf.n1 tf.c1) ∧ w'.cell? ⟨b_f, 2, none⟩ = some (.slice tf.a2 tf.n2 tf.c2)) ∧ (w'.cell? ⟨bn, 0, none⟩ = some (.bool tn.s) ∧ w'.cell? ⟨bn, 1, none⟩ = some (.slice tn.a1 tn.n1 tn.c1) ∧ w'.cell? ⟨bn, 2, none⟩ = some (.slice tn.a2 tn.n2 tn.c2)) ∧ (w'.cell? ⟨b_p, 0, none⟩ = some (.bool tp.s) ∧ w'.cell? ⟨b_p, 1, none⟩ = some (.slice tp.a1 tp.n1 tp.c1) ∧ w'.cell? ⟨b_p, 2, none⟩ = some (.slice tp.a2 tp.n2 tp.c2)) ∧ (w'.cell? ⟨b_l, 0, none⟩ = some (.bool tl.s) ∧ w'.cell? ⟨b_l, 1, none⟩ = some (.slice tl.a1 tl.n1 tl.c1) ∧ w'.cell? ⟨b_l, 2, none⟩ = some (.slice tl.a2 tl.n2 tl.c2)) ∧ (w'.cell? ⟨b_t, 0, none⟩ = some (.bool tt.s) ∧ w'.cell? ⟨b_t, 1, none⟩ = some (.slice tt.a1 tt.n1 tt.c1) ∧ w'.cell? ⟨b_t, 2, none⟩ = some (.slice tt.a2 tt.n2 tt.c2))) Wd := unhide HCC2 _ bd0
  refine wpTill_take (i := 0) (v := ?_) rfl (by kernel_rfl) (by kernel_rfl) (by kernel_rfl) (by kernel_rfl) (by kernel_rfl) (by kernel_rfl) (fun _ _ _ h => h) (Or.inl ⟨by rfl, ?_⟩) hC0 ?_
  rotate_left
  ·intro w hSw; (try dsimp only at hSw); obtain ⟨⟨u0, u1, u2⟩, ⟨u3, u4, u5⟩, ⟨u6, u7, u8⟩, ⟨u9, u10, u11⟩, u12, u13, u14⟩ := hSw; go_simp; (try with_reducible rfl)
  (try simp only [List.getElem_toArray, List.getElem_cons_succ, List.getElem_cons_zero])
  (try simp only [Act.put, List.setIfInBounds_toArray, List.set_cons_zero, List.set_cons_succ])
  refine wpTill_take (i := 1) (v := ?_) rfl (by kernel_rfl) (by kernel_rfl) (by kernel_rfl) (by kernel_rfl) (by kernel_rfl) (by kernel_rfl) (fun _ _ _ h => h) (Or.inl ⟨by rfl, ?_⟩) hC0 ?_
  rotate_left
  ·intro w hSw; (try dsimp only at hSw); obtain ⟨⟨u0, u1, u2⟩, ⟨u3, u4, u5⟩, ⟨u6, u7, u8⟩, ⟨u9, u10, u11⟩, u12, u13, u14⟩ := hSw; go_simp; (try with_reducible rfl)
  (try simp only [List.getElem_toArray, List.getElem_cons_succ, List.getElem_cons_zero])
  (try simp only [Act.put, List.setIfInBounds_toArray, List.set_cons_zero, List.set_cons_succ])
  refine wpTill_take (i := 3) (v := ?_) rfl (by kernel_rfl) (by kernel_rfl) (by kernel_rfl) (by kernel_rfl) (by kernel_rfl) (by kernel_rfl) (fun _ _ _ h => h) (Or.inl ⟨by rfl, ?_⟩) hC0 ?_
  rotate_left
  ·intro w hSw; (try dsimp only at hSw); obtain ⟨⟨u0, u1, u2⟩, ⟨u3, u4, u5⟩, ⟨u6, u7, u8⟩, ⟨u9, u10, u11⟩, u12, u13, u14⟩ := hSw; go_simp; (try with_reducible rfl)
  (try simp only [List.getElem_toArray, List.getElem_cons_succ, List.getElem_cons_zero])
  (try simp only [Act.put, List.setIfInBounds_toArray, List.set_cons_zero, List.set_cons_succ])
  refine wpTill_take (i := 4) (v := ?_) rfl (by kernel_rfl) (by kernel_rfl) (by kernel_rfl) (by kernel_rfl) (by kernel_rfl) (by kernel_rfl) (fun _ _ _ h => h) (Or.inl ⟨by rfl, ?_⟩) hC0 ?_
  rotate_left
  ·intro w hSw; (try dsimp only at hSw); obtain ⟨⟨u0, u1, u2⟩, ⟨u3, u4, u5⟩, ⟨u6, u7, u8⟩, ⟨u9, u10, u11⟩, u12, u13, u14⟩ := hSw; go_simp; (try with_reducible rfl)
  (try simp only [List.getElem_toArray, List.getElem_cons_succ, List.getElem_cons_zero])
  (try simp only [Act.put, List.setIfInBounds_toArray, List.set_cons_zero, List.set_cons_succ])
  refine wpTill_take (i := 7) (v := ?_) rfl (by kernel_rfl) (by kernel_rfl) (by kernel_rfl) (by kernel_rfl) (by kernel_rfl) (by kernel_rfl) (fun _ _ _ h => h) (Or.inl ⟨by rfl, ?_⟩) hC0 ?_
  rotate_left
  ·intro w hSw; (try dsimp only at hSw); obtain ⟨⟨u0, u1, u2⟩, ⟨u3, u4, u5⟩, ⟨u6, u7, u8⟩, ⟨u9, u10, u11⟩, u12, u13, u14⟩ := hSw; go_simp; (try with_reducible rfl)
  (try simp only [List.getElem_toArray, List.getElem_cons_succ, List.getElem_cons_zero])
  (try simp only [Act.put, List.setIfInBounds_toArray, List.set_cons_zero, List.set_cons_succ])
  refine wpTill_one (k := 2) (by kernel_rfl) rfl (fun K hK => ?_)
  (try simp only [List.getElem_toArray, List.getElem_cons_succ, List.getElem_cons_zero])
  go_simp
  refine (mulR_any tf.val tn.val _ _ _ ((unhide HTF).below bd0) ((unhide HX_bn).2.below bd0) JJ (unhide HRF) (unhide HRN) (unhide HJ)).mono ?_
  rintro e xw_1 ⟨xv_1, rfl, hv_1, hb_1⟩
  have cc_1 := below_step bd0 hb_1
  have hC_1 : (fun w' : World => (w'.cell? ⟨b_f, 0, none⟩ = some (.bool tf.s) ∧ w'.cell? ⟨b_f, 1, none⟩ = some (.slice tf.a1 tf.n1 tf.c1) ∧ w'.cell? ⟨b_f, 2, none⟩ = some (.slice tf.a2 tf.n2 tf.c2)) ∧ (w'.cell? ⟨bn, 0, none⟩ = some (.bool tn.s) ∧ w'.cell? ⟨bn, 1, none⟩ = some (.slice tn.a1 tn.n1 tn.c1) ∧ w'.cell? ⟨bn, 2, none⟩ = some (.slice tn.a2 tn.n2 tn.c2)) ∧ (w'.cell? ⟨b_p, 0, none⟩ = some (.bool tp.s) ∧ w'.cell? ⟨b_p, 1, none⟩ = some (.slice tp.a1 tp.n1 tp.c1) ∧ w'.cell? ⟨b_p, 2, none⟩ = some (.slice tp.a2 tp.n2 tp.c2)) ∧ (w'.cell? ⟨b_l, 0, none⟩ = some (.bool tl.s) ∧ w'.cell? ⟨b_l, 1, none⟩ = some (.slice tl.a1 tl.n1 tl.c1) ∧ w'.cell? ⟨b_l, 2, none⟩ = some (.slice tl.a2 tl.n2 tl.c2)) ∧ (w'.cell? ⟨b_t, 0, none⟩ = some (.bool tt.s) ∧ w'.cell? ⟨b_t, 1, none⟩ = some (.slice tt.a1 tt.n1 tt.c1) ∧ w'.cell? ⟨b_t, 2, none⟩ = some (.slice tt.a2 tt.n2 tt.c2))) xw_1 := unhide HCC2 _ cc_1
  refine hK.out _ _ (fun _ => hC_1) ?_
  clear hK K
  (try simp only [Act.put, List.setIfInBounds_toArray, List.set_cons_zero, List.set_cons_succ])
  refine wpTill_one (k := 5) (by kernel_rfl) rfl (fun K hK => ?_)
  (try simp only [List.getElem_toArray, List.getElem_cons_succ, List.getElem_cons_zero])
  go_simp
  refine (mulR_any tp.val tl.val _ _ _ ((unhide HTP).below cc_1) ((unhide HTL2).below cc_1) JJ (unhide HRP) (unhide HRL) (unhide HJ)).mono ?_
  rintro e xw_2 ⟨xv_2, rfl, hv_2, hb_2⟩
  have cc_2 := below_step cc_1 hb_2
  have hC_2 : (fun w' : World => (w'.cell? ⟨b_f, 0, none⟩ = some (.bool tf.s) ∧ w'.cell? ⟨b_f, 1, none⟩ = some (.slice tf.a1 tf.n1 tf.c1) ∧ w'.cell? ⟨b_f, 2, none⟩ = some (.slice tf.a2 tf.n2 tf.c2)) ∧ (w'.cell? ⟨bn, 0, none⟩ = some (.bool tn.s) ∧ w'.cell? ⟨bn, 1, none⟩ = some (.slice tn.a1 tn.n1 tn.c1) ∧ w'.cell? ⟨bn, 2, none⟩ = some (.slice tn.a2 tn.n2 tn.c2)) ∧ (w'.cell? ⟨b_p, 0, none⟩ = some (.bool tp.s) ∧ w'.cell? ⟨b_p, 1, none⟩ = some (.slice tp.a1 tp.n1 tp.c1) ∧ w'.cell? ⟨b_p, 2, none⟩ = some (.slice tp.a2 tp.n2 tp.c2)) ∧ (w'.cell? ⟨b_l, 0, none⟩ = some (.bool tl.s) ∧ w'.cell? ⟨b_l, 1, none⟩ = some (.slice tl.a1 tl.n1 tl.c1) ∧ w'.cell? ⟨b_l, 2, none⟩ = some (.slice tl.a2 tl.n2 tl.c2)) ∧ (w'.cell? ⟨b_t, 0, none⟩ = some (.bool tt.s) ∧ w'.cell? ⟨b_t, 1, none⟩ = some (.slice tt.a1 tt.n1 tt.c1) ∧ w'.cell? ⟨b_t, 2, none⟩ = some (.slice tt.a2 tt.n2 tt.c2))) xw_2 := unhide HCC2 _ cc_2
  refine hK.out _ _ (fun _ => hC_2) ?_
  clear hK K
  (try simp only [Act.put, List.setIfInBounds_toArray, List.set_cons_zero, List.set_cons_succ])
  refine wpTill_one (k := 6) (by kernel_rfl) rfl (fun K hK => ?_)
  (try simp only [List.getElem_toArray, List.getElem_cons_succ, List.getElem_cons_zero])
  go_simp
  refine (addR_any _ _ _ _ _ (hv_1.below hb_2) hv_2 JJ (unhide HRA) (unhide HRB) (unhide HJ)).mono ?_
  rintro e xw_3 ⟨xv_3, rfl, hv_3, hb_3⟩
  have cc_3 := below_step cc_2 hb_3
  have hC_3 : (fun w' : World => (w'.cell? ⟨b_f, 0, none⟩ = some (.bool tf.s) ∧ w'.cell? ⟨b_f, 1, none⟩ = some (.slice tf.a1 tf.n1 tf.c1) ∧ w'.cell? ⟨b_f, 2, none⟩ = some (.slice tf.a2 tf.n2 tf.c2)) ∧ (w'.cell? ⟨bn, 0, none⟩ = some (.bool tn.s) ∧ w'.cell? ⟨bn, 1, none⟩ = some (.slice tn.a1 tn.n1 tn.c1) ∧ w'.cell? ⟨bn, 2, none⟩ = some (.slice tn.a2 tn.n2 tn.c2)) ∧ (w'.cell? ⟨b_p, 0, none⟩ = some (.bool tp.s) ∧ w'.cell? ⟨b_p, 1, none⟩ = some (.slice tp.a1 tp.n1 tp.c1) ∧ w'.cell? ⟨b_p, 2, none⟩ = some (.slice tp.a2 tp.n2 tp.c2)) ∧ (w'.cell? ⟨b_l, 0, none⟩ = some (.bool tl.s) ∧ w'.cell? ⟨b_l, 1, none⟩ = some (.slice tl.a1 tl.n1 tl.c1) ∧ w'.cell? ⟨b_l, 2, none⟩ = some (.slice tl.a2 tl.n2 tl.c2)) ∧ (w'.cell? ⟨b_t, 0, none⟩ = some (.bool tt.s) ∧ w'.cell? ⟨b_t, 1, none⟩ = some (.slice tt.a1 tt.n1 tt.c1) ∧ w'.cell? ⟨b_t, 2, none⟩ = some (.slice tt.a2 tt.n2 tt.c2))) xw_3 := unhide HCC2 _ cc_3
  refine hK.out _ _ (fun _ => hC_3) ?_
  clear hK K
  (try simp only [Act.put, List.setIfInBounds_toArray, List.set_cons_zero, List.set_cons_succ])
  refine wpTill_one (k := 8) (by kernel_rfl) rfl (fun K hK => ?_)
  (try simp only [List.getElem_toArray, List.getElem_cons_succ, List.getElem_cons_zero])
  go_simp
  refine (rdivided_any _ tt.val _ _ _ hv_3 ((unhide HTT).below cc_3) JJ (unhide HRC) (unhide HRT) (unhide HJ) (unhide HNZ)).mono ?_
  rintro e xw_4 ⟨xv_4, rfl, hv_4, hb_4⟩
  have cc_4 := below_step cc_3 hb_4
  have hC_4 : (fun w' : World => (w'.cell? ⟨b_f, 0, none⟩ = some (.bool tf.s) ∧ w'.cell? ⟨b_f, 1, none⟩ = some (.slice tf.a1 tf.n1 tf.c1) ∧ w'.cell? ⟨b_f, 2, none⟩ = some (.slice tf.a2 tf.n2 tf.c2)) ∧ (w'.cell? ⟨bn, 0, none⟩ = some (.bool tn.s) ∧ w'.cell? ⟨bn, 1, none⟩ = some (.slice tn.a1 tn.n1 tn.c1) ∧ w'.cell? ⟨bn, 2, none⟩ = some (.slice tn.a2 tn.n2 tn.c2)) ∧ (w'.cell? ⟨b_p, 0, none⟩ = some (.bool tp.s) ∧ w'.cell? ⟨b_p, 1, none⟩ = some (.slice tp.a1 tp.n1 tp.c1) ∧ w'.cell? ⟨b_p, 2, none⟩ = some (.slice tp.a2 tp.n2 tp.c2)) ∧ (w'.cell? ⟨b_l, 0, none⟩ = some (.bool tl.s) ∧ w'.cell? ⟨b_l, 1, none⟩ = some (.slice tl.a1 tl.n1 tl.c1) ∧ w'.cell? ⟨b_l, 2, none⟩ = some (.slice tl.a2 tl.n2 tl.c2)) ∧ (w'.cell? ⟨b_t, 0, none⟩ = some (.bool tt.s) ∧ w'.cell? ⟨b_t, 1, none⟩ = some (.slice tt.a1 tt.n1 tt.c1) ∧ w'.cell? ⟨b_t, 2, none⟩ = some (.slice tt.a2 tt.n2 tt.c2))) xw_4 := unhide HCC2 _ cc_4
  refine hK.out _ _ (fun _ => hC_4) ?_
  clear hK K
  (try simp only [Act.put, List.setIfInBounds_toArray, List.set_cons_zero, List.set_cons_succ])
  obtain ⟨t5, rfl, r5⟩ := tri_of hv_4
  simp only [Tri.val]
  have Y := unhide HX_R _ (below_step (unhide HY_bn) cc_4)
  have ⟨l0, l1, l2⟩ := Y.free
  have ⟨y0, y1, y2⟩ := Y.cells _ (Below.refl _ _)
  have FIN := Y.set r5
  have FB := (((unhide HBW _ (below_step (unhide HY_bn) cc_4)).setCell (p := ⟨b_R, 0, none⟩) (unhide HG_R) (.bool t5.s)).setCell (p := ⟨b_R, 1, none⟩) (unhide HG_R) (.slice t5.a1 t5.n1 t5.c1)).setCell (p := ⟨b_R, 2, none⟩) (unhide HG_R) (.slice t5.a2 t5.n2 t5.c2)
  obtain ⟨Wf, hWf⟩ : ∃ W, ((xw_4.setCell ⟨b_R, 0, none⟩ (.bool t5.s)).setCell ⟨b_R, 1, none⟩ (.slice t5.a1 t5.n1 t5.c1)).setCell ⟨b_R, 2, none⟩ (.slice t5.a2 t5.n2 t5.c2) = W := ⟨_, rfl⟩
  rw [hWf] at FIN FB
  have HFIN := hide FIN
  have HFB := hide FB
  clear Y FIN FB
  refine wpTill_one (k := 9) (by kernel_rfl) rfl (fun K hK => ?_)
  (try simp only [List.getElem_toArray, List.getElem_cons_succ, List.getElem_cons_zero])
  go_simp
  refine hK.out _ _ (fun h => absurd (h.symm.trans (by kernel_rfl)) Bool.false_ne_true) ?_
  clear hK K
  (try simp only [Act.put, List.setIfInBounds_toArray, List.set_cons_zero, List.set_cons_succ])
  refine wpTill_done (by kernel_rfl) ?_ _
  have ⟨x0, x1, x2⟩ := (unhide HFIN).cells _ (Below.refl _ _)
  go_wp2
  (try simp only [Exit.inBlock, Exit.then])
  exact bodyPost_ret (v := .agg #[.bool t5.s, .slice t5.a1 t5.n1 t5.c1, .slice t5.a2 t5.n2 t5.c2]) (by simp [results, Tryz.results82, go_sem, x0, x1, x2]) rfl ⟨_, rfl, (unhide HFIN).2, unhide HFB⟩

end Go.Proofs.YtcelbgleajpenaaGreatDoor
