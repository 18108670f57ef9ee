/- Renewals: Cost, Age. -/
import Derived.Test.YtcelbgleajpenaaGreatDoorRZ4z
namespace Go.Proofs.YtcelbgleajpenaaGreatDoor
open Go.RowKit Go.Sort Go.Shelf

theorem chain_one_any {P : Program} {ops : Array Oper} {Q : Exit → Act → World → Prop} {C : World → Prop} {md : Region.Mode} (N : Nat) (mk : Nat → Bool → Array Bool) (ic : Nat → Nat) (ia m : Nat) (I : Nat → Bool → Act → World → Prop)
  (hr : ∀ c l, c ≤ N → (Region.ready md ops (mk c l)).all (fun i => (i == ic c && decide (c < N)) || (i == ia && !l) || (c == N && l)) = true)
  (hne : ∀ c l, c ≤ N → (c == N && l) = false → (Region.ready md ops (mk c l)).isEmpty = false)
  (h1 : ∀ c l, c < N → (mk c l).setIfInBounds (ic c) true = mk (c + 1) l) (ha : ∀ c, (mk c false).setIfInBounds ia true = mk c true)
  (s1 : ∀ c l a w, c < N → I c l a w → wpOp P ops Q (ic c) (fun a' w' => C w' ∧ I (c + 1) l a' w') a w)
  (sa : ∀ c a w, I c false a w → wpOp P ops Q ia (fun a' w' => C w' ∧ I c true a' w') a w)
  (fin : ∀ a w, I N true a w → wpHold P md ops Q C m (mk N true) a w) :
  ∀ n c l, c ≤ N → (N - c) + (1 - l.toNat) = n → ∀ a w, I c l a w → wpHold P md ops Q C (n + m) (mk c l) a w := by
 intro n
 induction n with
 | zero =>
  intro c l hc hn a w h
  obtain rfl : c = N := by omega
  cases l <;> simp at hn
  rw [Nat.zero_add]
  exact fin a w h
 | succ n ih =>
  intro c l hc hn a w h
  have hall := hr c l hc
  have hend : (c == N && l) = false := by
   cases l <;> simp at hn ⊢
   omega
  have hnn := hne c l hc hend
  rw [Nat.succ_add]
  refine ⟨fun e => (by rw [e] at hnn; cases hnn), fun i hi => ?_⟩
  have hk := List.all_eq_true.1 hall i hi
  rw [hend] at hk
  simp only [Bool.or_eq_true, Bool.and_eq_true, beq_iff_eq, Bool.not_eq_true', Bool.or_false, decide_eq_true_eq] at hk
  rcases hk with ⟨rfl, hlt⟩ | ⟨rfl, rfl⟩
  ·exact wpOp_mono (fun a' w' h' => ⟨h'.1, by rw [h1 c l hlt]; exact ih (c + 1) l (by omega) (by omega) a' w' h'.2⟩) (s1 c l a w hlt h)
  ·exact wpOp_mono (fun a' w' h' => ⟨h'.1, by rw [ha]; exact ih c true hc (by simp at hn ⊢; omega) a' w' h'.2⟩) (sa c a w h)
structure OneJ (q1 : Rat) (w0 : World) (c : Nat) (l : Bool) (w : World) (s1 s3 : Value) : Prop where
 bl : Below w0.heap.size w0 w
 r1 : 1 ≤ c → RatIs w s1 q1
 al : l = true → ∃ b, s3 = .pointer (some ⟨b, 0, none⟩) ∧ BoxIs w b zTri 0 ∧ w0.heap.size ≤ b
theorem cst_is (qf qp : Rat) (x : Nat → Rat) (k : Nat) : (qf * (((1 : Int) : Rat) - Rnw.sv x k) + qp * Rnw.sv x k) / Bth.ps (Rnw.sv x) k = Rnw.cst qf qp x k := by
 unfold Rnw.cst
 rw [show ((1 : Int) : Rat) = 1 by simp]
theorem rcc_zero {qs : List Rat} {f p : Rat} (h : rcc qs f p = 0) : rnc qs = 0 ∧ 0 ≤ f ∧ 0 ≤ p := by
 unfold rcc at h
 by_cases hc : rnc qs = 0
 ·rw [if_pos hc] at h
  by_cases hn : f.num < 0 ∨ p.num < 0
  ·rw [if_pos hn] at h; exact absurd h (by decide)
  ·exact ⟨hc, Rat.num_nonneg.1 (by omega), Rat.num_nonneg.1 (by omega)⟩
 ·rw [if_neg hc] at h; exact absurd h hc
structure SvRS (x : Nat → Rat) (J : Nat) : Prop where
 sv : ∀ k, RS (Rnw.sv x k) J
 ps : ∀ k, k ≤ 101 → RS (Bth.ps (Rnw.sv x) k) J
theorem svRS_of {qs : List Rat} {J JS : Nat} (h : ∀ j, j < qs.length → RS qs[j]! J) (hl : qs.length ≤ 101) (hJ : 102 * (101 * (J + 1) + 5) ≤ JS) : SvRS (xq qs) JS := by
 have m1 := Nat.mul_le_mul_right (J + 1) hl
 have s1 := fun i => (sv_RS h rfl i).mono (show qs.length * (J + 1) + 3 ≤ 101 * (J + 1) + 3 by omega)
 refine ⟨fun k => (s1 k).mono (by omega), fun k hk => ?_⟩
 have m2 := Nat.mul_le_mul_right (101 * (J + 1) + 3 + 1) hk
 exact (psf_RS s1 k).mono (by omega)

def lowv (f : Nat → Rat) (i : Nat) : Rat := if Rnw.bst f i = 0 then 0 else f (Rnw.bst f i)
set_option maxHeartbeats 16000000 in
set_option maxRecDepth 100000 in
set_option linter.unusedSimpArgs false in
theorem age_ok (v vf vp : Value) (qs : List Rat) (qf qp : Rat) (J JS JJ : Nat) (w : World) (h : LawIs w v qs) (hf0 : RatIs w vf qf) (hp0 : RatIs w vp qp) (hq : ∀ j, j < qs.length → RS qs[j]! J) (rf : RS qf JS) (rp : RS qp JS) (hk : rcc qs qf qp = 0) (hJS : 102 * (101 * (J + 1) + 5) + J ≤ JS) (hJJ : 4 * JS + 8 ≤ JJ) (hJ : JJ + JJ + 1 ≤ KK) :
  Calls Tryz.prog 36 #[v, vf, vp] w fun e w' => ∃ u, e = .returned (.tuple #[.int .i64 (Rnw.bst (Rnw.cst qf qp (xq qs)) (gst qs) : Int), u, .nilIface]) ∧ RatIs w' u (Rnw.cst qf qp (xq qs) (Rnw.bst (Rnw.cst qf qp (xq qs)) (gst qs))) ∧ Below w.heap.size w w' := by
 obtain ⟨hk1, hf00, hp00⟩ := rcc_zero hk
 obtain ⟨hA, ht, hl1, hl2⟩ := rnc_age hk1
 have hg1 := hA.g1
 have m1 := Nat.mul_le_mul_right (J + 1) hl2
 obtain ⟨tf, rfl, hf⟩ := tri_of hf0
 obtain ⟨tp, rfl, hp⟩ := tri_of hp0
 simp only [Tri.val]
 have bb_1 := alloc_below w (.cells #[.bool tf.s, .slice tf.a1 tf.n1 tf.c1, .slice tf.a2 tf.n2 tf.c2] 37)
 have X_1 := BoxIs.new (hf)
 obtain ⟨W_1, hW_1⟩ : ∃ W, w.alloc (.cells #[.bool tf.s, .slice tf.a1 tf.n1 tf.c1, .slice tf.a2 tf.n2 tf.c2] 37) = W := ⟨_, rfl⟩
 obtain ⟨b_f, hb_f⟩ : ∃ b, w.heap.size = b := ⟨_, rfl⟩
 rw [hW_1] at bb_1 X_1
 rw [hb_f] at X_1
 have X_1_ := X_1
 have tb_1 := bb_1
 have hg_f : w.heap.size ≤ b_f := by rw [← hb_f]; exact Nat.le_refl _
 have HG_f := hide hg_f
 have bb_2 := alloc_below W_1 (.cells #[.bool tp.s, .slice tp.a1 tp.n1 tp.c1, .slice tp.a2 tp.n2 tp.c2] 37)
 have X_2 := BoxIs.new (hp.below tb_1)
 obtain ⟨W_2, hW_2⟩ : ∃ W, W_1.alloc (.cells #[.bool tp.s, .slice tp.a1 tp.n1 tp.c1, .slice tp.a2 tp.n2 tp.c2] 37) = W := ⟨_, rfl⟩
 obtain ⟨b_p, hb_p⟩ : ∃ b, W_1.heap.size = b := ⟨_, rfl⟩
 rw [hW_2] at bb_2 X_2
 rw [hb_p] at X_2
 have X_2_ := X_2
 have tb_2 := below_step tb_1 bb_2
 have hg_p : w.heap.size ≤ b_p := by rw [← hb_p]; exact tb_1.size
 have HG_p := hide hg_p
 have bb_3 := alloc_below W_2 (.cells #[.bool false, .slice none 0 0, .slice none 0 0] 37)
 have X_3 := BoxIs.new (w := W_2) (t := zTri) (q := 0) (rat_zero _)
 obtain ⟨W_3, hW_3⟩ : ∃ W, W_2.alloc (.cells #[.bool false, .slice none 0 0, .slice none 0 0] 37) = W := ⟨_, rfl⟩
 obtain ⟨b_R, hb_R⟩ : ∃ b, W_2.heap.size = b := ⟨_, rfl⟩
 have X_3_ : BoxIs W_3 b_R zTri 0 := by rw [← hW_3, ← hb_R]; exact X_3
 rw [hW_3] at bb_3
 have tb_3 := below_step tb_2 bb_3
 have hg_R : w.heap.size ≤ b_R := by rw [← hb_R]; exact tb_2.size
 have HG_R := hide hg_R
 have HX_f := hide (fun W (hW : Below W_3.heap.size W_3 W) => ((X_1_.keep bb_2).keep bb_3).keep hW)
 have HX_p := hide (fun W (hW : Below W_3.heap.size W_3 W) => (X_2_.keep bb_3).keep hW)
 have HX_R := hide (fun W (hW : Below W_3.heap.size W_3 W) => X_3_.keep hW)
 have HBW := hide (fun W (hW : Below W_3.heap.size W_3 W) => below_step tb_3 hW)
 have HB0 := hide tb_3
 clear bb_1 X_1 X_1_ tb_1 bb_2 X_2 X_2_ tb_2 bb_3 X_3 X_3_ tb_3 hg_f hg_p hg_R
 have HC := hide (rcosts_any v tf.val tp.val qs qf qp J W_3 (h.below (unhide HB0)) (unhide HX_f _ (Below.refl _ _)).2 (unhide HX_p _ (Below.refl _ _)).2 hq (by omega))
 rw [hk, errV_zero] at HC
 simp only [Tri.val] at HC
 have HH := hide h
 have HQ := hide hq
 have HGR : Hid (∀ W, Below w.heap.size w W → Calls Tryz.prog 78 #[v] W fun e w' => e = .returned (.int .i64 (gst qs : Int)) ∧ Below W.heap.size W w') := fun W hW => greatest_any v qs W ((unhide HH).below hW) (by omega) (by omega)
 obtain ⟨N, hN⟩ : ∃ N, gst qs + 1 = N := ⟨_, rfl⟩
 have HLG : Hid (∀ W, Below w.heap.size w W → Calls Tryz.prog 77 #[v, .int .i64 (gst qs : Int)] W (DivPostz W (row (Rnw.sv (xq qs)) N) N)) := fun W hW => longer_any v qs J JJ (gst qs) N W ((unhide HH).below hW) (unhide HQ) hN (by omega) (by omega) (by omega)
 have hSR := svRS_of hq hl2 (show 102 * (101 * (J + 1) + 5) ≤ JS by omega)
 have HSV : Hid (∀ k, RS (Rnw.sv (xq qs) k) JS) := hSR.sv
 have HPS : Hid (∀ k, k ≤ 101 → RS (Bth.ps (Rnw.sv (xq qs)) k) JS) := hSR.ps
 have HNZ : Hid (∀ k, 1 ≤ k → (Bth.ps (Rnw.sv (xq qs)) k).num ≠ 0) := fun k h1 e => hA.ne h1 (Rat.num_eq_zero.1 e)
 have HRF := hide rf
 have HRP := hide rp
 have HJJ := hide hJJ
 have HJ := hide hJ
 have HCR : Hid (∀ k, 1 ≤ k → k ≤ 101 → RS (Rnw.cst qf qp (xq qs) k) (6 * JS + 8)) := fun k h1 h2 => by
  unfold Rnw.cst
  have e := one_RS'.sub' (hSR.sv k)
  exact ((((rf.mul e).add (rp.mul (hSR.sv k))).div' (hSR.ps k h2) (fun e => hA.ne h1 (Rat.num_eq_zero.1 e))).mono (by omega))
 have HKK : Hid (6 * JS + 8 ≤ KK) := show _ ≤ _ by omega
 obtain ⟨x, hx⟩ : ∃ x, xq qs = x := ⟨_, rfl⟩
 rw [hx] at HLG HSV HPS HNZ HCR ⊢
 have HCS : Hid (∀ k, (qf * (((1 : Int) : Rat) - Rnw.sv x k) + qp * Rnw.sv x k) / Bth.ps (Rnw.sv x) k = Rnw.cst qf qp x k) := cst_is qf qp x
 obtain ⟨f, hf_⟩ : ∃ f, Rnw.cst qf qp x = f := ⟨_, rfl⟩
 rw [hf_] at HCS HCR ⊢
 obtain ⟨n, hn⟩ : ∃ n, gst qs = n := ⟨_, rfl⟩
 rw [hn] at HGR HLG hN hg1 ht hl1 ⊢
 have hn100 : n ≤ 100 := by omega
 have h' := h
 obtain ⟨a, c, rfl, -⟩ := h'
 clear h hq hk hk1 hf00 hp00 hJS hJJ hJ hA ht hl1 hl2 m1 hx hf_ hn HH HQ hf hp hf0 hp0 rf rp hSR
 generalize qs.length = nq at *
 have ⟨c0, c1, c2⟩ := (unhide HX_f _ (Below.refl _ _)).cells _ (Below.refl _ _)
 have ⟨d0, d1, d2⟩ := (unhide HX_p _ (Below.refl _ _)).cells _ (Below.refl _ _)
 go_enter Tryz.func36, Tryz.ntmps36
 go_wp2_with fail
 clear hW_1 hb_f hW_2 hb_p hW_3 hb_R c0 c1 c2 d0 d1 d2
 refine (unhide HC).mono ?_
 rintro e w1 ⟨rfl, hb1⟩
 have HB1 := hide hb1
 clear hb1 HC
 go_wp2_with fail
 refine (unhide HGR w1 (unhide HBW _ (unhide HB1))).mono ?_
 rintro e w2 ⟨rfl, hb2⟩
 have HB2 := hide (below_step (unhide HB1) hb2)
 clear hb2 HB1 HGR
 go_wp2_with fail
 refine (unhide HLG w2 (unhide HBW _ (unhide HB2))).mono ?_
 rintro e w3 ⟨GO, us, rfl, hul, hgl, S⟩
 have HW3 := hide (below_step (unhide HB2) S.bl)
 have HSC : Hid (∀ j, j < N → ∃ t : Tri, (w3.cell? ⟨GO, j * 3, none⟩ = some (.bool t.s) ∧ w3.cell? ⟨GO, j * 3 + 1, none⟩ = some (.slice t.a1 t.n1 t.c1) ∧ w3.cell? ⟨GO, j * 3 + 2, none⟩ = some (.slice t.a2 t.n2 t.c2)) ∧ RatIs w3 t.val (Rnw.sv x j)) := fun j hj => by
  have ⟨q, _⟩ := S.cells j (by omega)
  have r := S.rat j (by omega)
  rw [row_get hj] at r
  exact ⟨_, q, r⟩
 have HGl : Hid (GO < w3.heap.size) := (Array.getElem?_eq_some_iff.1 S.row).1
 clear S hul hgl HLG HB2
 have bA := alloc_below w3 (.cells #[.bool false, .slice none 0 0, .slice none 0 0] 37)
 have XA := BoxIs.new (w := w3) (t := zTri) (q := 0) (rat_zero _)
 obtain ⟨W5, hW5⟩ : ∃ W, w3.alloc (.cells #[.bool false, .slice none 0 0, .slice none 0 0] 37) = W := ⟨_, rfl⟩
 obtain ⟨bL, hbL⟩ : ∃ b, w3.heap.size = b := ⟨_, rfl⟩
 have XA' : BoxIs W5 bL zTri 0 := by rw [← hW5, ← hbL]; exact XA
 rw [hW5] at bA
 have HGL : Hid (w3.heap.size ≤ bL) := show _ ≤ _ by omega
 have ⟨l0, l1, l2⟩ := XA'.free
 have ⟨y0, y1, y2⟩ := XA'.cells _ (Below.refl _ _)
 have y0 : W5.cell? ⟨bL, 0, none⟩ = some (.bool false) := y0
 have y1 : W5.cell? ⟨bL, 1, none⟩ = some (.slice none 0 0) := y1
 have y2 : W5.cell? ⟨bL, 2, none⟩ = some (.slice none 0 0) := y2
 have XS : BoxIs (((W5.setCell ⟨bL, 0, none⟩ (.bool false)).setCell ⟨bL, 1, none⟩ (.slice none 0 0)).setCell ⟨bL, 2, none⟩ (.slice none 0 0)) bL zTri 0 := XA'.set (t' := zTri) (rat_zero _)
 have bS : Below w3.heap.size w3 (((W5.setCell ⟨bL, 0, none⟩ (.bool false)).setCell ⟨bL, 1, none⟩ (.slice none 0 0)).setCell ⟨bL, 2, none⟩ (.slice none 0 0)) := ((bA.setCell (p := ⟨bL, 0, none⟩) (unhide HGL) _).setCell (p := ⟨bL, 1, none⟩) (unhide HGL) _).setCell (p := ⟨bL, 2, none⟩) (unhide HGL) _
 obtain ⟨Ws, hWs⟩ : ∃ W, ((W5.setCell ⟨bL, 0, none⟩ (.bool false)).setCell ⟨bL, 1, none⟩ (.slice none 0 0)).setCell ⟨bL, 2, none⟩ (.slice none 0 0) = W := ⟨_, rfl⟩
 rw [hWs] at XS bS
 have bB := alloc_below Ws (.cells #[.bool false, .slice none 0 0, .slice none 0 0] 37)
 have XB := BoxIs.new (w := Ws) (t := zTri) (q := 0) (rat_zero _)
 obtain ⟨W6, hW6⟩ : ∃ W, Ws.alloc (.cells #[.bool false, .slice none 0 0, .slice none 0 0] 37) = W := ⟨_, rfl⟩
 obtain ⟨bT, hbT⟩ : ∃ b, Ws.heap.size = b := ⟨_, rfl⟩
 have XB' : BoxIs W6 bT zTri 0 := by rw [← hW6, ← hbT]; exact XB
 rw [hW6] at bB
 have HXA := hide (XS.keep bB)
 have HXB := hide XB'
 have HGT : Hid (w3.heap.size ≤ bT) := show _ ≤ _ by rw [← hbT]; exact bS.size
 have HNE : Hid (bL ≠ bT) := fun e => by have := XS.lt; omega
 have HBA := hide (below_step bS bB)
 clear bA XA XA' XS bS bB XB XB'
 go_wp2_with fail
 clear hW5 hbL hWs hW6 hbT l0 l1 l2 y0 y1 y2
 go_loopw [12, 33] (fun vb vi wr => ∃ (i : Nat) (tL tT : Tri), vb = .int .i64 (Rnw.bst f i : Int) ∧ vi = .int .i64 (i : Int) ∧ i ≤ n ∧ Below w3.heap.size w3 wr ∧ BoxIs wr bL tL (lowv f i) ∧ BoxIs wr bT tT (Bth.ps (Rnw.sv x) i)) (fun _ vi _ => n - (intOf vi).toNat)
 case atStart => exact ⟨0, zTri, zTri, rfl, rfl, Nat.zero_le _, unhide HBA, unhide HXA, unhide HXB⟩
 case round =>
  obtain ⟨i, tL, tT, rfl, rfl, hi, hbr, hXL, hXT⟩ := hrel
  clear HXA HXB HBA
  have HBR := hide hbr
  by_cases hlt : i < n
  ·have j1 : (i : Int) < (n : Int) := by omega
   have j0 : (0 : Int) ≤ (i : Int) := by omega
   obtain ⟨k, hk⟩ : ∃ k, i + 1 = k := ⟨_, rfl⟩
   have HK := hide hk
   have jk : (i : Int) + 1 = (k : Int) := by omega
   have j2 : (i : Int) < (N : Int) := by omega
   have j3 : (k : Int) < (N : Int) := by omega
   have j4 : (0 : Int) ≤ (k : Int) := by omega
   obtain ⟨ta, ⟨p0, p1, p2⟩, ra⟩ := unhide HSC i (by omega)
   obtain ⟨tb, ⟨q0, q1, q2⟩, rb⟩ := unhide HSC k (by omega)
   obtain ⟨bb, hbb⟩ : ∃ b, Rnw.bst f i = b := ⟨_, rfl⟩
   have hbst : Rnw.bst f k = if bb = 0 then k else if f k < f bb then k else bb := by rw [← hk, ← hbb]; rfl
   have hlow : lowv f i = if bb = 0 then 0 else f bb := by unfold lowv; rw [hbb]
   have hlowk : lowv f k = if Rnw.bst f k = 0 then 0 else f (Rnw.bst f k) := rfl
   have hbi : bb ≤ i := by
    rcases Nat.eq_zero_or_pos i with z | z
    ·subst z; rw [← hbb]; exact Nat.le_refl _
    ·have := (Rnw.bst_le f i z).2.1; omega
   have HBB := hide (And.intro hbst (And.intro hlow (And.intro hlowk hbi)))
   have HLOW : Hid (lowv f i = if bb = 0 then 0 else f bb) := hlow
   rw [hbb]
   have HXL := hide hXL
   have HXT := hide hXT
   have HTA := hide (ra.below hbr)
   have HRT : Hid (RS (Bth.ps (Rnw.sv x) i) JJ) := (unhide HPS i (by omega)).mono (by have := unhide HJJ; omega)
   have HRA : Hid (RS (Rnw.sv x i) JJ) := (unhide HSV i).mono (by have := unhide HJJ; omega)
   have HPSk : Hid (RS (Bth.ps (Rnw.sv x) k) JS) := unhide HPS k (by omega)
   have HNZk : Hid ((Bth.ps (Rnw.sv x) k).num ≠ 0) := unhide HNZ k (by omega)
   have HCC : Hid (∀ W, Below wr.heap.size wr W → (fun w' : World => (w'.cell? ⟨bT, 0, none⟩ = some (.bool tT.s) ∧ w'.cell? ⟨bT, 1, none⟩ = some (.slice tT.a1 tT.n1 tT.c1) ∧ w'.cell? ⟨bT, 2, none⟩ = some (.slice tT.a2 tT.n2 tT.c2)) ∧ (w'.cell? ⟨GO, i * 3, none⟩ = some (.bool ta.s) ∧ w'.cell? ⟨GO, i * 3 + 1, none⟩ = some (.slice ta.a1 ta.n1 ta.c1) ∧ w'.cell? ⟨GO, i * 3 + 2, none⟩ = some (.slice ta.a2 ta.n2 ta.c2))) W) := fun W hW => by
    have h2 := below_step (unhide HBR) hW
    refine ⟨(unhide HXT).cells W hW, ?_, ?_, ?_⟩
    ·rw [h2.cell (p := ⟨GO, i * 3, none⟩) (unhide HGl)]; exact p0
    ·rw [h2.cell (p := ⟨GO, i * 3 + 1, none⟩) (unhide HGl)]; exact p1
    ·rw [h2.cell (p := ⟨GO, i * 3 + 2, none⟩) (unhide HGl)]; exact p2
   have HQ3 := hide (And.intro q0 (And.intro q1 q2))
   have HRB := hide rb
   have ek : Bth.ps (Rnw.sv x) i + Rnw.sv x i = Bth.ps (Rnw.sv x) k := by rw [← hk]; rfl
   have HEK := hide ek
   clear hXL hXT hbr ra rb p0 p1 p2 q0 q1 q2 hbb hbst hlow hlowk hk hbi ek
   go_wp2_with fail
   refine wp_region_till (fun w' : World => (w'.cell? ⟨bT, 0, none⟩ = some (.bool tT.s) ∧ w'.cell? ⟨bT, 1, none⟩ = some (.slice tT.a1 tT.n1 tT.c1) ∧ w'.cell? ⟨bT, 2, none⟩ = some (.slice tT.a2 tT.n2 tT.c2)) ∧ (w'.cell? ⟨GO, i * 3, none⟩ = some (.bool ta.s) ∧ w'.cell? ⟨GO, i * 3 + 1, none⟩ = some (.slice ta.a1 ta.n1 ta.c1) ∧ w'.cell? ⟨GO, i * 3 + 2, none⟩ = some (.slice ta.a2 ta.n2 ta.c2))) 6 (by kernel_rfl) ?_
   have bd0 : Below wr.heap.size wr wr.drew := (Below.refl _ _).drew
   obtain ⟨Wd, hWd⟩ : ∃ W, wr.drew = W := ⟨_, rfl⟩
   rw [hWd] at bd0 ⊢
   have hC0 : (fun w' : World => (w'.cell? ⟨bT, 0, none⟩ = some (.bool tT.s) ∧ w'.cell? ⟨bT, 1, none⟩ = some (.slice tT.a1 tT.n1 tT.c1) ∧ w'.cell? ⟨bT, 2, none⟩ = some (.slice tT.a2 tT.n2 tT.c2)) ∧ (w'.cell? ⟨GO, i * 3, none⟩ = some (.bool ta.s) ∧ w'.cell? ⟨GO, i * 3 + 1, none⟩ = some (.slice ta.a1 ta.n1 ta.c1) ∧ w'.cell? ⟨GO, i * 3 + 2, none⟩ = some (.slice ta.a2 ta.n2 ta.c2))) Wd := unhide HCC _ bd0
   refine wpTill_take (i := 0) (v := ?_) rfl (by kernel_rfl) (by kernel_rfl) (by kernel_rfl) (by kernel_rfl) (by kernel_rfl) (by kernel_rfl) (fun _ _ _ h => h) (Or.inl ⟨by rfl, ?_⟩) hC0 ?_
   rotate_left
   ·intro w hSw; (try dsimp only at hSw); obtain ⟨⟨u0, u1, u2⟩, ⟨u3, u4, u5⟩⟩ := hSw; go_simp; (try with_reducible rfl)
   (try simp only [List.getElem_toArray, List.getElem_cons_succ, List.getElem_cons_zero])
   (try simp only [Act.put, List.setIfInBounds_toArray, List.set_cons_zero, List.set_cons_succ])
   refine wpTill_pure (i := 1) (v := ?_) rfl (by kernel_rfl) (by kernel_rfl) (by kernel_rfl) (by kernel_rfl) (fun _ _ _ h => h) (Or.inl ⟨by rfl, ?_⟩) (fun _ => hC0) ?_
   rotate_left
   ·intro w hSw; clear hSw; go_simp; (try with_reducible rfl)
   (try simp only [List.getElem_toArray, List.getElem_cons_succ, List.getElem_cons_zero])
   (try simp only [Act.put, List.setIfInBounds_toArray, List.set_cons_zero, List.set_cons_succ])
   refine wpTill_pure (i := 2) (v := ?_) rfl (by kernel_rfl) (by kernel_rfl) (by kernel_rfl) (by kernel_rfl) (fun _ _ _ h => h) (Or.inl ⟨by rfl, ?_⟩) (fun _ => hC0) ?_
   rotate_left
   ·intro w hSw; clear hSw; go_simp; (try with_reducible rfl)
   (try simp only [List.getElem_toArray, List.getElem_cons_succ, List.getElem_cons_zero])
   (try simp only [Act.put, List.setIfInBounds_toArray, List.set_cons_zero, List.set_cons_succ])
   refine wpTill_pure (i := 3) (v := ?_) rfl (by kernel_rfl) (by kernel_rfl) (by kernel_rfl) (by kernel_rfl) (fun _ _ _ h => h) (Or.inl ⟨by rfl, ?_⟩) (fun _ => hC0) ?_
   rotate_left
   ·intro w hSw; clear hSw; go_simp; (try with_reducible rfl)
   (try simp only [List.getElem_toArray, List.getElem_cons_succ, List.getElem_cons_zero])
   (try simp only [Act.put, List.setIfInBounds_toArray, List.set_cons_zero, List.set_cons_succ])
   refine wpTill_take (i := 4) (v := ?_) rfl (by kernel_rfl) (by kernel_rfl) (by kernel_rfl) (by kernel_rfl) (by kernel_rfl) (by kernel_rfl) (fun _ _ _ h => h) (Or.inl ⟨by rfl, ?_⟩) hC0 ?_
   rotate_left
   ·intro w hSw; (try dsimp only at hSw); obtain ⟨⟨u0, u1, u2⟩, ⟨u3, u4, u5⟩⟩ := hSw; go_simp; (try with_reducible rfl)
   (try simp only [List.getElem_toArray, List.getElem_cons_succ, List.getElem_cons_zero])
   (try simp only [Act.put, List.setIfInBounds_toArray, List.set_cons_zero, List.set_cons_succ])
   refine wpTill_one (k := 5) (by kernel_rfl) rfl (fun K hK => ?_)
   (try simp only [List.getElem_toArray, List.getElem_cons_succ, List.getElem_cons_zero])
   go_simp
   refine (addR_any tT.val ta.val _ _ _ ((unhide HXT).2.below bd0) ((unhide HTA).below bd0) JJ (unhide HRT) (unhide HRA) (unhide HJ)).mono ?_
   rintro e xw_1 ⟨xv_1, rfl, hv_1, hb_1⟩
   have cc_1 := below_step bd0 hb_1
   have hC_1 : (fun w' : World => (w'.cell? ⟨bT, 0, none⟩ = some (.bool tT.s) ∧ w'.cell? ⟨bT, 1, none⟩ = some (.slice tT.a1 tT.n1 tT.c1) ∧ w'.cell? ⟨bT, 2, none⟩ = some (.slice tT.a2 tT.n2 tT.c2)) ∧ (w'.cell? ⟨GO, i * 3, none⟩ = some (.bool ta.s) ∧ w'.cell? ⟨GO, i * 3 + 1, none⟩ = some (.slice ta.a1 ta.n1 ta.c1) ∧ w'.cell? ⟨GO, i * 3 + 2, none⟩ = some (.slice ta.a2 ta.n2 ta.c2))) xw_1 := unhide HCC _ cc_1
   refine hK.out _ _ (fun _ => hC_1) ?_
   clear hK K
   (try simp only [Act.put, List.setIfInBounds_toArray, List.set_cons_zero, List.set_cons_succ])
   obtain ⟨t5, rfl, r5⟩ := tri_of hv_1
   simp only [Tri.val]
   have XT := (unhide HXT).keep cc_1
   have XL := (unhide HXL).keep cc_1
   have ⟨l0, l1, l2⟩ := XT.free
   have ⟨y0, y1, y2⟩ := XT.cells _ (Below.refl _ _)
   have NT := XT.set r5
   have NL := XL.other XT (unhide HNE) (.bool t5.s) (.slice t5.a1 t5.n1 t5.c1) (.slice t5.a2 t5.n2 t5.c2)
   have NB := (((below_step (unhide HBR) cc_1).setCell (p := ⟨bT, 0, none⟩) (unhide HGT) (.bool t5.s)).setCell (p := ⟨bT, 1, none⟩) (unhide HGT) (.slice t5.a1 t5.n1 t5.c1)).setCell (p := ⟨bT, 2, none⟩) (unhide HGT) (.slice t5.a2 t5.n2 t5.c2)
   obtain ⟨WB, hWB⟩ : ∃ W, ((xw_1.setCell ⟨bT, 0, none⟩ (.bool t5.s)).setCell ⟨bT, 1, none⟩ (.slice t5.a1 t5.n1 t5.c1)).setCell ⟨bT, 2, none⟩ (.slice t5.a2 t5.n2 t5.c2) = W := ⟨_, rfl⟩
   rw [hWB] at NT NL NB
   have HXT2 := hide NT
   have HXL2 := hide NL
   have HB3 := hide NB
   clear XT XL NT NL NB r5 hv_1
   refine wpTill_one (k := 6) (by kernel_rfl) rfl (fun K hK => ?_)
   (try simp only [List.getElem_toArray, List.getElem_cons_succ, List.getElem_cons_zero])
   go_simp
   refine hK.out _ _ (fun h => absurd (h.symm.trans (by kernel_rfl)) Bool.false_ne_true) ?_
   clear hK K
   (try simp only [Act.put, List.setIfInBounds_toArray, List.set_cons_zero, List.set_cons_succ])
   refine wpTill_done (by kernel_rfl) ?_ _
   have HXT4 := hide (show BoxIs WB bT t5 (Bth.ps (Rnw.sv x) k) by rw [← unhide HEK]; exact unhide HXT2)
   have HC13 : Hid (∀ W, Below WB.heap.size WB W → (fun w' : World => (w'.cell? ⟨b_f, 0, none⟩ = some (.bool tf.s) ∧ w'.cell? ⟨b_f, 1, none⟩ = some (.slice tf.a1 tf.n1 tf.c1) ∧ w'.cell? ⟨b_f, 2, none⟩ = some (.slice tf.a2 tf.n2 tf.c2)) ∧ (w'.cell? ⟨b_p, 0, none⟩ = some (.bool tp.s) ∧ w'.cell? ⟨b_p, 1, none⟩ = some (.slice tp.a1 tp.n1 tp.c1) ∧ w'.cell? ⟨b_p, 2, none⟩ = some (.slice tp.a2 tp.n2 tp.c2)) ∧ (w'.cell? ⟨GO, k * 3, none⟩ = some (.bool tb.s) ∧ w'.cell? ⟨GO, k * 3 + 1, none⟩ = some (.slice tb.a1 tb.n1 tb.c1) ∧ w'.cell? ⟨GO, k * 3 + 2, none⟩ = some (.slice tb.a2 tb.n2 tb.c2)) ∧ (w'.cell? ⟨bT, 0, none⟩ = some (.bool t5.s) ∧ w'.cell? ⟨bT, 1, none⟩ = some (.slice t5.a1 t5.n1 t5.c1) ∧ w'.cell? ⟨bT, 2, none⟩ = some (.slice t5.a2 t5.n2 t5.c2))) W) := fun W hW => by
    have h2 := below_step (unhide HB3) hW
    have h3 := below_step (unhide HW3) h2
    have ⟨q0, q1, q2⟩ := unhide HQ3
    refine ⟨(unhide HX_f _ h3).cells _ (Below.refl _ _), (unhide HX_p _ h3).cells _ (Below.refl _ _), ⟨?_, ?_, ?_⟩, (unhide HXT4).cells W hW⟩
    ·rw [h2.cell (p := ⟨GO, k * 3, none⟩) (unhide HGl)]; exact q0
    ·rw [h2.cell (p := ⟨GO, k * 3 + 1, none⟩) (unhide HGl)]; exact q1
    ·rw [h2.cell (p := ⟨GO, k * 3 + 2, none⟩) (unhide HGl)]; exact q2
   have HTF := hide (unhide HX_f _ (below_step (unhide HW3) (unhide HB3))).2
   have HTP := hide (unhide HX_p _ (below_step (unhide HW3) (unhide HB3))).2
   have HTB := hide ((unhide HRB).below (unhide HB3))
   have HTT := hide (unhide HXT4).2
   clear HCC HTA HXT HXL HRT HRA HXT2 y0 y1 y2 l0 l1 l2 hWB hC0 hC_1 cc_1 bd0 hb_1 hWd
   go_wp2_with fail
   refine wp_region_hold (fun w' : World => (w'.cell? ⟨b_f, 0, none⟩ = some (.bool tf.s) ∧ w'.cell? ⟨b_f, 1, none⟩ = some (.slice tf.a1 tf.n1 tf.c1) ∧ w'.cell? ⟨b_f, 2, none⟩ = some (.slice tf.a2 tf.n2 tf.c2)) ∧ (w'.cell? ⟨b_p, 0, none⟩ = some (.bool tp.s) ∧ w'.cell? ⟨b_p, 1, none⟩ = some (.slice tp.a1 tp.n1 tp.c1) ∧ w'.cell? ⟨b_p, 2, none⟩ = some (.slice tp.a2 tp.n2 tp.c2)) ∧ (w'.cell? ⟨GO, k * 3, none⟩ = some (.bool tb.s) ∧ w'.cell? ⟨GO, k * 3 + 1, none⟩ = some (.slice tb.a1 tb.n1 tb.c1) ∧ w'.cell? ⟨GO, k * 3 + 2, none⟩ = some (.slice tb.a2 tb.n2 tb.c2)) ∧ (w'.cell? ⟨bT, 0, none⟩ = some (.bool t5.s) ∧ w'.cell? ⟨bT, 1, none⟩ = some (.slice t5.a1 t5.n1 t5.c1) ∧ w'.cell? ⟨bT, 2, none⟩ = some (.slice t5.a2 t5.n2 t5.c2))) (by kernel_rfl) ?_
   have bd0 : Below WB.heap.size WB WB.drew := (Below.refl _ _).drew
   obtain ⟨Wx, hWx⟩ : ∃ W, WB.drew = W := ⟨_, rfl⟩
   rw [hWx] at bd0 ⊢
   have hC0 : (fun w' : World => (w'.cell? ⟨b_f, 0, none⟩ = some (.bool tf.s) ∧ w'.cell? ⟨b_f, 1, none⟩ = some (.slice tf.a1 tf.n1 tf.c1) ∧ w'.cell? ⟨b_f, 2, none⟩ = some (.slice tf.a2 tf.n2 tf.c2)) ∧ (w'.cell? ⟨b_p, 0, none⟩ = some (.bool tp.s) ∧ w'.cell? ⟨b_p, 1, none⟩ = some (.slice tp.a1 tp.n1 tp.c1) ∧ w'.cell? ⟨b_p, 2, none⟩ = some (.slice tp.a2 tp.n2 tp.c2)) ∧ (w'.cell? ⟨GO, k * 3, none⟩ = some (.bool tb.s) ∧ w'.cell? ⟨GO, k * 3 + 1, none⟩ = some (.slice tb.a1 tb.n1 tb.c1) ∧ w'.cell? ⟨GO, k * 3 + 2, none⟩ = some (.slice tb.a2 tb.n2 tb.c2)) ∧ (w'.cell? ⟨bT, 0, none⟩ = some (.bool t5.s) ∧ w'.cell? ⟨bT, 1, none⟩ = some (.slice t5.a1 t5.n1 t5.c1) ∧ w'.cell? ⟨bT, 2, none⟩ = some (.slice t5.a2 t5.n2 t5.c2))) Wx := unhide HC13 _ bd0
   refine wpHold_take (i := 0) (v := ?_) rfl (by kernel_rfl) (by kernel_rfl) (by kernel_rfl) (fun _ _ _ h => h) (Or.inl ⟨by rfl, ?_⟩) hC0 ?_
   rotate_left
   ·intro w hSw; (try dsimp only at hSw); obtain ⟨⟨u0, u1, u2⟩, ⟨u3, u4, u5⟩, ⟨u6, u7, u8⟩, u9, u10, u11⟩ := hSw; go_simp; (try with_reducible rfl)
   (try simp only [List.getElem_toArray, List.getElem_cons_succ, List.getElem_cons_zero])
   (try simp only [Act.put, List.setIfInBounds_toArray, List.set_cons_zero, List.set_cons_succ])
   refine wpHold_take (i := 1) (v := ?_) rfl (by kernel_rfl) (by kernel_rfl) (by kernel_rfl) (fun _ _ _ h => h) (Or.inl ⟨by rfl, ?_⟩) hC0 ?_
   rotate_left
   ·intro w hSw; (try dsimp only at hSw); obtain ⟨⟨u0, u1, u2⟩, ⟨u3, u4, u5⟩, ⟨u6, u7, u8⟩, u9, u10, u11⟩ := hSw; go_simp; (try with_reducible rfl)
   (try simp only [List.getElem_toArray, List.getElem_cons_succ, List.getElem_cons_zero])
   (try simp only [Act.put, List.setIfInBounds_toArray, List.set_cons_zero, List.set_cons_succ])
   refine wpHold_take (i := 2) (v := ?_) rfl (by kernel_rfl) (by kernel_rfl) (by kernel_rfl) (fun _ _ _ h => h) (Or.inl ⟨by rfl, ?_⟩) hC0 ?_
   rotate_left
   ·intro w hSw; clear hSw; go_simp; (try with_reducible rfl)
   (try simp only [List.getElem_toArray, List.getElem_cons_succ, List.getElem_cons_zero])
   (try simp only [Act.put, List.setIfInBounds_toArray, List.set_cons_zero, List.set_cons_succ])
   refine wpHold_take (i := 3) (v := ?_) rfl (by kernel_rfl) (by kernel_rfl) (by kernel_rfl) (fun _ _ _ h => h) (Or.inl ⟨by rfl, ?_⟩) hC0 ?_
   rotate_left
   ·intro w hSw; clear hSw; go_simp; (try with_reducible rfl)
   (try simp only [List.getElem_toArray, List.getElem_cons_succ, List.getElem_cons_zero])
   (try simp only [Act.put, List.setIfInBounds_toArray, List.set_cons_zero, List.set_cons_succ])
   refine wpHold_take (i := 4) (v := ?_) rfl (by kernel_rfl) (by kernel_rfl) (by kernel_rfl) (fun _ _ _ h => h) (Or.inl ⟨by rfl, ?_⟩) hC0 ?_
   rotate_left
   ·intro w hSw; clear hSw; go_simp; (try with_reducible rfl)
   (try simp only [List.getElem_toArray, List.getElem_cons_succ, List.getElem_cons_zero])
   (try simp only [Act.put, List.setIfInBounds_toArray, List.set_cons_zero, List.set_cons_succ])
   refine wpHold_take (i := 5) (v := ?_) rfl (by kernel_rfl) (by kernel_rfl) (by kernel_rfl) (fun _ _ _ h => h) (Or.inl ⟨by rfl, ?_⟩) hC0 ?_
   rotate_left
   ·intro w hSw; (try dsimp only at hSw); obtain ⟨⟨u0, u1, u2⟩, ⟨u3, u4, u5⟩, ⟨u6, u7, u8⟩, u9, u10, u11⟩ := hSw; go_simp; (try with_reducible rfl)
   (try simp only [List.getElem_toArray, List.getElem_cons_succ, List.getElem_cons_zero])
   (try simp only [Act.put, List.setIfInBounds_toArray, List.set_cons_zero, List.set_cons_succ])
   refine wpHold_take (i := 6) (v := ?_) rfl (by kernel_rfl) (by kernel_rfl) (by kernel_rfl) (fun _ _ _ h => h) (Or.inl ⟨by rfl, ?_⟩) hC0 ?_
   rotate_left
   ·intro w hSw; (try dsimp only at hSw); obtain ⟨⟨u0, u1, u2⟩, ⟨u3, u4, u5⟩, ⟨u6, u7, u8⟩, u9, u10, u11⟩ := hSw; go_simp; (try with_reducible rfl)
   (try simp only [List.getElem_toArray, List.getElem_cons_succ, List.getElem_cons_zero])
   (try simp only [Act.put, List.setIfInBounds_toArray, List.set_cons_zero, List.set_cons_succ])
   refine wpHold_listed (n := 3) (L' := (fun nc nl => #[true, true, true, true, true, true, true, decide (1 ≤ nc), nl, false]) 0 false) (by kernel_rfl) (by kernel_rfl) ?_
   refine wpHold_name (fun a0 ha0 => ?_)
   refine chain_one_any 1 (fun nc nl => #[true, true, true, true, true, true, true, decide (1 ≤ nc), nl, false]) (fun _ => 7) 8 1 (fun nc nl na W => ∃ s1 s3, na = (a0.put (some 51) s1).put (some 17) s3 ∧ OneJ ((qf * (((1 : Int) : Rat) - Rnw.sv x k) + qp * Rnw.sv x k) / Bth.ps (Rnw.sv x) k) Wx nc nl W s1 s3) ?_ ?_ ?_ (fun c => rfl) ?_ ?_ ?_ 2 0 false (by omega) (by rfl) _ _ ⟨u51, u17, by subst ha0; rfl, Below.refl _ _, fun h => absurd h (by decide), fun h => by cases h⟩
   ·clear ha0
    intro nc nl hnc
    match nc, hnc with
    | 0, _ => cases nl <;> (show (_ : Bool) = _; kernel_rfl)
    | 1, _ => cases nl <;> (show (_ : Bool) = _; kernel_rfl)
   ·clear ha0
    intro nc nl hnc
    match nc, hnc with
    | 0, _ => cases nl <;> (intro _; show (_ : Bool) = _; kernel_rfl)
    | 1, _ => cases nl <;> (intro h; first | (show (_ : Bool) = _; kernel_rfl) | exact absurd h (by decide))
   ·clear ha0
    intro nc nl hnc
    match nc, hnc with
    | 0, _ => rfl
   ·rintro nc nl na wv hnc ⟨s1, s3, rfl, J⟩
    obtain rfl : nc = 0 := by omega
    subst ha0
    refine wpOp_step rfl (fun K hK => ?_)
    (try simp only [Act.put, List.setIfInBounds_toArray, List.set_cons_zero, List.set_cons_succ] at hK ⊢)
    (try simp only [List.getElem_toArray, List.getElem_cons_succ, List.getElem_cons_zero])
    go_simp
    refine (rcost_any tf.val tp.val tb.val t5.val qf qp (Rnw.sv x k) (Bth.ps (Rnw.sv x) k) JS JJ wv ((unhide HTF).below (below_step bd0 J.bl)) ((unhide HTP).below (below_step bd0 J.bl)) ((unhide HTB).below (below_step bd0 J.bl)) ((unhide HTT).below (below_step bd0 J.bl)) (unhide HRF) (unhide HRP) (unhide HSV k) (unhide HPSk) (unhide HNZk) (unhide HJJ) (unhide HJ)).mono ?_
    rintro e wz ⟨v, rfl, hv, hb⟩
    exact hK _ _ ⟨unhide HC13 _ (below_step bd0 (below_step J.bl hb)), v, s3, rfl, below_step J.bl hb, fun _ => hv, fun h => by
     obtain ⟨b, e1, e2, e3⟩ := J.al h
     exact ⟨b, e1, e2.keep hb, e3⟩⟩
   ·rintro nc na wv ⟨s1, s3, rfl, J⟩
    subst ha0
    refine wpOp_step rfl (fun K hK => ?_)
    (try simp only [Act.put, List.setIfInBounds_toArray, List.set_cons_zero, List.set_cons_succ] at hK ⊢)
    (try simp only [List.getElem_toArray, List.getElem_cons_succ, List.getElem_cons_zero])
    go_simp
    have hb := alloc_below wv (.cells #[.bool false, .slice none 0 0, .slice none 0 0] 37)
    exact hK _ _ ⟨unhide HC13 _ (below_step bd0 (below_step J.bl hb)), s1, .pointer (some ⟨wv.heap.size, 0, none⟩), rfl, below_step J.bl hb, fun h => (J.r1 h).below hb, fun _ => ⟨wv.heap.size, rfl, BoxIs.new (t := zTri) (rat_zero _), J.bl.size⟩⟩
   ·rintro na wv ⟨s1, s3, rfl, J⟩
    subst ha0
    obtain ⟨bc, rfl, B10, e10⟩ := J.al rfl
    obtain ⟨tc, rfl, r0⟩ := tri_of (J.r1 (by decide))
    simp only [Tri.val]
    (try simp only [Act.put, List.setIfInBounds_toArray, List.set_cons_zero, List.set_cons_succ])
    have ⟨l0, l1, l2⟩ := B10.free
    have ⟨k0, k1, k2⟩ := B10.cells _ (Below.refl _ _)
    have NB := B10.set r0
    have e10' : WB.heap.size ≤ bc := Nat.le_trans bd0.size e10
    have YB := (((below_step bd0 J.bl).setCell (p := ⟨bc, 0, none⟩) e10' (.bool tc.s)).setCell (p := ⟨bc, 1, none⟩) e10' (.slice tc.a1 tc.n1 tc.c1)).setCell (p := ⟨bc, 2, none⟩) e10' (.slice tc.a2 tc.n2 tc.c2)
    have HG_bc := hide e10'
    have hCn : (fun w' : World => (w'.cell? ⟨b_f, 0, none⟩ = some (.bool tf.s) ∧ w'.cell? ⟨b_f, 1, none⟩ = some (.slice tf.a1 tf.n1 tf.c1) ∧ w'.cell? ⟨b_f, 2, none⟩ = some (.slice tf.a2 tf.n2 tf.c2)) ∧ (w'.cell? ⟨b_p, 0, none⟩ = some (.bool tp.s) ∧ w'.cell? ⟨b_p, 1, none⟩ = some (.slice tp.a1 tp.n1 tp.c1) ∧ w'.cell? ⟨b_p, 2, none⟩ = some (.slice tp.a2 tp.n2 tp.c2)) ∧ (w'.cell? ⟨GO, k * 3, none⟩ = some (.bool tb.s) ∧ w'.cell? ⟨GO, k * 3 + 1, none⟩ = some (.slice tb.a1 tb.n1 tb.c1) ∧ w'.cell? ⟨GO, k * 3 + 2, none⟩ = some (.slice tb.a2 tb.n2 tb.c2)) ∧ (w'.cell? ⟨bT, 0, none⟩ = some (.bool t5.s) ∧ w'.cell? ⟨bT, 1, none⟩ = some (.slice t5.a1 t5.n1 t5.c1) ∧ w'.cell? ⟨bT, 2, none⟩ = some (.slice t5.a2 t5.n2 t5.c2))) _ := unhide HC13 _ YB
    obtain ⟨Wbc, hWy⟩ : ∃ W, ((wv.setCell ⟨bc, 0, none⟩ (.bool tc.s)).setCell ⟨bc, 1, none⟩ (.slice tc.a1 tc.n1 tc.c1)).setCell ⟨bc, 2, none⟩ (.slice tc.a2 tc.n2 tc.c2) = W := ⟨_, rfl⟩
    rw [hWy] at NB YB hCn
    have HX_bc := hide NB
    have HY_bc := hide YB
    clear J B10 r0 hC0 YB NB e10'
    refine wpHold_one (k := 9) (by kernel_rfl) rfl (fun K hK => ?_)
    (try simp only [List.getElem_toArray, List.getElem_cons_succ, List.getElem_cons_zero])
    go_simp
    refine hK.out _ _ hCn ?_
    clear hK K
    (try simp only [Act.put, List.setIfInBounds_toArray, List.set_cons_zero, List.set_cons_succ])
    refine wpHold_done (by kernel_rfl) ?_ _
    clear hCn l0 l1 l2 k0 k1 k2 hWy e10 bd0 hWx
    have hval := unhide HX_bc
    rw [unhide HCS k] at hval
    have HXC := hide hval
    have HBQ := hide (below_step (unhide HB3) (unhide HY_bc))
    have HXL3 := hide ((unhide HXL2).keep (unhide HY_bc))
    have HXT3 := hide ((unhide HXT4).keep (unhide HY_bc))
    clear hval HX_bc HC13
    obtain ⟨hbst, hlow, hlowk, hbi⟩ := unhide HBB
    by_cases h0 : bb = 0
    ·have e1 : Rnw.bst f k = k := by rw [hbst, if_pos h0]
     have e2 : lowv f k = f k := by rw [hlowk, e1, if_neg (by have := unhide HK; omega)]
     have E1 := hide e1
     have E2 := hide e2
     have jb : (bb : Int) = 0 := by omega
     clear hbst hlow hlowk hbi e1 e2 h0
     have HC15 : Hid (∀ W, Below Wbc.heap.size Wbc W → (fun w' : World => w'.cell? ⟨bc, 0, none⟩ = some (.bool tc.s) ∧ w'.cell? ⟨bc, 1, none⟩ = some (.slice tc.a1 tc.n1 tc.c1) ∧ w'.cell? ⟨bc, 2, none⟩ = some (.slice tc.a2 tc.n2 tc.c2)) W) := fun W hW => (unhide HXC).cells W hW
     go_wp2_with fail
     refine wp_region_till (fun w' : World => w'.cell? ⟨bc, 0, none⟩ = some (.bool tc.s) ∧ w'.cell? ⟨bc, 1, none⟩ = some (.slice tc.a1 tc.n1 tc.c1) ∧ w'.cell? ⟨bc, 2, none⟩ = some (.slice tc.a2 tc.n2 tc.c2)) 3 (by kernel_rfl) ?_
     have bd0 : Below Wbc.heap.size Wbc Wbc.drew := (Below.refl _ _).drew
     obtain ⟨We, hWe⟩ : ∃ W, Wbc.drew = W := ⟨_, rfl⟩
     rw [hWe] at bd0 ⊢
     have hC0 : (fun w' : World => w'.cell? ⟨bc, 0, none⟩ = some (.bool tc.s) ∧ w'.cell? ⟨bc, 1, none⟩ = some (.slice tc.a1 tc.n1 tc.c1) ∧ w'.cell? ⟨bc, 2, none⟩ = some (.slice tc.a2 tc.n2 tc.c2)) We := unhide HC15 _ bd0
     refine wpTill_pure (i := 0) (v := ?_) rfl (by kernel_rfl) (by kernel_rfl) (by kernel_rfl) (by kernel_rfl) (fun _ _ _ h => h) (Or.inl ⟨by rfl, ?_⟩) (fun _ => hC0) ?_
     rotate_left
     ·intro w hSw; clear hSw; go_simp; (try with_reducible rfl)
     (try simp only [List.getElem_toArray, List.getElem_cons_succ, List.getElem_cons_zero])
     (try simp only [Act.put, List.setIfInBounds_toArray, List.set_cons_zero, List.set_cons_succ])
     refine wpTill_take (i := 1) (v := ?_) rfl (by kernel_rfl) (by kernel_rfl) (by kernel_rfl) (by kernel_rfl) (by kernel_rfl) (by kernel_rfl) (fun _ _ _ h => h) (Or.inl ⟨by rfl, ?_⟩) hC0 ?_
     rotate_left
     ·intro w hSw; (try dsimp only at hSw); obtain ⟨u0, u1, u2⟩ := hSw; go_simp; (try with_reducible rfl)
     (try simp only [List.getElem_toArray, List.getElem_cons_succ, List.getElem_cons_zero])
     (try simp only [Act.put, List.setIfInBounds_toArray, List.set_cons_zero, List.set_cons_succ])
     refine wpTill_pure (i := 2) (v := ?_) rfl (by kernel_rfl) (by kernel_rfl) (by kernel_rfl) (by kernel_rfl) (fun _ _ _ h => h) (Or.inl ⟨by rfl, ?_⟩) (fun _ => hC0) ?_
     rotate_left
     ·intro w hSw; clear hSw; go_simp; (try with_reducible rfl)
     (try simp only [List.getElem_toArray, List.getElem_cons_succ, List.getElem_cons_zero])
     (try simp only [Act.put, List.setIfInBounds_toArray, List.set_cons_zero, List.set_cons_succ])
     have XL := (unhide HXL3).keep bd0
     have XT := (unhide HXT3).keep bd0
     have rc := (unhide HXC).2.below bd0
     have ⟨l0, l1, l2⟩ := XL.free
     have ⟨y0, y1, y2⟩ := XL.cells _ (Below.refl _ _)
     have NL := XL.set rc
     have NT := XT.other XL (fun e => unhide HNE e.symm) (.bool tc.s) (.slice tc.a1 tc.n1 tc.c1) (.slice tc.a2 tc.n2 tc.c2)
     have NB := (((below_step (unhide HBQ) bd0).setCell (p := ⟨bL, 0, none⟩) (unhide HGL) (.bool tc.s)).setCell (p := ⟨bL, 1, none⟩) (unhide HGL) (.slice tc.a1 tc.n1 tc.c1)).setCell (p := ⟨bL, 2, none⟩) (unhide HGL) (.slice tc.a2 tc.n2 tc.c2)
     obtain ⟨WF, hWF⟩ : ∃ W, ((We.setCell ⟨bL, 0, none⟩ (.bool tc.s)).setCell ⟨bL, 1, none⟩ (.slice tc.a1 tc.n1 tc.c1)).setCell ⟨bL, 2, none⟩ (.slice tc.a2 tc.n2 tc.c2) = W := ⟨_, rfl⟩
     rw [hWF] at NL NT NB
     have HNL := hide NL
     have HNT := hide NT
     have HNB := hide NB
     clear XL XT rc NL NT NB
     refine wpTill_one (k := 3) (by kernel_rfl) rfl (fun K hK => ?_)
     (try simp only [List.getElem_toArray, List.getElem_cons_succ, List.getElem_cons_zero])
     go_simp
     refine hK.out _ _ (fun h => absurd (h.symm.trans (by kernel_rfl)) Bool.false_ne_true) ?_
     clear hK K
     (try simp only [Act.put, List.setIfInBounds_toArray, List.set_cons_zero, List.set_cons_succ])
     refine wpTill_done (by kernel_rfl) ?_ _
     clear HC15 l0 l1 l2 y0 y1 y2 hWF hC0 bd0 hWe
     go_wp2_with fail
     exact ⟨⟨k, tc, t5, by rw [unhide E1], rfl, by have := unhide HK; omega, unhide HNB, by rw [unhide E2]; exact unhide HNL, unhide HNT⟩, by have := unhide HK; simp [intOf]; omega⟩
    ·have jb : ¬ (bb : Int) = 0 := by omega
     rw [if_neg h0] at hlow hbst
     have HCM := hide (cmpR_all tc.val tL.val (f k) (f bb) Wbc (unhide HXC).2 (by have := (unhide HXL3).2; rw [hlow] at this; exact this) (6 * JS + 8) (unhide HCR k (by have := unhide HK; omega) (by have := unhide HK; omega)) (unhide HCR bb (by omega) (by omega)) (unhide HKK))
     simp only [Tri.val] at HCM
     have ⟨c0, c1, c2⟩ := (unhide HXC).cells _ (Below.refl _ _)
     have ⟨d0, d1, d2⟩ := (unhide HXL3).cells _ (Below.refl _ _)
     by_cases hl : f k < f bb
     ·rw [cmpv_lt hl] at HCM
      have e1 : Rnw.bst f k = k := by rw [hbst, if_pos hl]
      have e2 : lowv f k = f k := by rw [hlowk, e1, if_neg (by have := unhide HK; omega)]
      have E1 := hide e1
      have E2 := hide e2
      clear hbst hlow hlowk hbi e1 e2 h0 hl
      go_wp2_with fail
      refine (unhide HCM).mono ?_
      rintro e wq ⟨rfl, hbq⟩
      have HXC2 := hide ((unhide HXC).keep hbq)
      have HBQ2 := hide (below_step (unhide HBQ) hbq)
      have HXL5 := hide ((unhide HXL3).keep hbq)
      have HXT5 := hide ((unhide HXT3).keep hbq)
      clear HCM hbq HXC HBQ HXL3 HXT3 c0 c1 c2 d0 d1 d2
      have HXC := HXC2
      have HBQ := HBQ2
      have HXL3 := HXL5
      have HXT3 := HXT5
      clear HXC2 HBQ2 HXL5 HXT5
      have HC15 : Hid (∀ W, Below wq.heap.size wq W → (fun w' : World => w'.cell? ⟨bc, 0, none⟩ = some (.bool tc.s) ∧ w'.cell? ⟨bc, 1, none⟩ = some (.slice tc.a1 tc.n1 tc.c1) ∧ w'.cell? ⟨bc, 2, none⟩ = some (.slice tc.a2 tc.n2 tc.c2)) W) := fun W hW => (unhide HXC).cells W hW
      go_wp2_with fail
      refine wp_region_till (fun w' : World => w'.cell? ⟨bc, 0, none⟩ = some (.bool tc.s) ∧ w'.cell? ⟨bc, 1, none⟩ = some (.slice tc.a1 tc.n1 tc.c1) ∧ w'.cell? ⟨bc, 2, none⟩ = some (.slice tc.a2 tc.n2 tc.c2)) 3 (by kernel_rfl) ?_
      have bd0 : Below wq.heap.size wq wq.drew := (Below.refl _ _).drew
      obtain ⟨We, hWe⟩ : ∃ W, wq.drew = W := ⟨_, rfl⟩
      rw [hWe] at bd0 ⊢
      have hC0 : (fun w' : World => w'.cell? ⟨bc, 0, none⟩ = some (.bool tc.s) ∧ w'.cell? ⟨bc, 1, none⟩ = some (.slice tc.a1 tc.n1 tc.c1) ∧ w'.cell? ⟨bc, 2, none⟩ = some (.slice tc.a2 tc.n2 tc.c2)) We := unhide HC15 _ bd0
      refine wpTill_pure (i := 0) (v := ?_) rfl (by kernel_rfl) (by kernel_rfl) (by kernel_rfl) (by kernel_rfl) (fun _ _ _ h => h) (Or.inl ⟨by rfl, ?_⟩) (fun _ => hC0) ?_
      rotate_left
      ·intro w hSw; clear hSw; go_simp; (try with_reducible rfl)
      (try simp only [List.getElem_toArray, List.getElem_cons_succ, List.getElem_cons_zero])
      (try simp only [Act.put, List.setIfInBounds_toArray, List.set_cons_zero, List.set_cons_succ])
      refine wpTill_take (i := 1) (v := ?_) rfl (by kernel_rfl) (by kernel_rfl) (by kernel_rfl) (by kernel_rfl) (by kernel_rfl) (by kernel_rfl) (fun _ _ _ h => h) (Or.inl ⟨by rfl, ?_⟩) hC0 ?_
      rotate_left
      ·intro w hSw; (try dsimp only at hSw); obtain ⟨u0, u1, u2⟩ := hSw; go_simp; (try with_reducible rfl)
      (try simp only [List.getElem_toArray, List.getElem_cons_succ, List.getElem_cons_zero])
      (try simp only [Act.put, List.setIfInBounds_toArray, List.set_cons_zero, List.set_cons_succ])
      refine wpTill_pure (i := 2) (v := ?_) rfl (by kernel_rfl) (by kernel_rfl) (by kernel_rfl) (by kernel_rfl) (fun _ _ _ h => h) (Or.inl ⟨by rfl, ?_⟩) (fun _ => hC0) ?_
      rotate_left
      ·intro w hSw; clear hSw; go_simp; (try with_reducible rfl)
      (try simp only [List.getElem_toArray, List.getElem_cons_succ, List.getElem_cons_zero])
      (try simp only [Act.put, List.setIfInBounds_toArray, List.set_cons_zero, List.set_cons_succ])
      have XL := (unhide HXL3).keep bd0
      have XT := (unhide HXT3).keep bd0
      have rc := (unhide HXC).2.below bd0
      have ⟨l0, l1, l2⟩ := XL.free
      have ⟨y0, y1, y2⟩ := XL.cells _ (Below.refl _ _)
      have NL := XL.set rc
      have NT := XT.other XL (fun e => unhide HNE e.symm) (.bool tc.s) (.slice tc.a1 tc.n1 tc.c1) (.slice tc.a2 tc.n2 tc.c2)
      have NB := (((below_step (unhide HBQ) bd0).setCell (p := ⟨bL, 0, none⟩) (unhide HGL) (.bool tc.s)).setCell (p := ⟨bL, 1, none⟩) (unhide HGL) (.slice tc.a1 tc.n1 tc.c1)).setCell (p := ⟨bL, 2, none⟩) (unhide HGL) (.slice tc.a2 tc.n2 tc.c2)
      obtain ⟨WF, hWF⟩ : ∃ W, ((We.setCell ⟨bL, 0, none⟩ (.bool tc.s)).setCell ⟨bL, 1, none⟩ (.slice tc.a1 tc.n1 tc.c1)).setCell ⟨bL, 2, none⟩ (.slice tc.a2 tc.n2 tc.c2) = W := ⟨_, rfl⟩
      rw [hWF] at NL NT NB
      have HNL := hide NL
      have HNT := hide NT
      have HNB := hide NB
      clear XL XT rc NL NT NB
      refine wpTill_one (k := 3) (by kernel_rfl) rfl (fun K hK => ?_)
      (try simp only [List.getElem_toArray, List.getElem_cons_succ, List.getElem_cons_zero])
      go_simp
      refine hK.out _ _ (fun h => absurd (h.symm.trans (by kernel_rfl)) Bool.false_ne_true) ?_
      clear hK K
      (try simp only [Act.put, List.setIfInBounds_toArray, List.set_cons_zero, List.set_cons_succ])
      refine wpTill_done (by kernel_rfl) ?_ _
      clear HC15 l0 l1 l2 y0 y1 y2 hWF hC0 bd0 hWe
      go_wp2_with fail
      exact ⟨⟨k, tc, t5, by rw [unhide E1], rfl, by have := unhide HK; omega, unhide HNB, by rw [unhide E2]; exact unhide HNL, unhide HNT⟩, by have := unhide HK; simp [intOf]; omega⟩
     ·have hge : f bb ≤ f k := Rat.not_lt.1 hl
      have ⟨cv0, cv1⟩ := cmpv_ge hge
      obtain ⟨y, hy⟩ : ∃ y, cmpv (f k) (f bb) = y := ⟨_, rfl⟩
      rw [hy] at HCM cv0 cv1
      have jy : decide (y < 0) = false := decide_eq_false (by omega)
      have e1 : Rnw.bst f k = bb := by rw [hbst, if_neg hl]
      have e2 : lowv f k = lowv f i := by rw [hlowk, e1, if_neg h0, hlow]
      have E1 := hide e1
      have E2 := hide e2
      clear hbst hlow hlowk hbi e1 e2 h0 hl hge hy cv0 cv1
      go_wp2_with fail
      refine (unhide HCM).mono ?_
      rintro e wq ⟨rfl, hbq⟩
      have HBQ2 := hide (below_step (unhide HBQ) hbq)
      have HXL5 := hide ((unhide HXL3).keep hbq)
      have HXT5 := hide ((unhide HXT3).keep hbq)
      clear HCM hbq HXC HBQ HXL3 HXT3 c0 c1 c2 d0 d1 d2
      go_wp2_with fail
      exact ⟨⟨k, tL, t5, by rw [unhide E1], rfl, by have := unhide HK; omega, unhide HBQ2, by rw [unhide E2]; exact unhide HXL5, unhide HXT5⟩, by have := unhide HK; simp [intOf]; omega⟩
  ·obtain rfl : i = n := by omega
   have j1 : ¬ (i : Int) < (i : Int) := by omega
   have hb1 := (Rnw.bst_le f i hg1).1
   have el : lowv f i = f (Rnw.bst f i) := by unfold lowv; rw [if_neg (by omega)]
   rw [el] at hXL
   have hXLr := hXL.2
   have HC17 : Hid (∀ W, Below wr.heap.size wr W → (fun w' : World => w'.cell? ⟨bL, 0, none⟩ = some (.bool tL.s) ∧ w'.cell? ⟨bL, 1, none⟩ = some (.slice tL.a1 tL.n1 tL.c1) ∧ w'.cell? ⟨bL, 2, none⟩ = some (.slice tL.a2 tL.n2 tL.c2)) W) := fun W hW => hXL.cells W hW
   obtain ⟨bb, hbb⟩ : ∃ b, Rnw.bst f i = b := ⟨_, rfl⟩
   rw [hbb] at hXLr ⊢
   have HBB2 := hide hbb
   clear hXL hXT hbr el hb1 hbb
   go_wp2_with fail
   refine wp_region_till (fun w' : World => w'.cell? ⟨bL, 0, none⟩ = some (.bool tL.s) ∧ w'.cell? ⟨bL, 1, none⟩ = some (.slice tL.a1 tL.n1 tL.c1) ∧ w'.cell? ⟨bL, 2, none⟩ = some (.slice tL.a2 tL.n2 tL.c2)) 3 (by kernel_rfl) ?_
   have bd0 : Below wr.heap.size wr wr.drew := (Below.refl _ _).drew
   obtain ⟨Wg, hWg⟩ : ∃ W, wr.drew = W := ⟨_, rfl⟩
   rw [hWg] at bd0 ⊢
   have hC0 : (fun w' : World => w'.cell? ⟨bL, 0, none⟩ = some (.bool tL.s) ∧ w'.cell? ⟨bL, 1, none⟩ = some (.slice tL.a1 tL.n1 tL.c1) ∧ w'.cell? ⟨bL, 2, none⟩ = some (.slice tL.a2 tL.n2 tL.c2)) Wg := unhide HC17 _ bd0
   refine wpTill_pure (i := 0) (v := ?_) rfl (by kernel_rfl) (by kernel_rfl) (by kernel_rfl) (by kernel_rfl) (fun _ _ _ h => h) (Or.inl ⟨by rfl, ?_⟩) (fun _ => hC0) ?_
   rotate_left
   ·intro w hSw; clear hSw; go_simp; (try with_reducible rfl)
   (try simp only [List.getElem_toArray, List.getElem_cons_succ, List.getElem_cons_zero])
   (try simp only [Act.put, List.setIfInBounds_toArray, List.set_cons_zero, List.set_cons_succ])
   refine wpTill_take (i := 1) (v := ?_) rfl (by kernel_rfl) (by kernel_rfl) (by kernel_rfl) (by kernel_rfl) (by kernel_rfl) (by kernel_rfl) (fun _ _ _ h => h) (Or.inl ⟨by rfl, ?_⟩) hC0 ?_
   rotate_left
   ·intro w hSw; (try dsimp only at hSw); obtain ⟨u0, u1, u2⟩ := hSw; go_simp; (try with_reducible rfl)
   (try simp only [List.getElem_toArray, List.getElem_cons_succ, List.getElem_cons_zero])
   (try simp only [Act.put, List.setIfInBounds_toArray, List.set_cons_zero, List.set_cons_succ])
   refine wpTill_pure (i := 2) (v := ?_) rfl (by kernel_rfl) (by kernel_rfl) (by kernel_rfl) (by kernel_rfl) (fun _ _ _ h => h) (Or.inl ⟨by rfl, ?_⟩) (fun _ => hC0) ?_
   rotate_left
   ·intro w hSw; clear hSw; go_simp; (try with_reducible rfl)
   (try simp only [List.getElem_toArray, List.getElem_cons_succ, List.getElem_cons_zero])
   (try simp only [Act.put, List.setIfInBounds_toArray, List.set_cons_zero, List.set_cons_succ])
   have Y := unhide HX_R _ (below_step (unhide HW3) (below_step (unhide HBR) bd0))
   have ⟨l0, l1, l2⟩ := Y.free
   have ⟨y0, y1, y2⟩ := Y.cells _ (Below.refl _ _)
   have FIN := Y.set (hXLr.below bd0)
   have FB := (((unhide HBW _ (below_step (unhide HW3) (below_step (unhide HBR) bd0))).setCell (p := ⟨b_R, 0, none⟩) (unhide HG_R) (.bool tL.s)).setCell (p := ⟨b_R, 1, none⟩) (unhide HG_R) (.slice tL.a1 tL.n1 tL.c1)).setCell (p := ⟨b_R, 2, none⟩) (unhide HG_R) (.slice tL.a2 tL.n2 tL.c2)
   obtain ⟨Wf, hWf⟩ : ∃ W, ((Wg.setCell ⟨b_R, 0, none⟩ (.bool tL.s)).setCell ⟨b_R, 1, none⟩ (.slice tL.a1 tL.n1 tL.c1)).setCell ⟨b_R, 2, none⟩ (.slice tL.a2 tL.n2 tL.c2) = W := ⟨_, rfl⟩
   rw [hWf] at FIN FB
   have HFIN := hide FIN
   have HFB := hide FB
   clear Y FIN FB
   refine wpTill_one (k := 3) (by kernel_rfl) rfl (fun K hK => ?_)
   (try simp only [List.getElem_toArray, List.getElem_cons_succ, List.getElem_cons_zero])
   go_simp
   refine hK.out _ _ (fun h => absurd (h.symm.trans (by kernel_rfl)) Bool.false_ne_true) ?_
   clear hK K
   (try simp only [Act.put, List.setIfInBounds_toArray, List.set_cons_zero, List.set_cons_succ])
   refine wpTill_one (k := 4) (by kernel_rfl) rfl (fun K hK => ?_)
   (try simp only [List.getElem_toArray, List.getElem_cons_succ, List.getElem_cons_zero])
   go_simp
   refine hK.out _ _ (fun h => absurd (h.symm.trans (by kernel_rfl)) Bool.false_ne_true) ?_
   clear hK K
   (try simp only [Act.put, List.setIfInBounds_toArray, List.set_cons_zero, List.set_cons_succ])
   refine wpTill_done (by kernel_rfl) ?_ _
   have ⟨x0, x1, x2⟩ := (unhide HFIN).cells _ (Below.refl _ _)
   clear hXLr
   go_wp2
   (try simp only [Exit.inBlock, Exit.then])
   have hbb := unhide HBB2
   subst hbb
   exact bodyPost_ret (v := .tuple #[.int .i64 (Rnw.bst f i : Int), .agg #[.bool tL.s, .slice tL.a1 tL.n1 tL.c1, .slice tL.a2 tL.n2 tL.c2], .nilIface]) (by simp [results, Tryz.results36, go_sem, x0, x1, x2]) rfl ⟨_, rfl, (unhide HFIN).2, unhide HFB⟩

end Go.Proofs.YtcelbgleajpenaaGreatDoor
