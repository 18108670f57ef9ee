/- What Age and Cost of replacing say where something is wrong. -/
import Derived.Test.YtcelbgleajpenaaGreatDoorRZ5z
namespace Go.Proofs.YtcelbgleajpenaaGreatDoor
open Go.RowKit Go.Sort Go.Shelf

set_option maxHeartbeats 16000000 in
set_option maxRecDepth 100000 in
set_option linter.unusedSimpArgs false in
theorem rCost_ok (v vf vp : Value) (qs : List Rat) (qf qp : Rat) (J JS JJ : Nat) (n : Nat) (w : World) (h : LawIs w v qs) (hf0 : RatIs w vf qf) (hp0 : RatIs w vp qp) (hq : ∀ j, j < qs.length → RS qs[j]! J) (rf : RS qf JS) (rp : RS qp JS) (hk : rcc qs qf qp = 0) (hJS : 102 * (101 * (J + 1) + 5) + J ≤ JS) (hJJ : 4 * JS + 8 ≤ JJ) (hJ : JJ + JJ + 1 ≤ KK) (hn1 : 1 ≤ n) (hn2 : n ≤ 100) :
  Calls Tryz.prog 39 #[v, vf, vp, .int .i64 (n : Int)] w fun e w' => ∃ u, e = .returned (.tuple #[u, .nilIface]) ∧ RatIs w' u (Rnw.cst qf qp (xq qs) n) ∧ Below w.heap.size w w' := by
 obtain ⟨hk1, hf00, hp00⟩ := rcc_zero hk
 obtain ⟨hA, ht, hl1, hl2⟩ := rnc_age hk1
 have hg1 := hA.g1
 have m1 := Nat.mul_le_mul_right (J + 1) hl2
 obtain ⟨tf, rfl, hf⟩ := tri_of hf0
 obtain ⟨tp, rfl, hp⟩ := tri_of hp0
 simp only [Tri.val]
 have bb_1 := alloc_below w (.cells #[.bool tf.s, .slice tf.a1 tf.n1 tf.c1, .slice tf.a2 tf.n2 tf.c2] 37)
 have X_1 := BoxIs.new (hf)
 obtain ⟨W_1, hW_1⟩ : ∃ W, w.alloc (.cells #[.bool tf.s, .slice tf.a1 tf.n1 tf.c1, .slice tf.a2 tf.n2 tf.c2] 37) = W := ⟨_, rfl⟩
 obtain ⟨b_f, hb_f⟩ : ∃ b, w.heap.size = b := ⟨_, rfl⟩
 rw [hW_1] at bb_1 X_1
 rw [hb_f] at X_1
 have X_1_ := X_1
 have tb_1 := bb_1
 have hg_f : w.heap.size ≤ b_f := by rw [← hb_f]; exact Nat.le_refl _
 have HG_f := hide hg_f
 have bb_2 := alloc_below W_1 (.cells #[.bool tp.s, .slice tp.a1 tp.n1 tp.c1, .slice tp.a2 tp.n2 tp.c2] 37)
 have X_2 := BoxIs.new (hp.below tb_1)
 obtain ⟨W_2, hW_2⟩ : ∃ W, W_1.alloc (.cells #[.bool tp.s, .slice tp.a1 tp.n1 tp.c1, .slice tp.a2 tp.n2 tp.c2] 37) = W := ⟨_, rfl⟩
 obtain ⟨b_p, hb_p⟩ : ∃ b, W_1.heap.size = b := ⟨_, rfl⟩
 rw [hW_2] at bb_2 X_2
 rw [hb_p] at X_2
 have X_2_ := X_2
 have tb_2 := below_step tb_1 bb_2
 have hg_p : w.heap.size ≤ b_p := by rw [← hb_p]; exact tb_1.size
 have HG_p := hide hg_p
 have bb_3 := alloc_below W_2 (.cells #[.bool false, .slice none 0 0, .slice none 0 0] 37)
 have X_3 := BoxIs.new (w := W_2) (t := zTri) (q := 0) (rat_zero _)
 obtain ⟨W_3, hW_3⟩ : ∃ W, W_2.alloc (.cells #[.bool false, .slice none 0 0, .slice none 0 0] 37) = W := ⟨_, rfl⟩
 obtain ⟨b_R, hb_R⟩ : ∃ b, W_2.heap.size = b := ⟨_, rfl⟩
 have X_3_ : BoxIs W_3 b_R zTri 0 := by rw [← hW_3, ← hb_R]; exact X_3
 rw [hW_3] at bb_3
 have tb_3 := below_step tb_2 bb_3
 have hg_R : w.heap.size ≤ b_R := by rw [← hb_R]; exact tb_2.size
 have HG_R := hide hg_R
 have HX_f := hide (fun W (hW : Below W_3.heap.size W_3 W) => ((X_1_.keep bb_2).keep bb_3).keep hW)
 have HX_p := hide (fun W (hW : Below W_3.heap.size W_3 W) => (X_2_.keep bb_3).keep hW)
 have HX_R := hide (fun W (hW : Below W_3.heap.size W_3 W) => X_3_.keep hW)
 have HBW := hide (fun W (hW : Below W_3.heap.size W_3 W) => below_step tb_3 hW)
 have HB0 := hide tb_3
 clear bb_1 X_1 X_1_ tb_1 bb_2 X_2 X_2_ tb_2 bb_3 X_3 X_3_ tb_3 hg_f hg_p hg_R
 have HC := hide (rcosts_any v tf.val tp.val qs qf qp J W_3 (h.below (unhide HB0)) (unhide HX_f _ (Below.refl _ _)).2 (unhide HX_p _ (Below.refl _ _)).2 hq (by omega))
 rw [hk, errV_zero] at HC
 simp only [Tri.val] at HC
 have HH := hide h
 have HQ := hide hq
 obtain ⟨N, hN⟩ : ∃ N, n + 1 = N := ⟨_, rfl⟩
 have HLG : Hid (∀ W, Below w.heap.size w W → Calls Tryz.prog 77 #[v, .int .i64 (n : Int)] W (DivPostz W (row (Rnw.sv (xq qs)) N) N)) := fun W hW => longer_any v qs J JJ n N W ((unhide HH).below hW) (unhide HQ) hN (by omega) (by omega) (by omega)
 have hSR := svRS_of hq hl2 (show 102 * (101 * (J + 1) + 5) ≤ JS by omega)
 have s1 := fun i => (sv_RS hq rfl i).mono (show qs.length * (J + 1) + 3 ≤ 101 * (J + 1) + 3 by omega)
 have m2 := Nat.mul_le_mul_right (101 * (J + 1) + 3 + 1) (show n ≤ 101 by omega)
 have hJ2 : (n * (101 * (J + 1) + 3 + 1) + 1 + (101 * (J + 1) + 3)) + (n * (101 * (J + 1) + 3 + 1) + 1 + (101 * (J + 1) + 3)) + 1 ≤ KK := by omega
 have HSV : Hid (∀ k, RS (Rnw.sv (xq qs) k) JS) := hSR.sv
 have HPSn : Hid (RS (Bth.ps (Rnw.sv (xq qs)) n) JS) := hSR.ps n (by omega)
 have HNZn : Hid ((Bth.ps (Rnw.sv (xq qs)) n).num ≠ 0) := fun e => hA.ne hn1 (Rat.num_eq_zero.1 e)
 have HRF := hide rf
 have HRP := hide rp
 have HJJ := hide hJJ
 have HJ := hide hJ
 obtain ⟨x, hx⟩ : ∃ x, xq qs = x := ⟨_, rfl⟩
 rw [hx] at HLG HSV HPSn HNZn s1 ⊢
 have HSU0 : Hid (∀ W u, LawIs W u (row (Rnw.sv x) n) → Calls Tryz.prog 79 #[u] W fun e w' => ∃ v, e = .returned v ∧ RatIs w' v (Bth.ps (Rnw.sv x) n) ∧ Below W.heap.size W w') := fun W u hu => by
  have := sumR_any u (row (Rnw.sv x) n) (101 * (J + 1) + 3) W hu (fun j hj => by rw [row_length] at hj; rw [row_get hj]; exact s1 j) (by rw [row_length]; exact hJ2)
  rw [qsum_rowN] at this
  exact this
 have HCS := hide (cst_is qf qp x n)
 have HN := hide hN
 have hNN : N ≤ 101 := by omega
 have g1 : ¬ (n : Int) < 1 := by omega
 have g2 : ¬ (100 : Int) < (n : Int) := by omega
 have g3 : (n : Int) < (N : Int) := by omega
 have g4 : (0 : Int) ≤ (n : Int) := by omega
 have g5 : (n : Int) ≤ (N : Int) := by omega
 have h' := h
 obtain ⟨a, c, rfl, -⟩ := h'
 clear h hq hk hk1 hf00 hp00 hJS hJJ hJ hA ht hl1 hl2 m1 m2 hx hN HH HQ hf hp hf0 hp0 rf rp hSR s1 hJ2 hg1
 generalize qs.length = nq at *
 have ⟨c0, c1, c2⟩ := (unhide HX_f _ (Below.refl _ _)).cells _ (Below.refl _ _)
 have ⟨d0, d1, d2⟩ := (unhide HX_p _ (Below.refl _ _)).cells _ (Below.refl _ _)
 go_enter Tryz.func39, Tryz.ntmps39
 go_wp2_with fail
 clear hW_1 hb_f hW_2 hb_p hW_3 hb_R c0 c1 c2 d0 d1 d2
 refine (unhide HC).mono ?_
 rintro e w1 ⟨rfl, hb1⟩
 have HB1 := hide hb1
 clear hb1 HC
 go_wp2_with fail
 refine (unhide HLG w1 (unhide HBW _ (unhide HB1))).mono ?_
 rintro e w3 ⟨GO, us, rfl, hul, hgl, S⟩
 have HW3 := hide (below_step (unhide HB1) S.bl)
 have hNl : N = n + 1 := (unhide HN).symm
 have ⟨⟨p0, p1, p2⟩, _⟩ := S.cells n (by omega)
 have ra := S.rat n (by omega)
 rw [row_get (by omega)] at ra
 obtain ⟨ta, hta⟩ : ∃ t, us[n]! = t := ⟨_, rfl⟩
 rw [hta] at p0 p1 p2 ra
 have LW := S.law_take (by omega) (n := n) (by omega) (ps := row (Rnw.sv x) n) (row_length _ _) (fun j hj => by rw [row_get hj, row_get (by omega)])
 rw [hul] at LW
 have hGl : GO < w3.heap.size := (Array.getElem?_eq_some_iff.1 S.row).1
 have HSU : Hid (∀ W, Below w3.heap.size w3 W → Calls Tryz.prog 79 #[.slice (some ⟨GO, 0, none⟩) n N] W fun e w' => ∃ v, e = .returned v ∧ RatIs w' v (Bth.ps (Rnw.sv x) n) ∧ Below W.heap.size W w') := fun W hW => unhide HSU0 W _ (LW.below hW)
 have HCC : Hid (∀ W, Below w3.heap.size w3 W → (fun w' : World => (w'.cell? ⟨b_f, 0, none⟩ = some (.bool tf.s) ∧ w'.cell? ⟨b_f, 1, none⟩ = some (.slice tf.a1 tf.n1 tf.c1) ∧ w'.cell? ⟨b_f, 2, none⟩ = some (.slice tf.a2 tf.n2 tf.c2)) ∧ (w'.cell? ⟨b_p, 0, none⟩ = some (.bool tp.s) ∧ w'.cell? ⟨b_p, 1, none⟩ = some (.slice tp.a1 tp.n1 tp.c1) ∧ w'.cell? ⟨b_p, 2, none⟩ = some (.slice tp.a2 tp.n2 tp.c2)) ∧ (w'.cell? ⟨GO, n * 3, none⟩ = some (.bool ta.s) ∧ w'.cell? ⟨GO, n * 3 + 1, none⟩ = some (.slice ta.a1 ta.n1 ta.c1) ∧ w'.cell? ⟨GO, n * 3 + 2, none⟩ = some (.slice ta.a2 ta.n2 ta.c2))) W) := fun W hW => by
  have h3 := below_step (unhide HW3) hW
  refine ⟨(unhide HX_f _ h3).cells _ (Below.refl _ _), (unhide HX_p _ h3).cells _ (Below.refl _ _), ?_, ?_, ?_⟩
  ·rw [hW.cell (p := ⟨GO, n * 3, none⟩) hGl]; exact p0
  ·rw [hW.cell (p := ⟨GO, n * 3 + 1, none⟩) hGl]; exact p1
  ·rw [hW.cell (p := ⟨GO, n * 3 + 2, none⟩) hGl]; exact p2
 have HTF := hide (unhide HX_f _ (unhide HW3)).2
 have HTP := hide (unhide HX_p _ (unhide HW3)).2
 have HTA := hide ra
 clear S LW hGl HLG HB1 HSU0 hul hgl hta ra p0 p1 p2 hNl
 go_wp2_with fail
 refine wp_region_till (fun w' : World => (w'.cell? ⟨b_f, 0, none⟩ = some (.bool tf.s) ∧ w'.cell? ⟨b_f, 1, none⟩ = some (.slice tf.a1 tf.n1 tf.c1) ∧ w'.cell? ⟨b_f, 2, none⟩ = some (.slice tf.a2 tf.n2 tf.c2)) ∧ (w'.cell? ⟨b_p, 0, none⟩ = some (.bool tp.s) ∧ w'.cell? ⟨b_p, 1, none⟩ = some (.slice tp.a1 tp.n1 tp.c1) ∧ w'.cell? ⟨b_p, 2, none⟩ = some (.slice tp.a2 tp.n2 tp.c2)) ∧ (w'.cell? ⟨GO, n * 3, none⟩ = some (.bool ta.s) ∧ w'.cell? ⟨GO, n * 3 + 1, none⟩ = some (.slice ta.a1 ta.n1 ta.c1) ∧ w'.cell? ⟨GO, n * 3 + 2, none⟩ = some (.slice ta.a2 ta.n2 ta.c2))) 11 (by kernel_rfl) ?_
 have bd0 : Below w3.heap.size w3 w3.drew := (Below.refl _ _).drew
 obtain ⟨Wd, hWd⟩ : ∃ W, w3.drew = W := ⟨_, rfl⟩
 rw [hWd] at bd0 ⊢
 have hC0 : (fun w' : World => (w'.cell? ⟨b_f, 0, none⟩ = some (.bool tf.s) ∧ w'.cell? ⟨b_f, 1, none⟩ = some (.slice tf.a1 tf.n1 tf.c1) ∧ w'.cell? ⟨b_f, 2, none⟩ = some (.slice tf.a2 tf.n2 tf.c2)) ∧ (w'.cell? ⟨b_p, 0, none⟩ = some (.bool tp.s) ∧ w'.cell? ⟨b_p, 1, none⟩ = some (.slice tp.a1 tp.n1 tp.c1) ∧ w'.cell? ⟨b_p, 2, none⟩ = some (.slice tp.a2 tp.n2 tp.c2)) ∧ (w'.cell? ⟨GO, n * 3, none⟩ = some (.bool ta.s) ∧ w'.cell? ⟨GO, n * 3 + 1, none⟩ = some (.slice ta.a1 ta.n1 ta.c1) ∧ w'.cell? ⟨GO, n * 3 + 2, none⟩ = some (.slice ta.a2 ta.n2 ta.c2))) Wd := unhide HCC _ bd0
 refine wpTill_take (i := 0) (v := ?_) rfl (by kernel_rfl) (by kernel_rfl) (by kernel_rfl) (by kernel_rfl) (by kernel_rfl) (by kernel_rfl) (fun _ _ _ h => h) (Or.inl ⟨by rfl, ?_⟩) hC0 ?_
 rotate_left
 ·intro w hSw; (try dsimp only at hSw); obtain ⟨⟨u0, u1, u2⟩, ⟨u3, u4, u5⟩, u6, u7, u8⟩ := hSw; go_simp; (try with_reducible rfl)
 (try simp only [List.getElem_toArray, List.getElem_cons_succ, List.getElem_cons_zero])
 (try simp only [Act.put, List.setIfInBounds_toArray, List.set_cons_zero, List.set_cons_succ])
 refine wpTill_take (i := 1) (v := ?_) rfl (by kernel_rfl) (by kernel_rfl) (by kernel_rfl) (by kernel_rfl) (by kernel_rfl) (by kernel_rfl) (fun _ _ _ h => h) (Or.inl ⟨by rfl, ?_⟩) hC0 ?_
 rotate_left
 ·intro w hSw; (try dsimp only at hSw); obtain ⟨⟨u0, u1, u2⟩, ⟨u3, u4, u5⟩, u6, u7, u8⟩ := hSw; go_simp; (try with_reducible rfl)
 (try simp only [List.getElem_toArray, List.getElem_cons_succ, List.getElem_cons_zero])
 (try simp only [Act.put, List.setIfInBounds_toArray, List.set_cons_zero, List.set_cons_succ])
 refine wpTill_pure (i := 2) (v := ?_) rfl (by kernel_rfl) (by kernel_rfl) (by kernel_rfl) (by kernel_rfl) (fun _ _ _ h => h) (Or.inl ⟨by rfl, ?_⟩) (fun _ => hC0) ?_
 rotate_left
 ·intro w hSw; clear hSw; go_simp; (try with_reducible rfl)
 (try simp only [List.getElem_toArray, List.getElem_cons_succ, List.getElem_cons_zero])
 (try simp only [Act.put, List.setIfInBounds_toArray, List.set_cons_zero, List.set_cons_succ])
 refine wpTill_pure (i := 3) (v := ?_) rfl (by kernel_rfl) (by kernel_rfl) (by kernel_rfl) (by kernel_rfl) (fun _ _ _ h => h) (Or.inl ⟨by rfl, ?_⟩) (fun _ => hC0) ?_
 rotate_left
 ·intro w hSw; clear hSw; go_simp; (try with_reducible rfl)
 (try simp only [List.getElem_toArray, List.getElem_cons_succ, List.getElem_cons_zero])
 (try simp only [Act.put, List.setIfInBounds_toArray, List.set_cons_zero, List.set_cons_succ])
 refine wpTill_pure (i := 4) (v := ?_) rfl (by kernel_rfl) (by kernel_rfl) (by kernel_rfl) (by kernel_rfl) (fun _ _ _ h => h) (Or.inl ⟨by rfl, ?_⟩) (fun _ => hC0) ?_
 rotate_left
 ·intro w hSw; clear hSw; go_simp; (try with_reducible rfl)
 (try simp only [List.getElem_toArray, List.getElem_cons_succ, List.getElem_cons_zero])
 (try simp only [Act.put, List.setIfInBounds_toArray, List.set_cons_zero, List.set_cons_succ])
 refine wpTill_take (i := 5) (v := ?_) rfl (by kernel_rfl) (by kernel_rfl) (by kernel_rfl) (by kernel_rfl) (by kernel_rfl) (by kernel_rfl) (fun _ _ _ h => h) (Or.inl ⟨by rfl, ?_⟩) hC0 ?_
 rotate_left
 ·intro w hSw; (try dsimp only at hSw); obtain ⟨⟨u0, u1, u2⟩, ⟨u3, u4, u5⟩, u6, u7, u8⟩ := hSw; go_simp; (try with_reducible rfl)
 (try simp only [List.getElem_toArray, List.getElem_cons_succ, List.getElem_cons_zero])
 (try simp only [Act.put, List.setIfInBounds_toArray, List.set_cons_zero, List.set_cons_succ])
 refine wpTill_pure (i := 6) (v := ?_) rfl (by kernel_rfl) (by kernel_rfl) (by kernel_rfl) (by kernel_rfl) (fun _ _ _ h => h) (Or.inl ⟨by rfl, ?_⟩) (fun _ => hC0) ?_
 rotate_left
 ·intro w hSw; clear hSw; go_simp; (try with_reducible rfl)
 (try simp only [List.getElem_toArray, List.getElem_cons_succ, List.getElem_cons_zero])
 (try simp only [Act.put, List.setIfInBounds_toArray, List.set_cons_zero, List.set_cons_succ])
 refine wpTill_pure (i := 7) (v := ?_) rfl (by kernel_rfl) (by kernel_rfl) (by kernel_rfl) (by kernel_rfl) (fun _ _ _ h => h) (Or.inl ⟨by rfl, ?_⟩) (fun _ => hC0) ?_
 rotate_left
 ·intro w hSw; clear hSw; go_simp; (try with_reducible rfl)
 (try simp only [List.getElem_toArray, List.getElem_cons_succ, List.getElem_cons_zero])
 (try simp only [Act.put, List.setIfInBounds_toArray, List.set_cons_zero, List.set_cons_succ])
 refine wpTill_pure (i := 8) (v := ?_) rfl (by kernel_rfl) (by kernel_rfl) (by kernel_rfl) (by kernel_rfl) (fun _ _ _ h => h) (Or.inl ⟨by rfl, ?_⟩) (fun _ => hC0) ?_
 rotate_left
 ·intro w hSw; clear hSw; go_simp; (try with_reducible rfl)
 (try simp only [List.getElem_toArray, List.getElem_cons_succ, List.getElem_cons_zero])
 (try simp only [Act.put, List.setIfInBounds_toArray, List.set_cons_zero, List.set_cons_succ])
 refine wpTill_one (k := 9) (by kernel_rfl) rfl (fun K hK => ?_)
 (try simp only [List.getElem_toArray, List.getElem_cons_succ, List.getElem_cons_zero])
 go_simp
 refine (unhide HSU _ bd0).mono ?_
 rintro e xw_1 ⟨xv_1, rfl, hv_1, hb_1⟩
 have cc_1 := below_step bd0 hb_1
 have hC_1 : (fun w' : World => (w'.cell? ⟨b_f, 0, none⟩ = some (.bool tf.s) ∧ w'.cell? ⟨b_f, 1, none⟩ = some (.slice tf.a1 tf.n1 tf.c1) ∧ w'.cell? ⟨b_f, 2, none⟩ = some (.slice tf.a2 tf.n2 tf.c2)) ∧ (w'.cell? ⟨b_p, 0, none⟩ = some (.bool tp.s) ∧ w'.cell? ⟨b_p, 1, none⟩ = some (.slice tp.a1 tp.n1 tp.c1) ∧ w'.cell? ⟨b_p, 2, none⟩ = some (.slice tp.a2 tp.n2 tp.c2)) ∧ (w'.cell? ⟨GO, n * 3, none⟩ = some (.bool ta.s) ∧ w'.cell? ⟨GO, n * 3 + 1, none⟩ = some (.slice ta.a1 ta.n1 ta.c1) ∧ w'.cell? ⟨GO, n * 3 + 2, none⟩ = some (.slice ta.a2 ta.n2 ta.c2))) xw_1 := unhide HCC _ cc_1
 refine hK.out _ _ (fun _ => hC_1) ?_
 clear hK K
 (try simp only [Act.put, List.setIfInBounds_toArray, List.set_cons_zero, List.set_cons_succ])
 refine wpTill_one (k := 10) (by kernel_rfl) rfl (fun K hK => ?_)
 (try simp only [List.getElem_toArray, List.getElem_cons_succ, List.getElem_cons_zero])
 go_simp
 refine (rcost_any tf.val tp.val ta.val _ qf qp (Rnw.sv x n) (Bth.ps (Rnw.sv x) n) JS JJ _ ((unhide HTF).below cc_1) ((unhide HTP).below cc_1) ((unhide HTA).below cc_1) hv_1 (unhide HRF) (unhide HRP) (unhide HSV n) (unhide HPSn) (unhide HNZn) (unhide HJJ) (unhide HJ)).mono ?_
 rintro e xw_2 ⟨xv_2, rfl, hv_2, hb_2⟩
 have cc_2 := below_step cc_1 hb_2
 have hC_2 : (fun w' : World => (w'.cell? ⟨b_f, 0, none⟩ = some (.bool tf.s) ∧ w'.cell? ⟨b_f, 1, none⟩ = some (.slice tf.a1 tf.n1 tf.c1) ∧ w'.cell? ⟨b_f, 2, none⟩ = some (.slice tf.a2 tf.n2 tf.c2)) ∧ (w'.cell? ⟨b_p, 0, none⟩ = some (.bool tp.s) ∧ w'.cell? ⟨b_p, 1, none⟩ = some (.slice tp.a1 tp.n1 tp.c1) ∧ w'.cell? ⟨b_p, 2, none⟩ = some (.slice tp.a2 tp.n2 tp.c2)) ∧ (w'.cell? ⟨GO, n * 3, none⟩ = some (.bool ta.s) ∧ w'.cell? ⟨GO, n * 3 + 1, none⟩ = some (.slice ta.a1 ta.n1 ta.c1) ∧ w'.cell? ⟨GO, n * 3 + 2, none⟩ = some (.slice ta.a2 ta.n2 ta.c2))) xw_2 := unhide HCC _ cc_2
 refine hK.out _ _ (fun _ => hC_2) ?_
 clear hK K
 (try simp only [Act.put, List.setIfInBounds_toArray, List.set_cons_zero, List.set_cons_succ])
 obtain ⟨t5, rfl, r5⟩ := tri_of hv_2
 simp only [Tri.val]
 have Y := unhide HX_R _ (below_step (unhide HW3) cc_2)
 have ⟨l0, l1, l2⟩ := Y.free
 have ⟨y0, y1, y2⟩ := Y.cells _ (Below.refl _ _)
 have FIN := Y.set r5
 have FB := (((unhide HBW _ (below_step (unhide HW3) cc_2)).setCell (p := ⟨b_R, 0, none⟩) (unhide HG_R) (.bool t5.s)).setCell (p := ⟨b_R, 1, none⟩) (unhide HG_R) (.slice t5.a1 t5.n1 t5.c1)).setCell (p := ⟨b_R, 2, none⟩) (unhide HG_R) (.slice t5.a2 t5.n2 t5.c2)
 obtain ⟨Wf, hWf⟩ : ∃ W, ((xw_2.setCell ⟨b_R, 0, none⟩ (.bool t5.s)).setCell ⟨b_R, 1, none⟩ (.slice t5.a1 t5.n1 t5.c1)).setCell ⟨b_R, 2, none⟩ (.slice t5.a2 t5.n2 t5.c2) = W := ⟨_, rfl⟩
 rw [hWf] at FIN FB
 have HFIN := hide FIN
 have HFB := hide FB
 clear Y FIN FB
 refine wpTill_one (k := 11) (by kernel_rfl) rfl (fun K hK => ?_)
 (try simp only [List.getElem_toArray, List.getElem_cons_succ, List.getElem_cons_zero])
 go_simp
 refine hK.out _ _ (fun h => absurd (h.symm.trans (by kernel_rfl)) Bool.false_ne_true) ?_
 clear hK K
 (try simp only [Act.put, List.setIfInBounds_toArray, List.set_cons_zero, List.set_cons_succ])
 refine wpTill_one (k := 12) (by kernel_rfl) rfl (fun K hK => ?_)
 (try simp only [List.getElem_toArray, List.getElem_cons_succ, List.getElem_cons_zero])
 go_simp
 refine hK.out _ _ (fun h => absurd (h.symm.trans (by kernel_rfl)) Bool.false_ne_true) ?_
 clear hK K
 (try simp only [Act.put, List.setIfInBounds_toArray, List.set_cons_zero, List.set_cons_succ])
 refine wpTill_done (by kernel_rfl) ?_ _
 have ⟨x0, x1, x2⟩ := (unhide HFIN).cells _ (Below.refl _ _)
 go_wp2
 (try simp only [Exit.inBlock, Exit.then])
 exact bodyPost_ret (v := .tuple #[.agg #[.bool t5.s, .slice t5.a1 t5.n1 t5.c1, .slice t5.a2 t5.n2 t5.c2], .nilIface]) (by simp [results, Tryz.results39, go_sem, x0, x1, x2]) rfl ⟨_, rfl, by have := (unhide HFIN).2; rw [unhide HCS] at this; exact this, unhide HFB⟩

end Go.Proofs.YtcelbgleajpenaaGreatDoor
namespace Go.Proofs.YtcelbgleajpenaaGreatDoor
open Go.RowKit Go.Sort Go.Shelf

set_option maxHeartbeats 16000000 in
set_option maxRecDepth 100000 in
set_option linter.unusedSimpArgs false in
theorem age_err (v vf vp : Value) (qs : List Rat) (qf qp : Rat) (J : Nat) (k : Int) (w : World) (h : LawIs w v qs) (hf0 : RatIs w vf qf) (hp0 : RatIs w vp qp) (hq : ∀ j, j < qs.length → RS qs[j]! J) (hJ : (qs.length * (J + 1) + 1 + J) + (qs.length * (J + 1) + 1 + J) + 1 ≤ KK) (hk : rcc qs qf qp = k) (hk0 : k ≠ 0) :
  Calls Tryz.prog 36 #[v, vf, vp] w fun e w' => e = .returned (.tuple #[.int .i64 0, .agg #[.bool false, .slice none 0 0, .slice none 0 0], .iface 27 (.int .i64 k)]) ∧ Below w.heap.size w w' := by
 obtain ⟨tf, rfl, hf⟩ := tri_of hf0
 obtain ⟨tp, rfl, hp⟩ := tri_of hp0
 simp only [Tri.val]
 have bb_1 := alloc_below w (.cells #[.bool tf.s, .slice tf.a1 tf.n1 tf.c1, .slice tf.a2 tf.n2 tf.c2] 37)
 have X_1 := BoxIs.new (hf)
 obtain ⟨W_1, hW_1⟩ : ∃ W, w.alloc (.cells #[.bool tf.s, .slice tf.a1 tf.n1 tf.c1, .slice tf.a2 tf.n2 tf.c2] 37) = W := ⟨_, rfl⟩
 obtain ⟨b_f, hb_f⟩ : ∃ b, w.heap.size = b := ⟨_, rfl⟩
 rw [hW_1] at bb_1 X_1
 rw [hb_f] at X_1
 have X_1_ := X_1
 have tb_1 := bb_1
 have hg_f : w.heap.size ≤ b_f := by rw [← hb_f]; exact Nat.le_refl _
 have HG_f := hide hg_f
 have bb_2 := alloc_below W_1 (.cells #[.bool tp.s, .slice tp.a1 tp.n1 tp.c1, .slice tp.a2 tp.n2 tp.c2] 37)
 have X_2 := BoxIs.new (hp.below tb_1)
 obtain ⟨W_2, hW_2⟩ : ∃ W, W_1.alloc (.cells #[.bool tp.s, .slice tp.a1 tp.n1 tp.c1, .slice tp.a2 tp.n2 tp.c2] 37) = W := ⟨_, rfl⟩
 obtain ⟨b_p, hb_p⟩ : ∃ b, W_1.heap.size = b := ⟨_, rfl⟩
 rw [hW_2] at bb_2 X_2
 rw [hb_p] at X_2
 have X_2_ := X_2
 have tb_2 := below_step tb_1 bb_2
 have hg_p : w.heap.size ≤ b_p := by rw [← hb_p]; exact tb_1.size
 have HG_p := hide hg_p
 have bb_3 := alloc_below W_2 (.cells #[.bool false, .slice none 0 0, .slice none 0 0] 37)
 have X_3 := BoxIs.new (w := W_2) (t := zTri) (q := 0) (rat_zero _)
 obtain ⟨W_3, hW_3⟩ : ∃ W, W_2.alloc (.cells #[.bool false, .slice none 0 0, .slice none 0 0] 37) = W := ⟨_, rfl⟩
 obtain ⟨b_R, hb_R⟩ : ∃ b, W_2.heap.size = b := ⟨_, rfl⟩
 have X_3_ : BoxIs W_3 b_R zTri 0 := by rw [← hW_3, ← hb_R]; exact X_3
 rw [hW_3] at bb_3
 have tb_3 := below_step tb_2 bb_3
 have hg_R : w.heap.size ≤ b_R := by rw [← hb_R]; exact tb_2.size
 have HG_R := hide hg_R
 have HX_f := hide (fun W (hW : Below W_3.heap.size W_3 W) => ((X_1_.keep bb_2).keep bb_3).keep hW)
 have HX_p := hide (fun W (hW : Below W_3.heap.size W_3 W) => (X_2_.keep bb_3).keep hW)
 have HX_R := hide (fun W (hW : Below W_3.heap.size W_3 W) => X_3_.keep hW)
 have HBW := hide (fun W (hW : Below W_3.heap.size W_3 W) => below_step tb_3 hW)
 have HB0 := hide tb_3
 clear bb_1 X_1 X_1_ tb_1 bb_2 X_2 X_2_ tb_2 bb_3 X_3 X_3_ tb_3 hg_f hg_p hg_R
 have HC := hide (rcosts_any v tf.val tp.val qs qf qp J W_3 (h.below (unhide HB0)) (unhide HX_f _ (Below.refl _ _)).2 (unhide HX_p _ (Below.refl _ _)).2 hq hJ)
 rw [hk, errV_not hk0] at HC
 simp only [Tri.val] at HC
 have h' := h
 obtain ⟨a, c, rfl, -⟩ := h'
 clear h hf0 hp0 hf hp hq hJ hk hk0
 generalize qs.length = nq at *
 have ⟨c0, c1, c2⟩ := (unhide HX_f _ (Below.refl _ _)).cells _ (Below.refl _ _)
 have ⟨d0, d1, d2⟩ := (unhide HX_p _ (Below.refl _ _)).cells _ (Below.refl _ _)
 go_enter Tryz.func36, Tryz.ntmps36
 go_wp2_with fail
 clear hW_1 hb_f hW_2 hb_p hW_3 hb_R c0 c1 c2 d0 d1 d2
 refine (unhide HC).mono ?_
 rintro e w1 ⟨rfl, hb1⟩
 have X2 := unhide HX_R _ hb1
 have ⟨g0, g1, g2, f0, f1, f2⟩ := box_cell X2.1
 have BEL := hide ((((unhide HBW _ hb1).setCell (p := ⟨b_R, 0, none⟩) (unhide HG_R) (.bool false)).setCell (p := ⟨b_R, 1, none⟩) (unhide HG_R) (.slice none 0 0)).setCell (p := ⟨b_R, 2, none⟩) (unhide HG_R) (.slice none 0 0))
 clear X2 hb1 HC
 go_wp2
 exact bodyPost_ret (v := .tuple #[.int .i64 0, .agg #[.bool false, .slice none 0 0, .slice none 0 0], .iface 27 (.int .i64 k)]) (by simp [results, Tryz.results36, go_sem, g0, g1, g2]) rfl ⟨rfl, unhide BEL⟩
set_option maxHeartbeats 16000000 in
set_option maxRecDepth 100000 in
set_option linter.unusedSimpArgs false in
theorem cost_err (n : Int) (v vf vp : Value) (qs : List Rat) (qf qp : Rat) (J : Nat) (k : Int) (w : World) (h : LawIs w v qs) (hf0 : RatIs w vf qf) (hp0 : RatIs w vp qp) (hq : ∀ j, j < qs.length → RS qs[j]! J) (hJ : (qs.length * (J + 1) + 1 + J) + (qs.length * (J + 1) + 1 + J) + 1 ≤ KK) (hk : rcc qs qf qp = k) (hk0 : k ≠ 0) :
  Calls Tryz.prog 39 #[v, vf, vp, .int .i64 n] w fun e w' => e = .returned (.tuple #[.agg #[.bool false, .slice none 0 0, .slice none 0 0], .iface 27 (.int .i64 k)]) ∧ Below w.heap.size w w' := by
 obtain ⟨tf, rfl, hf⟩ := tri_of hf0
 obtain ⟨tp, rfl, hp⟩ := tri_of hp0
 simp only [Tri.val]
 have bb_1 := alloc_below w (.cells #[.bool tf.s, .slice tf.a1 tf.n1 tf.c1, .slice tf.a2 tf.n2 tf.c2] 37)
 have X_1 := BoxIs.new (hf)
 obtain ⟨W_1, hW_1⟩ : ∃ W, w.alloc (.cells #[.bool tf.s, .slice tf.a1 tf.n1 tf.c1, .slice tf.a2 tf.n2 tf.c2] 37) = W := ⟨_, rfl⟩
 obtain ⟨b_f, hb_f⟩ : ∃ b, w.heap.size = b := ⟨_, rfl⟩
 rw [hW_1] at bb_1 X_1
 rw [hb_f] at X_1
 have X_1_ := X_1
 have tb_1 := bb_1
 have hg_f : w.heap.size ≤ b_f := by rw [← hb_f]; exact Nat.le_refl _
 have HG_f := hide hg_f
 have bb_2 := alloc_below W_1 (.cells #[.bool tp.s, .slice tp.a1 tp.n1 tp.c1, .slice tp.a2 tp.n2 tp.c2] 37)
 have X_2 := BoxIs.new (hp.below tb_1)
 obtain ⟨W_2, hW_2⟩ : ∃ W, W_1.alloc (.cells #[.bool tp.s, .slice tp.a1 tp.n1 tp.c1, .slice tp.a2 tp.n2 tp.c2] 37) = W := ⟨_, rfl⟩
 obtain ⟨b_p, hb_p⟩ : ∃ b, W_1.heap.size = b := ⟨_, rfl⟩
 rw [hW_2] at bb_2 X_2
 rw [hb_p] at X_2
 have X_2_ := X_2
 have tb_2 := below_step tb_1 bb_2
 have hg_p : w.heap.size ≤ b_p := by rw [← hb_p]; exact tb_1.size
 have HG_p := hide hg_p
 have bb_3 := alloc_below W_2 (.cells #[.bool false, .slice none 0 0, .slice none 0 0] 37)
 have X_3 := BoxIs.new (w := W_2) (t := zTri) (q := 0) (rat_zero _)
 obtain ⟨W_3, hW_3⟩ : ∃ W, W_2.alloc (.cells #[.bool false, .slice none 0 0, .slice none 0 0] 37) = W := ⟨_, rfl⟩
 obtain ⟨b_R, hb_R⟩ : ∃ b, W_2.heap.size = b := ⟨_, rfl⟩
 have X_3_ : BoxIs W_3 b_R zTri 0 := by rw [← hW_3, ← hb_R]; exact X_3
 rw [hW_3] at bb_3
 have tb_3 := below_step tb_2 bb_3
 have hg_R : w.heap.size ≤ b_R := by rw [← hb_R]; exact tb_2.size
 have HG_R := hide hg_R
 have HX_f := hide (fun W (hW : Below W_3.heap.size W_3 W) => ((X_1_.keep bb_2).keep bb_3).keep hW)
 have HX_p := hide (fun W (hW : Below W_3.heap.size W_3 W) => (X_2_.keep bb_3).keep hW)
 have HX_R := hide (fun W (hW : Below W_3.heap.size W_3 W) => X_3_.keep hW)
 have HBW := hide (fun W (hW : Below W_3.heap.size W_3 W) => below_step tb_3 hW)
 have HB0 := hide tb_3
 clear bb_1 X_1 X_1_ tb_1 bb_2 X_2 X_2_ tb_2 bb_3 X_3 X_3_ tb_3 hg_f hg_p hg_R
 have HC := hide (rcosts_any v tf.val tp.val qs qf qp J W_3 (h.below (unhide HB0)) (unhide HX_f _ (Below.refl _ _)).2 (unhide HX_p _ (Below.refl _ _)).2 hq hJ)
 rw [hk, errV_not hk0] at HC
 simp only [Tri.val] at HC
 have h' := h
 obtain ⟨a, c, rfl, -⟩ := h'
 clear h hf0 hp0 hf hp hq hJ hk hk0
 generalize qs.length = nq at *
 have ⟨c0, c1, c2⟩ := (unhide HX_f _ (Below.refl _ _)).cells _ (Below.refl _ _)
 have ⟨d0, d1, d2⟩ := (unhide HX_p _ (Below.refl _ _)).cells _ (Below.refl _ _)
 go_enter Tryz.func39, Tryz.ntmps39
 go_wp2_with fail
 clear hW_1 hb_f hW_2 hb_p hW_3 hb_R c0 c1 c2 d0 d1 d2
 refine (unhide HC).mono ?_
 rintro e w1 ⟨rfl, hb1⟩
 have X2 := unhide HX_R _ hb1
 have ⟨g0, g1, g2, f0, f1, f2⟩ := box_cell X2.1
 have BEL := hide ((((unhide HBW _ hb1).setCell (p := ⟨b_R, 0, none⟩) (unhide HG_R) (.bool false)).setCell (p := ⟨b_R, 1, none⟩) (unhide HG_R) (.slice none 0 0)).setCell (p := ⟨b_R, 2, none⟩) (unhide HG_R) (.slice none 0 0))
 clear X2 hb1 HC
 go_wp2
 exact bodyPost_ret (v := .tuple #[.agg #[.bool false, .slice none 0 0, .slice none 0 0], .iface 27 (.int .i64 k)]) (by simp [results, Tryz.results39, go_sem, g0, g1, g2]) rfl ⟨rfl, unhide BEL⟩
set_option maxHeartbeats 16000000 in
set_option maxRecDepth 100000 in
set_option linter.unusedSimpArgs false in
theorem cost_range (n : Int) (v vf vp : Value) (qs : List Rat) (qf qp : Rat) (J : Nat) (w : World) (h : LawIs w v qs) (hf0 : RatIs w vf qf) (hp0 : RatIs w vp qp) (hq : ∀ j, j < qs.length → RS qs[j]! J) (hJ : (qs.length * (J + 1) + 1 + J) + (qs.length * (J + 1) + 1 + J) + 1 ≤ KK) (hk : rcc qs qf qp = 0) (hn : n < 1 ∨ 100 < n) :
  Calls Tryz.prog 39 #[v, vf, vp, .int .i64 n] w fun e w' => e = .returned (.tuple #[.agg #[.bool false, .slice none 0 0, .slice none 0 0], .iface 27 (.int .i64 2)]) ∧ Below w.heap.size w w' := by
 obtain ⟨tf, rfl, hf⟩ := tri_of hf0
 obtain ⟨tp, rfl, hp⟩ := tri_of hp0
 simp only [Tri.val]
 have bb_1 := alloc_below w (.cells #[.bool tf.s, .slice tf.a1 tf.n1 tf.c1, .slice tf.a2 tf.n2 tf.c2] 37)
 have X_1 := BoxIs.new (hf)
 obtain ⟨W_1, hW_1⟩ : ∃ W, w.alloc (.cells #[.bool tf.s, .slice tf.a1 tf.n1 tf.c1, .slice tf.a2 tf.n2 tf.c2] 37) = W := ⟨_, rfl⟩
 obtain ⟨b_f, hb_f⟩ : ∃ b, w.heap.size = b := ⟨_, rfl⟩
 rw [hW_1] at bb_1 X_1
 rw [hb_f] at X_1
 have X_1_ := X_1
 have tb_1 := bb_1
 have hg_f : w.heap.size ≤ b_f := by rw [← hb_f]; exact Nat.le_refl _
 have HG_f := hide hg_f
 have bb_2 := alloc_below W_1 (.cells #[.bool tp.s, .slice tp.a1 tp.n1 tp.c1, .slice tp.a2 tp.n2 tp.c2] 37)
 have X_2 := BoxIs.new (hp.below tb_1)
 obtain ⟨W_2, hW_2⟩ : ∃ W, W_1.alloc (.cells #[.bool tp.s, .slice tp.a1 tp.n1 tp.c1, .slice tp.a2 tp.n2 tp.c2] 37) = W := ⟨_, rfl⟩
 obtain ⟨b_p, hb_p⟩ : ∃ b, W_1.heap.size = b := ⟨_, rfl⟩
 rw [hW_2] at bb_2 X_2
 rw [hb_p] at X_2
 have X_2_ := X_2
 have tb_2 := below_step tb_1 bb_2
 have hg_p : w.heap.size ≤ b_p := by rw [← hb_p]; exact tb_1.size
 have HG_p := hide hg_p
 have bb_3 := alloc_below W_2 (.cells #[.bool false, .slice none 0 0, .slice none 0 0] 37)
 have X_3 := BoxIs.new (w := W_2) (t := zTri) (q := 0) (rat_zero _)
 obtain ⟨W_3, hW_3⟩ : ∃ W, W_2.alloc (.cells #[.bool false, .slice none 0 0, .slice none 0 0] 37) = W := ⟨_, rfl⟩
 obtain ⟨b_R, hb_R⟩ : ∃ b, W_2.heap.size = b := ⟨_, rfl⟩
 have X_3_ : BoxIs W_3 b_R zTri 0 := by rw [← hW_3, ← hb_R]; exact X_3
 rw [hW_3] at bb_3
 have tb_3 := below_step tb_2 bb_3
 have hg_R : w.heap.size ≤ b_R := by rw [← hb_R]; exact tb_2.size
 have HG_R := hide hg_R
 have HX_f := hide (fun W (hW : Below W_3.heap.size W_3 W) => ((X_1_.keep bb_2).keep bb_3).keep hW)
 have HX_p := hide (fun W (hW : Below W_3.heap.size W_3 W) => (X_2_.keep bb_3).keep hW)
 have HX_R := hide (fun W (hW : Below W_3.heap.size W_3 W) => X_3_.keep hW)
 have HBW := hide (fun W (hW : Below W_3.heap.size W_3 W) => below_step tb_3 hW)
 have HB0 := hide tb_3
 clear bb_1 X_1 X_1_ tb_1 bb_2 X_2 X_2_ tb_2 bb_3 X_3 X_3_ tb_3 hg_f hg_p hg_R
 have HC := hide (rcosts_any v tf.val tp.val qs qf qp J W_3 (h.below (unhide HB0)) (unhide HX_f _ (Below.refl _ _)).2 (unhide HX_p _ (Below.refl _ _)).2 hq hJ)
 rw [hk, errV_zero] at HC
 simp only [Tri.val] at HC
 have h' := h
 obtain ⟨a, c, rfl, -⟩ := h'
 clear h hf0 hp0 hf hp hq hJ hk
 generalize qs.length = nq at *
 have ⟨c0, c1, c2⟩ := (unhide HX_f _ (Below.refl _ _)).cells _ (Below.refl _ _)
 have ⟨d0, d1, d2⟩ := (unhide HX_p _ (Below.refl _ _)).cells _ (Below.refl _ _)
 by_cases h1 : n < 1
 ·clear hn
  go_enter Tryz.func39, Tryz.ntmps39
  go_wp2_with fail
  clear hW_1 hb_f hW_2 hb_p hW_3 hb_R c0 c1 c2 d0 d1 d2
  refine (unhide HC).mono ?_
  rintro e w1 ⟨rfl, hb1⟩
  have X2 := unhide HX_R _ hb1
  have ⟨g0, g1, g2, f0, f1, f2⟩ := box_cell X2.1
  have BEL := hide ((((unhide HBW _ hb1).setCell (p := ⟨b_R, 0, none⟩) (unhide HG_R) (.bool false)).setCell (p := ⟨b_R, 1, none⟩) (unhide HG_R) (.slice none 0 0)).setCell (p := ⟨b_R, 2, none⟩) (unhide HG_R) (.slice none 0 0))
  clear X2 hb1 HC
  go_wp2
  exact bodyPost_ret (v := .tuple #[.agg #[.bool false, .slice none 0 0, .slice none 0 0], .iface 27 (.int .i64 2)]) (by simp [results, Tryz.results39, go_sem, g0, g1, g2]) rfl ⟨rfl, unhide BEL⟩
 ·have h2 : 100 < n := by omega
  clear hn
  go_enter Tryz.func39, Tryz.ntmps39
  go_wp2_with fail
  clear hW_1 hb_f hW_2 hb_p hW_3 hb_R c0 c1 c2 d0 d1 d2
  refine (unhide HC).mono ?_
  rintro e w1 ⟨rfl, hb1⟩
  have X2 := unhide HX_R _ hb1
  have ⟨g0, g1, g2, f0, f1, f2⟩ := box_cell X2.1
  have BEL := hide ((((unhide HBW _ hb1).setCell (p := ⟨b_R, 0, none⟩) (unhide HG_R) (.bool false)).setCell (p := ⟨b_R, 1, none⟩) (unhide HG_R) (.slice none 0 0)).setCell (p := ⟨b_R, 2, none⟩) (unhide HG_R) (.slice none 0 0))
  clear X2 hb1 HC
  go_wp2
  exact bodyPost_ret (v := .tuple #[.agg #[.bool false, .slice none 0 0, .slice none 0 0], .iface 27 (.int .i64 2)]) (by simp [results, Tryz.results39, go_sem, g0, g1, g2]) rfl ⟨rfl, unhide BEL⟩
end Go.Proofs.YtcelbgleajpenaaGreatDoor
