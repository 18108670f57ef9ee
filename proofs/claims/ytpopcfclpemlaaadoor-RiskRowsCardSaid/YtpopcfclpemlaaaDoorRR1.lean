/- Things of gates: powers. -/
import Derived.Test.YtpopcfclpemlaaaDoorRKB
namespace Go.Proofs.YtpopcfclpemlaaaDoor
open Go.RowKit Go.Sort Go.Shelf

set_option maxHeartbeats 16000000 in
set_option maxRecDepth 100000 in
set_option linter.unusedSimpArgs false in
theorem power_any (v : Value) (q : Rat) (n JB : Nat) (w : World) (ha0 : RatIs w v q) (hn : n ≤ 1000) (hq : RS q JB) (hs : ∀ k, k ≤ n → RS (Rsk.pwr q k) JB) (hJ : JB + JB + 1 ≤ KK) :
    Calls Tryd.prog 57 #[v, .int .i64 (n : Int)] w fun e w' => ∃ u, e = .returned u ∧ RatIs w' u (Rsk.pwr q n) ∧ Below w.heap.size w w' := by
  obtain ⟨ta, rfl, ha⟩ := tri_of ha0
  simp only [Tri.val]
  have bb_1 := alloc_below w (.cells #[.bool ta.s, .slice ta.a1 ta.n1 ta.c1, .slice ta.a2 ta.n2 ta.c2] 31)
  have X_1 := BoxIs.new (ha)
  obtain ⟨W_1, hW_1⟩ : ∃ W, w.alloc (.cells #[.bool ta.s, .slice ta.a1 ta.n1 ta.c1, .slice ta.a2 ta.n2 ta.c2] 31) = W := ⟨_, rfl⟩
  obtain ⟨b_a, hb_a⟩ : ∃ b, w.heap.size = b := ⟨_, rfl⟩
  rw [hW_1] at bb_1 X_1
  rw [hb_a] at X_1
  have X_1_ := X_1
  have tb_1 := bb_1
  have hg_a : w.heap.size ≤ b_a := by rw [← hb_a]; exact Nat.le_refl _
  have HG_a := hide hg_a
  have bb_2 := alloc_below W_1 (.cells #[.bool false, .slice none 0 0, .slice none 0 0] 31)
  have X_2 := BoxIs.new (w := W_1) (t := zTri) (q := 0) (rat_zero _)
  obtain ⟨W_2, hW_2⟩ : ∃ W, W_1.alloc (.cells #[.bool false, .slice none 0 0, .slice none 0 0] 31) = W := ⟨_, rfl⟩
  obtain ⟨b_R, hb_R⟩ : ∃ b, W_1.heap.size = b := ⟨_, rfl⟩
  have X_2_ : BoxIs W_2 b_R zTri 0 := by rw [← hW_2, ← hb_R]; exact X_2
  rw [hW_2] at bb_2
  have tb_2 := below_step tb_1 bb_2
  have hg_R : w.heap.size ≤ b_R := by rw [← hb_R]; exact tb_1.size
  have HG_R := hide hg_R
  have HX_a := hide (fun W (hW : Below W_2.heap.size W_2 W) => (X_1_.keep bb_2).keep hW)
  have HX_R := hide (fun W (hW : Below W_2.heap.size W_2 W) => X_2_.keep hW)
  have HBW := hide (fun W (hW : Below W_2.heap.size W_2 W) => below_step tb_2 hW)
  have HB0 := hide tb_2
  clear bb_1 X_1 X_1_ tb_1 bb_2 X_2 X_2_ tb_2 hg_a hg_R
  have HQ := hide hq
  have HS := hide hs
  have HJ := hide hJ
  clear ha0 ha hq hs hJ
  have ⟨c0, c1, c2⟩ := (unhide HX_a _ (Below.refl _ _)).cells _ (Below.refl _ _)
  go_enter Tryd.func57, Tryd.ntmps57
  go_wp2_with fail
  clear hW_1 hb_a hW_2 hb_R c0 c1 c2
  refine (whole_any 1 (by decide) (by decide) W_2).mono ?_
  rintro e w2 ⟨v2, rfl, hv2, hb2⟩
  obtain ⟨t2, rfl, r2⟩ := tri_of hv2
  simp only [Tri.val]
  have X2 := BoxIs.new r2
  have b3 := below_step hb2 (alloc_below w2 (.cells #[.bool t2.s, .slice t2.a1 t2.n1 t2.c1, .slice t2.a2 t2.n2 t2.c2] 31))
  have hgl : W_2.heap.size ≤ w2.heap.size := hb2.size
  obtain ⟨W2, hW2⟩ : ∃ W, w2.alloc (.cells #[.bool t2.s, .slice t2.a1 t2.n1 t2.c1, .slice t2.a2 t2.n2 t2.c2] 31) = W := ⟨_, rfl⟩
  obtain ⟨bL, hbL⟩ : ∃ b, w2.heap.size = b := ⟨_, rfl⟩
  rw [hW2] at X2 b3
  rw [hbL] at X2 hgl
  have e1 : ((1 : Int) : Rat) = Rsk.pwr q 0 := by show ((1 : Int) : Rat) = 1; simp
  rw [e1] at X2
  have HX2 := hide X2
  have HB2 := hide b3
  have HGL := hide hgl
  clear hv2 r2 X2 b3 hgl hb2 e1
  go_wp2_with fail
  clear hW2 hbL
  go_loopw [8] (fun vi wr => ∃ (i : Nat) (t : Tri), vi = .int .i64 (i : Int) ∧ i ≤ n ∧ Below W_2.heap.size W_2 wr ∧ BoxIs wr bL t (Rsk.pwr q i)) (fun vi _ => n - (intOf vi).toNat)
  case atStart => exact ⟨0, t2, rfl, Nat.zero_le _, unhide HB2, unhide HX2⟩
  case round =>
    obtain ⟨i, t, rfl, hi, hbr, X⟩ := hrel
    clear HX2 HB2
    have HBR := hide hbr
    have HXL := hide X
    by_cases hlt : i < n
    · have j1 : (i : Int) < (n : Int) := by omega
      have HLT := hide hlt
      have ⟨x0, x1, x2⟩ := X.cells _ (Below.refl _ _)
      have ⟨c0, c1, c2⟩ := (unhide HX_a _ hbr).cells _ (Below.refl _ _)
      have HMU := hide (mulR_any t.val ta.val (Rsk.pwr q i) q wr X.2 (unhide HX_a _ hbr).2 JB (unhide HS i hi) (unhide HQ) (unhide HJ))
      clear X hbr hlt
      simp only [Tri.val] at HMU
      go_wp2_with fail
      clear x0 x1 x2 c0 c1 c2
      refine (unhide HMU).mono ?_
      rintro e w5 ⟨v5, rfl, hv5, hb5⟩
      obtain ⟨t5, rfl, r5⟩ := tri_of hv5
      simp only [Tri.val]
      have X5 := (unhide HXL).keep hb5
      have ⟨l0, l1, l2⟩ := X5.free
      have ⟨y0, y1, y2⟩ := X5.cells _ (Below.refl _ _)
      have HNB := hide (X5.set r5)
      have HBS := hide ((((below_step (unhide HBR) hb5).setCell (p := ⟨bL, 0, none⟩) (unhide HGL) (.bool t5.s)).setCell (p := ⟨bL, 1, none⟩) (unhide HGL) (.slice t5.a1 t5.n1 t5.c1)).setCell (p := ⟨bL, 2, none⟩) (unhide HGL) (.slice t5.a2 t5.n2 t5.c2))
      clear hv5 r5 X5 hb5 HMU HXL HBR
      go_wp2
      exact ⟨⟨i + 1, t5, by go_num, unhide HLT, unhide HBS, unhide HNB⟩, by have := unhide HLT; simp [intOf]; omega⟩
    · obtain rfl : i = n := by omega
      have j1 : ¬ (i : Int) < (i : Int) := by omega
      have ⟨x0, x1, x2⟩ := X.cells _ (Below.refl _ _)
      have Y := unhide HX_R _ hbr
      have ⟨l0, l1, l2⟩ := Y.free
      have ⟨y0, y1, y2⟩ := Y.cells _ (Below.refl _ _)
      have FIN := Y.set X.2
      have FB := (((unhide HBW _ hbr).setCell (p := ⟨b_R, 0, none⟩) (unhide HG_R) (.bool t.s)).setCell (p := ⟨b_R, 1, none⟩) (unhide HG_R) (.slice t.a1 t.n1 t.c1)).setCell (p := ⟨b_R, 2, none⟩) (unhide HG_R) (.slice t.a2 t.n2 t.c2)
      obtain ⟨Wf, hWf⟩ : ∃ W, ((wr.setCell ⟨b_R, 0, none⟩ (.bool t.s)).setCell ⟨b_R, 1, none⟩ (.slice t.a1 t.n1 t.c1)).setCell ⟨b_R, 2, none⟩ (.slice t.a2 t.n2 t.c2) = W := ⟨_, rfl⟩
      rw [hWf] at FIN FB
      have HFIN := hide FIN
      have HFB := hide FB
      clear Y FIN FB
      clear X hbr
      go_wp2_with fail
      have ⟨z0, z1, z2⟩ := (unhide HFIN).cells _ (Below.refl _ _)
      clear hWf
      (try simp only [Exit.inBlock, Exit.then])
      exact bodyPost_ret (v := .agg #[.bool t.s, .slice t.a1 t.n1 t.c1, .slice t.a2 t.n2 t.c2]) (by simp [results, Tryd.results57, go_sem, z0, z1, z2]) rfl ⟨_, rfl, (unhide HFIN).2, unhide HFB⟩

end Go.Proofs.YtpopcfclpemlaaaDoor
