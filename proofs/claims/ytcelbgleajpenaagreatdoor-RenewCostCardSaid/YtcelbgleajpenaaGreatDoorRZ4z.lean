/- Renewals: Left. -/
import Derived.Test.YtcelbgleajpenaaGreatDoorRZ1bz
namespace Go.Proofs.YtcelbgleajpenaaGreatDoor
open Go.RowKit Go.Sort Go.Shelf

def DivPostz (w : World) (qs : List Rat) (n : Nat) (e : Ending) (w' : World) : Prop := ∃ g us, e = .returned (.slice (some ⟨g, 0, none⟩) n n) ∧ us.length = n ∧ w.heap.size ≤ g ∧ SumsAt w w' g us qs
theorem SumsAt.boxed {w wr : World} {g b : Nat} {us : List Tri} {qs : List Rat} {t : Tri} {q : Rat} (h : SumsAt w wr g us qs) (hx : BoxIs wr b t q) (hne : b ≠ g) (hge : w.heap.size ≤ b) (x0 x1 x2 : Value) :
  SumsAt w (((wr.setCell ⟨b, 0, none⟩ x0).setCell ⟨b, 1, none⟩ x1).setCell ⟨b, 2, none⟩ x2) g us qs :=
 ⟨by rw [Below.heap_setCell _ _ _ _ (Ne.symm hne), Below.heap_setCell _ _ _ _ (Ne.symm hne), Below.heap_setCell _ _ _ _ (Ne.symm hne)]; exact h.row, h.len, fun j hj => (h.rat j hj).rowed (us := [t]) hx.1 _ _ _ _ _ _, ((h.bl.setCell hge _).setCell hge _).setCell hge _, h.gl⟩
def lvx (x : Nat → Rat) (k : Nat) : Rat := 1 - Bth.ps x k
theorem lvx_step (x : Nat → Rat) (k : Nat) : lvx x k - x k = lvx x (k + 1) := by
 show 1 - Bth.ps x k - x k = 1 - (Bth.ps x k + x k)
 grind
theorem lvx_sv (x : Nat → Rat) (k : Nat) : lvx x (k + 1) = Rnw.sv x k := rfl
theorem ps_RS {qs : List Rat} {J n : Nat} (h : ∀ j, j < qs.length → RS qs[j]! J) (hn : qs.length = n) (k : Nat) : RS (Bth.ps (xq qs) k) (n * (J + 1) + 1) := by
 rcases Nat.lt_or_ge k n with a | a
 ·rw [← qsum_xq]
  have := Nat.mul_le_mul_right (J + 1) (Nat.le_of_lt a)
  exact (qsum_RS h k (by omega)).mono (by omega)
 ·rw [Rnw.ps_cut (xq qs) n k a (fun j p _ => xq_out (by omega)), ← qsum_xq]
  exact (qsum_RS h n (by omega)).mono (by omega)

theorem lvx_RS {qs : List Rat} {J n : Nat} (h : ∀ j, j < qs.length → RS qs[j]! J) (hn : qs.length = n) (k : Nat) : RS (lvx (xq qs) k) (n * (J + 1) + 3) :=
 (one_RS'.sub' (ps_RS h hn k)).mono (by omega)

set_option maxHeartbeats 16000000 in
set_option maxRecDepth 100000 in
set_option linter.unusedSimpArgs false in
theorem longer_any (v : Value) (qs : List Rat) (J JJ up N : Nat) (w : World) (h : LawIs w v qs) (hq : ∀ j, j < qs.length → RS qs[j]! J) (hN : up + 1 = N) (hup : up ≤ 1000) (hJJ : qs.length * (J + 1) + 3 + J ≤ JJ) (hJ : JJ + JJ + 1 ≤ KK) :
  Calls Tryz.prog 77 #[v, .int .i64 (up : Int)] w (DivPostz w (row (Rnw.sv (xq qs)) N) N) := by
 have HJ := hide hJ
 have h' := h
 obtain ⟨a, c, rfl, -⟩ := h'
 obtain ⟨-, hc1, hc2, h3⟩ := h.parts
 obtain ⟨n, hn⟩ : ∃ n, qs.length = n := ⟨_, rfl⟩
 have HRLV : Hid (∀ k, RS (lvx (xq qs) k) JJ) := fun k => (lvx_RS hq hn k).mono (by rw [← hn]; omega)
 have HRX : Hid (∀ j, j < n → RS (xq qs j) JJ) := fun j hj => (hq j (by omega)).mono (by omega)
 rw [hn] at hc1 h3 ⊢
 have H3 := hide h3
 have HOUT : Hid (∀ j, n ≤ j → xq qs j = 0) := fun j hj => xq_out (by omega)
 obtain ⟨x, hx⟩ : ∃ x, xq qs = x := ⟨_, rfl⟩
 rw [hx] at HRLV HRX H3 HOUT ⊢
 have qm2 := make_ratios ((up : Int) + 1) (by omega) (by omega) w
 have eN : ((up : Int) + 1).toNat = N := by omega
 rw [eN] at qm2
 have b0 := alloc_below w (.cells (tcells (List.replicate N zTri)).toArray 37)
 have S3 := SumsAt.start w w N (Below.refl _ _)
 rw [fill_zero (Rnw.sv x)] at S3
 obtain ⟨W1, hW1⟩ : ∃ W, w.alloc (.cells (tcells (List.replicate N zTri)).toArray 37) = W := ⟨_, rfl⟩
 obtain ⟨GO, hGO⟩ : ∃ G, w.heap.size = G := ⟨_, rfl⟩
 rw [hW1] at qm2 S3 b0
 rw [hGO] at qm2
 have S3' : SumsAt w W1 GO (List.replicate N zTri) (fill (Rnw.sv x) N 0) := by rw [← hGO]; exact S3
 have HS3 := hide S3'
 have HGO : Hid (w.heap.size ≤ GO) := by show _ ≤ GO; rw [← hGO]; exact Nat.le_refl _
 have HB1 := hide b0
 have HN1 : Hid (1 ≤ N) := show _ ≤ _ by omega
 have hN1000 : N ≤ 1001 := by omega
 clear h hq hJJ hJ hx S3 S3' h3 b0 eN
 go_enter Tryz.func77, Tryz.ntmps77
 go_wp2_with fail
 clear qm2 hW1 hGO
 refine (whole_any 1 (by decide) (by decide) W1).mono ?_
 rintro e w2 ⟨v2, rfl, hv2, hb2⟩
 obtain ⟨t2, rfl, r2⟩ := tri_of hv2
 simp only [Tri.val]
 have X2 := BoxIs.new r2
 have b3 := below_step hb2 (alloc_below w2 (.cells #[.bool t2.s, .slice t2.a1 t2.n1 t2.c1, .slice t2.a2 t2.n2 t2.c2] 37))
 have S2 := (unhide HS3).keep b3
 have hne : w2.heap.size ≠ GO := fun e => by
  have h1 := (Array.getElem?_eq_some_iff.1 ((unhide HS3).keep hb2).row).1
  omega
 have hgl := (below_step (unhide HB1) hb2).size
 obtain ⟨W2, hW2⟩ : ∃ W, w2.alloc (.cells #[.bool t2.s, .slice t2.a1 t2.n1 t2.c1, .slice t2.a2 t2.n2 t2.c2] 37) = W := ⟨_, rfl⟩
 obtain ⟨bL, hbL⟩ : ∃ b, w2.heap.size = b := ⟨_, rfl⟩
 rw [hW2] at X2 S2
 rw [hbL] at X2 hne hgl
 have e1 : ((1 : Int) : Rat) = lvx x 0 := by show ((1 : Int) : Rat) = 1 - 0; simp; grind
 rw [e1] at X2
 have HX2 := hide X2
 have HS2 := hide S2
 have HNE := hide hne
 have HGL := hide hgl
 clear hv2 r2 X2 b3 S2 hne hgl hb2 HS3 HB1 e1
 go_wp2_with fail
 clear hW2 hbL
 go_loopw [14] (fun vi wr => ∃ (i : Nat) (us : List Tri) (t : Tri), vi = .int .i64 (i : Int) ∧ i ≤ N ∧ us.length = N ∧ SumsAt w wr GO us (fill (Rnw.sv x) N i) ∧ BoxIs wr bL t (lvx x i)) (fun vi _ => N - (intOf vi).toNat)
 case atStart => exact ⟨0, _, t2, rfl, Nat.zero_le _, List.length_replicate, unhide HS2, unhide HX2⟩
 case round =>
  obtain ⟨i, us, t, rfl, hi, hul, S, X⟩ := hrel
  clear HS2 HX2
  by_cases hlt : i < N
  ·have j1 : (i : Int) < (N : Int) := by omega
   have j0 : (0 : Int) ≤ (i : Int) := by omega
   have HUL := hide hul
   by_cases hin : i < n
   ·have f1 : (i : Int) < (n : Int) := by omega
    obtain ⟨b, o, rfl, hblt, hcs⟩ := unhide H3 (by omega)
    obtain ⟨ta, k0, k1, k2, ra⟩ := hcs i hin
    have HCC : Hid (∀ W, Below wr.heap.size wr W → (fun w' : World => (w'.cell? ⟨bL, 0, none⟩ = some (.bool t.s) ∧ w'.cell? ⟨bL, 1, none⟩ = some (.slice t.a1 t.n1 t.c1) ∧ w'.cell? ⟨bL, 2, none⟩ = some (.slice t.a2 t.n2 t.c2)) ∧ (w'.cell? ⟨b, o + i * 3, none⟩ = some (.bool ta.s) ∧ w'.cell? ⟨b, o + i * 3 + 1, none⟩ = some (.slice ta.a1 ta.n1 ta.c1) ∧ w'.cell? ⟨b, o + i * 3 + 2, none⟩ = some (.slice ta.a2 ta.n2 ta.c2))) W) := fun W hW => by
     have h2 := below_step S.bl hW
     refine ⟨X.cells W hW, ?_, ?_, ?_⟩
     ·rw [h2.cell (p := ⟨b, o + i * 3, none⟩) hblt]; exact k0
     ·rw [h2.cell (p := ⟨b, o + i * 3 + 1, none⟩) hblt]; exact k1
     ·rw [h2.cell (p := ⟨b, o + i * 3 + 2, none⟩) hblt]; exact k2
    have HTA := hide (ra.below S.bl)
    have HTL := hide X.2
    have HXL := hide X
    have HS5 := hide S
    have HRL := hide (unhide HRLV i)
    have HRA := hide (unhide HRX i hin)
    have HLS := hide (lvx_step x i)
    clear hcs ra X S k0 k1 k2 hul
    go_wp2_with fail
    refine wp_region_till (fun w' : World => (w'.cell? ⟨bL, 0, none⟩ = some (.bool t.s) ∧ w'.cell? ⟨bL, 1, none⟩ = some (.slice t.a1 t.n1 t.c1) ∧ w'.cell? ⟨bL, 2, none⟩ = some (.slice t.a2 t.n2 t.c2)) ∧ (w'.cell? ⟨b, o + i * 3, none⟩ = some (.bool ta.s) ∧ w'.cell? ⟨b, o + i * 3 + 1, none⟩ = some (.slice ta.a1 ta.n1 ta.c1) ∧ w'.cell? ⟨b, o + i * 3 + 2, none⟩ = some (.slice ta.a2 ta.n2 ta.c2))) 6 (by kernel_rfl) ?_
    have bd0 : Below wr.heap.size wr wr.drew := (Below.refl _ _).drew
    obtain ⟨Wd, hWd⟩ : ∃ W, wr.drew = W := ⟨_, rfl⟩
    rw [hWd] at bd0 ⊢
    have hC0 : (fun w' : World => (w'.cell? ⟨bL, 0, none⟩ = some (.bool t.s) ∧ w'.cell? ⟨bL, 1, none⟩ = some (.slice t.a1 t.n1 t.c1) ∧ w'.cell? ⟨bL, 2, none⟩ = some (.slice t.a2 t.n2 t.c2)) ∧ (w'.cell? ⟨b, o + i * 3, none⟩ = some (.bool ta.s) ∧ w'.cell? ⟨b, o + i * 3 + 1, none⟩ = some (.slice ta.a1 ta.n1 ta.c1) ∧ w'.cell? ⟨b, o + i * 3 + 2, none⟩ = some (.slice ta.a2 ta.n2 ta.c2))) Wd := unhide HCC _ bd0
    refine wpTill_take (i := 0) (v := ?_) rfl (by kernel_rfl) (by kernel_rfl) (by kernel_rfl) (by kernel_rfl) (by kernel_rfl) (by kernel_rfl) (fun _ _ _ h => h) (Or.inl ⟨by rfl, ?_⟩) hC0 ?_
    rotate_left
    ·intro w hSw; (try dsimp only at hSw); obtain ⟨⟨u0, u1, u2⟩, ⟨u3, u4, u5⟩⟩ := hSw; go_simp; (try with_reducible rfl)
    (try simp only [List.getElem_toArray, List.getElem_cons_succ, List.getElem_cons_zero])
    (try simp only [Act.put, List.setIfInBounds_toArray, List.set_cons_zero, List.set_cons_succ])
    refine wpTill_pure (i := 1) (v := ?_) rfl (by kernel_rfl) (by kernel_rfl) (by kernel_rfl) (by kernel_rfl) (fun _ _ _ h => h) (Or.inl ⟨by rfl, ?_⟩) (fun _ => hC0) ?_
    rotate_left
    ·intro w hSw; clear hSw; go_simp; (try with_reducible rfl)
    (try simp only [List.getElem_toArray, List.getElem_cons_succ, List.getElem_cons_zero])
    (try simp only [Act.put, List.setIfInBounds_toArray, List.set_cons_zero, List.set_cons_succ])
    refine wpTill_pure (i := 2) (v := ?_) rfl (by kernel_rfl) (by kernel_rfl) (by kernel_rfl) (by kernel_rfl) (fun _ _ _ h => h) (Or.inl ⟨by rfl, ?_⟩) (fun _ => hC0) ?_
    rotate_left
    ·intro w hSw; clear hSw; go_simp; (try with_reducible rfl)
    (try simp only [List.getElem_toArray, List.getElem_cons_succ, List.getElem_cons_zero])
    (try simp only [Act.put, List.setIfInBounds_toArray, List.set_cons_zero, List.set_cons_succ])
    refine wpTill_pure (i := 3) (v := ?_) rfl (by kernel_rfl) (by kernel_rfl) (by kernel_rfl) (by kernel_rfl) (fun _ _ _ h => h) (Or.inl ⟨by rfl, ?_⟩) (fun _ => hC0) ?_
    rotate_left
    ·intro w hSw; clear hSw; go_simp; (try with_reducible rfl)
    (try simp only [List.getElem_toArray, List.getElem_cons_succ, List.getElem_cons_zero])
    (try simp only [Act.put, List.setIfInBounds_toArray, List.set_cons_zero, List.set_cons_succ])
    refine wpTill_take (i := 4) (v := ?_) rfl (by kernel_rfl) (by kernel_rfl) (by kernel_rfl) (by kernel_rfl) (by kernel_rfl) (by kernel_rfl) (fun _ _ _ h => h) (Or.inl ⟨by rfl, ?_⟩) hC0 ?_
    rotate_left
    ·intro w hSw; (try dsimp only at hSw); obtain ⟨⟨u0, u1, u2⟩, ⟨u3, u4, u5⟩⟩ := hSw; go_simp; (try with_reducible rfl)
    (try simp only [List.getElem_toArray, List.getElem_cons_succ, List.getElem_cons_zero])
    (try simp only [Act.put, List.setIfInBounds_toArray, List.set_cons_zero, List.set_cons_succ])
    refine wpTill_one (k := 5) (by kernel_rfl) rfl (fun K hK => ?_)
    (try simp only [List.getElem_toArray, List.getElem_cons_succ, List.getElem_cons_zero])
    go_simp
    refine (subR_any t.val ta.val _ _ _ ((unhide HTL).below bd0) ((unhide HTA).below bd0) JJ (unhide HRL) (unhide HRA) (unhide HJ)).mono ?_
    rintro e xw_1 ⟨xv_1, rfl, hv_1, hb_1⟩
    have cc_1 := below_step bd0 hb_1
    have hC_1 : (fun w' : World => (w'.cell? ⟨bL, 0, none⟩ = some (.bool t.s) ∧ w'.cell? ⟨bL, 1, none⟩ = some (.slice t.a1 t.n1 t.c1) ∧ w'.cell? ⟨bL, 2, none⟩ = some (.slice t.a2 t.n2 t.c2)) ∧ (w'.cell? ⟨b, o + i * 3, none⟩ = some (.bool ta.s) ∧ w'.cell? ⟨b, o + i * 3 + 1, none⟩ = some (.slice ta.a1 ta.n1 ta.c1) ∧ w'.cell? ⟨b, o + i * 3 + 2, none⟩ = some (.slice ta.a2 ta.n2 ta.c2))) xw_1 := unhide HCC _ cc_1
    refine hK.out _ _ (fun _ => hC_1) ?_
    clear hK K
    (try simp only [Act.put, List.setIfInBounds_toArray, List.set_cons_zero, List.set_cons_succ])
    obtain ⟨t5, rfl, r5⟩ := tri_of hv_1
    simp only [Tri.val]
    rw [unhide HLS] at r5
    have Y := (unhide HXL).keep cc_1
    have ⟨l0, l1, l2⟩ := Y.free
    have ⟨y0, y1, y2⟩ := Y.cells _ (Below.refl _ _)
    have NB := Y.set r5
    have S9 := ((unhide HS5).keep cc_1).boxed Y (unhide HNE) (unhide HGL) (.bool t5.s) (.slice t5.a1 t5.n1 t5.c1) (.slice t5.a2 t5.n2 t5.c2)
    obtain ⟨W9, hW9⟩ : ∃ W, ((xw_1.setCell ⟨bL, 0, none⟩ (.bool t5.s)).setCell ⟨bL, 1, none⟩ (.slice t5.a1 t5.n1 t5.c1)).setCell ⟨bL, 2, none⟩ (.slice t5.a2 t5.n2 t5.c2) = W := ⟨_, rfl⟩
    rw [hW9] at NB S9
    have HNB := hide NB
    have HS9 := hide S9
    clear Y NB S9 r5 hv_1
    refine wpTill_one (k := 6) (by kernel_rfl) rfl (fun K hK => ?_)
    (try simp only [List.getElem_toArray, List.getElem_cons_succ, List.getElem_cons_zero])
    go_simp
    refine hK.out _ _ (fun h => absurd (h.symm.trans (by kernel_rfl)) Bool.false_ne_true) ?_
    clear hK K
    (try simp only [Act.put, List.setIfInBounds_toArray, List.set_cons_zero, List.set_cons_succ])
    refine wpTill_done (by kernel_rfl) ?_ _
    clear HCC HTA HTL HXL HS5 HLS HRL HRA y0 y1 y2 l0 l1 l2 hW9 hC0 hC_1 cc_1 bd0 hb_1 hWd
    have ⟨⟨q0, q1, q2⟩, g0, g1, g2⟩ := (unhide HS9).cells i (by rw [unhide HUL]; exact hlt)
    have ⟨d0, d1, d2⟩ := (unhide HNB).cells _ (Below.refl _ _)
    have FZ := (unhide HS9).set i (by rw [unhide HUL]; exact hlt) t5 _ (unhide HNB).2
    have XZ := (unhide HNB).rowed (unhide HS9).row (unhide HNE) (i * 3) (i * 3 + 1) (i * 3 + 2) (.bool t5.s) (.slice t5.a1 t5.n1 t5.c1) (.slice t5.a2 t5.n2 t5.c2)
    obtain ⟨WA, hWA⟩ : ∃ W, ((W9.setCell ⟨GO, i * 3, none⟩ (.bool t5.s)).setCell ⟨GO, i * 3 + 1, none⟩ (.slice t5.a1 t5.n1 t5.c1)).setCell ⟨GO, i * 3 + 2, none⟩ (.slice t5.a2 t5.n2 t5.c2) = W := ⟨_, rfl⟩
    rw [hWA, lvx_sv, fill_set] at FZ
    rw [hWA] at XZ
    have HFZ := hide FZ
    have HXZ := hide XZ
    clear FZ XZ
    go_wp2_with fail
    exact ⟨⟨i + 1, _, t5, by go_num, hlt, by rw [List.length_set]; exact unhide HUL, unhide HFZ, unhide HXZ⟩, by simp [intOf]; omega⟩
   ·have f1 : ¬ (i : Int) < (n : Int) := by omega
    have e2 : lvx x i = lvx x (i + 1) := by
     have := lvx_step x i
     rw [unhide HOUT i (by omega)] at this
     grind
    rw [e2] at X
    have HXL := hide X
    have HS5 := hide S
    clear X S e2 hul
    have ⟨⟨q0, q1, q2⟩, g0, g1, g2⟩ := (unhide HS5).cells i (by rw [unhide HUL]; exact hlt)
    have ⟨d0, d1, d2⟩ := (unhide HXL).cells _ (Below.refl _ _)
    have FZ := (unhide HS5).set i (by rw [unhide HUL]; exact hlt) t _ (unhide HXL).2
    have XZ := (unhide HXL).rowed (unhide HS5).row (unhide HNE) (i * 3) (i * 3 + 1) (i * 3 + 2) (.bool t.s) (.slice t.a1 t.n1 t.c1) (.slice t.a2 t.n2 t.c2)
    obtain ⟨WA, hWA⟩ : ∃ W, ((wr.setCell ⟨GO, i * 3, none⟩ (.bool t.s)).setCell ⟨GO, i * 3 + 1, none⟩ (.slice t.a1 t.n1 t.c1)).setCell ⟨GO, i * 3 + 2, none⟩ (.slice t.a2 t.n2 t.c2) = W := ⟨_, rfl⟩
    rw [hWA, lvx_sv, fill_set] at FZ
    rw [hWA] at XZ
    have HFZ := hide FZ
    have HXZ := hide XZ
    clear FZ XZ
    go_wp2_with fail
    exact ⟨⟨i + 1, _, t, by go_num, hlt, by rw [List.length_set]; exact unhide HUL, unhide HFZ, unhide HXZ⟩, by simp [intOf]; omega⟩
  ·obtain rfl : i = N := by omega
   have j1 : ¬ (i : Int) < (i : Int) := by omega
   have HF := hide S
   have HU := hide hul
   clear S X hul
   go_wp2
   go_ret
   exact ⟨GO, us, rfl, unhide HU, unhide HGO, unhide HF⟩

end Go.Proofs.YtcelbgleajpenaaGreatDoor
namespace Go.Proofs.YtcelbgleajpenaaGreatDoor
open Go.RowKit Go.Sort Go.Shelf

theorem qsum_rowN (f : Nat → Rat) (N : Nat) : qsum (row f N) (row f N).length = Bth.ps f N := by
 rw [row_length, qsum_xq]
 exact Bth.ps_congr _ (fun j hj => row_get hj)
theorem sv_RS {qs : List Rat} {J n : Nat} (h : ∀ j, j < qs.length → RS qs[j]! J) (hn : qs.length = n) (k : Nat) : RS (Rnw.sv (xq qs) k) (n * (J + 1) + 3) := lvx_RS h hn (k + 1)
theorem psf_RS {f : Nat → Rat} {J : Nat} (h : ∀ j, RS (f j) J) : ∀ k, RS (Bth.ps f k) (k * (J + 1) + 1)
 | 0 => (show RS (0 : Rat) _ from RS.zero.mono (by omega))
 | k + 1 => ((psf_RS h k).add (h k)).mono (by rw [Nat.add_mul]; omega)
end Go.Proofs.YtcelbgleajpenaaGreatDoor
