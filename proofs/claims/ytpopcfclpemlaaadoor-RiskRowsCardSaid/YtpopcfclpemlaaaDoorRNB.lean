/- Renewals: longer. -/
import Derived.Test.YtpopcfclpemlaaaDoorRNA
namespace Go.Proofs.YtpopcfclpemlaaaDoor
open Go.RowKit Go.Sort Go.Shelf

/-- A row of fractions of the call's own. -/
def DivPost (w : World) (qs : List Rat) (n : Nat) (e : Ending) (w' : World) : Prop := ∃ g us, e = .returned (.slice (some ⟨g, 0, none⟩) n n) ∧ us.length = n ∧ w.heap.size ≤ g ∧ SumsAt w w' g us qs
/-- A row of the call's own, where a box is written. -/
theorem SumsAt.boxed {w wr : World} {g b : Nat} {us : List Tri} {qs : List Rat} {t : Tri} {q : Rat} (h : SumsAt w wr g us qs) (hx : BoxIs wr b t q) (hne : b ≠ g) (hge : w.heap.size ≤ b) (x0 x1 x2 : Value) :
    SumsAt w (((wr.setCell ⟨b, 0, none⟩ x0).setCell ⟨b, 1, none⟩ x1).setCell ⟨b, 2, none⟩ x2) g us qs :=
  ⟨by rw [Below.heap_setCell _ _ _ _ (Ne.symm hne), Below.heap_setCell _ _ _ _ (Ne.symm hne), Below.heap_setCell _ _ _ _ (Ne.symm hne)]; exact h.row, h.len, fun j hj => (h.rat j hj).rowed (us := [t]) hx.1 _ _ _ _ _ _, ((h.bl.setCell hge _).setCell hge _).setCell hge _, h.gl⟩
/-- What is left of one ahead of a time. -/
def lvx (x : Nat → Rat) (k : Nat) : Rat := 1 - Bth.ps x k
theorem lvx_step (x : Nat → Rat) (k : Nat) : lvx x k - x k = lvx x (k + 1) := by
  show 1 - Bth.ps x k - x k = 1 - (Bth.ps x k + x k)
  grind
theorem lvx_sv (x : Nat → Rat) (k : Nat) : lvx x (k + 1) = Rnw.sv x k := rfl
theorem ps_RS {qs : List Rat} {J n : Nat} (h : ∀ j, j < qs.length → RS qs[j]! J) (hn : qs.length = n) (k : Nat) : RS (Bth.ps (xq qs) k) (n * (J + 1) + 1) := by
  rcases Nat.lt_or_ge k n with a | a
  · rw [← qsum_xq]
    have := Nat.mul_le_mul_right (J + 1) (Nat.le_of_lt a)
    exact (qsum_RS h k (by omega)).mono (by omega)
  · rw [Rnw.ps_cut (xq qs) n k a (fun j p _ => xq_out (by omega)), ← qsum_xq]
    exact (qsum_RS h n (by omega)).mono (by omega)

theorem lvx_RS {qs : List Rat} {J n : Nat} (h : ∀ j, j < qs.length → RS qs[j]! J) (hn : qs.length = n) (k : Nat) : RS (lvx (xq qs) k) (n * (J + 1) + 3) :=
  (one_RS'.sub' (ps_RS h hn k)).mono (by omega)

set_option maxHeartbeats 16000000 in
set_option maxRecDepth 100000 in
set_option linter.unusedSimpArgs false in
theorem longer_any (v : Value) (qs : List Rat) (J JJ up N : Nat) (w : World) (h : LawIs w v qs) (hq : ∀ j, j < qs.length → RS qs[j]! J) (hN : up + 1 = N) (hup : up ≤ 1000) (hJJ : qs.length * (J + 1) + 3 + J ≤ JJ) (hJ : JJ + JJ + 1 ≤ KK) :
    Calls Tryd.prog 62 #[v, .int .i64 (up : Int)] w (DivPost w (row (Rnw.sv (xq qs)) N) N) := by
  have HJ := hide hJ
  have h' := h
  obtain ⟨a, c, rfl, -⟩ := h'
  obtain ⟨-, hc1, hc2, h3⟩ := h.parts
  obtain ⟨n, hn⟩ : ∃ n, qs.length = n := ⟨_, rfl⟩
  have HRLV : Hid (∀ k, RS (lvx (xq qs) k) JJ) := fun k => (lvx_RS hq hn k).mono (by rw [← hn]; omega)
  have HRX : Hid (∀ j, j < n → RS (xq qs j) JJ) := fun j hj => (hq j (by omega)).mono (by omega)
  rw [hn] at hc1 h3 ⊢
  have H3 := hide h3
  have HOUT : Hid (∀ j, n ≤ j → xq qs j = 0) := fun j hj => xq_out (by omega)
  obtain ⟨x, hx⟩ : ∃ x, xq qs = x := ⟨_, rfl⟩
  rw [hx] at HRLV HRX H3 HOUT ⊢
  have qm2 := make_ratios ((up : Int) + 1) (by omega) (by omega) w
  have eN : ((up : Int) + 1).toNat = N := by omega
  rw [eN] at qm2
  have b0 := alloc_below w (.cells (tcells (List.replicate N zTri)).toArray 31)
  have S3 := SumsAt.start w w N (Below.refl _ _)
  rw [fill_zero (Rnw.sv x)] at S3
  obtain ⟨W1, hW1⟩ : ∃ W, w.alloc (.cells (tcells (List.replicate N zTri)).toArray 31) = W := ⟨_, rfl⟩
  obtain ⟨GO, hGO⟩ : ∃ G, w.heap.size = G := ⟨_, rfl⟩
  rw [hW1] at qm2 S3 b0
  rw [hGO] at qm2
  have S3' : SumsAt w W1 GO (List.replicate N zTri) (fill (Rnw.sv x) N 0) := by rw [← hGO]; exact S3
  have HS3 := hide S3'
  have HGO : Hid (w.heap.size ≤ GO) := by show _ ≤ GO; rw [← hGO]; exact Nat.le_refl _
  have HB1 := hide b0
  have HN1 : Hid (1 ≤ N) := show _ ≤ _ by omega
  have hN1000 : N ≤ 1001 := by omega
  clear h hq hJJ hJ hx S3 S3' h3 b0 eN
  go_enter Tryd.func62, Tryd.ntmps62
  go_wp2_with fail
  clear qm2 hW1 hGO
  refine (whole_any 1 (by decide) (by decide) W1).mono ?_
  rintro e w2 ⟨v2, rfl, hv2, hb2⟩
  obtain ⟨t2, rfl, r2⟩ := tri_of hv2
  simp only [Tri.val]
  have X2 := BoxIs.new r2
  have b3 := below_step hb2 (alloc_below w2 (.cells #[.bool t2.s, .slice t2.a1 t2.n1 t2.c1, .slice t2.a2 t2.n2 t2.c2] 31))
  have S2 := (unhide HS3).keep b3
  have hne : w2.heap.size ≠ GO := fun e => by
    have h1 := (Array.getElem?_eq_some_iff.1 ((unhide HS3).keep hb2).row).1
    omega
  have hgl := (below_step (unhide HB1) hb2).size
  obtain ⟨W2, hW2⟩ : ∃ W, w2.alloc (.cells #[.bool t2.s, .slice t2.a1 t2.n1 t2.c1, .slice t2.a2 t2.n2 t2.c2] 31) = W := ⟨_, rfl⟩
  obtain ⟨bL, hbL⟩ : ∃ b, w2.heap.size = b := ⟨_, rfl⟩
  rw [hW2] at X2 S2
  rw [hbL] at X2 hne hgl
  have e1 : ((1 : Int) : Rat) = lvx x 0 := by show ((1 : Int) : Rat) = 1 - 0; simp; grind
  rw [e1] at X2
  have HX2 := hide X2
  have HS2 := hide S2
  have HNE := hide hne
  have HGL := hide hgl
  clear hv2 r2 X2 b3 S2 hne hgl hb2 HS3 HB1 e1
  go_wp2_with fail
  clear hW2 hbL
  go_loopw [14] (fun vi wr => ∃ (i : Nat) (us : List Tri) (t : Tri), vi = .int .i64 (i : Int) ∧ i ≤ N ∧ us.length = N ∧ SumsAt w wr GO us (fill (Rnw.sv x) N i) ∧ BoxIs wr bL t (lvx x i)) (fun vi _ => N - (intOf vi).toNat)
  case atStart => exact ⟨0, _, t2, rfl, Nat.zero_le _, List.length_replicate, unhide HS2, unhide HX2⟩
  case round =>
    obtain ⟨i, us, t, rfl, hi, hul, S, X⟩ := hrel
    clear HS2 HX2
    by_cases hlt : i < N
    · have j1 : (i : Int) < (N : Int) := by omega
      have j0 : (0 : Int) ≤ (i : Int) := by omega
      have HUL := hide hul
      by_cases hin : i < n
      · have f1 : (i : Int) < (n : Int) := by omega
        obtain ⟨b, o, rfl, hblt, hcs⟩ := unhide H3 (by omega)
        obtain ⟨ta, k0, k1, k2, ra⟩ := hcs i hin
        have HCC : Hid (∀ W, Below wr.heap.size wr W → (fun w' : World => (w'.cell? ⟨bL, 0, none⟩ = some (.bool t.s) ∧ w'.cell? ⟨bL, 1, none⟩ = some (.slice t.a1 t.n1 t.c1) ∧ w'.cell? ⟨bL, 2, none⟩ = some (.slice t.a2 t.n2 t.c2)) ∧ (w'.cell? ⟨b, o + i * 3, none⟩ = some (.bool ta.s) ∧ w'.cell? ⟨b, o + i * 3 + 1, none⟩ = some (.slice ta.a1 ta.n1 ta.c1) ∧ w'.cell? ⟨b, o + i * 3 + 2, none⟩ = some (.slice ta.a2 ta.n2 ta.c2))) W) := fun W hW => by
          have h2 := below_step S.bl hW
          refine ⟨X.cells W hW, ?_, ?_, ?_⟩
          · rw [h2.cell (p := ⟨b, o + i * 3, none⟩) hblt]; exact k0
          · rw [h2.cell (p := ⟨b, o + i * 3 + 1, none⟩) hblt]; exact k1
          · rw [h2.cell (p := ⟨b, o + i * 3 + 2, none⟩) hblt]; exact k2
        have HTA := hide (ra.below S.bl)
        have HTL := hide X.2
        have HXL := hide X
        have HS5 := hide S
        have HRL := hide (unhide HRLV i)
        have HRA := hide (unhide HRX i hin)
        have HLS := hide (lvx_step x i)
        clear hcs ra X S k0 k1 k2 hul
        go_wp2_with fail
        refine wp_region_till (fun w' : World => (w'.cell? ⟨bL, 0, none⟩ = some (.bool t.s) ∧ w'.cell? ⟨bL, 1, none⟩ = some (.slice t.a1 t.n1 t.c1) ∧ w'.cell? ⟨bL, 2, none⟩ = some (.slice t.a2 t.n2 t.c2)) ∧ (w'.cell? ⟨b, o + i * 3, none⟩ = some (.bool ta.s) ∧ w'.cell? ⟨b, o + i * 3 + 1, none⟩ = some (.slice ta.a1 ta.n1 ta.c1) ∧ w'.cell? ⟨b, o + i * 3 + 2, none⟩ = some (.slice ta.a2 ta.n2 ta.c2))) 6 (by kernel_rfl) ?_
        have bd0 : Below wr.heap.size wr wr.drew := (Below.refl _ _).drew
        obtain ⟨Wd, hWd⟩ : ∃ W, wr.drew = W := ⟨_, rfl⟩
        rw [hWd] at bd0 ⊢
        have hC0 : (fun w' : World => (w'.cell? ⟨bL, 0, none⟩ = some (.bool t.s) ∧ w'.cell? ⟨bL, 1, none⟩ = some (.slice t.a1 t.n1 t.c1) ∧ w'.cell? ⟨bL, 2, none⟩ = some (.slice t.a2 t.n2 t.c2)) ∧ (w'.cell? ⟨b, o + i * 3, none⟩ = some (.bool ta.s) ∧ w'.cell? ⟨b, o + i * 3 + 1, none⟩ = some (.slice ta.a1 ta.n1 ta.c1) ∧ w'.cell? ⟨b, o + i * 3 + 2, none⟩ = some (.slice ta.a2 ta.n2 ta.c2))) Wd := unhide HCC _ bd0
        refine wpTill_take (i := 0) (v := ?_) rfl (by kernel_rfl) (by kernel_rfl) (by kernel_rfl) (by kernel_rfl) (by kernel_rfl) (by kernel_rfl) (fun _ _ _ h => h) (Or.inl ⟨by rfl, ?_⟩) hC0 ?_
        rotate_left
        · intro w hSw; (try dsimp only at hSw); obtain ⟨⟨u0, u1, u2⟩, ⟨u3, u4, u5⟩⟩ := hSw; go_simp; (try with_reducible rfl)
        (try simp only [List.getElem_toArray, List.getElem_cons_succ, List.getElem_cons_zero])
        (try simp only [Act.put, List.setIfInBounds_toArray, List.set_cons_zero, List.set_cons_succ])
        refine wpTill_pure (i := 1) (v := ?_) rfl (by kernel_rfl) (by kernel_rfl) (by kernel_rfl) (by kernel_rfl) (fun _ _ _ h => h) (Or.inl ⟨by rfl, ?_⟩) (fun _ => hC0) ?_
        rotate_left
        · intro w hSw; clear hSw; go_simp; (try with_reducible rfl)
        (try simp only [List.getElem_toArray, List.getElem_cons_succ, List.getElem_cons_zero])
        (try simp only [Act.put, List.setIfInBounds_toArray, List.set_cons_zero, List.set_cons_succ])
        refine wpTill_pure (i := 2) (v := ?_) rfl (by kernel_rfl) (by kernel_rfl) (by kernel_rfl) (by kernel_rfl) (fun _ _ _ h => h) (Or.inl ⟨by rfl, ?_⟩) (fun _ => hC0) ?_
        rotate_left
        · intro w hSw; clear hSw; go_simp; (try with_reducible rfl)
        (try simp only [List.getElem_toArray, List.getElem_cons_succ, List.getElem_cons_zero])
        (try simp only [Act.put, List.setIfInBounds_toArray, List.set_cons_zero, List.set_cons_succ])
        refine wpTill_pure (i := 3) (v := ?_) rfl (by kernel_rfl) (by kernel_rfl) (by kernel_rfl) (by kernel_rfl) (fun _ _ _ h => h) (Or.inl ⟨by rfl, ?_⟩) (fun _ => hC0) ?_
        rotate_left
        · intro w hSw; clear hSw; go_simp; (try with_reducible rfl)
        (try simp only [List.getElem_toArray, List.getElem_cons_succ, List.getElem_cons_zero])
        (try simp only [Act.put, List.setIfInBounds_toArray, List.set_cons_zero, List.set_cons_succ])
        refine wpTill_take (i := 4) (v := ?_) rfl (by kernel_rfl) (by kernel_rfl) (by kernel_rfl) (by kernel_rfl) (by kernel_rfl) (by kernel_rfl) (fun _ _ _ h => h) (Or.inl ⟨by rfl, ?_⟩) hC0 ?_
        rotate_left
        · intro w hSw; (try dsimp only at hSw); obtain ⟨⟨u0, u1, u2⟩, ⟨u3, u4, u5⟩⟩ := hSw; go_simp; (try with_reducible rfl)
        (try simp only [List.getElem_toArray, List.getElem_cons_succ, List.getElem_cons_zero])
        (try simp only [Act.put, List.setIfInBounds_toArray, List.set_cons_zero, List.set_cons_succ])
        refine wpTill_one (k := 5) (by kernel_rfl) rfl (fun K hK => ?_)
        (try simp only [List.getElem_toArray, List.getElem_cons_succ, List.getElem_cons_zero])
        go_simp
        refine (subR_any t.val ta.val _ _ _ ((unhide HTL).below bd0) ((unhide HTA).below bd0) JJ (unhide HRL) (unhide HRA) (unhide HJ)).mono ?_
        rintro e xw_1 ⟨xv_1, rfl, hv_1, hb_1⟩
        have cc_1 := below_step bd0 hb_1
        have hC_1 : (fun w' : World => (w'.cell? ⟨bL, 0, none⟩ = some (.bool t.s) ∧ w'.cell? ⟨bL, 1, none⟩ = some (.slice t.a1 t.n1 t.c1) ∧ w'.cell? ⟨bL, 2, none⟩ = some (.slice t.a2 t.n2 t.c2)) ∧ (w'.cell? ⟨b, o + i * 3, none⟩ = some (.bool ta.s) ∧ w'.cell? ⟨b, o + i * 3 + 1, none⟩ = some (.slice ta.a1 ta.n1 ta.c1) ∧ w'.cell? ⟨b, o + i * 3 + 2, none⟩ = some (.slice ta.a2 ta.n2 ta.c2))) xw_1 := unhide HCC _ cc_1
        refine hK.out _ _ (fun _ => hC_1) ?_
        clear hK K
        (try simp only [Act.put, List.setIfInBounds_toArray, List.set_cons_zero, List.set_cons_succ])
        obtain ⟨t5, rfl, r5⟩ := tri_of hv_1
        simp only [Tri.val]
        rw [unhide HLS] at r5
        have Y := (unhide HXL).keep cc_1
        have ⟨l0, l1, l2⟩ := Y.free
        have ⟨y0, y1, y2⟩ := Y.cells _ (Below.refl _ _)
        have NB := Y.set r5
        have S9 := ((unhide HS5).keep cc_1).boxed Y (unhide HNE) (unhide HGL) (.bool t5.s) (.slice t5.a1 t5.n1 t5.c1) (.slice t5.a2 t5.n2 t5.c2)
        obtain ⟨W9, hW9⟩ : ∃ W, ((xw_1.setCell ⟨bL, 0, none⟩ (.bool t5.s)).setCell ⟨bL, 1, none⟩ (.slice t5.a1 t5.n1 t5.c1)).setCell ⟨bL, 2, none⟩ (.slice t5.a2 t5.n2 t5.c2) = W := ⟨_, rfl⟩
        rw [hW9] at NB S9
        have HNB := hide NB
        have HS9 := hide S9
        clear Y NB S9 r5 hv_1
        refine wpTill_one (k := 6) (by kernel_rfl) rfl (fun K hK => ?_)
        (try simp only [List.getElem_toArray, List.getElem_cons_succ, List.getElem_cons_zero])
        go_simp
        refine hK.out _ _ (fun h => absurd (h.symm.trans (by kernel_rfl)) Bool.false_ne_true) ?_
        clear hK K
        (try simp only [Act.put, List.setIfInBounds_toArray, List.set_cons_zero, List.set_cons_succ])
        refine wpTill_done (by kernel_rfl) ?_ _
        clear HCC HTA HTL HXL HS5 HLS HRL HRA y0 y1 y2 l0 l1 l2 hW9 hC0 hC_1 cc_1 bd0 hb_1 hWd
        have ⟨⟨q0, q1, q2⟩, g0, g1, g2⟩ := (unhide HS9).cells i (by rw [unhide HUL]; exact hlt)
        have ⟨d0, d1, d2⟩ := (unhide HNB).cells _ (Below.refl _ _)
        have FZ := (unhide HS9).set i (by rw [unhide HUL]; exact hlt) t5 _ (unhide HNB).2
        have XZ := (unhide HNB).rowed (unhide HS9).row (unhide HNE) (i * 3) (i * 3 + 1) (i * 3 + 2) (.bool t5.s) (.slice t5.a1 t5.n1 t5.c1) (.slice t5.a2 t5.n2 t5.c2)
        obtain ⟨WA, hWA⟩ : ∃ W, ((W9.setCell ⟨GO, i * 3, none⟩ (.bool t5.s)).setCell ⟨GO, i * 3 + 1, none⟩ (.slice t5.a1 t5.n1 t5.c1)).setCell ⟨GO, i * 3 + 2, none⟩ (.slice t5.a2 t5.n2 t5.c2) = W := ⟨_, rfl⟩
        rw [hWA, lvx_sv, fill_set] at FZ
        rw [hWA] at XZ
        have HFZ := hide FZ
        have HXZ := hide XZ
        clear FZ XZ
        go_wp2_with fail
        exact ⟨⟨i + 1, _, t5, by go_num, hlt, by rw [List.length_set]; exact unhide HUL, unhide HFZ, unhide HXZ⟩, by simp [intOf]; omega⟩
      · have f1 : ¬ (i : Int) < (n : Int) := by omega
        have e2 : lvx x i = lvx x (i + 1) := by
          have := lvx_step x i
          rw [unhide HOUT i (by omega)] at this
          grind
        rw [e2] at X
        have HXL := hide X
        have HS5 := hide S
        clear X S e2 hul
        have ⟨⟨q0, q1, q2⟩, g0, g1, g2⟩ := (unhide HS5).cells i (by rw [unhide HUL]; exact hlt)
        have ⟨d0, d1, d2⟩ := (unhide HXL).cells _ (Below.refl _ _)
        have FZ := (unhide HS5).set i (by rw [unhide HUL]; exact hlt) t _ (unhide HXL).2
        have XZ := (unhide HXL).rowed (unhide HS5).row (unhide HNE) (i * 3) (i * 3 + 1) (i * 3 + 2) (.bool t.s) (.slice t.a1 t.n1 t.c1) (.slice t.a2 t.n2 t.c2)
        obtain ⟨WA, hWA⟩ : ∃ W, ((wr.setCell ⟨GO, i * 3, none⟩ (.bool t.s)).setCell ⟨GO, i * 3 + 1, none⟩ (.slice t.a1 t.n1 t.c1)).setCell ⟨GO, i * 3 + 2, none⟩ (.slice t.a2 t.n2 t.c2) = W := ⟨_, rfl⟩
        rw [hWA, lvx_sv, fill_set] at FZ
        rw [hWA] at XZ
        have HFZ := hide FZ
        have HXZ := hide XZ
        clear FZ XZ
        go_wp2_with fail
        exact ⟨⟨i + 1, _, t, by go_num, hlt, by rw [List.length_set]; exact unhide HUL, unhide HFZ, unhide HXZ⟩, by simp [intOf]; omega⟩
    · obtain rfl : i = N := by omega
      have j1 : ¬ (i : Int) < (i : Int) := by omega
      have HF := hide S
      have HU := hide hul
      clear S X hul
      go_wp2
      go_ret
      exact ⟨GO, us, rfl, unhide HU, unhide HGO, unhide HF⟩

end Go.Proofs.YtpopcfclpemlaaaDoor
/- Renewals: comes. -/
namespace Go.Proofs.YtpopcfclpemlaaaDoor
open Go.RowKit Go.Sort Go.Shelf

/-- A row while one number of it is added up. -/
def rvx (x : Nat → Rat) (n m i : Nat) : Rat := if i < n then Rnw.u x i else if i = n then Bth.ps (fun p => Rnw.u x p * x (n - p)) m else 0
theorem rvx_next (x : Nat → Rat) {n : Nat} (N : Nat) (h : 1 ≤ n) : row (rvx x n n) N = row (rvx x (n + 1) 0) N := row_congr (fun i _ => by
  unfold rvx
  by_cases h1 : i < n
  · rw [if_pos h1, if_pos (by omega)]
  · rw [if_neg h1]
    by_cases h2 : i = n
    · subst h2
      rw [if_pos rfl, if_pos (by omega)]
      obtain ⟨k, rfl⟩ : ∃ k, i = k + 1 := ⟨i - 1, by omega⟩
      exact (Rnw.u_step x k).symm
    · rw [if_neg h2, if_neg (by omega)]
      split
      · rfl
      · rfl)
theorem rvx_skip (x : Nat → Rat) {n m s : Nat} (h : ∀ j, s ≤ j → x j = 0) (hm : m + s ≤ n + 1 ∨ m = 0) (N : Nat) : row (rvx x n 0) N = row (rvx x n m) N := row_congr (fun i _ => by
  unfold rvx
  have e : Bth.ps (fun p => Rnw.u x p * x (n - p)) m = Bth.ps (fun p => Rnw.u x p * x (n - p)) 0 := Rnw.ps_cut _ 0 m (Nat.zero_le _) (fun j _ hj => by
    show Rnw.u x j * x (n - j) = 0
    rw [h (n - j) (by omega)]; grind)
  rw [e])
theorem rvx_set (x : Nat → Rat) {n m N : Nat} (hn : n < N) : (row (rvx x n m) N).set n (rvx x n m n + Rnw.u x m * x (n - m)) = row (rvx x n (m + 1)) N := row_setq hn (by
  unfold rvx
  rw [if_neg (Nat.lt_irrefl _), if_pos rfl, if_neg (Nat.lt_irrefl _), if_pos rfl]; rfl) (fun i _ hi => by
  unfold rvx
  rw [if_neg hi, if_neg hi])
/-- How great the numbers may be. -/
def ubd (J : Nat) : Nat → Nat
  | 0 => 1
  | n + 1 => 2 * ubd J n + J + 2
theorem ubd_mono (J : Nat) : ∀ {m n : Nat}, m ≤ n → ubd J m ≤ ubd J n
  | m, 0, h => by obtain rfl : m = 0 := by omega
                  exact Nat.le_refl _
  | m, n + 1, h => by
    rcases Nat.lt_or_ge n m with a | a
    · obtain rfl : m = n + 1 := by omega
      exact Nat.le_refl _
    · have := ubd_mono J a
      show _ ≤ 2 * ubd J n + J + 2
      omega
theorem part_RS {x : Nat → Rat} {J : Nat} (hx : ∀ j, RS (x j) J) : ∀ (m n : Nat), RS (Rnw.u x m) (ubd J m) ∧ RS (Bth.ps (fun p => Rnw.u x p * x (n - p)) m) (ubd J m)
  | 0, n => ⟨one_RS', RS.zero⟩
  | m + 1, n => by
    have st : ∀ n, RS (Bth.ps (fun p => Rnw.u x p * x (n - p)) (m + 1)) (ubd J (m + 1)) := fun n => by
      obtain ⟨a, b⟩ := part_RS hx m n
      have c := b.add (a.mul (hx (n - m)))
      exact c.mono (by show _ ≤ 2 * ubd J m + J + 2; omega)
    refine ⟨?_, st n⟩
    rw [Rnw.u_step]
    exact st (m + 1)
theorem rvx_RS {x : Nat → Rat} {J M : Nat} (hx : ∀ j, RS (x j) J) {n m : Nat} (hm : m ≤ M) (hn : n ≤ M) (i : Nat) : RS (rvx x n m i) (ubd J M) := by
  unfold rvx
  split
  · rename_i h
    exact (part_RS hx i 0).1.mono (ubd_mono J (by omega))
  · split
    · exact (part_RS hx m n).2.mono (ubd_mono J hm)
    · exact RS.zero.mono (ubd_mono J (Nat.zero_le M))
/-- A row's number, and 0 behind its end, is small. -/
theorem xq_RS {qs : List Rat} {J : Nat} (h : ∀ j, j < qs.length → RS qs[j]! J) (h1 : 1 ≤ J) (j : Nat) : RS (xq qs j) J := by
  rcases Nat.lt_or_ge j qs.length with a | a
  · exact h j a
  · rw [xq_out a]; exact RS.zero.mono h1

set_option maxHeartbeats 16000000 in
set_option maxRecDepth 100000 in
set_option linter.unusedSimpArgs false in
theorem comes_any (v : Value) (qs : List Rat) (J JJ up N : Nat) (w : World) (h : LawIs w v qs) (hq : ∀ j, j < qs.length → RS qs[j]! J) (hp : 0 < qs.length) (hl : qs.length ≤ 1000) (hN : up + 1 = N) (hup : up ≤ 1000) (hJ1 : 1 ≤ J) (hJJ : ubd J up + J ≤ JJ) (hJ : JJ + JJ + 1 ≤ KK) :
    Calls Tryd.prog 59 #[v, .int .i64 (up : Int)] w (DivPost w (row (Rnw.u (xq qs)) N) N) := by
  have HJ := hide hJ
  have h' := h
  obtain ⟨a, c, rfl, -⟩ := h'
  obtain ⟨-, hc1, hc2, h3⟩ := h.parts
  obtain ⟨b, o, rfl, hblt, hcs⟩ := h3 hp
  have HLb := hide hblt
  have HXJ := hide (xq_RS hq hJ1)
  have HOUT : Hid (∀ j, qs.length ≤ j → xq qs j = 0) := fun j hj => xq_out hj
  obtain ⟨n, hn⟩ : ∃ n, qs.length = n := ⟨_, rfl⟩
  rw [hn] at hc1 hcs hp hl HOUT ⊢
  have H3 := hide hcs
  obtain ⟨x, hx⟩ : ∃ x, xq qs = x := ⟨_, rfl⟩
  rw [hx] at HXJ H3 HOUT ⊢
  obtain ⟨ln, hln⟩ : ∃ k, n = k := ⟨_, rfl⟩
  rw [hln] at hc1 H3 HOUT hp hl ⊢
  have HRV : Hid (∀ n m i, n ≤ up → m ≤ up → RS (rvx x n m i) JJ) := fun n m i h1 h2 => (rvx_RS (unhide HXJ) h2 h1 i).mono (by omega)
  have HRX : Hid (∀ j, RS (x j) JJ) := fun j => (unhide HXJ j).mono (by omega)
  have HRU : Hid (∀ m n, m + 1 ≤ up → RS (Rnw.u x m * x (n - m)) JJ) := fun m n h1 => (((part_RS (unhide HXJ) m 0).1.mono (ubd_mono J (show m ≤ up by omega))).mul (unhide HXJ (n - m))).mono (by omega)
  have HRU0 : Hid (∀ m, m ≤ up → RS (Rnw.u x m) JJ) := fun m h1 => ((part_RS (unhide HXJ) m 0).1.mono (ubd_mono J h1)).mono (by omega)
  have qm2 := make_ratios ((up : Int) + 1) (by omega) (by omega) w
  have eN : ((up : Int) + 1).toNat = N := by omega
  rw [eN] at qm2
  have b0 := alloc_below w (.cells (tcells (List.replicate N zTri)).toArray 31)
  have S3 := SumsAt.start w w N (Below.refl _ _)
  rw [fill_zero (fun _ => 0)] at S3
  obtain ⟨W1, hW1⟩ : ∃ W, w.alloc (.cells (tcells (List.replicate N zTri)).toArray 31) = W := ⟨_, rfl⟩
  obtain ⟨GO, hGO⟩ : ∃ G, w.heap.size = G := ⟨_, rfl⟩
  rw [hW1] at qm2 S3 b0
  rw [hGO] at qm2
  have S3' : SumsAt w W1 GO (List.replicate N zTri) (fill (fun _ => 0) N 0) := by rw [← hGO]; exact S3
  have HS3 := hide S3'
  have HGO : Hid (w.heap.size ≤ GO) := by show _ ≤ GO; rw [← hGO]; exact Nat.le_refl _
  have HN1 : 1 ≤ N := by omega
  have hN1000 : N ≤ 1001 := by omega
  have HNU := hide hN
  clear h hq hJJ hJ hx S3 S3' h3 b0 eN hcs hblt hn hln HXJ
  go_enter Tryd.func59, Tryd.ntmps59
  go_wp2_with fail
  clear qm2 hW1 hGO
  refine (whole_any 1 (by decide) (by decide) W1).mono ?_
  rintro e w2 ⟨v2, rfl, hv2, hb2⟩
  obtain ⟨t2, rfl, r2⟩ := tri_of hv2
  simp only [Tri.val]
  have S2 := (unhide HS3).keep hb2
  have ⟨⟨y0, y1, y2⟩, g0, g1, g2⟩ := S2.cells 0 (by rw [List.length_replicate]; exact HN1)
  have FZ := S2.set 0 (by rw [List.length_replicate]; exact HN1) t2 _ r2
  rw [Nat.zero_mul, Nat.zero_add, Nat.zero_add] at FZ
  rw [Nat.zero_mul] at y0 y1 y2 g0 g1 g2
  rw [Nat.zero_add] at y1 y2 g1 g2
  obtain ⟨W2, hW2⟩ : ∃ W, ((w2.setCell ⟨GO, 0, none⟩ (.bool t2.s)).setCell ⟨GO, 1, none⟩ (.slice t2.a1 t2.n1 t2.c1)).setCell ⟨GO, 2, none⟩ (.slice t2.a2 t2.n2 t2.c2) = W := ⟨_, rfl⟩
  have e1 : (fill (fun _ => 0) N 0).set 0 ((1 : Int) : Rat) = row (rvx x 1 0) N := row_eq (by rw [List.length_set, fill_length]) (fun i hi => by
    rw [List.getElem!_eq_getElem?_getD, List.getElem?_set]
    by_cases e : 0 = i
    · subst e
      rw [if_pos rfl, if_pos (by rw [fill_length]; exact hi)]
      show ((1 : Int) : Rat) = rvx x 1 0 0
      unfold rvx
      rw [if_pos (by decide)]; rfl
    · rw [if_neg e, ← List.getElem!_eq_getElem?_getD, fill_none (Nat.zero_le _) hi]
      unfold rvx
      rw [if_neg (by omega)]
      split
      · rfl
      · rfl)
  rw [hW2, e1] at FZ
  have HFZ := hide FZ
  have hul2 : ((List.replicate N zTri).set 0 t2).length = N := by rw [List.length_set, List.length_replicate]
  obtain ⟨us2, hus2⟩ : ∃ us, (List.replicate N zTri).set 0 t2 = us := ⟨_, rfl⟩
  rw [hus2] at HFZ hul2
  have HU2 := hide hul2
  clear hv2 r2 S2 FZ hb2 HS3 e1 hul2 hus2
  go_wp2_with fail
  clear hW2 y0 y1 y2 g0 g1 g2
  go_loopw [6] (fun vn wr => ∃ (n : Nat) (us : List Tri), vn = .int .i64 (n : Int) ∧ 1 ≤ n ∧ n ≤ N ∧ us.length = N ∧ SumsAt w wr GO us (row (rvx x n 0) N)) (fun vn _ => N - (intOf vn).toNat)
  case atStart => exact ⟨1, us2, rfl, Nat.le_refl _, HN1, unhide HU2, unhide HFZ⟩
  case round =>
    obtain ⟨n, us, rfl, hn1, hn, hul, S⟩ := hrel
    clear HFZ HU2
    by_cases hlt : n < N
    · have j1 : (n : Int) ≤ (up : Int) := by omega
      have hn1000 : n ≤ 1001 := by omega
      obtain ⟨m0, hm0⟩ : ∃ m0 : Nat, max 0 ((n : Int) - (ln : Int) + 1) = (m0 : Int) := ⟨(max 0 ((n : Int) - (ln : Int) + 1)).toNat, by omega⟩
      have hm1 : m0 + ln ≤ n + 1 ∨ m0 = 0 := by omega
      have hm2 : n + 1 ≤ m0 + ln := by omega
      have hmn : m0 ≤ n := by omega
      rw [rvx_skip x (unhide HOUT) hm1 N] at S
      have HS := hide S
      have HUL := hide hul
      have HMN := hide hmn
      have HM2 := hide hm2
      have HNN := hide hlt
      clear S hul hm1 hmn hm2
      go_wp2_with fail
      clear hm0
      obtain ⟨V, hV⟩ : ∃ V, wr = V := ⟨_, rfl⟩
      clear hV
      go_loopw [7] (fun vm wv => ∃ (m : Nat) (us : List Tri), vm = .int .i64 (m : Int) ∧ m0 ≤ m ∧ m ≤ n ∧ us.length = N ∧ SumsAt w wv GO us (row (rvx x n m) N)) (fun vm _ => n - (intOf vm).toNat)
      case atStart => exact ⟨m0, us, rfl, Nat.le_refl _, unhide HMN, unhide HUL, unhide HS⟩
      case round =>
        obtain ⟨m, ws, rfl, hm0, hm, hwl, S4⟩ := hrel
        clear HS HUL HMN
        by_cases hlm : m < n
        · have f1 : (m : Int) < (n : Int) := by omega
          have f0 : (0 : Int) ≤ (m : Int) := by omega
          have f2 : (m : Int) < (N : Int) := by omega
          have f3 : (n : Int) < (N : Int) := by omega
          have f4 : (0 : Int) ≤ (n : Int) := by omega
          obtain ⟨d, hd⟩ : ∃ d : Nat, n - m = d := ⟨_, rfl⟩
          have jd : (n : Int) - (m : Int) = (d : Int) := by omega
          have HDL : Hid (d < ln) := show _ < _ by have := unhide HM2; omega
          have j3 : (d : Int) < (ln : Int) := by have := unhide HDL; omega
          have j2 : (0 : Int) ≤ (d : Int) := by omega
          have jw : IntKind.i64.wrap (d : Int) = (d : Int) := by rw [IntKind.wrap_i64]; omega
          obtain ⟨tl, k0, k1, k2, ra⟩ := unhide H3 d (unhide HDL)
          have ⟨⟨p0, p1, p2⟩, _⟩ := S4.cells n (by omega)
          have ⟨⟨q0, q1, q2⟩, _⟩ := S4.cells m (by omega)
          have rn := S4.rat n (by omega)
          have rm := S4.rat m (by omega)
          rw [row_get hlt] at rn
          rw [row_get (by omega : m < N)] at rm
          obtain ⟨tn, htn⟩ : ∃ t, ws[n]! = t := ⟨_, rfl⟩
          obtain ⟨tm, htm⟩ : ∃ t, ws[m]! = t := ⟨_, rfl⟩
          rw [htn] at p0 p1 p2 rn
          rw [htm] at q0 q1 q2 rm
          have em : rvx x n m m = Rnw.u x m := by unfold rvx; rw [if_pos hlm]
          rw [em] at rm
          have hGl : GO < wr.heap.size := (Array.getElem?_eq_some_iff.1 S4.row).1
          have HCC : Hid (∀ W, Below wr.heap.size wr W → (fun w' : World => (w'.cell? ⟨GO, n * 3, none⟩ = some (.bool tn.s) ∧ w'.cell? ⟨GO, n * 3 + 1, none⟩ = some (.slice tn.a1 tn.n1 tn.c1) ∧ w'.cell? ⟨GO, n * 3 + 2, none⟩ = some (.slice tn.a2 tn.n2 tn.c2)) ∧ (w'.cell? ⟨GO, m * 3, none⟩ = some (.bool tm.s) ∧ w'.cell? ⟨GO, m * 3 + 1, none⟩ = some (.slice tm.a1 tm.n1 tm.c1) ∧ w'.cell? ⟨GO, m * 3 + 2, none⟩ = some (.slice tm.a2 tm.n2 tm.c2)) ∧ (w'.cell? ⟨b, o + d * 3, none⟩ = some (.bool tl.s) ∧ w'.cell? ⟨b, o + d * 3 + 1, none⟩ = some (.slice tl.a1 tl.n1 tl.c1) ∧ w'.cell? ⟨b, o + d * 3 + 2, none⟩ = some (.slice tl.a2 tl.n2 tl.c2))) W) := fun W hW => by
            have h2 := below_step S4.bl hW
            refine ⟨⟨?_, ?_, ?_⟩, ⟨?_, ?_, ?_⟩, ?_, ?_, ?_⟩
            · rw [hW.cell (p := ⟨GO, n * 3, none⟩) hGl]; exact p0
            · rw [hW.cell (p := ⟨GO, n * 3 + 1, none⟩) hGl]; exact p1
            · rw [hW.cell (p := ⟨GO, n * 3 + 2, none⟩) hGl]; exact p2
            · rw [hW.cell (p := ⟨GO, m * 3, none⟩) hGl]; exact q0
            · rw [hW.cell (p := ⟨GO, m * 3 + 1, none⟩) hGl]; exact q1
            · rw [hW.cell (p := ⟨GO, m * 3 + 2, none⟩) hGl]; exact q2
            · rw [h2.cell (p := ⟨b, o + d * 3, none⟩) (unhide HLb)]; exact k0
            · rw [h2.cell (p := ⟨b, o + d * 3 + 1, none⟩) (unhide HLb)]; exact k1
            · rw [h2.cell (p := ⟨b, o + d * 3 + 2, none⟩) (unhide HLb)]; exact k2
          have HTN := hide rn
          have HTM := hide rm
          have HTL := hide (ra.below S4.bl)
          have HRM := hide (unhide HRU0 m (by omega))
          have HRL := hide (unhide HRX d)
          have HRN := hide (unhide HRV n m n (by omega) (by omega))
          have HRP : Hid (RS (Rnw.u x m * x d) JJ) := by show RS _ _; rw [← hd]; exact unhide HRU m n (by omega)
          have HQV : Hid ((row (rvx x n m) N).set n (rvx x n m n + Rnw.u x m * x d) = row (rvx x n (m + 1)) N) := by show _ = _; rw [← hd]; exact rvx_set x hlt
          have HS5 := hide S4
          have HUL := hide hwl
          clear S4 hwl rn rm ra htn htm em hGl hd k0 k1 k2 p0 p1 p2 q0 q1 q2
          go_wp2_with fail
          refine wp_region_till (fun w' : World => (w'.cell? ⟨GO, n * 3, none⟩ = some (.bool tn.s) ∧ w'.cell? ⟨GO, n * 3 + 1, none⟩ = some (.slice tn.a1 tn.n1 tn.c1) ∧ w'.cell? ⟨GO, n * 3 + 2, none⟩ = some (.slice tn.a2 tn.n2 tn.c2)) ∧ (w'.cell? ⟨GO, m * 3, none⟩ = some (.bool tm.s) ∧ w'.cell? ⟨GO, m * 3 + 1, none⟩ = some (.slice tm.a1 tm.n1 tm.c1) ∧ w'.cell? ⟨GO, m * 3 + 2, none⟩ = some (.slice tm.a2 tm.n2 tm.c2)) ∧ (w'.cell? ⟨b, o + d * 3, none⟩ = some (.bool tl.s) ∧ w'.cell? ⟨b, o + d * 3 + 1, none⟩ = some (.slice tl.a1 tl.n1 tl.c1) ∧ w'.cell? ⟨b, o + d * 3 + 2, none⟩ = some (.slice tl.a2 tl.n2 tl.c2))) 19 (by kernel_rfl) ?_
          have bd0 : Below wr.heap.size wr wr.drew := (Below.refl _ _).drew
          obtain ⟨Wd, hWd⟩ : ∃ W, wr.drew = W := ⟨_, rfl⟩
          rw [hWd] at bd0 ⊢
          have hC0 : (fun w' : World => (w'.cell? ⟨GO, n * 3, none⟩ = some (.bool tn.s) ∧ w'.cell? ⟨GO, n * 3 + 1, none⟩ = some (.slice tn.a1 tn.n1 tn.c1) ∧ w'.cell? ⟨GO, n * 3 + 2, none⟩ = some (.slice tn.a2 tn.n2 tn.c2)) ∧ (w'.cell? ⟨GO, m * 3, none⟩ = some (.bool tm.s) ∧ w'.cell? ⟨GO, m * 3 + 1, none⟩ = some (.slice tm.a1 tm.n1 tm.c1) ∧ w'.cell? ⟨GO, m * 3 + 2, none⟩ = some (.slice tm.a2 tm.n2 tm.c2)) ∧ (w'.cell? ⟨b, o + d * 3, none⟩ = some (.bool tl.s) ∧ w'.cell? ⟨b, o + d * 3 + 1, none⟩ = some (.slice tl.a1 tl.n1 tl.c1) ∧ w'.cell? ⟨b, o + d * 3 + 2, none⟩ = some (.slice tl.a2 tl.n2 tl.c2))) Wd := unhide HCC _ bd0
          refine wpTill_pure (i := 0) (v := ?_) rfl (by kernel_rfl) (by kernel_rfl) (by kernel_rfl) (by kernel_rfl) (fun _ _ _ h => h) (Or.inl ⟨by rfl, ?_⟩) (fun _ => hC0) ?_
          rotate_left
          · intro w hSw; clear hSw; go_simp; (try with_reducible rfl)
          (try simp only [List.getElem_toArray, List.getElem_cons_succ, List.getElem_cons_zero])
          (try simp only [Act.put, List.setIfInBounds_toArray, List.set_cons_zero, List.set_cons_succ])
          refine wpTill_pure (i := 1) (v := ?_) rfl (by kernel_rfl) (by kernel_rfl) (by kernel_rfl) (by kernel_rfl) (fun _ _ _ h => h) (Or.inl ⟨by rfl, ?_⟩) (fun _ => hC0) ?_
          rotate_left
          · intro w hSw; clear hSw; go_simp; (try with_reducible rfl)
          (try simp only [List.getElem_toArray, List.getElem_cons_succ, List.getElem_cons_zero])
          (try simp only [Act.put, List.setIfInBounds_toArray, List.set_cons_zero, List.set_cons_succ])
          refine wpTill_pure (i := 2) (v := ?_) rfl (by kernel_rfl) (by kernel_rfl) (by kernel_rfl) (by kernel_rfl) (fun _ _ _ h => h) (Or.inl ⟨by rfl, ?_⟩) (fun _ => hC0) ?_
          rotate_left
          · intro w hSw; clear hSw; go_simp; (try with_reducible rfl)
          (try simp only [List.getElem_toArray, List.getElem_cons_succ, List.getElem_cons_zero])
          (try simp only [Act.put, List.setIfInBounds_toArray, List.set_cons_zero, List.set_cons_succ])
          refine wpTill_pure (i := 3) (v := ?_) rfl (by kernel_rfl) (by kernel_rfl) (by kernel_rfl) (by kernel_rfl) (fun _ _ _ h => h) (Or.inl ⟨by rfl, ?_⟩) (fun _ => hC0) ?_
          rotate_left
          · intro w hSw; clear hSw; go_simp; (try with_reducible rfl)
          (try simp only [List.getElem_toArray, List.getElem_cons_succ, List.getElem_cons_zero])
          (try simp only [Act.put, List.setIfInBounds_toArray, List.set_cons_zero, List.set_cons_succ])
          refine wpTill_pure (i := 4) (v := ?_) rfl (by kernel_rfl) (by kernel_rfl) (by kernel_rfl) (by kernel_rfl) (fun _ _ _ h => h) (Or.inl ⟨by rfl, ?_⟩) (fun _ => hC0) ?_
          rotate_left
          · intro w hSw; clear hSw; go_simp; (try with_reducible rfl)
          (try simp only [List.getElem_toArray, List.getElem_cons_succ, List.getElem_cons_zero])
          (try simp only [Act.put, List.setIfInBounds_toArray, List.set_cons_zero, List.set_cons_succ])
          refine wpTill_take (i := 5) (v := ?_) rfl (by kernel_rfl) (by kernel_rfl) (by kernel_rfl) (by kernel_rfl) (by kernel_rfl) (by kernel_rfl) (fun _ _ _ h => h) (Or.inl ⟨by rfl, ?_⟩) hC0 ?_
          rotate_left
          · intro w hSw; (try dsimp only at hSw); obtain ⟨⟨u0, u1, u2⟩, ⟨u3, u4, u5⟩, ⟨u6, u7, u8⟩⟩ := hSw; go_simp; (try with_reducible rfl)
          (try simp only [List.getElem_toArray, List.getElem_cons_succ, List.getElem_cons_zero])
          (try simp only [Act.put, List.setIfInBounds_toArray, List.set_cons_zero, List.set_cons_succ])
          refine wpTill_pure (i := 6) (v := ?_) rfl (by kernel_rfl) (by kernel_rfl) (by kernel_rfl) (by kernel_rfl) (fun _ _ _ h => h) (Or.inl ⟨by rfl, ?_⟩) (fun _ => hC0) ?_
          rotate_left
          · intro w hSw; clear hSw; go_simp; (try with_reducible rfl)
          (try simp only [List.getElem_toArray, List.getElem_cons_succ, List.getElem_cons_zero])
          (try simp only [Act.put, List.setIfInBounds_toArray, List.set_cons_zero, List.set_cons_succ])
          refine wpTill_pure (i := 7) (v := ?_) rfl (by kernel_rfl) (by kernel_rfl) (by kernel_rfl) (by kernel_rfl) (fun _ _ _ h => h) (Or.inl ⟨by rfl, ?_⟩) (fun _ => hC0) ?_
          rotate_left
          · intro w hSw; clear hSw; go_simp; (try with_reducible rfl)
          (try simp only [List.getElem_toArray, List.getElem_cons_succ, List.getElem_cons_zero])
          (try simp only [Act.put, List.setIfInBounds_toArray, List.set_cons_zero, List.set_cons_succ])
          refine wpTill_pure (i := 8) (v := ?_) rfl (by kernel_rfl) (by kernel_rfl) (by kernel_rfl) (by kernel_rfl) (fun _ _ _ h => h) (Or.inl ⟨by rfl, ?_⟩) (fun _ => hC0) ?_
          rotate_left
          · intro w hSw; clear hSw; go_simp; (try with_reducible rfl)
          (try simp only [List.getElem_toArray, List.getElem_cons_succ, List.getElem_cons_zero])
          (try simp only [Act.put, List.setIfInBounds_toArray, List.set_cons_zero, List.set_cons_succ])
          refine wpTill_take (i := 9) (v := ?_) rfl (by kernel_rfl) (by kernel_rfl) (by kernel_rfl) (by kernel_rfl) (by kernel_rfl) (by kernel_rfl) (fun _ _ _ h => h) (Or.inl ⟨by rfl, ?_⟩) hC0 ?_
          rotate_left
          · intro w hSw; (try dsimp only at hSw); obtain ⟨⟨u0, u1, u2⟩, ⟨u3, u4, u5⟩, ⟨u6, u7, u8⟩⟩ := hSw; go_simp; (try with_reducible rfl)
          (try simp only [List.getElem_toArray, List.getElem_cons_succ, List.getElem_cons_zero])
          (try simp only [Act.put, List.setIfInBounds_toArray, List.set_cons_zero, List.set_cons_succ])
          refine wpTill_pure (i := 10) (v := ?_) rfl (by kernel_rfl) (by kernel_rfl) (by kernel_rfl) (by kernel_rfl) (fun _ _ _ h => h) (Or.inl ⟨by rfl, ?_⟩) (fun _ => hC0) ?_
          rotate_left
          · intro w hSw; clear hSw; go_simp; (try with_reducible rfl)
          (try simp only [List.getElem_toArray, List.getElem_cons_succ, List.getElem_cons_zero])
          (try simp only [Act.put, List.setIfInBounds_toArray, List.set_cons_zero, List.set_cons_succ])
          refine wpTill_pure (i := 11) (v := ?_) rfl (by kernel_rfl) (by kernel_rfl) (by kernel_rfl) (by kernel_rfl) (fun _ _ _ h => h) (Or.inl ⟨by rfl, ?_⟩) (fun _ => hC0) ?_
          rotate_left
          · intro w hSw; clear hSw; go_simp; (try with_reducible rfl)
          (try simp only [List.getElem_toArray, List.getElem_cons_succ, List.getElem_cons_zero])
          (try simp only [Act.put, List.setIfInBounds_toArray, List.set_cons_zero, List.set_cons_succ])
          refine wpTill_pure (i := 12) (v := ?_) rfl (by kernel_rfl) (by kernel_rfl) (by kernel_rfl) (by kernel_rfl) (fun _ _ _ h => h) (Or.inl ⟨by rfl, ?_⟩) (fun _ => hC0) ?_
          rotate_left
          · intro w hSw; clear hSw; go_simp; (try with_reducible rfl)
          (try simp only [List.getElem_toArray, List.getElem_cons_succ, List.getElem_cons_zero])
          (try simp only [Act.put, List.setIfInBounds_toArray, List.set_cons_zero, List.set_cons_succ])
          refine wpTill_pure (i := 13) (v := ?_) rfl (by kernel_rfl) (by kernel_rfl) (by kernel_rfl) (by kernel_rfl) (fun _ _ _ h => h) (Or.inl ⟨by rfl, ?_⟩) (fun _ => hC0) ?_
          rotate_left
          · intro w hSw; clear hSw; go_simp; (try with_reducible rfl)
          (try simp only [List.getElem_toArray, List.getElem_cons_succ, List.getElem_cons_zero])
          (try simp only [Act.put, List.setIfInBounds_toArray, List.set_cons_zero, List.set_cons_succ])
          refine wpTill_pure (i := 14) (v := ?_) rfl (by kernel_rfl) (by kernel_rfl) (by kernel_rfl) (by kernel_rfl) (fun _ _ _ h => h) (Or.inl ⟨by rfl, ?_⟩) (fun _ => hC0) ?_
          rotate_left
          · intro w hSw; clear hSw; go_simp; (try with_reducible rfl)
          (try simp only [List.getElem_toArray, List.getElem_cons_succ, List.getElem_cons_zero])
          (try simp only [Act.put, List.setIfInBounds_toArray, List.set_cons_zero, List.set_cons_succ])
          refine wpTill_take (i := 15) (v := ?_) rfl (by kernel_rfl) (by kernel_rfl) (by kernel_rfl) (by kernel_rfl) (by kernel_rfl) (by kernel_rfl) (fun _ _ _ h => h) (Or.inl ⟨by rfl, ?_⟩) hC0 ?_
          rotate_left
          · intro w hSw; (try dsimp only at hSw); obtain ⟨⟨u0, u1, u2⟩, ⟨u3, u4, u5⟩, ⟨u6, u7, u8⟩⟩ := hSw; go_simp; (try with_reducible rfl)
          (try simp only [List.getElem_toArray, List.getElem_cons_succ, List.getElem_cons_zero])
          (try simp only [Act.put, List.setIfInBounds_toArray, List.set_cons_zero, List.set_cons_succ])
          refine wpTill_one (k := 16) (by kernel_rfl) rfl (fun K hK => ?_)
          (try simp only [List.getElem_toArray, List.getElem_cons_succ, List.getElem_cons_zero])
          go_simp
          refine (mulR_any tm.val tl.val _ _ _ ((unhide HTM).below bd0) ((unhide HTL).below bd0) JJ (unhide HRM) (unhide HRL) (unhide HJ)).mono ?_
          rintro e xw_1 ⟨xv_1, rfl, hv_1, hb_1⟩
          have cc_1 := below_step bd0 hb_1
          have hC_1 : (fun w' : World => (w'.cell? ⟨GO, n * 3, none⟩ = some (.bool tn.s) ∧ w'.cell? ⟨GO, n * 3 + 1, none⟩ = some (.slice tn.a1 tn.n1 tn.c1) ∧ w'.cell? ⟨GO, n * 3 + 2, none⟩ = some (.slice tn.a2 tn.n2 tn.c2)) ∧ (w'.cell? ⟨GO, m * 3, none⟩ = some (.bool tm.s) ∧ w'.cell? ⟨GO, m * 3 + 1, none⟩ = some (.slice tm.a1 tm.n1 tm.c1) ∧ w'.cell? ⟨GO, m * 3 + 2, none⟩ = some (.slice tm.a2 tm.n2 tm.c2)) ∧ (w'.cell? ⟨b, o + d * 3, none⟩ = some (.bool tl.s) ∧ w'.cell? ⟨b, o + d * 3 + 1, none⟩ = some (.slice tl.a1 tl.n1 tl.c1) ∧ w'.cell? ⟨b, o + d * 3 + 2, none⟩ = some (.slice tl.a2 tl.n2 tl.c2))) xw_1 := unhide HCC _ cc_1
          refine hK.out _ _ (fun _ => hC_1) ?_
          clear hK K
          (try simp only [Act.put, List.setIfInBounds_toArray, List.set_cons_zero, List.set_cons_succ])
          refine wpTill_one (k := 17) (by kernel_rfl) rfl (fun K hK => ?_)
          (try simp only [List.getElem_toArray, List.getElem_cons_succ, List.getElem_cons_zero])
          go_simp
          refine (addR_any tn.val _ _ _ _ ((unhide HTN).below cc_1) hv_1 JJ (unhide HRN) (unhide HRP) (unhide HJ)).mono ?_
          rintro e xw_2 ⟨xv_2, rfl, hv_2, hb_2⟩
          have cc_2 := below_step cc_1 hb_2
          have hC_2 : (fun w' : World => (w'.cell? ⟨GO, n * 3, none⟩ = some (.bool tn.s) ∧ w'.cell? ⟨GO, n * 3 + 1, none⟩ = some (.slice tn.a1 tn.n1 tn.c1) ∧ w'.cell? ⟨GO, n * 3 + 2, none⟩ = some (.slice tn.a2 tn.n2 tn.c2)) ∧ (w'.cell? ⟨GO, m * 3, none⟩ = some (.bool tm.s) ∧ w'.cell? ⟨GO, m * 3 + 1, none⟩ = some (.slice tm.a1 tm.n1 tm.c1) ∧ w'.cell? ⟨GO, m * 3 + 2, none⟩ = some (.slice tm.a2 tm.n2 tm.c2)) ∧ (w'.cell? ⟨b, o + d * 3, none⟩ = some (.bool tl.s) ∧ w'.cell? ⟨b, o + d * 3 + 1, none⟩ = some (.slice tl.a1 tl.n1 tl.c1) ∧ w'.cell? ⟨b, o + d * 3 + 2, none⟩ = some (.slice tl.a2 tl.n2 tl.c2))) xw_2 := unhide HCC _ cc_2
          refine hK.out _ _ (fun _ => hC_2) ?_
          clear hK K
          (try simp only [Act.put, List.setIfInBounds_toArray, List.set_cons_zero, List.set_cons_succ])
          refine wpTill_pure (i := 18) (v := ?_) rfl (by kernel_rfl) (by kernel_rfl) (by kernel_rfl) (by kernel_rfl) (fun _ _ _ h => h) (Or.inl ⟨by rfl, ?_⟩) (fun _ => hC_2) ?_
          rotate_left
          · intro w hSw; clear hSw; go_simp; (try with_reducible rfl)
          (try simp only [List.getElem_toArray, List.getElem_cons_succ, List.getElem_cons_zero])
          (try simp only [Act.put, List.setIfInBounds_toArray, List.set_cons_zero, List.set_cons_succ])
          obtain ⟨t5, rfl, r5⟩ := tri_of hv_2
          simp only [Tri.val]
          have S8 := (unhide HS5).keep cc_2
          have ⟨⟨y0, y1, y2⟩, g0, g1, g2⟩ := S8.cells n (by rw [unhide HUL]; exact unhide HNN)
          have FZ := S8.set n (by rw [unhide HUL]; exact unhide HNN) t5 _ r5
          obtain ⟨WA, hWA⟩ : ∃ W, ((xw_2.setCell ⟨GO, n * 3, none⟩ (.bool t5.s)).setCell ⟨GO, n * 3 + 1, none⟩ (.slice t5.a1 t5.n1 t5.c1)).setCell ⟨GO, n * 3 + 2, none⟩ (.slice t5.a2 t5.n2 t5.c2) = W := ⟨_, rfl⟩
          rw [hWA, unhide HQV] at FZ
          have HFZ := hide FZ
          clear S8 FZ r5 hv_1 hv_2
          refine wpTill_one (k := 19) (by kernel_rfl) rfl (fun K hK => ?_)
          (try simp only [List.getElem_toArray, List.getElem_cons_succ, List.getElem_cons_zero])
          go_simp
          refine hK.out _ _ (fun h => absurd (h.symm.trans (by kernel_rfl)) Bool.false_ne_true) ?_
          clear hK K
          (try simp only [Act.put, List.setIfInBounds_toArray, List.set_cons_zero, List.set_cons_succ])
          refine wpTill_done (by kernel_rfl) ?_ _
          clear HCC HTN HTM HTL HS5 y0 y1 y2 g0 g1 g2 hWA hC0 hC_1 hC_2 cc_1 cc_2 bd0 hb_1 hb_2 hWd
          go_wp2_with fail
          exact ⟨⟨m + 1, _, by go_num, by omega, hlm, by rw [List.length_set]; exact unhide HUL, unhide HFZ⟩, by simp [intOf]; omega⟩
        · obtain rfl : m = n := by omega
          have f1 : ¬ (m : Int) < (m : Int) := by omega
          rw [rvx_next x N hn1] at S4
          have HS4 := hide S4
          have HUL := hide hwl
          clear S4 hwl
          go_wp2_with fail
          exact ⟨⟨m + 1, ws, by go_num, by omega, by omega, unhide HUL, unhide HS4⟩, by simp [intOf]; omega⟩
    · obtain rfl : n = N := by omega
      have j1 : ¬ (n : Int) ≤ (up : Int) := by have := unhide HNU; omega
      have e : row (rvx x n 0) n = row (Rnw.u x) n := row_congr (fun i hi => by unfold rvx; rw [if_pos hi])
      rw [e] at S
      have HF := hide S
      have HU := hide hul
      clear S hul e
      go_wp2
      go_ret
      exact ⟨GO, us, rfl, unhide HU, unhide HGO, unhide HF⟩

end Go.Proofs.YtpopcfclpemlaaaDoor
