/- Renewals: Left. -/
import Derived.Test.YtcelbgleajpenaaGreatDoorRZ2z
import Derived.WalkKit
namespace Go.Proofs.YtcelbgleajpenaaGreatDoor
open Go.RowKit Go.Sort Go.Shelf

theorem qsum_rowN (f : Nat → Rat) (N : Nat) : qsum (row f N) (row f N).length = Bth.ps f N := by
  rw [row_length, qsum_xq]
  exact Bth.ps_congr _ (fun j hj => row_get hj)
/-- The row while it is shared out: the first i are done. -/
def lfx (x : Nat → Rat) (M : Rat) (i j : Nat) : Rat := if j < i then Rnw.sv x j / M else Rnw.sv x j
theorem lfx_set (x : Nat → Rat) (M : Rat) {N i : Nat} (hi : i < N) : (row (lfx x M i) N).set i (Rnw.sv x i / M) = row (lfx x M (i + 1)) N := row_setq hi (by
  unfold lfx; rw [if_pos (Nat.lt_succ_self i)]) (fun j _ hne => by
  unfold lfx
  by_cases h : j < i
  · rw [if_pos h, if_pos (by omega)]
  · rw [if_neg h, if_neg (by omega)])
theorem sv_RS {qs : List Rat} {J n : Nat} (h : ∀ j, j < qs.length → RS qs[j]! J) (hn : qs.length = n) (k : Nat) : RS (Rnw.sv (xq qs) k) (n * (J + 1) + 3) := lvx_RS h hn (k + 1)
theorem psf_RS {f : Nat → Rat} {J : Nat} (h : ∀ j, RS (f j) J) : ∀ k, RS (Bth.ps f k) (k * (J + 1) + 1)
  | 0 => (show RS (0 : Rat) _ from RS.zero.mono (by omega))
  | k + 1 => ((psf_RS h k).add (h k)).mono (by rw [Nat.add_mul]; omega)
/-- A row that comes with nil beside it. -/
def RowNil (w : World) (qs : List Rat) (n : Nat) (e : Ending) (w' : World) : Prop := ∃ g us, e = .returned (.tuple #[.slice (some ⟨g, 0, none⟩) n n, .nilIface]) ∧ us.length = n ∧ w.heap.size ≤ g ∧ SumsAt w w' g us qs

set_option maxHeartbeats 16000000 in
set_option maxRecDepth 100000 in
set_option linter.unusedSimpArgs false in
theorem left_err (v : Value) (qs : List Rat) (J : Nat) (k : Int) (w : World) (h : LawIs w v qs) (hq : ∀ j, j < qs.length → RS qs[j]! J) (hJ : (qs.length * (J + 1) + 1 + J) + (qs.length * (J + 1) + 1 + J) + 1 ≤ KK) (hk : rnc qs = k) (hk0 : k ≠ 0) :
    Calls Tryz.prog 34 #[v] w fun e w' => e = .returned (.tuple #[.slice none 0 0, .iface 27 (.int .i64 k)]) ∧ Below w.heap.size w w' := by
  have HC := hide (rcheck_any v qs J w h hq hJ)
  obtain ⟨a, c, rfl, -⟩ := h
  rw [hk, errV_not hk0] at HC
  clear hq hJ hk hk0
  generalize qs.length = n at *
  go_enter Tryz.func34, Tryz.ntmps34
  go_wp2_with fail
  refine (unhide HC).mono ?_
  rintro e w1 ⟨rfl, hb1⟩
  go_wp2
  go_ret2
  exact ⟨rfl, hb1⟩

set_option maxHeartbeats 16000000 in
set_option maxRecDepth 100000 in
set_option linter.unusedSimpArgs false in
theorem left_ok (v : Value) (qs : List Rat) (J JJ : Nat) (w : World) (h : LawIs w v qs) (hq : ∀ j, j < qs.length → RS qs[j]! J) (hk : rnc qs = 0) (hJJ : 102 * (101 * (J + 1) + 5) + J ≤ JJ) (hJ : JJ + JJ + 1 ≤ KK) :
    Calls Tryz.prog 34 #[v] w (RowNil w (row (fun n => Rnw.sv (xq qs) n / Bth.ps (Rnw.sv (xq qs)) (gst qs)) (gst qs)) (gst qs)) := by
  obtain ⟨hA, ht, hl1, hl2⟩ := rnc_age hk
  have hg1 := hA.g1
  have m1 := Nat.mul_le_mul_right (J + 1) hl2
  have HC := hide (rcheck_any v qs J w h hq (by omega))
  rw [hk, errV_zero] at HC
  have HH := hide h
  have HQ := hide hq
  have HGR : Hid (∀ W, Below w.heap.size w W → Calls Tryz.prog 78 #[v] W fun e w' => e = .returned (.int .i64 (gst qs : Int)) ∧ Below W.heap.size W w') := fun W hW => greatest_any v qs W ((unhide HH).below hW) (by omega) (by omega)
  obtain ⟨up, hup⟩ : ∃ up, gst qs = up + 1 := ⟨gst qs - 1, by omega⟩
  have HLG : Hid (∀ W, Below w.heap.size w W → Calls Tryz.prog 77 #[v, .int .i64 (up : Int)] W (DivPostz W (row (Rnw.sv (xq qs)) (gst qs)) (gst qs))) := fun W hW => longer_any v qs J JJ up (gst qs) W ((unhide HH).below hW) (unhide HQ) (by omega) (by omega) (by omega) (by omega)
  have HRS : Hid (∀ i, RS (Rnw.sv (xq qs) i) JJ) := fun i => (sv_RS hq rfl i).mono (by omega)
  have s1 := fun i => (sv_RS hq rfl i).mono (show qs.length * (J + 1) + 3 ≤ 101 * (J + 1) + 3 by omega)
  have hmm := psf_RS s1 (gst qs)
  have m2 := Nat.mul_le_mul_right (101 * (J + 1) + 3 + 1) (show gst qs ≤ 101 by omega)
  have HRM : Hid (RS (Bth.ps (Rnw.sv (xq qs)) (gst qs)) JJ) := hmm.mono (by omega)
  have hJ2 : (gst qs * (101 * (J + 1) + 3 + 1) + 1 + (101 * (J + 1) + 3)) + (gst qs * (101 * (J + 1) + 3 + 1) + 1 + (101 * (J + 1) + 3)) + 1 ≤ KK := by omega
  have HNZ : Hid ((Bth.ps (Rnw.sv (xq qs)) (gst qs)).num ≠ 0) := fun e => hA.ne hg1 (Rat.num_eq_zero.1 e)
  obtain ⟨x, hx⟩ : ∃ x, xq qs = x := ⟨_, rfl⟩
  rw [hx] at HLG HRS HRM HNZ s1 ⊢
  obtain ⟨M, hM⟩ : ∃ M, Bth.ps (Rnw.sv x) (gst qs) = M := ⟨_, rfl⟩
  rw [hM] at HRM HNZ ⊢
  obtain ⟨N, hN⟩ : ∃ N, gst qs = N := ⟨_, rfl⟩
  have HSU : Hid (∀ W u, LawIs W u (row (Rnw.sv x) N) → Calls Tryz.prog 79 #[u] W fun e w' => ∃ v, e = .returned v ∧ RatIs w' v M ∧ Below W.heap.size W w') := fun W u hu => by
    have := sumR_any u (row (Rnw.sv x) N) (101 * (J + 1) + 3) W hu (fun j hj => by rw [row_length] at hj; rw [row_get hj]; exact s1 j) (by rw [row_length, ← hN]; exact hJ2)
    rw [qsum_rowN, ← hN, hM] at this
    exact this
  rw [hN] at HGR HLG hg1 hup ⊢
  have hN1000 : N ≤ 1000 := by omega
  have jN : (N : Int) - 1 = (up : Int) := by omega
  have HJ := hide hJ
  have h' := h
  obtain ⟨a, c, rfl, -⟩ := h'
  clear h hq hk hJJ hJ hA ht hl1 hl2 m1 m2 hmm hJ2 hup s1 hx hM hN HH HQ
  generalize qs.length = n at *
  go_enter Tryz.func34, Tryz.ntmps34
  go_wp2_with fail
  refine (unhide HC).mono ?_
  rintro e w1 ⟨rfl, hb1⟩
  have HB1 := hide hb1
  clear hb1 HC
  go_wp2_with fail
  refine (unhide HGR w1 (unhide HB1)).mono ?_
  rintro e w2 ⟨rfl, hb2⟩
  have HB2 := hide (below_step (unhide HB1) hb2)
  clear hb2 HB1 HGR
  go_wp2_with fail
  refine (unhide HLG w2 (unhide HB2)).mono ?_
  rintro e w3 ⟨GO, us, rfl, hul, hgl, S⟩
  have hbl := S.bl
  have S' := S.rebase (unhide HB2)
  have HG : Hid (w.heap.size ≤ GO) := Nat.le_trans (unhide HB2).size hgl
  have LW := S'.law (by omega)
  rw [hul] at LW
  have HSU3 := hide (unhide HSU w3 _ LW)
  have HS3 := hide S'
  have HU3 := hide hul
  clear S S' LW hul hgl hbl HSU HLG HB2
  go_wp2_with fail
  refine (unhide HSU3).mono ?_
  rintro e w4 ⟨v4, rfl, hv4, hb4⟩
  obtain ⟨tm, rfl, rm⟩ := tri_of hv4
  simp only [Tri.val]
  have X4 := BoxIs.new rm
  have b4 := below_step hb4 (alloc_below w4 (.cells #[.bool tm.s, .slice tm.a1 tm.n1 tm.c1, .slice tm.a2 tm.n2 tm.c2] 37))
  have S4 := (unhide HS3).keep b4
  have hne : w4.heap.size ≠ GO := fun e => by
    have h1 := (Array.getElem?_eq_some_iff.1 ((unhide HS3).keep hb4).row).1
    omega
  obtain ⟨W4, hW4⟩ : ∃ W, w4.alloc (.cells #[.bool tm.s, .slice tm.a1 tm.n1 tm.c1, .slice tm.a2 tm.n2 tm.c2] 37) = W := ⟨_, rfl⟩
  obtain ⟨bm, hbm⟩ : ∃ b, w4.heap.size = b := ⟨_, rfl⟩
  rw [hW4] at X4 S4
  rw [hbm] at X4 hne
  have HX4 := hide X4
  have e0 : row (Rnw.sv x) N = row (lfx x M 0) N := row_congr (fun i _ => by unfold lfx; rw [if_neg (by omega)])
  rw [e0] at S4
  have HS4 := hide S4
  have HNE := hide hne
  clear hv4 rm X4 b4 S4 hne hb4 HS3 HSU3 e0
  go_wp2_with fail
  clear hW4 hbm
  go_loopw [22] (fun vi wr => ∃ (i : Nat) (us : List Tri), vi = .int .i64 (i : Int) ∧ i ≤ N ∧ us.length = N ∧ SumsAt w wr GO us (row (lfx x M i) N) ∧ BoxIs wr bm tm M) (fun vi _ => N - (intOf vi).toNat)
  case atStart => exact ⟨0, us, rfl, Nat.zero_le _, unhide HU3, unhide HS4, unhide HX4⟩
  case round =>
    obtain ⟨i, us, rfl, hi, hul, S, X⟩ := hrel
    clear HS4 HX4 HU3
    by_cases hlt : i < N
    · have j1 : (i : Int) < (N : Int) := by omega
      have j0 : (0 : Int) ≤ (i : Int) := by omega
      have hGl : GO < wr.heap.size := (Array.getElem?_eq_some_iff.1 S.row).1
      have ⟨⟨p0, p1, p2⟩, _⟩ := S.cells i (by omega)
      have ra := S.rat i (by omega)
      rw [row_get hlt] at ra
      have ea : lfx x M i i = Rnw.sv x i := by unfold lfx; rw [if_neg (Nat.lt_irrefl _)]
      rw [ea] at ra
      obtain ⟨ta, hta⟩ : ∃ t, us[i]! = t := ⟨_, rfl⟩
      rw [hta] at p0 p1 p2 ra
      have HCC : Hid (∀ W, Below wr.heap.size wr W → (fun w' : World => (w'.cell? ⟨GO, i * 3, none⟩ = some (.bool ta.s) ∧ w'.cell? ⟨GO, i * 3 + 1, none⟩ = some (.slice ta.a1 ta.n1 ta.c1) ∧ w'.cell? ⟨GO, i * 3 + 2, none⟩ = some (.slice ta.a2 ta.n2 ta.c2)) ∧ (w'.cell? ⟨bm, 0, none⟩ = some (.bool tm.s) ∧ w'.cell? ⟨bm, 1, none⟩ = some (.slice tm.a1 tm.n1 tm.c1) ∧ w'.cell? ⟨bm, 2, none⟩ = some (.slice tm.a2 tm.n2 tm.c2))) W) := fun W hW => by
        refine ⟨⟨?_, ?_, ?_⟩, X.cells W hW⟩
        · rw [hW.cell (p := ⟨GO, i * 3, none⟩) hGl]; exact p0
        · rw [hW.cell (p := ⟨GO, i * 3 + 1, none⟩) hGl]; exact p1
        · rw [hW.cell (p := ⟨GO, i * 3 + 2, none⟩) hGl]; exact p2
      have HTA := hide ra
      have HTM := hide X.2
      have HRA := hide (unhide HRS i)
      have HQV := hide (lfx_set x M hlt)
      have HS5 := hide S
      have HX5 := hide X
      have HUL := hide hul
      clear S X hul ra hta ea hGl p0 p1 p2
      go_wp2_with fail
      refine wp_region_till (fun w' : World => (w'.cell? ⟨GO, i * 3, none⟩ = some (.bool ta.s) ∧ w'.cell? ⟨GO, i * 3 + 1, none⟩ = some (.slice ta.a1 ta.n1 ta.c1) ∧ w'.cell? ⟨GO, i * 3 + 2, none⟩ = some (.slice ta.a2 ta.n2 ta.c2)) ∧ (w'.cell? ⟨bm, 0, none⟩ = some (.bool tm.s) ∧ w'.cell? ⟨bm, 1, none⟩ = some (.slice tm.a1 tm.n1 tm.c1) ∧ w'.cell? ⟨bm, 2, none⟩ = some (.slice tm.a2 tm.n2 tm.c2))) 9 (by kernel_rfl) ?_
      have bd0 : Below wr.heap.size wr wr.drew := (Below.refl _ _).drew
      obtain ⟨Wd, hWd⟩ : ∃ W, wr.drew = W := ⟨_, rfl⟩
      rw [hWd] at bd0 ⊢
      have hC0 : (fun w' : World => (w'.cell? ⟨GO, i * 3, none⟩ = some (.bool ta.s) ∧ w'.cell? ⟨GO, i * 3 + 1, none⟩ = some (.slice ta.a1 ta.n1 ta.c1) ∧ w'.cell? ⟨GO, i * 3 + 2, none⟩ = some (.slice ta.a2 ta.n2 ta.c2)) ∧ (w'.cell? ⟨bm, 0, none⟩ = some (.bool tm.s) ∧ w'.cell? ⟨bm, 1, none⟩ = some (.slice tm.a1 tm.n1 tm.c1) ∧ w'.cell? ⟨bm, 2, none⟩ = some (.slice tm.a2 tm.n2 tm.c2))) Wd := unhide HCC _ bd0
      refine wpTill_pure (i := 0) (v := ?_) rfl (by kernel_rfl) (by kernel_rfl) (by kernel_rfl) (by kernel_rfl) (fun _ _ _ h => h) (Or.inl ⟨by rfl, ?_⟩) (fun _ => hC0) ?_
      rotate_left
      · intro w hSw; clear hSw; go_simp; (try with_reducible rfl)
      (try simp only [List.getElem_toArray, List.getElem_cons_succ, List.getElem_cons_zero])
      (try simp only [Act.put, List.setIfInBounds_toArray, List.set_cons_zero, List.set_cons_succ])
      refine wpTill_pure (i := 1) (v := ?_) rfl (by kernel_rfl) (by kernel_rfl) (by kernel_rfl) (by kernel_rfl) (fun _ _ _ h => h) (Or.inl ⟨by rfl, ?_⟩) (fun _ => hC0) ?_
      rotate_left
      · intro w hSw; clear hSw; go_simp; (try with_reducible rfl)
      (try simp only [List.getElem_toArray, List.getElem_cons_succ, List.getElem_cons_zero])
      (try simp only [Act.put, List.setIfInBounds_toArray, List.set_cons_zero, List.set_cons_succ])
      refine wpTill_pure (i := 2) (v := ?_) rfl (by kernel_rfl) (by kernel_rfl) (by kernel_rfl) (by kernel_rfl) (fun _ _ _ h => h) (Or.inl ⟨by rfl, ?_⟩) (fun _ => hC0) ?_
      rotate_left
      · intro w hSw; clear hSw; go_simp; (try with_reducible rfl)
      (try simp only [List.getElem_toArray, List.getElem_cons_succ, List.getElem_cons_zero])
      (try simp only [Act.put, List.setIfInBounds_toArray, List.set_cons_zero, List.set_cons_succ])
      refine wpTill_pure (i := 3) (v := ?_) rfl (by kernel_rfl) (by kernel_rfl) (by kernel_rfl) (by kernel_rfl) (fun _ _ _ h => h) (Or.inl ⟨by rfl, ?_⟩) (fun _ => hC0) ?_
      rotate_left
      · intro w hSw; clear hSw; go_simp; (try with_reducible rfl)
      (try simp only [List.getElem_toArray, List.getElem_cons_succ, List.getElem_cons_zero])
      (try simp only [Act.put, List.setIfInBounds_toArray, List.set_cons_zero, List.set_cons_succ])
      refine wpTill_pure (i := 4) (v := ?_) rfl (by kernel_rfl) (by kernel_rfl) (by kernel_rfl) (by kernel_rfl) (fun _ _ _ h => h) (Or.inl ⟨by rfl, ?_⟩) (fun _ => hC0) ?_
      rotate_left
      · intro w hSw; clear hSw; go_simp; (try with_reducible rfl)
      (try simp only [List.getElem_toArray, List.getElem_cons_succ, List.getElem_cons_zero])
      (try simp only [Act.put, List.setIfInBounds_toArray, List.set_cons_zero, List.set_cons_succ])
      refine wpTill_take (i := 5) (v := ?_) rfl (by kernel_rfl) (by kernel_rfl) (by kernel_rfl) (by kernel_rfl) (by kernel_rfl) (by kernel_rfl) (fun _ _ _ h => h) (Or.inl ⟨by rfl, ?_⟩) hC0 ?_
      rotate_left
      · intro w hSw; (try dsimp only at hSw); obtain ⟨⟨u0, u1, u2⟩, ⟨u3, u4, u5⟩⟩ := hSw; go_simp; (try with_reducible rfl)
      (try simp only [List.getElem_toArray, List.getElem_cons_succ, List.getElem_cons_zero])
      (try simp only [Act.put, List.setIfInBounds_toArray, List.set_cons_zero, List.set_cons_succ])
      refine wpTill_take (i := 6) (v := ?_) rfl (by kernel_rfl) (by kernel_rfl) (by kernel_rfl) (by kernel_rfl) (by kernel_rfl) (by kernel_rfl) (fun _ _ _ h => h) (Or.inl ⟨by rfl, ?_⟩) hC0 ?_
      rotate_left
      · intro w hSw; (try dsimp only at hSw); obtain ⟨⟨u0, u1, u2⟩, ⟨u3, u4, u5⟩⟩ := hSw; go_simp; (try with_reducible rfl)
      (try simp only [List.getElem_toArray, List.getElem_cons_succ, List.getElem_cons_zero])
      (try simp only [Act.put, List.setIfInBounds_toArray, List.set_cons_zero, List.set_cons_succ])
      refine wpTill_one (k := 7) (by kernel_rfl) rfl (fun K hK => ?_)
      (try simp only [List.getElem_toArray, List.getElem_cons_succ, List.getElem_cons_zero])
      go_simp
      refine (rdivided_any ta.val tm.val _ _ _ ((unhide HTA).below bd0) ((unhide HTM).below bd0) JJ (unhide HRA) (unhide HRM) (unhide HJ) (unhide HNZ)).mono ?_
      rintro e xw_1 ⟨xv_1, rfl, hv_1, hb_1⟩
      have cc_1 := below_step bd0 hb_1
      have hC_1 : (fun w' : World => (w'.cell? ⟨GO, i * 3, none⟩ = some (.bool ta.s) ∧ w'.cell? ⟨GO, i * 3 + 1, none⟩ = some (.slice ta.a1 ta.n1 ta.c1) ∧ w'.cell? ⟨GO, i * 3 + 2, none⟩ = some (.slice ta.a2 ta.n2 ta.c2)) ∧ (w'.cell? ⟨bm, 0, none⟩ = some (.bool tm.s) ∧ w'.cell? ⟨bm, 1, none⟩ = some (.slice tm.a1 tm.n1 tm.c1) ∧ w'.cell? ⟨bm, 2, none⟩ = some (.slice tm.a2 tm.n2 tm.c2))) xw_1 := unhide HCC _ cc_1
      refine hK.out _ _ (fun _ => hC_1) ?_
      clear hK K
      (try simp only [Act.put, List.setIfInBounds_toArray, List.set_cons_zero, List.set_cons_succ])
      refine wpTill_pure (i := 8) (v := ?_) rfl (by kernel_rfl) (by kernel_rfl) (by kernel_rfl) (by kernel_rfl) (fun _ _ _ h => h) (Or.inl ⟨by rfl, ?_⟩) (fun _ => hC_1) ?_
      rotate_left
      · intro w hSw; clear hSw; go_simp; (try with_reducible rfl)
      (try simp only [List.getElem_toArray, List.getElem_cons_succ, List.getElem_cons_zero])
      (try simp only [Act.put, List.setIfInBounds_toArray, List.set_cons_zero, List.set_cons_succ])
      obtain ⟨t5, rfl, r5⟩ := tri_of hv_1
      simp only [Tri.val]
      have S8 := (unhide HS5).keep cc_1
      have X8 := (unhide HX5).keep cc_1
      have ⟨⟨y0, y1, y2⟩, g0, g1, g2⟩ := S8.cells i (by rw [unhide HUL]; exact hlt)
      have FZ := S8.set i (by rw [unhide HUL]; exact hlt) t5 _ r5
      have XZ := X8.rowed S8.row (unhide HNE) (i * 3) (i * 3 + 1) (i * 3 + 2) (.bool t5.s) (.slice t5.a1 t5.n1 t5.c1) (.slice t5.a2 t5.n2 t5.c2)
      obtain ⟨WA, hWA⟩ : ∃ W, ((xw_1.setCell ⟨GO, i * 3, none⟩ (.bool t5.s)).setCell ⟨GO, i * 3 + 1, none⟩ (.slice t5.a1 t5.n1 t5.c1)).setCell ⟨GO, i * 3 + 2, none⟩ (.slice t5.a2 t5.n2 t5.c2) = W := ⟨_, rfl⟩
      rw [hWA, unhide HQV] at FZ
      rw [hWA] at XZ
      have HFZ := hide FZ
      have HXZ := hide XZ
      clear S8 X8 FZ XZ r5 hv_1
      refine wpTill_one (k := 9) (by kernel_rfl) rfl (fun K hK => ?_)
      (try simp only [List.getElem_toArray, List.getElem_cons_succ, List.getElem_cons_zero])
      go_simp
      refine hK.out _ _ (fun h => absurd (h.symm.trans (by kernel_rfl)) Bool.false_ne_true) ?_
      clear hK K
      (try simp only [Act.put, List.setIfInBounds_toArray, List.set_cons_zero, List.set_cons_succ])
      refine wpTill_done (by kernel_rfl) ?_ _
      clear HCC HTA HTM HS5 HX5 HRA HQV y0 y1 y2 g0 g1 g2 hWA hC0 hC_1 cc_1 bd0 hb_1 hWd
      go_wp2_with fail
      exact ⟨⟨i + 1, _, by go_num, hlt, by rw [List.length_set]; exact unhide HUL, unhide HFZ, unhide HXZ⟩, by simp [intOf]; omega⟩
    · obtain rfl : i = N := by omega
      have j1 : ¬ (i : Int) < (i : Int) := by omega
      have e : row (lfx x M i) i = row (fun n => Rnw.sv x n / M) i := row_congr (fun j hj => by unfold lfx; rw [if_pos hj])
      rw [e] at S
      have HF := hide S
      have HU := hide hul
      clear S X hul e
      go_wp2
      go_ret2
      exact ⟨GO, us, rfl, unhide HU, unhide HG, unhide HF⟩

end Go.Proofs.YtcelbgleajpenaaGreatDoor
/- Parts in a row, by where the last part works that some work ahead of. -/
namespace Go.Proofs.YtcelbgleajpenaaGreatDoor.Rsk

end Go.Proofs.YtcelbgleajpenaaGreatDoor.Rsk
/- Things of gates: what works by which parts; the least sets by which it does, and without which it does not. -/
namespace Go.Proofs.YtcelbgleajpenaaGreatDoor.Rsk

/-! The least sets -/
end Go.Proofs.YtcelbgleajpenaaGreatDoor.Rsk
/- Parts in a row: as likely as the gates that say so (numbers as polynomials of the one chance). -/
namespace Go.Proofs.YtcelbgleajpenaaGreatDoor.Rsk

end Go.Proofs.YtcelbgleajpenaaGreatDoor.Rsk
namespace Go.Proofs.YtcelbgleajpenaaGreatDoor.Rsk

/-- What the last i parts' failing adds, i below k. -/
def rrs (p q : Rat) (w : Nat → Rat) (m : Nat) : Nat → Rat
  | 0 => 0
  | i + 1 => rrs p q w m i + pwr q i * p * w (m - i - 1)
/-- A row of such sums. -/
def rrl (p q : Rat) (b : Nat) : Nat → List Rat
  | 0 => [1]
  | k + 1 => rrl p q b k ++ [rrs p q (fun j => (rrl p q b k)[j]!) (k + 1) (min b (k + 1)) + if k + 1 < b then pwr q (k + 1) else 0]
theorem rrl_len (p q : Rat) (b : Nat) : ∀ k, (rrl p q b k).length = k + 1
  | 0 => rfl
  | k + 1 => by show (rrl p q b k ++ [_]).length = _; rw [List.length_append, rrl_len p q b k]; rfl
def rrv (p q : Rat) (b k : Nat) : Rat := (rrl p q b k)[k]!
theorem rrl_get (p q : Rat) (b : Nat) : ∀ k j, j ≤ k → (rrl p q b k)[j]! = rrv p q b j
  | 0, j, h => by
    obtain rfl : j = 0 := by omega
    rfl
  | k + 1, j, h => by
    rcases Nat.lt_or_ge j (k + 1) with a | a
    · rw [← rrl_get p q b k j (by omega)]
      show (rrl p q b k ++ [_])[j]! = _
      rw [List.getElem!_eq_getElem?_getD, List.getElem?_append_left (by rw [rrl_len]; exact a), ← List.getElem!_eq_getElem?_getD]
    · obtain rfl : j = k + 1 := by omega
      rfl
theorem rrs_congr {p q : Rat} {w v : Nat → Rat} {m : Nat} : ∀ i, i ≤ m → (∀ j, j < m → w j = v j) → rrs p q w m i = rrs p q v m i
  | 0, _, _ => rfl
  | i + 1, h, e => by
    show rrs p q w m i + pwr q i * p * w (m - i - 1) = _
    rw [rrs_congr i (by omega) e, e (m - i - 1) (by omega)]; rfl
theorem rrv_zero (p q : Rat) (b : Nat) : rrv p q b 0 = 1 := rfl
theorem rrv_step (p q : Rat) (b k : Nat) : rrv p q b (k + 1) = rrs p q (rrv p q b) (k + 1) (min b (k + 1)) + if k + 1 < b then pwr q (k + 1) else 0 := by
  unfold rrv
  show (rrl p q b k ++ [_])[k + 1]! = _
  rw [List.getElem!_eq_getElem?_getD, List.getElem?_append_right (by rw [rrl_len]; exact Nat.le_refl _), rrl_len, Nat.sub_self]
  show rrs p q (fun j => (rrl p q b k)[j]!) (k + 1) (min b (k + 1)) + _ = _
  rw [rrs_congr (v := fun k => (rrl p q b k)[k]!) _ (Nat.min_le_right _ _) (fun j hj => rrl_get p q b k j (by omega))]
/-- Ones alone: the geometric sum. -/
theorem rrs_ones {p q : Rat} (h : p = 1 - q) {w : Nat → Rat} {m : Nat} : ∀ i, i ≤ m → (∀ j, j < m → w j = 1) → rrs p q w m i = 1 - pwr q i
  | 0, _, _ => by show (0 : Rat) = 1 - 1; grind
  | i + 1, hi, e => by
    show rrs p q w m i + pwr q i * p * w (m - i - 1) = 1 - pwr q i * q
    rw [rrs_ones h i (by omega) e, e (m - i - 1) (by omega), h]; grind
/-- A sum one further: the first part apart. -/
theorem rrs_next (p q : Rat) (w : Nat → Rat) (m : Nat) : ∀ i, rrs p q w (m + 1) (i + 1) = p * w m + q * rrs p q w m i
  | 0 => by
    show 0 + pwr q 0 * p * w (m + 1 - 0 - 1) = p * w m + q * 0
    rw [show m + 1 - 0 - 1 = m by omega]
    show 0 + 1 * p * w m = _
    grind
  | i + 1 => by
    show rrs p q w (m + 1) (i + 1) + pwr q (i + 1) * p * w (m + 1 - (i + 1) - 1) = p * w m + q * (rrs p q w m i + pwr q i * p * w (m - i - 1))
    rw [rrs_next p q w m i, show m + 1 - (i + 1) - 1 = m - i - 1 by omega]
    show _ + pwr q i * q * p * _ = _
    grind
theorem rrv_rwv {p q : Rat} (h : p = 1 - q) {b : Nat} (hb : 1 ≤ b) : ∀ k, rrv p q b k = rwv p (pwr q b) b k := by
  intro k
  induction k using Nat.strongRecOn with
  | ind k ih =>
    rw [rwv_step]
    rcases Nat.lt_or_ge k b with h1 | h1
    · rw [if_pos h1]
      cases k with
      | zero => rfl
      | succ k =>
        rw [rrv_step, if_pos h1, show min b (k + 1) = k + 1 by omega, rrs_ones h (k + 1) (Nat.le_refl _) (fun j hj => by
          rw [ih j hj, rwv_step, if_pos (by omega)])]
        grind
    · obtain ⟨m, rfl⟩ : ∃ m, k = m + 1 := ⟨k - 1, by omega⟩
      obtain ⟨c, rfl⟩ : ∃ c, b = c + 1 := ⟨b - 1, by omega⟩
      rw [if_neg (by omega), rrv_step, if_neg (by omega), show min (c + 1) (m + 1) = c + 1 by omega]
      by_cases h2 : m + 1 = c + 1
      · rw [if_pos h2, rrs_ones h (c + 1) (by omega) (fun j hj => by rw [ih j hj, rwv_step, if_pos (by omega)])]
        grind
      · rw [if_neg h2, rrs_next]
        have e := rrv_step p q (c + 1) (m - 1)
        rw [show m - 1 + 1 = m by omega, if_neg (show ¬ m < c + 1 by omega), show min (c + 1) m = c + 1 by omega] at e
        have e2 : rrs p q (rrv p q (c + 1)) m (c + 1) = rrs p q (rrv p q (c + 1)) m c + pwr q c * p * rrv p q (c + 1) (m - c - 1) := rfl
        rw [ih m (by omega)] at e
        rw [ih (m - c - 1) (by omega)] at e2
        rw [ih m (by omega), show m + 1 - 1 = m by omega, show m + 1 - (c + 1) - 1 = m - c - 1 by omega]
        show _ = _ - rwv p (pwr q c * q) (c + 1) (m - c - 1) * p * (pwr q c * q)
        have e3 : pwr q (c + 1) = pwr q c * q := rfl
        rw [e3] at e e2 ⊢
        rw [e2] at e
        have e4 : p * rwv p (pwr q c * q) (c + 1) m = rwv p (pwr q c * q) (c + 1) m - q * rwv p (pwr q c * q) (c + 1) m := by rw [h]; grind
        grind
end Go.Proofs.YtcelbgleajpenaaGreatDoor.Rsk
/- Parts in a row: how great the numbers are. -/
namespace Go.Proofs.YtcelbgleajpenaaGreatDoor.Rsk

/-- Over this number the fraction is whole. -/
def Iv (q : Rat) (D : Nat) : Prop := ∃ z : Int, q * (D : Rat) = (z : Rat)
theorem Iv.add {a b : Rat} {D : Nat} (h : Iv a D) (k : Iv b D) : Iv (a + b) D := by
  obtain ⟨z, h⟩ := h
  obtain ⟨y, k⟩ := k
  exact ⟨z + y, by rw [show ((z + y : Int) : Rat) = (z : Rat) + (y : Rat) by push_cast; rfl, ← h, ← k]; grind⟩
theorem Iv.sub {a b : Rat} {D : Nat} (h : Iv a D) (k : Iv b D) : Iv (a - b) D := by
  obtain ⟨z, h⟩ := h
  obtain ⟨y, k⟩ := k
  exact ⟨z - y, by rw [show ((z - y : Int) : Rat) = (z : Rat) - (y : Rat) by push_cast; rfl, ← h, ← k]; grind⟩
theorem Iv.mul {a b : Rat} {D E : Nat} (h : Iv a D) (k : Iv b E) : Iv (a * b) (D * E) := by
  obtain ⟨z, h⟩ := h
  obtain ⟨y, k⟩ := k
  exact ⟨z * y, by rw [show ((z * y : Int) : Rat) = (z : Rat) * (y : Rat) by push_cast; rfl, show ((D * E : Nat) : Rat) = (D : Rat) * (E : Rat) by push_cast; rfl, ← h, ← k]; grind⟩
theorem Iv.one (D : Nat) : Iv 1 D := ⟨(D : Int), by show (1 : Rat) * (D : Rat) = (((D : Nat) : Int) : Rat); rw [show (((D : Nat) : Int) : Rat) = (D : Rat) from rfl]; grind⟩
theorem Iv.zero (D : Nat) : Iv 0 D := ⟨0, by simp⟩
theorem Iv.more {a : Rat} {D : Nat} (h : Iv a D) (E : Nat) : Iv a (D * E) := by
  have := h.mul (Iv.one E)
  rwa [show a * 1 = a by grind] at this
theorem Iv.cast {a : Rat} {D E : Nat} (h : Iv a D) (e : D = E) : Iv a E := e ▸ h
theorem pwr_Iv {q : Rat} {d : Nat} (h : Iv q d) : ∀ k, Iv (pwr q k) (d ^ k)
  | 0 => Iv.one _
  | k + 1 => by
    rw [Nat.pow_succ]
    exact (pwr_Iv h k).mul h
theorem rrs_Iv {p q : Rat} {d m : Nat} {w : Nat → Rat} (hp : Iv p d) (hq : Iv q d) (hw : ∀ j, j < m → Iv (w j) (d ^ j)) : ∀ i, i ≤ m → Iv (rrs p q w m i) (d ^ m)
  | 0, _ => Iv.zero _
  | i + 1, h => by
    refine (rrs_Iv hp hq hw i (by omega)).add ?_
    refine (((pwr_Iv hq i).mul hp).mul (hw (m - i - 1) (by omega))).cast ?_
    rw [← Nat.pow_succ, ← Nat.pow_add]
    congr 1
    omega
theorem rrv_Iv {p q : Rat} {d b : Nat} (hp : Iv p d) (hq : Iv q d) : ∀ k, Iv (rrv p q b k) (d ^ k) := by
  intro k
  induction k using Nat.strongRecOn with
  | ind k ih =>
    cases k with
    | zero => exact Iv.one _
    | succ k =>
      rw [rrv_step]
      refine (rrs_Iv hp hq (fun j hj => ih j hj) _ (Nat.min_le_right _ _)).add ?_
      split
      · exact pwr_Iv hq _
      · exact Iv.zero _
theorem mul01 {a b : Rat} (h0 : 0 ≤ a) (h1 : a ≤ 1) (k0 : 0 ≤ b) (k1 : b ≤ 1) : 0 ≤ a * b ∧ a * b ≤ 1 ∧ a * b ≤ a := by
  have e1 := Rat.mul_nonneg h0 k0
  have e2 := Rat.mul_nonneg h0 (show 0 ≤ 1 - b by grind)
  exact ⟨e1, by grind, by grind⟩
theorem pwr_01 {q : Rat} (h0 : 0 ≤ q) (h1 : q ≤ 1) : ∀ k, 0 ≤ pwr q k ∧ pwr q k ≤ 1
  | 0 => ⟨by show (0 : Rat) ≤ 1; decide, Rat.le_refl⟩
  | k + 1 => by
    obtain ⟨a, b⟩ := pwr_01 h0 h1 k
    have := mul01 a b h0 h1
    exact ⟨this.1, this.2.1⟩
theorem rrs_01 {p q : Rat} {m : Nat} {w : Nat → Rat} (hp : p = 1 - q) (h0 : 0 ≤ q) (h1 : q ≤ 1) (hw : ∀ j, j < m → 0 ≤ w j ∧ w j ≤ 1) : ∀ i, i ≤ m → 0 ≤ rrs p q w m i ∧ rrs p q w m i ≤ 1 - pwr q i
  | 0, _ => ⟨Rat.le_refl, by show (0 : Rat) ≤ 1 - 1; grind⟩
  | i + 1, h => by
    obtain ⟨a, b⟩ := rrs_01 hp h0 h1 hw i (by omega)
    obtain ⟨c, d⟩ := pwr_01 h0 h1 i
    obtain ⟨e, f⟩ := hw (m - i - 1) (by omega)
    have g := mul01 c d (show 0 ≤ p by grind) (show p ≤ 1 by grind)
    have k := mul01 g.1 g.2.1 e f
    constructor
    · show 0 ≤ rrs p q w m i + pwr q i * p * w (m - i - 1)
      have := k.1
      grind
    · show rrs p q w m i + pwr q i * p * w (m - i - 1) ≤ 1 - pwr q i * q
      have := k.2.2
      rw [hp] at this ⊢
      rw [hp] at b
      grind
theorem rrv_01 {p q : Rat} {b : Nat} (hp : p = 1 - q) (h0 : 0 ≤ q) (h1 : q ≤ 1) : ∀ k, 0 ≤ rrv p q b k ∧ rrv p q b k ≤ 1 := by
  intro k
  induction k using Nat.strongRecOn with
  | ind k ih =>
    cases k with
    | zero => exact ⟨by show (0 : Rat) ≤ 1; decide, Rat.le_refl⟩
    | succ k =>
      rw [rrv_step]
      obtain ⟨a, c⟩ := rrs_01 hp h0 h1 (fun j hj => ih j hj) (min b (k + 1)) (Nat.min_le_right _ _)
      obtain ⟨d, e⟩ := pwr_01 h0 h1 (min b (k + 1))
      split
      · rename_i hlt
        have e2 : min b (k + 1) = k + 1 := by omega
        rw [e2] at a c d e ⊢
        constructor <;> grind
      · constructor <;> grind
end Go.Proofs.YtcelbgleajpenaaGreatDoor.Rsk
