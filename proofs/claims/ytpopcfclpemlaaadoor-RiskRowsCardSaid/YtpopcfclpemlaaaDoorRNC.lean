/- Renewals: Left. -/
import Derived.Test.YtpopcfclpemlaaaDoorRNB
import Derived.Test.YtpopcfclpemlaaaDoorA13
import Derived.Test.YtpopcfclpemlaaaDoorA14
namespace Go.Proofs.YtpopcfclpemlaaaDoor
open Go.RowKit Go.Sort Go.Shelf

theorem qsum_rowN (f : Nat → Rat) (N : Nat) : qsum (row f N) (row f N).length = Bth.ps f N := by
  rw [row_length, qsum_xq]
  exact Bth.ps_congr _ (fun j hj => row_get hj)
/-- The row while it is shared out: the first i are done. -/
def lfx (x : Nat → Rat) (M : Rat) (i j : Nat) : Rat := if j < i then Rnw.sv x j / M else Rnw.sv x j
theorem lfx_set (x : Nat → Rat) (M : Rat) {N i : Nat} (hi : i < N) : (row (lfx x M i) N).set i (Rnw.sv x i / M) = row (lfx x M (i + 1)) N := row_setq hi (by
  unfold lfx; rw [if_pos (Nat.lt_succ_self i)]) (fun j _ hne => by
  unfold lfx
  by_cases h : j < i
  · rw [if_pos h, if_pos (by omega)]
  · rw [if_neg h, if_neg (by omega)])
theorem sv_RS {qs : List Rat} {J n : Nat} (h : ∀ j, j < qs.length → RS qs[j]! J) (hn : qs.length = n) (k : Nat) : RS (Rnw.sv (xq qs) k) (n * (J + 1) + 3) := lvx_RS h hn (k + 1)
theorem psf_RS {f : Nat → Rat} {J : Nat} (h : ∀ j, RS (f j) J) : ∀ k, RS (Bth.ps f k) (k * (J + 1) + 1)
  | 0 => (show RS (0 : Rat) _ from RS.zero.mono (by omega))
  | k + 1 => ((psf_RS h k).add (h k)).mono (by rw [Nat.add_mul]; omega)
/-- A row that comes with nil beside it. -/
def RowNil (w : World) (qs : List Rat) (n : Nat) (e : Ending) (w' : World) : Prop := ∃ g us, e = .returned (.tuple #[.slice (some ⟨g, 0, none⟩) n n, .nilIface]) ∧ us.length = n ∧ w.heap.size ≤ g ∧ SumsAt w w' g us qs

set_option maxHeartbeats 16000000 in
set_option maxRecDepth 100000 in
set_option linter.unusedSimpArgs false in
theorem left_err (v : Value) (qs : List Rat) (J : Nat) (k : Int) (w : World) (h : LawIs w v qs) (hq : ∀ j, j < qs.length → RS qs[j]! J) (hJ : (qs.length * (J + 1) + 1 + J) + (qs.length * (J + 1) + 1 + J) + 1 ≤ KK) (hk : rnc qs = k) (hk0 : k ≠ 0) :
    Calls Tryd.prog 30 #[v] w fun e w' => e = .returned (.tuple #[.slice none 0 0, .iface 92 (.int .i64 k)]) ∧ Below w.heap.size w w' := by
  have HC := hide (rcheck_any v qs J w h hq hJ)
  obtain ⟨a, c, rfl, -⟩ := h
  rw [hk, errV_not hk0] at HC
  clear hq hJ hk hk0
  generalize qs.length = n at *
  go_enter Tryd.func30, Tryd.ntmps30
  go_wp2_with fail
  refine (unhide HC).mono ?_
  rintro e w1 ⟨rfl, hb1⟩
  go_wp2
  go_ret2
  exact ⟨rfl, hb1⟩

set_option maxHeartbeats 16000000 in
set_option maxRecDepth 100000 in
set_option linter.unusedSimpArgs false in
theorem left_ok (v : Value) (qs : List Rat) (J JJ : Nat) (w : World) (h : LawIs w v qs) (hq : ∀ j, j < qs.length → RS qs[j]! J) (hk : rnc qs = 0) (hJJ : 102 * (101 * (J + 1) + 5) + J ≤ JJ) (hJ : JJ + JJ + 1 ≤ KK) :
    Calls Tryd.prog 30 #[v] w (RowNil w (row (fun n => Rnw.sv (xq qs) n / Bth.ps (Rnw.sv (xq qs)) (gst qs)) (gst qs)) (gst qs)) := by
  obtain ⟨hA, ht, hl1, hl2⟩ := rnc_age hk
  have hg1 := hA.g1
  have m1 := Nat.mul_le_mul_right (J + 1) hl2
  have HC := hide (rcheck_any v qs J w h hq (by omega))
  rw [hk, errV_zero] at HC
  have HH := hide h
  have HQ := hide hq
  have HGR : Hid (∀ W, Below w.heap.size w W → Calls Tryd.prog 63 #[v] W fun e w' => e = .returned (.int .i64 (gst qs : Int)) ∧ Below W.heap.size W w') := fun W hW => greatest_any v qs W ((unhide HH).below hW) (by omega) (by omega)
  obtain ⟨up, hup⟩ : ∃ up, gst qs = up + 1 := ⟨gst qs - 1, by omega⟩
  have HLG : Hid (∀ W, Below w.heap.size w W → Calls Tryd.prog 62 #[v, .int .i64 (up : Int)] W (DivPost W (row (Rnw.sv (xq qs)) (gst qs)) (gst qs))) := fun W hW => longer_any v qs J JJ up (gst qs) W ((unhide HH).below hW) (unhide HQ) (by omega) (by omega) (by omega) (by omega)
  have HRS : Hid (∀ i, RS (Rnw.sv (xq qs) i) JJ) := fun i => (sv_RS hq rfl i).mono (by omega)
  have s1 := fun i => (sv_RS hq rfl i).mono (show qs.length * (J + 1) + 3 ≤ 101 * (J + 1) + 3 by omega)
  have hmm := psf_RS s1 (gst qs)
  have m2 := Nat.mul_le_mul_right (101 * (J + 1) + 3 + 1) (show gst qs ≤ 101 by omega)
  have HRM : Hid (RS (Bth.ps (Rnw.sv (xq qs)) (gst qs)) JJ) := hmm.mono (by omega)
  have hJ2 : (gst qs * (101 * (J + 1) + 3 + 1) + 1 + (101 * (J + 1) + 3)) + (gst qs * (101 * (J + 1) + 3 + 1) + 1 + (101 * (J + 1) + 3)) + 1 ≤ KK := by omega
  have HNZ : Hid ((Bth.ps (Rnw.sv (xq qs)) (gst qs)).num ≠ 0) := fun e => hA.ne hg1 (Rat.num_eq_zero.1 e)
  obtain ⟨x, hx⟩ : ∃ x, xq qs = x := ⟨_, rfl⟩
  rw [hx] at HLG HRS HRM HNZ s1 ⊢
  obtain ⟨M, hM⟩ : ∃ M, Bth.ps (Rnw.sv x) (gst qs) = M := ⟨_, rfl⟩
  rw [hM] at HRM HNZ ⊢
  obtain ⟨N, hN⟩ : ∃ N, gst qs = N := ⟨_, rfl⟩
  have HSU : Hid (∀ W u, LawIs W u (row (Rnw.sv x) N) → Calls Tryd.prog 64 #[u] W fun e w' => ∃ v, e = .returned v ∧ RatIs w' v M ∧ Below W.heap.size W w') := fun W u hu => by
    have := sumR_any u (row (Rnw.sv x) N) (101 * (J + 1) + 3) W hu (fun j hj => by rw [row_length] at hj; rw [row_get hj]; exact s1 j) (by rw [row_length, ← hN]; exact hJ2)
    rw [qsum_rowN, ← hN, hM] at this
    exact this
  rw [hN] at HGR HLG hg1 hup ⊢
  have hN1000 : N ≤ 1000 := by omega
  have jN : (N : Int) - 1 = (up : Int) := by omega
  have HJ := hide hJ
  have h' := h
  obtain ⟨a, c, rfl, -⟩ := h'
  clear h hq hk hJJ hJ hA ht hl1 hl2 m1 m2 hmm hJ2 hup s1 hx hM hN HH HQ
  generalize qs.length = n at *
  go_enter Tryd.func30, Tryd.ntmps30
  go_wp2_with fail
  refine (unhide HC).mono ?_
  rintro e w1 ⟨rfl, hb1⟩
  have HB1 := hide hb1
  clear hb1 HC
  go_wp2_with fail
  refine (unhide HGR w1 (unhide HB1)).mono ?_
  rintro e w2 ⟨rfl, hb2⟩
  have HB2 := hide (below_step (unhide HB1) hb2)
  clear hb2 HB1 HGR
  go_wp2_with fail
  refine (unhide HLG w2 (unhide HB2)).mono ?_
  rintro e w3 ⟨GO, us, rfl, hul, hgl, S⟩
  have hbl := S.bl
  have S' := S.rebase (unhide HB2)
  have HG : Hid (w.heap.size ≤ GO) := Nat.le_trans (unhide HB2).size hgl
  have LW := S'.law (by omega)
  rw [hul] at LW
  have HSU3 := hide (unhide HSU w3 _ LW)
  have HS3 := hide S'
  have HU3 := hide hul
  clear S S' LW hul hgl hbl HSU HLG HB2
  go_wp2_with fail
  refine (unhide HSU3).mono ?_
  rintro e w4 ⟨v4, rfl, hv4, hb4⟩
  obtain ⟨tm, rfl, rm⟩ := tri_of hv4
  simp only [Tri.val]
  have X4 := BoxIs.new rm
  have b4 := below_step hb4 (alloc_below w4 (.cells #[.bool tm.s, .slice tm.a1 tm.n1 tm.c1, .slice tm.a2 tm.n2 tm.c2] 31))
  have S4 := (unhide HS3).keep b4
  have hne : w4.heap.size ≠ GO := fun e => by
    have h1 := (Array.getElem?_eq_some_iff.1 ((unhide HS3).keep hb4).row).1
    omega
  obtain ⟨W4, hW4⟩ : ∃ W, w4.alloc (.cells #[.bool tm.s, .slice tm.a1 tm.n1 tm.c1, .slice tm.a2 tm.n2 tm.c2] 31) = W := ⟨_, rfl⟩
  obtain ⟨bm, hbm⟩ : ∃ b, w4.heap.size = b := ⟨_, rfl⟩
  rw [hW4] at X4 S4
  rw [hbm] at X4 hne
  have HX4 := hide X4
  have e0 : row (Rnw.sv x) N = row (lfx x M 0) N := row_congr (fun i _ => by unfold lfx; rw [if_neg (by omega)])
  rw [e0] at S4
  have HS4 := hide S4
  have HNE := hide hne
  clear hv4 rm X4 b4 S4 hne hb4 HS3 HSU3 e0
  go_wp2_with fail
  clear hW4 hbm
  go_loopw [22] (fun vi wr => ∃ (i : Nat) (us : List Tri), vi = .int .i64 (i : Int) ∧ i ≤ N ∧ us.length = N ∧ SumsAt w wr GO us (row (lfx x M i) N) ∧ BoxIs wr bm tm M) (fun vi _ => N - (intOf vi).toNat)
  case atStart => exact ⟨0, us, rfl, Nat.zero_le _, unhide HU3, unhide HS4, unhide HX4⟩
  case round =>
    obtain ⟨i, us, rfl, hi, hul, S, X⟩ := hrel
    clear HS4 HX4 HU3
    by_cases hlt : i < N
    · have j1 : (i : Int) < (N : Int) := by omega
      have j0 : (0 : Int) ≤ (i : Int) := by omega
      have hGl : GO < wr.heap.size := (Array.getElem?_eq_some_iff.1 S.row).1
      have ⟨⟨p0, p1, p2⟩, _⟩ := S.cells i (by omega)
      have ra := S.rat i (by omega)
      rw [row_get hlt] at ra
      have ea : lfx x M i i = Rnw.sv x i := by unfold lfx; rw [if_neg (Nat.lt_irrefl _)]
      rw [ea] at ra
      obtain ⟨ta, hta⟩ : ∃ t, us[i]! = t := ⟨_, rfl⟩
      rw [hta] at p0 p1 p2 ra
      have HCC : Hid (∀ W, Below wr.heap.size wr W → (fun w' : World => (w'.cell? ⟨GO, i * 3, none⟩ = some (.bool ta.s) ∧ w'.cell? ⟨GO, i * 3 + 1, none⟩ = some (.slice ta.a1 ta.n1 ta.c1) ∧ w'.cell? ⟨GO, i * 3 + 2, none⟩ = some (.slice ta.a2 ta.n2 ta.c2)) ∧ (w'.cell? ⟨bm, 0, none⟩ = some (.bool tm.s) ∧ w'.cell? ⟨bm, 1, none⟩ = some (.slice tm.a1 tm.n1 tm.c1) ∧ w'.cell? ⟨bm, 2, none⟩ = some (.slice tm.a2 tm.n2 tm.c2))) W) := fun W hW => by
        refine ⟨⟨?_, ?_, ?_⟩, X.cells W hW⟩
        · rw [hW.cell (p := ⟨GO, i * 3, none⟩) hGl]; exact p0
        · rw [hW.cell (p := ⟨GO, i * 3 + 1, none⟩) hGl]; exact p1
        · rw [hW.cell (p := ⟨GO, i * 3 + 2, none⟩) hGl]; exact p2
      have HTA := hide ra
      have HTM := hide X.2
      have HRA := hide (unhide HRS i)
      have HQV := hide (lfx_set x M hlt)
      have HS5 := hide S
      have HX5 := hide X
      have HUL := hide hul
      clear S X hul ra hta ea hGl p0 p1 p2
      go_wp2_with fail
      refine wp_region_till (fun w' : World => (w'.cell? ⟨GO, i * 3, none⟩ = some (.bool ta.s) ∧ w'.cell? ⟨GO, i * 3 + 1, none⟩ = some (.slice ta.a1 ta.n1 ta.c1) ∧ w'.cell? ⟨GO, i * 3 + 2, none⟩ = some (.slice ta.a2 ta.n2 ta.c2)) ∧ (w'.cell? ⟨bm, 0, none⟩ = some (.bool tm.s) ∧ w'.cell? ⟨bm, 1, none⟩ = some (.slice tm.a1 tm.n1 tm.c1) ∧ w'.cell? ⟨bm, 2, none⟩ = some (.slice tm.a2 tm.n2 tm.c2))) 9 (by kernel_rfl) ?_
      have bd0 : Below wr.heap.size wr wr.drew := (Below.refl _ _).drew
      obtain ⟨Wd, hWd⟩ : ∃ W, wr.drew = W := ⟨_, rfl⟩
      rw [hWd] at bd0 ⊢
      have hC0 : (fun w' : World => (w'.cell? ⟨GO, i * 3, none⟩ = some (.bool ta.s) ∧ w'.cell? ⟨GO, i * 3 + 1, none⟩ = some (.slice ta.a1 ta.n1 ta.c1) ∧ w'.cell? ⟨GO, i * 3 + 2, none⟩ = some (.slice ta.a2 ta.n2 ta.c2)) ∧ (w'.cell? ⟨bm, 0, none⟩ = some (.bool tm.s) ∧ w'.cell? ⟨bm, 1, none⟩ = some (.slice tm.a1 tm.n1 tm.c1) ∧ w'.cell? ⟨bm, 2, none⟩ = some (.slice tm.a2 tm.n2 tm.c2))) Wd := unhide HCC _ bd0
      refine wpTill_pure (i := 0) (v := ?_) rfl (by kernel_rfl) (by kernel_rfl) (by kernel_rfl) (by kernel_rfl) (fun _ _ _ h => h) (Or.inl ⟨by rfl, ?_⟩) (fun _ => hC0) ?_
      rotate_left
      · intro w hSw; clear hSw; go_simp; (try with_reducible rfl)
      (try simp only [List.getElem_toArray, List.getElem_cons_succ, List.getElem_cons_zero])
      (try simp only [Act.put, List.setIfInBounds_toArray, List.set_cons_zero, List.set_cons_succ])
      refine wpTill_pure (i := 1) (v := ?_) rfl (by kernel_rfl) (by kernel_rfl) (by kernel_rfl) (by kernel_rfl) (fun _ _ _ h => h) (Or.inl ⟨by rfl, ?_⟩) (fun _ => hC0) ?_
      rotate_left
      · intro w hSw; clear hSw; go_simp; (try with_reducible rfl)
      (try simp only [List.getElem_toArray, List.getElem_cons_succ, List.getElem_cons_zero])
      (try simp only [Act.put, List.setIfInBounds_toArray, List.set_cons_zero, List.set_cons_succ])
      refine wpTill_pure (i := 2) (v := ?_) rfl (by kernel_rfl) (by kernel_rfl) (by kernel_rfl) (by kernel_rfl) (fun _ _ _ h => h) (Or.inl ⟨by rfl, ?_⟩) (fun _ => hC0) ?_
      rotate_left
      · intro w hSw; clear hSw; go_simp; (try with_reducible rfl)
      (try simp only [List.getElem_toArray, List.getElem_cons_succ, List.getElem_cons_zero])
      (try simp only [Act.put, List.setIfInBounds_toArray, List.set_cons_zero, List.set_cons_succ])
      refine wpTill_pure (i := 3) (v := ?_) rfl (by kernel_rfl) (by kernel_rfl) (by kernel_rfl) (by kernel_rfl) (fun _ _ _ h => h) (Or.inl ⟨by rfl, ?_⟩) (fun _ => hC0) ?_
      rotate_left
      · intro w hSw; clear hSw; go_simp; (try with_reducible rfl)
      (try simp only [List.getElem_toArray, List.getElem_cons_succ, List.getElem_cons_zero])
      (try simp only [Act.put, List.setIfInBounds_toArray, List.set_cons_zero, List.set_cons_succ])
      refine wpTill_pure (i := 4) (v := ?_) rfl (by kernel_rfl) (by kernel_rfl) (by kernel_rfl) (by kernel_rfl) (fun _ _ _ h => h) (Or.inl ⟨by rfl, ?_⟩) (fun _ => hC0) ?_
      rotate_left
      · intro w hSw; clear hSw; go_simp; (try with_reducible rfl)
      (try simp only [List.getElem_toArray, List.getElem_cons_succ, List.getElem_cons_zero])
      (try simp only [Act.put, List.setIfInBounds_toArray, List.set_cons_zero, List.set_cons_succ])
      refine wpTill_take (i := 5) (v := ?_) rfl (by kernel_rfl) (by kernel_rfl) (by kernel_rfl) (by kernel_rfl) (by kernel_rfl) (by kernel_rfl) (fun _ _ _ h => h) (Or.inl ⟨by rfl, ?_⟩) hC0 ?_
      rotate_left
      · intro w hSw; (try dsimp only at hSw); obtain ⟨⟨u0, u1, u2⟩, ⟨u3, u4, u5⟩⟩ := hSw; go_simp; (try with_reducible rfl)
      (try simp only [List.getElem_toArray, List.getElem_cons_succ, List.getElem_cons_zero])
      (try simp only [Act.put, List.setIfInBounds_toArray, List.set_cons_zero, List.set_cons_succ])
      refine wpTill_take (i := 6) (v := ?_) rfl (by kernel_rfl) (by kernel_rfl) (by kernel_rfl) (by kernel_rfl) (by kernel_rfl) (by kernel_rfl) (fun _ _ _ h => h) (Or.inl ⟨by rfl, ?_⟩) hC0 ?_
      rotate_left
      · intro w hSw; (try dsimp only at hSw); obtain ⟨⟨u0, u1, u2⟩, ⟨u3, u4, u5⟩⟩ := hSw; go_simp; (try with_reducible rfl)
      (try simp only [List.getElem_toArray, List.getElem_cons_succ, List.getElem_cons_zero])
      (try simp only [Act.put, List.setIfInBounds_toArray, List.set_cons_zero, List.set_cons_succ])
      refine wpTill_one (k := 7) (by kernel_rfl) rfl (fun K hK => ?_)
      (try simp only [List.getElem_toArray, List.getElem_cons_succ, List.getElem_cons_zero])
      go_simp
      refine (rdivided_any ta.val tm.val _ _ _ ((unhide HTA).below bd0) ((unhide HTM).below bd0) JJ (unhide HRA) (unhide HRM) (unhide HJ) (unhide HNZ)).mono ?_
      rintro e xw_1 ⟨xv_1, rfl, hv_1, hb_1⟩
      have cc_1 := below_step bd0 hb_1
      have hC_1 : (fun w' : World => (w'.cell? ⟨GO, i * 3, none⟩ = some (.bool ta.s) ∧ w'.cell? ⟨GO, i * 3 + 1, none⟩ = some (.slice ta.a1 ta.n1 ta.c1) ∧ w'.cell? ⟨GO, i * 3 + 2, none⟩ = some (.slice ta.a2 ta.n2 ta.c2)) ∧ (w'.cell? ⟨bm, 0, none⟩ = some (.bool tm.s) ∧ w'.cell? ⟨bm, 1, none⟩ = some (.slice tm.a1 tm.n1 tm.c1) ∧ w'.cell? ⟨bm, 2, none⟩ = some (.slice tm.a2 tm.n2 tm.c2))) xw_1 := unhide HCC _ cc_1
      refine hK.out _ _ (fun _ => hC_1) ?_
      clear hK K
      (try simp only [Act.put, List.setIfInBounds_toArray, List.set_cons_zero, List.set_cons_succ])
      refine wpTill_pure (i := 8) (v := ?_) rfl (by kernel_rfl) (by kernel_rfl) (by kernel_rfl) (by kernel_rfl) (fun _ _ _ h => h) (Or.inl ⟨by rfl, ?_⟩) (fun _ => hC_1) ?_
      rotate_left
      · intro w hSw; clear hSw; go_simp; (try with_reducible rfl)
      (try simp only [List.getElem_toArray, List.getElem_cons_succ, List.getElem_cons_zero])
      (try simp only [Act.put, List.setIfInBounds_toArray, List.set_cons_zero, List.set_cons_succ])
      obtain ⟨t5, rfl, r5⟩ := tri_of hv_1
      simp only [Tri.val]
      have S8 := (unhide HS5).keep cc_1
      have X8 := (unhide HX5).keep cc_1
      have ⟨⟨y0, y1, y2⟩, g0, g1, g2⟩ := S8.cells i (by rw [unhide HUL]; exact hlt)
      have FZ := S8.set i (by rw [unhide HUL]; exact hlt) t5 _ r5
      have XZ := X8.rowed S8.row (unhide HNE) (i * 3) (i * 3 + 1) (i * 3 + 2) (.bool t5.s) (.slice t5.a1 t5.n1 t5.c1) (.slice t5.a2 t5.n2 t5.c2)
      obtain ⟨WA, hWA⟩ : ∃ W, ((xw_1.setCell ⟨GO, i * 3, none⟩ (.bool t5.s)).setCell ⟨GO, i * 3 + 1, none⟩ (.slice t5.a1 t5.n1 t5.c1)).setCell ⟨GO, i * 3 + 2, none⟩ (.slice t5.a2 t5.n2 t5.c2) = W := ⟨_, rfl⟩
      rw [hWA, unhide HQV] at FZ
      rw [hWA] at XZ
      have HFZ := hide FZ
      have HXZ := hide XZ
      clear S8 X8 FZ XZ r5 hv_1
      refine wpTill_one (k := 9) (by kernel_rfl) rfl (fun K hK => ?_)
      (try simp only [List.getElem_toArray, List.getElem_cons_succ, List.getElem_cons_zero])
      go_simp
      refine hK.out _ _ (fun h => absurd (h.symm.trans (by kernel_rfl)) Bool.false_ne_true) ?_
      clear hK K
      (try simp only [Act.put, List.setIfInBounds_toArray, List.set_cons_zero, List.set_cons_succ])
      refine wpTill_done (by kernel_rfl) ?_ _
      clear HCC HTA HTM HS5 HX5 HRA HQV y0 y1 y2 g0 g1 g2 hWA hC0 hC_1 cc_1 bd0 hb_1 hWd
      go_wp2_with fail
      exact ⟨⟨i + 1, _, by go_num, hlt, by rw [List.length_set]; exact unhide HUL, unhide HFZ, unhide HXZ⟩, by simp [intOf]; omega⟩
    · obtain rfl : i = N := by omega
      have j1 : ¬ (i : Int) < (i : Int) := by omega
      have e : row (lfx x M i) i = row (fun n => Rnw.sv x n / M) i := row_congr (fun j hj => by unfold lfx; rw [if_pos hj])
      rw [e] at S
      have HF := hide S
      have HU := hide hul
      clear S X hul e
      go_wp2
      go_ret2
      exact ⟨GO, us, rfl, unhide HU, unhide HG, unhide HF⟩

end Go.Proofs.YtpopcfclpemlaaaDoor
/- Renewals: Comes; what fails at 1 or 2. -/
namespace Go.Proofs.YtpopcfclpemlaaaDoor
open Go.RowKit Go.Sort Go.Shelf

theorem rtc_ok {qs : List Rat} {up : Nat} (hk : rnc qs = 0) (hu : up ≤ 100) : rtc qs (up : Int) = 0 := by
  unfold rtc
  rw [if_pos hk, if_neg (by omega)]
set_option maxHeartbeats 16000000 in
set_option maxRecDepth 100000 in
set_option linter.unusedSimpArgs false in
theorem rComes_ok (v : Value) (qs : List Rat) (J JJ up N : Nat) (w : World) (h : LawIs w v qs) (hq : ∀ j, j < qs.length → RS qs[j]! J) (hk : rnc qs = 0) (hN : up + 1 = N) (hup : up ≤ 100) (hJ1 : 1 ≤ J) (hJC : 102 * (J + 1) + J ≤ JJ) (hJJ : ubd J up + J ≤ JJ) (hJ : JJ + JJ + 1 ≤ KK) :
    Calls Tryd.prog 60 #[v, .int .i64 (up : Int)] w (RowNil w (row (Rnw.u (xq qs)) N) N) := by
  obtain ⟨hA, ht, hl1, hl2⟩ := rnc_age hk
  have m1 := Nat.mul_le_mul_right (J + 1) hl2
  have HC := hide (rtime_any v qs J (up : Int) w h hq (by omega))
  rw [rtc_ok hk hup, errV_zero] at HC
  have HCO : Hid (∀ W, Below w.heap.size w W → Calls Tryd.prog 59 #[v, .int .i64 (up : Int)] W (DivPost W (row (Rnw.u (xq qs)) N) N)) := fun W hW => comes_any v qs J JJ up N W (h.below hW) hq (by omega) (by omega) hN (by omega) hJ1 hJJ hJ
  obtain ⟨f, hf⟩ : ∃ f, Rnw.u (xq qs) = f := ⟨_, rfl⟩
  rw [hf] at HCO ⊢
  obtain ⟨a, c, rfl, -⟩ := h
  clear hq hk hJC hJJ hJ hA ht hl1 hl2 m1 hf
  generalize qs.length = nq at *
  go_enter Tryd.func60, Tryd.ntmps60
  go_wp2_with fail
  refine (unhide HC).mono ?_
  rintro e w1 ⟨rfl, hb1⟩
  have HB1 := hide hb1
  clear hb1 HC
  go_wp2_with fail
  refine (unhide HCO w1 (unhide HB1)).mono ?_
  rintro e w2 ⟨G, us, rfl, hul, hgl, S⟩
  have HS := hide (S.rebase (unhide HB1))
  have HU := hide hul
  have HG : Hid (w.heap.size ≤ G) := Nat.le_trans (unhide HB1).size hgl
  clear S hul hgl HCO
  go_wp2
  go_ret2
  exact ⟨G, us, rfl, unhide HU, unhide HG, unhide HS⟩

theorem law_three {w : World} {g : Nat} {ta tb tc : Tri} {qa qb qc : Rat} (h : w.heap[g]? = some (.cells #[.bool ta.s, .slice ta.a1 ta.n1 ta.c1, .slice ta.a2 ta.n2 ta.c2, .bool tb.s, .slice tb.a1 tb.n1 tb.c1, .slice tb.a2 tb.n2 tb.c2, .bool tc.s, .slice tc.a1 tc.n1 tc.c1, .slice tc.a2 tc.n2 tc.c2] 31)) (ra : RatIs w ta.val qa) (rb : RatIs w tb.val qb) (rc : RatIs w tc.val qc) : LawIs w (.slice (some ⟨g, 0, none⟩) 3 3) [qa, qb, qc] := by
  refine ⟨_, _, rfl, Nat.le_refl _, by decide, fun _ => ⟨g, 0, rfl, (Array.getElem?_eq_some_iff.1 h).1, fun j hj => ?_⟩⟩
  match j, hj with
  | 0, _ => exact ⟨ta.s, ta.a1, ta.a2, ta.n1, ta.c1, ta.n2, ta.c2, by simp [World.cell?, h], by simp [World.cell?, h], by simp [World.cell?, h], ra⟩
  | 1, _ => exact ⟨tb.s, tb.a1, tb.a2, tb.n1, tb.c1, tb.n2, tb.c2, by simp [World.cell?, h], by simp [World.cell?, h], by simp [World.cell?, h], rb⟩
  | 2, _ => exact ⟨tc.s, tc.a1, tc.a2, tc.n1, tc.c1, tc.n2, tc.c2, by simp [World.cell?, h], by simp [World.cell?, h], by simp [World.cell?, h], rc⟩
def lstq : List Rat := [((0 : Int) : Rat), Rat.divInt 1 2, Rat.divInt 1 2]
theorem lst_rs : ∀ j, j < lstq.length → RS lstq[j]! 1 := fun j hj => by
  have hj : j < 3 := hj
  match j, hj with
  | 0, _ => exact ⟨by decide +kernel, by decide +kernel⟩
  | 1, _ => exact ⟨by decide +kernel, by decide +kernel⟩
  | 2, _ => exact ⟨by decide +kernel, by decide +kernel⟩
theorem lst_rnc : rnc lstq = 0 := by
  have hc : chk lstq = 0 := by
    unfold chk
    have b : ¬ ∃ j, j < lstq.length ∧ (lstq[j]!).num < 0 := fun ⟨j, hj, h⟩ => by
      have hj : j < 3 := hj
      match j, hj with
      | 0, _ => exact absurd h (by decide +kernel)
      | 1, _ => exact absurd h (by decide +kernel)
      | 2, _ => exact absurd h (by decide +kernel)
    have c : qsum lstq lstq.length = 1 := by decide +kernel
    rw [if_neg (by decide), if_neg b, if_pos c]
  unfold rnc
  rw [if_pos hc, if_neg (by decide +kernel)]
theorem lst_u : Rnw.u (xq lstq) 2 = Rat.divInt 3 4 := by decide +kernel
theorem lst_text : qtext (Rat.divInt 3 4) = [51, 47, 52] := by decide +kernel
set_option maxHeartbeats 16000000 in
set_option maxRecDepth 100000 in
set_option linter.unusedSimpArgs false in
theorem lasting_any (w : World) (htab : Tab w) : Calls Tryd.prog 29 #[] w fun e w' => e = .returned (.bool true) ∧ Below w.heap.size w w' := by
  have KKe : KK = 1099511627776 := rfl
  have HTB := hide htab
  clear htab
  go_enter Tryd.func29, Tryd.ntmps29
  go_wp2_with fail
  refine (of_any 1 2 (by decide) (by decide) (by decide) (by decide) (by decide) w).mono ?_
  rintro e w1 ⟨v1, rfl, hv1, hb1⟩
  obtain ⟨th, rfl, r1⟩ := tri_of hv1
  simp only [Tri.val]
  have b1 := alloc_below w1 (.cells #[.bool th.s, .slice th.a1 th.n1 th.c1, .slice th.a2 th.n2 th.c2] 31)
  have X1 := BoxIs.new r1
  obtain ⟨W1, hW1⟩ : ∃ W, w1.alloc (.cells #[.bool th.s, .slice th.a1 th.n1 th.c1, .slice th.a2 th.n2 th.c2] 31) = W := ⟨_, rfl⟩
  obtain ⟨gh, hgh⟩ : ∃ g, w1.heap.size = g := ⟨_, rfl⟩
  rw [hW1] at b1 X1
  rw [hgh] at X1
  have HB := hide (below_step hb1 b1)
  have HXh := hide X1
  have HCC : Hid (∀ W, Below W1.heap.size W1 W → (fun w' : World => w'.cell? ⟨gh, 0, none⟩ = some (.bool th.s) ∧ w'.cell? ⟨gh, 1, none⟩ = some (.slice th.a1 th.n1 th.c1) ∧ w'.cell? ⟨gh, 2, none⟩ = some (.slice th.a2 th.n2 th.c2)) W) := fun W hW => (unhide HXh).cells W hW
  clear hv1 hb1 r1 b1 X1
  go_wp2_with fail
  clear hW1 hgh
  refine wp_region_hold (fun w' : World => w'.cell? ⟨gh, 0, none⟩ = some (.bool th.s) ∧ w'.cell? ⟨gh, 1, none⟩ = some (.slice th.a1 th.n1 th.c1) ∧ w'.cell? ⟨gh, 2, none⟩ = some (.slice th.a2 th.n2 th.c2)) (by kernel_rfl) ?_
  have bd0 : Below W1.heap.size W1 W1.drew := (Below.refl _ _).drew
  have hC0 : (fun w' : World => w'.cell? ⟨gh, 0, none⟩ = some (.bool th.s) ∧ w'.cell? ⟨gh, 1, none⟩ = some (.slice th.a1 th.n1 th.c1) ∧ w'.cell? ⟨gh, 2, none⟩ = some (.slice th.a2 th.n2 th.c2)) W1.drew := unhide HCC _ bd0
  refine wpHold_take (i := 1) (v := ?_) rfl (by kernel_rfl) (by kernel_rfl) (by kernel_rfl) (fun _ _ _ h => h) (Or.inl ⟨by rfl, ?_⟩) hC0 ?_
  rotate_left
  · intro w hSw; (try dsimp only at hSw); obtain ⟨u0, u1, u2⟩ := hSw; go_simp; (try with_reducible rfl)
  (try simp only [List.getElem_toArray, List.getElem_cons_succ, List.getElem_cons_zero])
  (try simp only [Act.put, List.setIfInBounds_toArray, List.set_cons_zero, List.set_cons_succ])
  refine wpHold_take (i := 2) (v := ?_) rfl (by kernel_rfl) (by kernel_rfl) (by kernel_rfl) (fun _ _ _ h => h) (Or.inl ⟨by rfl, ?_⟩) hC0 ?_
  rotate_left
  · intro w hSw; (try dsimp only at hSw); obtain ⟨u0, u1, u2⟩ := hSw; go_simp; (try with_reducible rfl)
  (try simp only [List.getElem_toArray, List.getElem_cons_succ, List.getElem_cons_zero])
  (try simp only [Act.put, List.setIfInBounds_toArray, List.set_cons_zero, List.set_cons_succ])
  refine wpHold_one (k := 0) (by kernel_rfl) rfl (fun K hK => ?_)
  (try simp only [List.getElem_toArray, List.getElem_cons_succ, List.getElem_cons_zero])
  go_simp
  refine (whole_any 0 (by decide) (by decide) _).mono ?_
  rintro e xw_1 ⟨xv_1, rfl, hv_1, hb_1⟩
  have cc_1 := below_step bd0 hb_1
  have hC_1 : (fun w' : World => w'.cell? ⟨gh, 0, none⟩ = some (.bool th.s) ∧ w'.cell? ⟨gh, 1, none⟩ = some (.slice th.a1 th.n1 th.c1) ∧ w'.cell? ⟨gh, 2, none⟩ = some (.slice th.a2 th.n2 th.c2)) xw_1 := unhide HCC _ cc_1
  refine hK.out _ _ hC_1 ?_
  clear hK K
  (try simp only [Act.put, List.setIfInBounds_toArray, List.set_cons_zero, List.set_cons_succ])
  obtain ⟨tz, rfl, rz⟩ := tri_of hv_1
  simp only [Tri.val]
  refine wpHold_one (k := 3) (by kernel_rfl) rfl (fun K hK => ?_)
  (try simp only [List.getElem_toArray, List.getElem_cons_succ, List.getElem_cons_zero])
  go_simp
  have bA := alloc_below xw_1 (.cells #[.bool tz.s, .slice tz.a1 tz.n1 tz.c1, .slice tz.a2 tz.n2 tz.c2, .bool th.s, .slice th.a1 th.n1 th.c1, .slice th.a2 th.n2 th.c2, .bool th.s, .slice th.a1 th.n1 th.c1, .slice th.a2 th.n2 th.c2] 31)
  have nA := heap_alloc_new xw_1 (.cells #[.bool tz.s, .slice tz.a1 tz.n1 tz.c1, .slice tz.a2 tz.n2 tz.c2, .bool th.s, .slice th.a1 th.n1 th.c1, .slice th.a2 th.n2 th.c2, .bool th.s, .slice th.a1 th.n1 th.c1, .slice th.a2 th.n2 th.c2] 31)
  have cA := below_step cc_1 bA
  have hCA : (fun w' : World => w'.cell? ⟨gh, 0, none⟩ = some (.bool th.s) ∧ w'.cell? ⟨gh, 1, none⟩ = some (.slice th.a1 th.n1 th.c1) ∧ w'.cell? ⟨gh, 2, none⟩ = some (.slice th.a2 th.n2 th.c2)) (xw_1.alloc (.cells #[.bool tz.s, .slice tz.a1 tz.n1 tz.c1, .slice tz.a2 tz.n2 tz.c2, .bool th.s, .slice th.a1 th.n1 th.c1, .slice th.a2 th.n2 th.c2, .bool th.s, .slice th.a1 th.n1 th.c1, .slice th.a2 th.n2 th.c2] 31)) := unhide HCC _ cA
  refine hK.out _ _ hCA ?_
  clear hK K
  (try simp only [Act.put, List.setIfInBounds_toArray, List.set_cons_zero, List.set_cons_succ])
  obtain ⟨WA, hWA⟩ : ∃ W, xw_1.alloc (.cells #[.bool tz.s, .slice tz.a1 tz.n1 tz.c1, .slice tz.a2 tz.n2 tz.c2, .bool th.s, .slice th.a1 th.n1 th.c1, .slice th.a2 th.n2 th.c2, .bool th.s, .slice th.a1 th.n1 th.c1, .slice th.a2 th.n2 th.c2] 31) = W := ⟨_, rfl⟩
  obtain ⟨gA, hgA⟩ : ∃ b, xw_1.heap.size = b := ⟨_, rfl⟩
  rw [hWA] at bA nA cA hCA
  rw [hgA] at nA
  (try rw [hWA])
  (try rw [hgA])
  have LA := law_three nA (rz.below bA) ((unhide HXh).2.below cA) ((unhide HXh).2.below cA)
  refine wpHold_one (k := 4) (by kernel_rfl) rfl (fun K hK => ?_)
  (try simp only [List.getElem_toArray, List.getElem_cons_succ, List.getElem_cons_zero])
  go_simp
  refine (rComes_ok (.slice (some ⟨gA, 0, none⟩) 3 3) lstq 1 1000 2 3 WA LA lst_rs lst_rnc rfl (by decide) (by decide) (by decide) (by decide) (by decide)).mono ?_
  rintro e xw_2 ⟨G, us, rfl, hul, hgl, S⟩
  have hb_2 := S.bl
  have cc_2 := below_step cA hb_2
  have hC_2 : (fun w' : World => w'.cell? ⟨gh, 0, none⟩ = some (.bool th.s) ∧ w'.cell? ⟨gh, 1, none⟩ = some (.slice th.a1 th.n1 th.c1) ∧ w'.cell? ⟨gh, 2, none⟩ = some (.slice th.a2 th.n2 th.c2)) xw_2 := unhide HCC _ cc_2
  refine hK.out _ _ hC_2 ?_
  clear hK K
  (try simp only [Act.put, List.setIfInBounds_toArray, List.set_cons_zero, List.set_cons_succ])
  refine wpHold_take (i := 5) (v := ?_) rfl (by kernel_rfl) (by kernel_rfl) (by kernel_rfl) (fun _ _ _ h => h) (Or.inl ⟨by rfl, ?_⟩) hC_2 ?_
  rotate_left
  · intro w hSw; clear hSw; go_simp; (try with_reducible rfl)
  (try simp only [List.getElem_toArray, List.getElem_cons_succ, List.getElem_cons_zero])
  (try simp only [Act.put, List.setIfInBounds_toArray, List.set_cons_zero, List.set_cons_succ])
  refine wpHold_take (i := 6) (v := ?_) rfl (by kernel_rfl) (by kernel_rfl) (by kernel_rfl) (fun _ _ _ h => h) (Or.inl ⟨by rfl, ?_⟩) hC_2 ?_
  rotate_left
  · intro w hSw; clear hSw; go_simp; (try with_reducible rfl)
  (try simp only [List.getElem_toArray, List.getElem_cons_succ, List.getElem_cons_zero])
  (try simp only [Act.put, List.setIfInBounds_toArray, List.set_cons_zero, List.set_cons_succ])
  refine wpHold_take (i := 7) (v := ?_) rfl (by kernel_rfl) (by kernel_rfl) (by kernel_rfl) (fun _ _ _ h => h) (Or.inl ⟨by rfl, ?_⟩) hC_2 ?_
  rotate_left
  · intro w hSw; clear hSw; go_simp; (try with_reducible rfl)
  (try simp only [List.getElem_toArray, List.getElem_cons_succ, List.getElem_cons_zero])
  (try simp only [Act.put, List.setIfInBounds_toArray, List.set_cons_zero, List.set_cons_succ])
  refine wpHold_take (i := 8) (v := ?_) rfl (by kernel_rfl) (by kernel_rfl) (by kernel_rfl) (fun _ _ _ h => h) (Or.inl ⟨by rfl, ?_⟩) hC_2 ?_
  rotate_left
  · intro w hSw; clear hSw; go_simp; (try with_reducible rfl)
  (try simp only [List.getElem_toArray, List.getElem_cons_succ, List.getElem_cons_zero])
  (try simp only [Act.put, List.setIfInBounds_toArray, List.set_cons_zero, List.set_cons_succ])
  refine wpHold_take (i := 9) (v := ?_) rfl (by kernel_rfl) (by kernel_rfl) (by kernel_rfl) (fun _ _ _ h => h) (Or.inl ⟨by rfl, ?_⟩) hC_2 ?_
  rotate_left
  · intro w hSw; clear hSw; go_simp; (try with_reducible rfl)
  (try simp only [List.getElem_toArray, List.getElem_cons_succ, List.getElem_cons_zero])
  (try simp only [Act.put, List.setIfInBounds_toArray, List.set_cons_zero, List.set_cons_succ])
  refine wpHold_done (by kernel_rfl) ?_ _
  have HB2 := hide (below_step (unhide HB) cc_2)
  have ⟨⟨k0, k1, k2⟩, _⟩ := S.cells 2 (by omega)
  have r := S.rat 2 (by omega)
  rw [row_get (by decide), lst_u] at r
  obtain ⟨tq, htq⟩ : ∃ t, us[2]! = t := ⟨_, rfl⟩
  rw [htq] at k0 k1 k2 r
  have j0 : xw_2.cell? ⟨G, 6, none⟩ = some (.bool tq.s) := k0
  have j1 : xw_2.cell? ⟨G, 7, none⟩ = some (.slice tq.a1 tq.n1 tq.c1) := k1
  have j2 : xw_2.cell? ⟨G, 8, none⟩ = some (.slice tq.a2 tq.n2 tq.c2) := k2
  have HTX := hide (textR_any tq.val (Rat.divInt 3 4) xw_2 r 1 ⟨by decide +kernel, by decide +kernel⟩ (by rw [KKe]; omega) (tab_below (unhide HTB) (unhide HB2)))
  rw [lst_text] at HTX
  simp only [Tri.val] at HTX
  clear S k0 k1 k2 r hul hgl hb_2 hb_1 hC_2 cc_2 cA hCA bA nA LA hWA hgA bd0 hC0 hC_1 cc_1 HCC HXh hv_1 rz htq
  go_wp2_with fail
  refine (unhide HTX).mono ?_
  rintro e w5 ⟨rfl, hb5⟩
  have HB5 := hide (below_step (unhide HB2) hb5)
  clear hb5 j0 j1 j2
  go_wp2
  go_ret
  exact ⟨rfl, unhide HB5⟩

end Go.Proofs.YtpopcfclpemlaaaDoor
