/- Renewals: Many. -/
import Derived.Test.YtpopcfclpemlaaaDoorRN6
namespace Go.Proofs.YtpopcfclpemlaaaDoor
open Go.RowKit Go.Sort Go.Shelf

/-- A row of the call's own, where another row is written. -/
theorem SumsAt.apart {w wr : World} {g g2 : Nat} {us us2 : List Tri} {qs : List Rat} {T : TypeId} (h : SumsAt w wr g us qs) (hg : wr.heap[g2]? = some (.cells (tcells us2).toArray T)) (hne : g ≠ g2) (hge : w.heap.size ≤ g2) (i0 i1 i2 : Nat) (x0 x1 x2 : Value) :
    SumsAt w (((wr.setCell ⟨g2, i0, none⟩ x0).setCell ⟨g2, i1, none⟩ x1).setCell ⟨g2, i2, none⟩ x2) g us qs :=
  ⟨by rw [Below.heap_setCell _ _ _ _ hne, Below.heap_setCell _ _ _ _ hne, Below.heap_setCell _ _ _ _ hne]; exact h.row, h.len, fun j hj => (h.rat j hj).rowed hg _ _ _ _ _ _, ((h.bl.setCell hge _).setCell hge _).setCell hge _, h.gl⟩
theorem fill_one {f : Nat → Rat} (h : f 0 = 0) (N : Nat) : fill f N 0 = fill f N 1 := by
  unfold fill
  refine List.map_congr_left fun i _ => ?_
  rw [if_neg (Nat.not_lt_zero _)]
  split
  · next h' => obtain rfl : i = 0 := by omega
               exact h.symm
  · rfl
theorem u_RS {x : Nat → Rat} {J up : Nat} (hx : ∀ j, RS (x j) J) {m : Nat} (h : m ≤ up) : RS (Rnw.u x m) (ubd J up) := (part_RS hx m 0).1.mono (ubd_mono J h)
theorem mvu_RS {x : Nat → Rat} {J up : Nat} (hx : ∀ j, RS (x j) J) : ∀ k, k ≤ up → RS (Rnw.mv x k) (k * (ubd J up + 1) + 1)
  | 0, _ => (show RS (0 : Rat) _ from RS.zero.mono (by omega))
  | k + 1, h => ((mvu_RS (up := up) hx k (by omega)).add (u_RS (up := up) hx h)).mono (by rw [Nat.add_mul]; omega)
theorem mvu_RSc {x : Nat → Rat} {J up JM : Nat} (hx : ∀ j, RS (x j) J) (hM : (up + 1) * (ubd J up + 1) + 1 + ubd J up ≤ JM) {k : Nat} (hk : k ≤ up) : RS (Rnw.mv x k) JM := by
  have := Nat.mul_le_mul_right (ubd J up + 1) (show k ≤ up + 1 by omega)
  exact (mvu_RS hx k hk).mono (by omega)
set_option maxHeartbeats 16000000 in
set_option maxRecDepth 100000 in
set_option linter.unusedSimpArgs false in
theorem rMany_err (v : Value) (qs : List Rat) (J : Nat) (up k : Int) (w : World) (h : LawIs w v qs) (hq : ∀ j, j < qs.length → RS qs[j]! J) (hJ : (qs.length * (J + 1) + 1 + J) + (qs.length * (J + 1) + 1 + J) + 1 ≤ KK) (hk : rtc qs up = k) (hk0 : k ≠ 0) :
    Calls Tryd.prog 28 #[v, .int .i64 up] w fun e w' => e = .returned (.tuple #[.slice none 0 0, .iface 92 (.int .i64 k)]) ∧ Below w.heap.size w w' := by
  have HC := hide (rtime_any v qs J up w h hq hJ)
  obtain ⟨a, c, rfl, -⟩ := h
  rw [hk, errV_not hk0] at HC
  clear hq hJ hk hk0
  generalize qs.length = n at *
  go_enter Tryd.func28, Tryd.ntmps28
  go_wp2_with fail
  refine (unhide HC).mono ?_
  rintro e w1 ⟨rfl, hb1⟩
  go_wp2
  go_ret2
  exact ⟨rfl, hb1⟩

set_option maxHeartbeats 16000000 in
set_option maxRecDepth 100000 in
set_option linter.unusedSimpArgs false in
theorem rMany_ok (v : Value) (qs : List Rat) (J JJ JM up N : Nat) (w : World) (h : LawIs w v qs) (hq : ∀ j, j < qs.length → RS qs[j]! J) (hk : rnc qs = 0) (hN : up + 1 = N) (hup : up ≤ 100) (hJ1 : 1 ≤ J) (hJC : 102 * (J + 1) + J ≤ JJ) (hJJ : ubd J up + J ≤ JJ) (hJ : JJ + JJ + 1 ≤ KK) (hJM : (up + 1) * (ubd J up + 1) + 1 + ubd J up ≤ JM) (hJM2 : JM + JM + 1 ≤ KK) :
    Calls Tryd.prog 28 #[v, .int .i64 (up : Int)] w (RowNil w (row (Rnw.mv (xq qs)) N) N) := by
  obtain ⟨hA, ht, hl1, hl2⟩ := rnc_age hk
  have m1 := Nat.mul_le_mul_right (J + 1) hl2
  have HC := hide (rtime_any v qs J (up : Int) w h hq (by omega))
  rw [rtc_ok hk hup, errV_zero] at HC
  have HCO : Hid (∀ W, Below w.heap.size w W → Calls Tryd.prog 59 #[v, .int .i64 (up : Int)] W (DivPost W (row (Rnw.u (xq qs)) N) N)) := fun W hW => comes_any v qs J JJ up N W (h.below hW) hq (by omega) (by omega) hN (by omega) hJ1 hJJ hJ
  have HXJ := xq_RS hq hJ1
  have HRU0 : Hid (∀ k, k ≤ up → RS (Rnw.u (xq qs) k) JM) := fun k hk => (u_RS HXJ hk).mono (by omega)
  have HRM0 : Hid (∀ k, k ≤ up → RS (Rnw.mv (xq qs) k) JM) := fun k hk => mvu_RSc HXJ hJM hk
  have HJ := hide hJM2
  obtain ⟨x, hx⟩ : ∃ x, xq qs = x := ⟨_, rfl⟩
  rw [hx] at HCO HRU0 HRM0 ⊢
  obtain ⟨a, c, rfl, -⟩ := h
  have qm : ∀ w : World, _ := fun w => make_ratios ((up : Int) + 1) (by omega) (by omega) w
  have HQM := hide qm
  clear qm
  have hN1 : 1 ≤ N := by omega
  have hN101 : N ≤ 101 := by omega
  have jN : (up : Int) + 1 = (N : Int) := by omega
  clear hq hk hJC hJJ hJ hA ht hl1 hl2 m1 hx HXJ hJM hJM2
  generalize qs.length = nq at *
  go_enter Tryd.func28, Tryd.ntmps28
  go_wp2_with fail
  refine (unhide HC).mono ?_
  rintro e w1 ⟨rfl, hb1⟩
  have HB1 := hide hb1
  have qm2 := unhide HQM w1
  have eN : ((up : Int) + 1).toNat = N := by omega
  rw [eN] at qm2
  have b0 := alloc_below w1 (.cells (tcells (List.replicate N zTri)).toArray 31)
  have S3 := SumsAt.start w w1 N hb1
  rw [fill_zero (Rnw.mv x), fill_one (f := Rnw.mv x) rfl] at S3
  obtain ⟨W1, hW1⟩ : ∃ W, w1.alloc (.cells (tcells (List.replicate N zTri)).toArray 31) = W := ⟨_, rfl⟩
  obtain ⟨GO, hGO⟩ : ∃ G, w1.heap.size = G := ⟨_, rfl⟩
  rw [hW1] at qm2 S3 b0
  rw [hGO] at qm2 S3
  have HS3 := hide S3
  have HB2 := hide (below_step hb1 b0)
  have hGl : GO < W1.heap.size := (Array.getElem?_eq_some_iff.1 S3.row).1
  have HGl := hide hGl
  rw [jN] at qm2
  clear hb1 HC S3 b0 HQM eN HB1 hGl
  go_wp2_with fail
  clear qm2 hW1 hGO
  refine (unhide HCO W1 (unhide HB2)).mono ?_
  rintro e w2 ⟨g2, cs, rfl, hcl, hgl, S2⟩
  have hne : g2 ≠ GO := fun e => by have := unhide HGl; omega
  have HNE := hide hne
  have HT2 := hide (S2.rebase (unhide HB2))
  have HS2 := hide ((unhide HS3).keep S2.bl)
  have HCL := hide hcl
  have HG : Hid (w.heap.size ≤ GO) := (unhide HS3).gl
  have HU0 : Hid ((List.replicate N zTri).length = N) := List.length_replicate
  clear S2 hcl hgl hne HCO HS3 HB2 HGl
  have f1 : (0 : Int) ≤ 1 := by decide
  have f2 : (1 : Int) ≤ (N : Int) := by omega
  have jup : (N : Int) - 1 = (up : Int) := by omega
  go_wp2_with fail
  · have hN1' : N = 1 := by assumption
    have hu0 : up = 0 := by omega
    go_loopw [24] (fun vi wr => vi = .int .i64 0 ∧ wr = w2) (fun _ _ => 0)
    case atStart => exact ⟨rfl, rfl⟩
    case round =>
      obtain ⟨rfl, rfl⟩ := hrel
      have HF : Hid (SumsAt w wr GO (List.replicate N zTri) (row (Rnw.mv x) N)) := by
        have := unhide HS2
        have e : fill (Rnw.mv x) N 1 = row (Rnw.mv x) N := by rw [hN1']; rfl
        rw [e] at this
        exact this
      subst hN1'
      clear HS2 HT2 HNE HCL
      go_wp2
      go_ret2
      exact ⟨GO, _, rfl, unhide HU0, unhide HG, unhide HF⟩
  · rw [show N - 1 = up by omega]
    go_loopw [24] (fun vi wr => ∃ (i : Nat) (us cs : List Tri), vi = .int .i64 (i : Int) ∧ i ≤ up ∧ us.length = N ∧ cs.length = N ∧ SumsAt w wr GO us (fill (Rnw.mv x) N (i + 1)) ∧ SumsAt w wr g2 cs (row (Rnw.u x) N)) (fun vi _ => up - (intOf vi).toNat)
    case atStart => exact ⟨0, _, cs, rfl, Nat.zero_le _, unhide HU0, unhide HCL, unhide HS2, unhide HT2⟩
    case round =>
      obtain ⟨i, us, cs, rfl, hi, hul, hcl, S, T⟩ := hrel
      clear HS2 HT2 HU0 HCL
      by_cases hlt : i < up
      · have j1 : (i : Int) < (up : Int) := by omega
        have j0 : (0 : Int) ≤ (i : Int) := by omega
        obtain ⟨k, hk⟩ : ∃ k, i + 1 = k := ⟨_, rfl⟩
        have jk : (i : Int) + 1 = (k : Int) := by omega
        have j2 : (i : Int) < (N : Int) := by omega
        have j3 : (k : Int) < (N : Int) := by omega
        have j4 : (0 : Int) ≤ (k : Int) := by omega
        have jw : IntKind.i64.wrap (k : Int) = (k : Int) := by rw [IntKind.wrap_i64]; omega
        have HKN : Hid (k < N) := show _ < _ by omega
        have HK := hide hk
        have ⟨⟨p0, p1, p2⟩, _⟩ := S.cells i (by omega)
        have ra := S.rat i (by omega)
        rw [fill_get (by omega) (by omega)] at ra
        obtain ⟨ta, hta⟩ : ∃ t, us[i]! = t := ⟨_, rfl⟩
        rw [hta] at p0 p1 p2 ra
        have ⟨⟨q0, q1, q2⟩, _⟩ := T.cells k (by omega)
        have ru := T.rat k (by omega)
        rw [row_get (by omega)] at ru
        obtain ⟨tu, htu⟩ : ∃ t, cs[k]! = t := ⟨_, rfl⟩
        rw [htu] at q0 q1 q2 ru
        have ek : k * 3 = 3 + i * 3 := by omega
        rw [ek] at q0 q1 q2
        have hGl : GO < wr.heap.size := (Array.getElem?_eq_some_iff.1 S.row).1
        have b9_ := alloc_below wr (.cells #[.bool tu.s, .slice tu.a1 tu.n1 tu.c1, .slice tu.a2 tu.n2 tu.c2] 31)
        have X9 := BoxIs.new ru
        obtain ⟨W9, hW9⟩ : ∃ W, wr.alloc (.cells #[.bool tu.s, .slice tu.a1 tu.n1 tu.c1, .slice tu.a2 tu.n2 tu.c2] 31) = W := ⟨_, rfl⟩
        obtain ⟨b9, hb9⟩ : ∃ b, wr.heap.size = b := ⟨_, rfl⟩
        rw [hW9] at b9_ X9
        rw [hb9] at X9
        have HCC : Hid (∀ W, Below W9.heap.size W9 W → (fun w' : World => (w'.cell? ⟨GO, i * 3, none⟩ = some (.bool ta.s) ∧ w'.cell? ⟨GO, i * 3 + 1, none⟩ = some (.slice ta.a1 ta.n1 ta.c1) ∧ w'.cell? ⟨GO, i * 3 + 2, none⟩ = some (.slice ta.a2 ta.n2 ta.c2)) ∧ (w'.cell? ⟨b9, 0, none⟩ = some (.bool tu.s) ∧ w'.cell? ⟨b9, 1, none⟩ = some (.slice tu.a1 tu.n1 tu.c1) ∧ w'.cell? ⟨b9, 2, none⟩ = some (.slice tu.a2 tu.n2 tu.c2))) W) := fun W hW => by
          have h2 := below_step b9_ hW
          refine ⟨⟨?_, ?_, ?_⟩, X9.cells W hW⟩
          · rw [h2.cell (p := ⟨GO, i * 3, none⟩) hGl]; exact p0
          · rw [h2.cell (p := ⟨GO, i * 3 + 1, none⟩) hGl]; exact p1
          · rw [h2.cell (p := ⟨GO, i * 3 + 2, none⟩) hGl]; exact p2
        have HTA := hide (ra.below b9_)
        have HTU := hide X9.2
        have HRA := hide (unhide HRM0 i (by omega))
        have HRU := hide (unhide HRU0 k (by omega))
        have HQV : Hid (Rnw.mv x i + Rnw.u x k = Rnw.mv x k) := by show _ = _; rw [← hk]; rfl
        have e1 : fill (Rnw.mv x) N (i + 1) = fill (Rnw.mv x) N k := by rw [hk]
        rw [e1] at S
        have HS5 := hide (S.keep b9_)
        have HT5 := hide (T.keep b9_)
        have HUL := hide hul
        have HCL := hide hcl
        clear S T hul hcl ra ru hta htu b9_ X9 hGl p0 p1 p2 ek hk e1
        go_wp2_with fail
        clear hW9 hb9 q0 q1 q2
        refine wp_region_till (fun w' : World => (w'.cell? ⟨GO, i * 3, none⟩ = some (.bool ta.s) ∧ w'.cell? ⟨GO, i * 3 + 1, none⟩ = some (.slice ta.a1 ta.n1 ta.c1) ∧ w'.cell? ⟨GO, i * 3 + 2, none⟩ = some (.slice ta.a2 ta.n2 ta.c2)) ∧ (w'.cell? ⟨b9, 0, none⟩ = some (.bool tu.s) ∧ w'.cell? ⟨b9, 1, none⟩ = some (.slice tu.a1 tu.n1 tu.c1) ∧ w'.cell? ⟨b9, 2, none⟩ = some (.slice tu.a2 tu.n2 tu.c2))) 10 (by kernel_rfl) ?_
        have bd0 : Below W9.heap.size W9 W9.drew := (Below.refl _ _).drew
        obtain ⟨Wd, hWd⟩ : ∃ W, W9.drew = W := ⟨_, rfl⟩
        rw [hWd] at bd0 ⊢
        have hC0 : (fun w' : World => (w'.cell? ⟨GO, i * 3, none⟩ = some (.bool ta.s) ∧ w'.cell? ⟨GO, i * 3 + 1, none⟩ = some (.slice ta.a1 ta.n1 ta.c1) ∧ w'.cell? ⟨GO, i * 3 + 2, none⟩ = some (.slice ta.a2 ta.n2 ta.c2)) ∧ (w'.cell? ⟨b9, 0, none⟩ = some (.bool tu.s) ∧ w'.cell? ⟨b9, 1, none⟩ = some (.slice tu.a1 tu.n1 tu.c1) ∧ w'.cell? ⟨b9, 2, none⟩ = some (.slice tu.a2 tu.n2 tu.c2))) Wd := unhide HCC _ bd0
        refine wpTill_pure (i := 0) (v := ?_) rfl (by kernel_rfl) (by kernel_rfl) (by kernel_rfl) (by kernel_rfl) (fun _ _ _ h => h) (Or.inl ⟨by rfl, ?_⟩) (fun _ => hC0) ?_
        rotate_left
        · intro w hSw; clear hSw; go_simp; (try with_reducible rfl)
        (try simp only [List.getElem_toArray, List.getElem_cons_succ, List.getElem_cons_zero])
        (try simp only [Act.put, List.setIfInBounds_toArray, List.set_cons_zero, List.set_cons_succ])
        refine wpTill_pure (i := 1) (v := ?_) rfl (by kernel_rfl) (by kernel_rfl) (by kernel_rfl) (by kernel_rfl) (fun _ _ _ h => h) (Or.inl ⟨by rfl, ?_⟩) (fun _ => hC0) ?_
        rotate_left
        · intro w hSw; clear hSw; go_simp; (try with_reducible rfl)
        (try simp only [List.getElem_toArray, List.getElem_cons_succ, List.getElem_cons_zero])
        (try simp only [Act.put, List.setIfInBounds_toArray, List.set_cons_zero, List.set_cons_succ])
        refine wpTill_pure (i := 2) (v := ?_) rfl (by kernel_rfl) (by kernel_rfl) (by kernel_rfl) (by kernel_rfl) (fun _ _ _ h => h) (Or.inl ⟨by rfl, ?_⟩) (fun _ => hC0) ?_
        rotate_left
        · intro w hSw; clear hSw; go_simp; (try with_reducible rfl)
        (try simp only [List.getElem_toArray, List.getElem_cons_succ, List.getElem_cons_zero])
        (try simp only [Act.put, List.setIfInBounds_toArray, List.set_cons_zero, List.set_cons_succ])
        refine wpTill_pure (i := 3) (v := ?_) rfl (by kernel_rfl) (by kernel_rfl) (by kernel_rfl) (by kernel_rfl) (fun _ _ _ h => h) (Or.inl ⟨by rfl, ?_⟩) (fun _ => hC0) ?_
        rotate_left
        · intro w hSw; clear hSw; go_simp; (try with_reducible rfl)
        (try simp only [List.getElem_toArray, List.getElem_cons_succ, List.getElem_cons_zero])
        (try simp only [Act.put, List.setIfInBounds_toArray, List.set_cons_zero, List.set_cons_succ])
        refine wpTill_pure (i := 4) (v := ?_) rfl (by kernel_rfl) (by kernel_rfl) (by kernel_rfl) (by kernel_rfl) (fun _ _ _ h => h) (Or.inl ⟨by rfl, ?_⟩) (fun _ => hC0) ?_
        rotate_left
        · intro w hSw; clear hSw; go_simp; (try with_reducible rfl)
        (try simp only [List.getElem_toArray, List.getElem_cons_succ, List.getElem_cons_zero])
        (try simp only [Act.put, List.setIfInBounds_toArray, List.set_cons_zero, List.set_cons_succ])
        refine wpTill_pure (i := 5) (v := ?_) rfl (by kernel_rfl) (by kernel_rfl) (by kernel_rfl) (by kernel_rfl) (fun _ _ _ h => h) (Or.inl ⟨by rfl, ?_⟩) (fun _ => hC0) ?_
        rotate_left
        · intro w hSw; clear hSw; go_simp; (try with_reducible rfl)
        (try simp only [List.getElem_toArray, List.getElem_cons_succ, List.getElem_cons_zero])
        (try simp only [Act.put, List.setIfInBounds_toArray, List.set_cons_zero, List.set_cons_succ])
        refine wpTill_take (i := 6) (v := ?_) rfl (by kernel_rfl) (by kernel_rfl) (by kernel_rfl) (by kernel_rfl) (by kernel_rfl) (by kernel_rfl) (fun _ _ _ h => h) (Or.inl ⟨by rfl, ?_⟩) hC0 ?_
        rotate_left
        · intro w hSw; (try dsimp only at hSw); obtain ⟨⟨u0, u1, u2⟩, ⟨u3, u4, u5⟩⟩ := hSw; go_simp; (try with_reducible rfl)
        (try simp only [List.getElem_toArray, List.getElem_cons_succ, List.getElem_cons_zero])
        (try simp only [Act.put, List.setIfInBounds_toArray, List.set_cons_zero, List.set_cons_succ])
        refine wpTill_take (i := 7) (v := ?_) rfl (by kernel_rfl) (by kernel_rfl) (by kernel_rfl) (by kernel_rfl) (by kernel_rfl) (by kernel_rfl) (fun _ _ _ h => h) (Or.inl ⟨by rfl, ?_⟩) hC0 ?_
        rotate_left
        · intro w hSw; (try dsimp only at hSw); obtain ⟨⟨u0, u1, u2⟩, ⟨u3, u4, u5⟩⟩ := hSw; go_simp; (try with_reducible rfl)
        (try simp only [List.getElem_toArray, List.getElem_cons_succ, List.getElem_cons_zero])
        (try simp only [Act.put, List.setIfInBounds_toArray, List.set_cons_zero, List.set_cons_succ])
        refine wpTill_one (k := 8) (by kernel_rfl) rfl (fun K hK => ?_)
        (try simp only [List.getElem_toArray, List.getElem_cons_succ, List.getElem_cons_zero])
        go_simp
        refine (addR_any ta.val tu.val _ _ _ ((unhide HTA).below bd0) ((unhide HTU).below bd0) JM (unhide HRA) (unhide HRU) (unhide HJ)).mono ?_
        rintro e xw_1 ⟨xv_1, rfl, hv_1, hb_1⟩
        have cc_1 := below_step bd0 hb_1
        have hC_1 : (fun w' : World => (w'.cell? ⟨GO, i * 3, none⟩ = some (.bool ta.s) ∧ w'.cell? ⟨GO, i * 3 + 1, none⟩ = some (.slice ta.a1 ta.n1 ta.c1) ∧ w'.cell? ⟨GO, i * 3 + 2, none⟩ = some (.slice ta.a2 ta.n2 ta.c2)) ∧ (w'.cell? ⟨b9, 0, none⟩ = some (.bool tu.s) ∧ w'.cell? ⟨b9, 1, none⟩ = some (.slice tu.a1 tu.n1 tu.c1) ∧ w'.cell? ⟨b9, 2, none⟩ = some (.slice tu.a2 tu.n2 tu.c2))) xw_1 := unhide HCC _ cc_1
        refine hK.out _ _ (fun _ => hC_1) ?_
        clear hK K
        (try simp only [Act.put, List.setIfInBounds_toArray, List.set_cons_zero, List.set_cons_succ])
        refine wpTill_pure (i := 9) (v := ?_) rfl (by kernel_rfl) (by kernel_rfl) (by kernel_rfl) (by kernel_rfl) (fun _ _ _ h => h) (Or.inl ⟨by rfl, ?_⟩) (fun _ => hC_1) ?_
        rotate_left
        · intro w hSw; clear hSw; go_simp; (try with_reducible rfl)
        (try simp only [List.getElem_toArray, List.getElem_cons_succ, List.getElem_cons_zero])
        (try simp only [Act.put, List.setIfInBounds_toArray, List.set_cons_zero, List.set_cons_succ])
        obtain ⟨t5, rfl, r5⟩ := tri_of hv_1
        simp only [Tri.val]
        have S8 := (unhide HS5).keep cc_1
        have T8 := (unhide HT5).keep cc_1
        have ⟨⟨y0, y1, y2⟩, g0, g1, g2⟩ := S8.cells k (by rw [unhide HUL]; exact unhide HKN)
        have FZ := S8.set k (by rw [unhide HUL]; exact unhide HKN) t5 _ r5
        have TZ := T8.apart S8.row (unhide HNE) S8.gl (k * 3) (k * 3 + 1) (k * 3 + 2) (.bool t5.s) (.slice t5.a1 t5.n1 t5.c1) (.slice t5.a2 t5.n2 t5.c2)
        obtain ⟨WA, hWA⟩ : ∃ W, ((xw_1.setCell ⟨GO, k * 3, none⟩ (.bool t5.s)).setCell ⟨GO, k * 3 + 1, none⟩ (.slice t5.a1 t5.n1 t5.c1)).setCell ⟨GO, k * 3 + 2, none⟩ (.slice t5.a2 t5.n2 t5.c2) = W := ⟨_, rfl⟩
        rw [hWA, unhide HQV, fill_set] at FZ
        rw [hWA] at TZ
        have HFZ := hide FZ
        have HTZ := hide TZ
        clear S8 T8 FZ TZ r5 hv_1
        refine wpTill_one (k := 10) (by kernel_rfl) rfl (fun K hK => ?_)
        (try simp only [List.getElem_toArray, List.getElem_cons_succ, List.getElem_cons_zero])
        go_simp
        refine hK.out _ _ (fun h => absurd (h.symm.trans (by kernel_rfl)) Bool.false_ne_true) ?_
        clear hK K
        (try simp only [Act.put, List.setIfInBounds_toArray, List.set_cons_zero, List.set_cons_succ])
        refine wpTill_done (by kernel_rfl) ?_ _
        clear HCC HTA HTU HS5 HT5 HRA HRU HQV y0 y1 y2 g0 g1 g2 hWA hC0 hC_1 cc_1 bd0 hb_1 hWd
        go_wp2_with fail
        exact ⟨⟨k, _, cs, rfl, by have := unhide HK; omega, by rw [List.length_set]; exact unhide HUL, unhide HCL, unhide HFZ, unhide HTZ⟩, by have := unhide HK; simp [intOf]; omega⟩
      · obtain rfl : i = up := by omega
        have j1 : ¬ (i : Int) < (i : Int) := by omega
        have e : fill (Rnw.mv x) N (i + 1) = row (Rnw.mv x) N := by rw [hN]; rfl
        rw [e] at S
        have HF := hide S
        have HU := hide hul
        clear S T hul hcl e
        go_wp2
        go_ret2
        exact ⟨GO, us, rfl, unhide HU, unhide HG, unhide HF⟩

end Go.Proofs.YtpopcfclpemlaaaDoor
