/- Renewals, beside the checker's numbers: Comes, Many. -/
import Derived.Test.YtcelbgleajpenaaGreatDoorRZ4z
namespace Go.Proofs.YtcelbgleajpenaaGreatDoor
open Go.RowKit Go.Sort Go.Shelf


/-- A row while one number of it is added up. -/
def rvx (x : Nat → Rat) (n m i : Nat) : Rat := if i < n then Rnw.u x i else if i = n then Bth.ps (fun p => Rnw.u x p * x (n - p)) m else 0
theorem rvx_next (x : Nat → Rat) {n : Nat} (N : Nat) (h : 1 ≤ n) : row (rvx x n n) N = row (rvx x (n + 1) 0) N := row_congr (fun i _ => by
  unfold rvx
  by_cases h1 : i < n
  · rw [if_pos h1, if_pos (by omega)]
  · rw [if_neg h1]
    by_cases h2 : i = n
    · subst h2
      rw [if_pos rfl, if_pos (by omega)]
      obtain ⟨k, rfl⟩ : ∃ k, i = k + 1 := ⟨i - 1, by omega⟩
      exact (Rnw.u_step x k).symm
    · rw [if_neg h2, if_neg (by omega)]
      split
      · rfl
      · rfl)
theorem rvx_skip (x : Nat → Rat) {n m s : Nat} (h : ∀ j, s ≤ j → x j = 0) (hm : m + s ≤ n + 1 ∨ m = 0) (N : Nat) : row (rvx x n 0) N = row (rvx x n m) N := row_congr (fun i _ => by
  unfold rvx
  have e : Bth.ps (fun p => Rnw.u x p * x (n - p)) m = Bth.ps (fun p => Rnw.u x p * x (n - p)) 0 := Rnw.ps_cut _ 0 m (Nat.zero_le _) (fun j _ hj => by
    show Rnw.u x j * x (n - j) = 0
    rw [h (n - j) (by omega)]; grind)
  rw [e])
theorem rvx_set (x : Nat → Rat) {n m N : Nat} (hn : n < N) : (row (rvx x n m) N).set n (rvx x n m n + Rnw.u x m * x (n - m)) = row (rvx x n (m + 1)) N := row_setq hn (by
  unfold rvx
  rw [if_neg (Nat.lt_irrefl _), if_pos rfl, if_neg (Nat.lt_irrefl _), if_pos rfl]; rfl) (fun i _ hi => by
  unfold rvx
  rw [if_neg hi, if_neg hi])
/-- How great the numbers may be. -/
def ubd (J : Nat) : Nat → Nat
  | 0 => 1
  | n + 1 => 2 * ubd J n + J + 2
theorem ubd_mono (J : Nat) : ∀ {m n : Nat}, m ≤ n → ubd J m ≤ ubd J n
  | m, 0, h => by obtain rfl : m = 0 := by omega
                  exact Nat.le_refl _
  | m, n + 1, h => by
    rcases Nat.lt_or_ge n m with a | a
    · obtain rfl : m = n + 1 := by omega
      exact Nat.le_refl _
    · have := ubd_mono J a
      show _ ≤ 2 * ubd J n + J + 2
      omega
theorem part_RS {x : Nat → Rat} {J : Nat} (hx : ∀ j, RS (x j) J) : ∀ (m n : Nat), RS (Rnw.u x m) (ubd J m) ∧ RS (Bth.ps (fun p => Rnw.u x p * x (n - p)) m) (ubd J m)
  | 0, n => ⟨one_RS', RS.zero⟩
  | m + 1, n => by
    have st : ∀ n, RS (Bth.ps (fun p => Rnw.u x p * x (n - p)) (m + 1)) (ubd J (m + 1)) := fun n => by
      obtain ⟨a, b⟩ := part_RS hx m n
      have c := b.add (a.mul (hx (n - m)))
      exact c.mono (by show _ ≤ 2 * ubd J m + J + 2; omega)
    refine ⟨?_, st n⟩
    rw [Rnw.u_step]
    exact st (m + 1)
theorem rvx_RS {x : Nat → Rat} {J M : Nat} (hx : ∀ j, RS (x j) J) {n m : Nat} (hm : m ≤ M) (hn : n ≤ M) (i : Nat) : RS (rvx x n m i) (ubd J M) := by
  unfold rvx
  split
  · rename_i h
    exact (part_RS hx i 0).1.mono (ubd_mono J (by omega))
  · split
    · exact (part_RS hx m n).2.mono (ubd_mono J hm)
    · exact RS.zero.mono (ubd_mono J (Nat.zero_le M))
/-- A row's number, and 0 behind its end, is small. -/
theorem xq_RS {qs : List Rat} {J : Nat} (h : ∀ j, j < qs.length → RS qs[j]! J) (h1 : 1 ≤ J) (j : Nat) : RS (xq qs j) J := by
  rcases Nat.lt_or_ge j qs.length with a | a
  · exact h j a
  · rw [xq_out a]; exact RS.zero.mono h1

set_option maxHeartbeats 16000000 in
set_option maxRecDepth 100000 in
set_option linter.unusedSimpArgs false in
theorem comes_any (v : Value) (qs : List Rat) (J JJ up N : Nat) (w : World) (h : LawIs w v qs) (hq : ∀ j, j < qs.length → RS qs[j]! J) (hp : 0 < qs.length) (hl : qs.length ≤ 1000) (hN : up + 1 = N) (hup : up ≤ 1000) (hJ1 : 1 ≤ J) (hJJ : ubd J up + J ≤ JJ) (hJ : JJ + JJ + 1 ≤ KK) :
    Calls Tryz.prog 71 #[v, .int .i64 (up : Int)] w (DivPostz w (row (Rnw.u (xq qs)) N) N) := by
  have HJ := hide hJ
  have h' := h
  obtain ⟨a, c, rfl, -⟩ := h'
  obtain ⟨-, hc1, hc2, h3⟩ := h.parts
  obtain ⟨b, o, rfl, hblt, hcs⟩ := h3 hp
  have HLb := hide hblt
  have HXJ := hide (xq_RS hq hJ1)
  have HOUT : Hid (∀ j, qs.length ≤ j → xq qs j = 0) := fun j hj => xq_out hj
  obtain ⟨n, hn⟩ : ∃ n, qs.length = n := ⟨_, rfl⟩
  rw [hn] at hc1 hcs hp hl HOUT ⊢
  have H3 := hide hcs
  obtain ⟨x, hx⟩ : ∃ x, xq qs = x := ⟨_, rfl⟩
  rw [hx] at HXJ H3 HOUT ⊢
  obtain ⟨ln, hln⟩ : ∃ k, n = k := ⟨_, rfl⟩
  rw [hln] at hc1 H3 HOUT hp hl ⊢
  have HRV : Hid (∀ n m i, n ≤ up → m ≤ up → RS (rvx x n m i) JJ) := fun n m i h1 h2 => (rvx_RS (unhide HXJ) h2 h1 i).mono (by omega)
  have HRX : Hid (∀ j, RS (x j) JJ) := fun j => (unhide HXJ j).mono (by omega)
  have HRU : Hid (∀ m n, m + 1 ≤ up → RS (Rnw.u x m * x (n - m)) JJ) := fun m n h1 => (((part_RS (unhide HXJ) m 0).1.mono (ubd_mono J (show m ≤ up by omega))).mul (unhide HXJ (n - m))).mono (by omega)
  have HRU0 : Hid (∀ m, m ≤ up → RS (Rnw.u x m) JJ) := fun m h1 => ((part_RS (unhide HXJ) m 0).1.mono (ubd_mono J h1)).mono (by omega)
  have qm2 := make_ratios ((up : Int) + 1) (by omega) (by omega) w
  have eN : ((up : Int) + 1).toNat = N := by omega
  rw [eN] at qm2
  have b0 := alloc_below w (.cells (tcells (List.replicate N zTri)).toArray 37)
  have S3 := SumsAt.start w w N (Below.refl _ _)
  rw [fill_zero (fun _ => 0)] at S3
  obtain ⟨W1, hW1⟩ : ∃ W, w.alloc (.cells (tcells (List.replicate N zTri)).toArray 37) = W := ⟨_, rfl⟩
  obtain ⟨GO, hGO⟩ : ∃ G, w.heap.size = G := ⟨_, rfl⟩
  rw [hW1] at qm2 S3 b0
  rw [hGO] at qm2
  have S3' : SumsAt w W1 GO (List.replicate N zTri) (fill (fun _ => 0) N 0) := by rw [← hGO]; exact S3
  have HS3 := hide S3'
  have HGO : Hid (w.heap.size ≤ GO) := by show _ ≤ GO; rw [← hGO]; exact Nat.le_refl _
  have HN1 : 1 ≤ N := by omega
  have hN1000 : N ≤ 1001 := by omega
  have HNU := hide hN
  clear h hq hJJ hJ hx S3 S3' h3 b0 eN hcs hblt hn hln HXJ
  go_enter Tryz.func71, Tryz.ntmps71
  go_wp2_with fail
  clear qm2 hW1 hGO
  refine (whole_any 1 (by decide) (by decide) W1).mono ?_
  rintro e w2 ⟨v2, rfl, hv2, hb2⟩
  obtain ⟨t2, rfl, r2⟩ := tri_of hv2
  simp only [Tri.val]
  have S2 := (unhide HS3).keep hb2
  have ⟨⟨y0, y1, y2⟩, g0, g1, g2⟩ := S2.cells 0 (by rw [List.length_replicate]; exact HN1)
  have FZ := S2.set 0 (by rw [List.length_replicate]; exact HN1) t2 _ r2
  rw [Nat.zero_mul, Nat.zero_add, Nat.zero_add] at FZ
  rw [Nat.zero_mul] at y0 y1 y2 g0 g1 g2
  rw [Nat.zero_add] at y1 y2 g1 g2
  obtain ⟨W2, hW2⟩ : ∃ W, ((w2.setCell ⟨GO, 0, none⟩ (.bool t2.s)).setCell ⟨GO, 1, none⟩ (.slice t2.a1 t2.n1 t2.c1)).setCell ⟨GO, 2, none⟩ (.slice t2.a2 t2.n2 t2.c2) = W := ⟨_, rfl⟩
  have e1 : (fill (fun _ => 0) N 0).set 0 ((1 : Int) : Rat) = row (rvx x 1 0) N := row_eq (by rw [List.length_set, fill_length]) (fun i hi => by
    rw [List.getElem!_eq_getElem?_getD, List.getElem?_set]
    by_cases e : 0 = i
    · subst e
      rw [if_pos rfl, if_pos (by rw [fill_length]; exact hi)]
      show ((1 : Int) : Rat) = rvx x 1 0 0
      unfold rvx
      rw [if_pos (by decide)]; rfl
    · rw [if_neg e, ← List.getElem!_eq_getElem?_getD, fill_none (Nat.zero_le _) hi]
      unfold rvx
      rw [if_neg (by omega)]
      split
      · rfl
      · rfl)
  rw [hW2, e1] at FZ
  have HFZ := hide FZ
  have hul2 : ((List.replicate N zTri).set 0 t2).length = N := by rw [List.length_set, List.length_replicate]
  obtain ⟨us2, hus2⟩ : ∃ us, (List.replicate N zTri).set 0 t2 = us := ⟨_, rfl⟩
  rw [hus2] at HFZ hul2
  have HU2 := hide hul2
  clear hv2 r2 S2 FZ hb2 HS3 e1 hul2 hus2
  go_wp2_with fail
  clear hW2 y0 y1 y2 g0 g1 g2
  go_loopw [6] (fun vn wr => ∃ (n : Nat) (us : List Tri), vn = .int .i64 (n : Int) ∧ 1 ≤ n ∧ n ≤ N ∧ us.length = N ∧ SumsAt w wr GO us (row (rvx x n 0) N)) (fun vn _ => N - (intOf vn).toNat)
  case atStart => exact ⟨1, us2, rfl, Nat.le_refl _, HN1, unhide HU2, unhide HFZ⟩
  case round =>
    obtain ⟨n, us, rfl, hn1, hn, hul, S⟩ := hrel
    clear HFZ HU2
    by_cases hlt : n < N
    · have j1 : (n : Int) ≤ (up : Int) := by omega
      have hn1000 : n ≤ 1001 := by omega
      obtain ⟨m0, hm0⟩ : ∃ m0 : Nat, max 0 ((n : Int) - (ln : Int) + 1) = (m0 : Int) := ⟨(max 0 ((n : Int) - (ln : Int) + 1)).toNat, by omega⟩
      have hm1 : m0 + ln ≤ n + 1 ∨ m0 = 0 := by omega
      have hm2 : n + 1 ≤ m0 + ln := by omega
      have hmn : m0 ≤ n := by omega
      rw [rvx_skip x (unhide HOUT) hm1 N] at S
      have HS := hide S
      have HUL := hide hul
      have HMN := hide hmn
      have HM2 := hide hm2
      have HNN := hide hlt
      clear S hul hm1 hmn hm2
      go_wp2_with fail
      clear hm0
      obtain ⟨V, hV⟩ : ∃ V, wr = V := ⟨_, rfl⟩
      clear hV
      go_loopw [7] (fun vm wv => ∃ (m : Nat) (us : List Tri), vm = .int .i64 (m : Int) ∧ m0 ≤ m ∧ m ≤ n ∧ us.length = N ∧ SumsAt w wv GO us (row (rvx x n m) N)) (fun vm _ => n - (intOf vm).toNat)
      case atStart => exact ⟨m0, us, rfl, Nat.le_refl _, unhide HMN, unhide HUL, unhide HS⟩
      case round =>
        obtain ⟨m, ws, rfl, hm0, hm, hwl, S4⟩ := hrel
        clear HS HUL HMN
        by_cases hlm : m < n
        · have f1 : (m : Int) < (n : Int) := by omega
          have f0 : (0 : Int) ≤ (m : Int) := by omega
          have f2 : (m : Int) < (N : Int) := by omega
          have f3 : (n : Int) < (N : Int) := by omega
          have f4 : (0 : Int) ≤ (n : Int) := by omega
          obtain ⟨d, hd⟩ : ∃ d : Nat, n - m = d := ⟨_, rfl⟩
          have jd : (n : Int) - (m : Int) = (d : Int) := by omega
          have HDL : Hid (d < ln) := show _ < _ by have := unhide HM2; omega
          have j3 : (d : Int) < (ln : Int) := by have := unhide HDL; omega
          have j2 : (0 : Int) ≤ (d : Int) := by omega
          have jw : IntKind.i64.wrap (d : Int) = (d : Int) := by rw [IntKind.wrap_i64]; omega
          obtain ⟨tl, k0, k1, k2, ra⟩ := unhide H3 d (unhide HDL)
          have ⟨⟨p0, p1, p2⟩, _⟩ := S4.cells n (by omega)
          have ⟨⟨q0, q1, q2⟩, _⟩ := S4.cells m (by omega)
          have rn := S4.rat n (by omega)
          have rm := S4.rat m (by omega)
          rw [row_get hlt] at rn
          rw [row_get (by omega : m < N)] at rm
          obtain ⟨tn, htn⟩ : ∃ t, ws[n]! = t := ⟨_, rfl⟩
          obtain ⟨tm, htm⟩ : ∃ t, ws[m]! = t := ⟨_, rfl⟩
          rw [htn] at p0 p1 p2 rn
          rw [htm] at q0 q1 q2 rm
          have em : rvx x n m m = Rnw.u x m := by unfold rvx; rw [if_pos hlm]
          rw [em] at rm
          have hGl : GO < wr.heap.size := (Array.getElem?_eq_some_iff.1 S4.row).1
          have HCC : Hid (∀ W, Below wr.heap.size wr W → (fun w' : World => (w'.cell? ⟨GO, n * 3, none⟩ = some (.bool tn.s) ∧ w'.cell? ⟨GO, n * 3 + 1, none⟩ = some (.slice tn.a1 tn.n1 tn.c1) ∧ w'.cell? ⟨GO, n * 3 + 2, none⟩ = some (.slice tn.a2 tn.n2 tn.c2)) ∧ (w'.cell? ⟨GO, m * 3, none⟩ = some (.bool tm.s) ∧ w'.cell? ⟨GO, m * 3 + 1, none⟩ = some (.slice tm.a1 tm.n1 tm.c1) ∧ w'.cell? ⟨GO, m * 3 + 2, none⟩ = some (.slice tm.a2 tm.n2 tm.c2)) ∧ (w'.cell? ⟨b, o + d * 3, none⟩ = some (.bool tl.s) ∧ w'.cell? ⟨b, o + d * 3 + 1, none⟩ = some (.slice tl.a1 tl.n1 tl.c1) ∧ w'.cell? ⟨b, o + d * 3 + 2, none⟩ = some (.slice tl.a2 tl.n2 tl.c2))) W) := fun W hW => by
            have h2 := below_step S4.bl hW
            refine ⟨⟨?_, ?_, ?_⟩, ⟨?_, ?_, ?_⟩, ?_, ?_, ?_⟩
            · rw [hW.cell (p := ⟨GO, n * 3, none⟩) hGl]; exact p0
            · rw [hW.cell (p := ⟨GO, n * 3 + 1, none⟩) hGl]; exact p1
            · rw [hW.cell (p := ⟨GO, n * 3 + 2, none⟩) hGl]; exact p2
            · rw [hW.cell (p := ⟨GO, m * 3, none⟩) hGl]; exact q0
            · rw [hW.cell (p := ⟨GO, m * 3 + 1, none⟩) hGl]; exact q1
            · rw [hW.cell (p := ⟨GO, m * 3 + 2, none⟩) hGl]; exact q2
            · rw [h2.cell (p := ⟨b, o + d * 3, none⟩) (unhide HLb)]; exact k0
            · rw [h2.cell (p := ⟨b, o + d * 3 + 1, none⟩) (unhide HLb)]; exact k1
            · rw [h2.cell (p := ⟨b, o + d * 3 + 2, none⟩) (unhide HLb)]; exact k2
          have HTN := hide rn
          have HTM := hide rm
          have HTL := hide (ra.below S4.bl)
          have HRM := hide (unhide HRU0 m (by omega))
          have HRL := hide (unhide HRX d)
          have HRN := hide (unhide HRV n m n (by omega) (by omega))
          have HRP : Hid (RS (Rnw.u x m * x d) JJ) := by show RS _ _; rw [← hd]; exact unhide HRU m n (by omega)
          have HQV : Hid ((row (rvx x n m) N).set n (rvx x n m n + Rnw.u x m * x d) = row (rvx x n (m + 1)) N) := by show _ = _; rw [← hd]; exact rvx_set x hlt
          have HS5 := hide S4
          have HUL := hide hwl
          clear S4 hwl rn rm ra htn htm em hGl hd k0 k1 k2 p0 p1 p2 q0 q1 q2
          go_wp2_with fail
          refine wp_region_till (fun w' : World => (w'.cell? ⟨GO, n * 3, none⟩ = some (.bool tn.s) ∧ w'.cell? ⟨GO, n * 3 + 1, none⟩ = some (.slice tn.a1 tn.n1 tn.c1) ∧ w'.cell? ⟨GO, n * 3 + 2, none⟩ = some (.slice tn.a2 tn.n2 tn.c2)) ∧ (w'.cell? ⟨GO, m * 3, none⟩ = some (.bool tm.s) ∧ w'.cell? ⟨GO, m * 3 + 1, none⟩ = some (.slice tm.a1 tm.n1 tm.c1) ∧ w'.cell? ⟨GO, m * 3 + 2, none⟩ = some (.slice tm.a2 tm.n2 tm.c2)) ∧ (w'.cell? ⟨b, o + d * 3, none⟩ = some (.bool tl.s) ∧ w'.cell? ⟨b, o + d * 3 + 1, none⟩ = some (.slice tl.a1 tl.n1 tl.c1) ∧ w'.cell? ⟨b, o + d * 3 + 2, none⟩ = some (.slice tl.a2 tl.n2 tl.c2))) 19 (by kernel_rfl) ?_
          have bd0 : Below wr.heap.size wr wr.drew := (Below.refl _ _).drew
          obtain ⟨Wd, hWd⟩ : ∃ W, wr.drew = W := ⟨_, rfl⟩
          rw [hWd] at bd0 ⊢
          have hC0 : (fun w' : World => (w'.cell? ⟨GO, n * 3, none⟩ = some (.bool tn.s) ∧ w'.cell? ⟨GO, n * 3 + 1, none⟩ = some (.slice tn.a1 tn.n1 tn.c1) ∧ w'.cell? ⟨GO, n * 3 + 2, none⟩ = some (.slice tn.a2 tn.n2 tn.c2)) ∧ (w'.cell? ⟨GO, m * 3, none⟩ = some (.bool tm.s) ∧ w'.cell? ⟨GO, m * 3 + 1, none⟩ = some (.slice tm.a1 tm.n1 tm.c1) ∧ w'.cell? ⟨GO, m * 3 + 2, none⟩ = some (.slice tm.a2 tm.n2 tm.c2)) ∧ (w'.cell? ⟨b, o + d * 3, none⟩ = some (.bool tl.s) ∧ w'.cell? ⟨b, o + d * 3 + 1, none⟩ = some (.slice tl.a1 tl.n1 tl.c1) ∧ w'.cell? ⟨b, o + d * 3 + 2, none⟩ = some (.slice tl.a2 tl.n2 tl.c2))) Wd := unhide HCC _ bd0
          refine wpTill_pure (i := 0) (v := ?_) rfl (by kernel_rfl) (by kernel_rfl) (by kernel_rfl) (by kernel_rfl) (fun _ _ _ h => h) (Or.inl ⟨by rfl, ?_⟩) (fun _ => hC0) ?_
          rotate_left
          · intro w hSw; clear hSw; go_simp; (try with_reducible rfl)
          (try simp only [List.getElem_toArray, List.getElem_cons_succ, List.getElem_cons_zero])
          (try simp only [Act.put, List.setIfInBounds_toArray, List.set_cons_zero, List.set_cons_succ])
          refine wpTill_pure (i := 1) (v := ?_) rfl (by kernel_rfl) (by kernel_rfl) (by kernel_rfl) (by kernel_rfl) (fun _ _ _ h => h) (Or.inl ⟨by rfl, ?_⟩) (fun _ => hC0) ?_
          rotate_left
          · intro w hSw; clear hSw; go_simp; (try with_reducible rfl)
          (try simp only [List.getElem_toArray, List.getElem_cons_succ, List.getElem_cons_zero])
          (try simp only [Act.put, List.setIfInBounds_toArray, List.set_cons_zero, List.set_cons_succ])
          refine wpTill_pure (i := 2) (v := ?_) rfl (by kernel_rfl) (by kernel_rfl) (by kernel_rfl) (by kernel_rfl) (fun _ _ _ h => h) (Or.inl ⟨by rfl, ?_⟩) (fun _ => hC0) ?_
          rotate_left
          · intro w hSw; clear hSw; go_simp; (try with_reducible rfl)
          (try simp only [List.getElem_toArray, List.getElem_cons_succ, List.getElem_cons_zero])
          (try simp only [Act.put, List.setIfInBounds_toArray, List.set_cons_zero, List.set_cons_succ])
          refine wpTill_pure (i := 3) (v := ?_) rfl (by kernel_rfl) (by kernel_rfl) (by kernel_rfl) (by kernel_rfl) (fun _ _ _ h => h) (Or.inl ⟨by rfl, ?_⟩) (fun _ => hC0) ?_
          rotate_left
          · intro w hSw; clear hSw; go_simp; (try with_reducible rfl)
          (try simp only [List.getElem_toArray, List.getElem_cons_succ, List.getElem_cons_zero])
          (try simp only [Act.put, List.setIfInBounds_toArray, List.set_cons_zero, List.set_cons_succ])
          refine wpTill_pure (i := 4) (v := ?_) rfl (by kernel_rfl) (by kernel_rfl) (by kernel_rfl) (by kernel_rfl) (fun _ _ _ h => h) (Or.inl ⟨by rfl, ?_⟩) (fun _ => hC0) ?_
          rotate_left
          · intro w hSw; clear hSw; go_simp; (try with_reducible rfl)
          (try simp only [List.getElem_toArray, List.getElem_cons_succ, List.getElem_cons_zero])
          (try simp only [Act.put, List.setIfInBounds_toArray, List.set_cons_zero, List.set_cons_succ])
          refine wpTill_take (i := 5) (v := ?_) rfl (by kernel_rfl) (by kernel_rfl) (by kernel_rfl) (by kernel_rfl) (by kernel_rfl) (by kernel_rfl) (fun _ _ _ h => h) (Or.inl ⟨by rfl, ?_⟩) hC0 ?_
          rotate_left
          · intro w hSw; (try dsimp only at hSw); obtain ⟨⟨u0, u1, u2⟩, ⟨u3, u4, u5⟩, ⟨u6, u7, u8⟩⟩ := hSw; go_simp; (try with_reducible rfl)
          (try simp only [List.getElem_toArray, List.getElem_cons_succ, List.getElem_cons_zero])
          (try simp only [Act.put, List.setIfInBounds_toArray, List.set_cons_zero, List.set_cons_succ])
          refine wpTill_pure (i := 6) (v := ?_) rfl (by kernel_rfl) (by kernel_rfl) (by kernel_rfl) (by kernel_rfl) (fun _ _ _ h => h) (Or.inl ⟨by rfl, ?_⟩) (fun _ => hC0) ?_
          rotate_left
          · intro w hSw; clear hSw; go_simp; (try with_reducible rfl)
          (try simp only [List.getElem_toArray, List.getElem_cons_succ, List.getElem_cons_zero])
          (try simp only [Act.put, List.setIfInBounds_toArray, List.set_cons_zero, List.set_cons_succ])
          refine wpTill_pure (i := 7) (v := ?_) rfl (by kernel_rfl) (by kernel_rfl) (by kernel_rfl) (by kernel_rfl) (fun _ _ _ h => h) (Or.inl ⟨by rfl, ?_⟩) (fun _ => hC0) ?_
          rotate_left
          · intro w hSw; clear hSw; go_simp; (try with_reducible rfl)
          (try simp only [List.getElem_toArray, List.getElem_cons_succ, List.getElem_cons_zero])
          (try simp only [Act.put, List.setIfInBounds_toArray, List.set_cons_zero, List.set_cons_succ])
          refine wpTill_pure (i := 8) (v := ?_) rfl (by kernel_rfl) (by kernel_rfl) (by kernel_rfl) (by kernel_rfl) (fun _ _ _ h => h) (Or.inl ⟨by rfl, ?_⟩) (fun _ => hC0) ?_
          rotate_left
          · intro w hSw; clear hSw; go_simp; (try with_reducible rfl)
          (try simp only [List.getElem_toArray, List.getElem_cons_succ, List.getElem_cons_zero])
          (try simp only [Act.put, List.setIfInBounds_toArray, List.set_cons_zero, List.set_cons_succ])
          refine wpTill_take (i := 9) (v := ?_) rfl (by kernel_rfl) (by kernel_rfl) (by kernel_rfl) (by kernel_rfl) (by kernel_rfl) (by kernel_rfl) (fun _ _ _ h => h) (Or.inl ⟨by rfl, ?_⟩) hC0 ?_
          rotate_left
          · intro w hSw; (try dsimp only at hSw); obtain ⟨⟨u0, u1, u2⟩, ⟨u3, u4, u5⟩, ⟨u6, u7, u8⟩⟩ := hSw; go_simp; (try with_reducible rfl)
          (try simp only [List.getElem_toArray, List.getElem_cons_succ, List.getElem_cons_zero])
          (try simp only [Act.put, List.setIfInBounds_toArray, List.set_cons_zero, List.set_cons_succ])
          refine wpTill_pure (i := 10) (v := ?_) rfl (by kernel_rfl) (by kernel_rfl) (by kernel_rfl) (by kernel_rfl) (fun _ _ _ h => h) (Or.inl ⟨by rfl, ?_⟩) (fun _ => hC0) ?_
          rotate_left
          · intro w hSw; clear hSw; go_simp; (try with_reducible rfl)
          (try simp only [List.getElem_toArray, List.getElem_cons_succ, List.getElem_cons_zero])
          (try simp only [Act.put, List.setIfInBounds_toArray, List.set_cons_zero, List.set_cons_succ])
          refine wpTill_pure (i := 11) (v := ?_) rfl (by kernel_rfl) (by kernel_rfl) (by kernel_rfl) (by kernel_rfl) (fun _ _ _ h => h) (Or.inl ⟨by rfl, ?_⟩) (fun _ => hC0) ?_
          rotate_left
          · intro w hSw; clear hSw; go_simp; (try with_reducible rfl)
          (try simp only [List.getElem_toArray, List.getElem_cons_succ, List.getElem_cons_zero])
          (try simp only [Act.put, List.setIfInBounds_toArray, List.set_cons_zero, List.set_cons_succ])
          refine wpTill_pure (i := 12) (v := ?_) rfl (by kernel_rfl) (by kernel_rfl) (by kernel_rfl) (by kernel_rfl) (fun _ _ _ h => h) (Or.inl ⟨by rfl, ?_⟩) (fun _ => hC0) ?_
          rotate_left
          · intro w hSw; clear hSw; go_simp; (try with_reducible rfl)
          (try simp only [List.getElem_toArray, List.getElem_cons_succ, List.getElem_cons_zero])
          (try simp only [Act.put, List.setIfInBounds_toArray, List.set_cons_zero, List.set_cons_succ])
          refine wpTill_pure (i := 13) (v := ?_) rfl (by kernel_rfl) (by kernel_rfl) (by kernel_rfl) (by kernel_rfl) (fun _ _ _ h => h) (Or.inl ⟨by rfl, ?_⟩) (fun _ => hC0) ?_
          rotate_left
          · intro w hSw; clear hSw; go_simp; (try with_reducible rfl)
          (try simp only [List.getElem_toArray, List.getElem_cons_succ, List.getElem_cons_zero])
          (try simp only [Act.put, List.setIfInBounds_toArray, List.set_cons_zero, List.set_cons_succ])
          refine wpTill_pure (i := 14) (v := ?_) rfl (by kernel_rfl) (by kernel_rfl) (by kernel_rfl) (by kernel_rfl) (fun _ _ _ h => h) (Or.inl ⟨by rfl, ?_⟩) (fun _ => hC0) ?_
          rotate_left
          · intro w hSw; clear hSw; go_simp; (try with_reducible rfl)
          (try simp only [List.getElem_toArray, List.getElem_cons_succ, List.getElem_cons_zero])
          (try simp only [Act.put, List.setIfInBounds_toArray, List.set_cons_zero, List.set_cons_succ])
          refine wpTill_take (i := 15) (v := ?_) rfl (by kernel_rfl) (by kernel_rfl) (by kernel_rfl) (by kernel_rfl) (by kernel_rfl) (by kernel_rfl) (fun _ _ _ h => h) (Or.inl ⟨by rfl, ?_⟩) hC0 ?_
          rotate_left
          · intro w hSw; (try dsimp only at hSw); obtain ⟨⟨u0, u1, u2⟩, ⟨u3, u4, u5⟩, ⟨u6, u7, u8⟩⟩ := hSw; go_simp; (try with_reducible rfl)
          (try simp only [List.getElem_toArray, List.getElem_cons_succ, List.getElem_cons_zero])
          (try simp only [Act.put, List.setIfInBounds_toArray, List.set_cons_zero, List.set_cons_succ])
          refine wpTill_one (k := 16) (by kernel_rfl) rfl (fun K hK => ?_)
          (try simp only [List.getElem_toArray, List.getElem_cons_succ, List.getElem_cons_zero])
          go_simp
          refine (mulR_any tm.val tl.val _ _ _ ((unhide HTM).below bd0) ((unhide HTL).below bd0) JJ (unhide HRM) (unhide HRL) (unhide HJ)).mono ?_
          rintro e xw_1 ⟨xv_1, rfl, hv_1, hb_1⟩
          have cc_1 := below_step bd0 hb_1
          have hC_1 : (fun w' : World => (w'.cell? ⟨GO, n * 3, none⟩ = some (.bool tn.s) ∧ w'.cell? ⟨GO, n * 3 + 1, none⟩ = some (.slice tn.a1 tn.n1 tn.c1) ∧ w'.cell? ⟨GO, n * 3 + 2, none⟩ = some (.slice tn.a2 tn.n2 tn.c2)) ∧ (w'.cell? ⟨GO, m * 3, none⟩ = some (.bool tm.s) ∧ w'.cell? ⟨GO, m * 3 + 1, none⟩ = some (.slice tm.a1 tm.n1 tm.c1) ∧ w'.cell? ⟨GO, m * 3 + 2, none⟩ = some (.slice tm.a2 tm.n2 tm.c2)) ∧ (w'.cell? ⟨b, o + d * 3, none⟩ = some (.bool tl.s) ∧ w'.cell? ⟨b, o + d * 3 + 1, none⟩ = some (.slice tl.a1 tl.n1 tl.c1) ∧ w'.cell? ⟨b, o + d * 3 + 2, none⟩ = some (.slice tl.a2 tl.n2 tl.c2))) xw_1 := unhide HCC _ cc_1
          refine hK.out _ _ (fun _ => hC_1) ?_
          clear hK K
          (try simp only [Act.put, List.setIfInBounds_toArray, List.set_cons_zero, List.set_cons_succ])
          refine wpTill_one (k := 17) (by kernel_rfl) rfl (fun K hK => ?_)
          (try simp only [List.getElem_toArray, List.getElem_cons_succ, List.getElem_cons_zero])
          go_simp
          refine (addR_any tn.val _ _ _ _ ((unhide HTN).below cc_1) hv_1 JJ (unhide HRN) (unhide HRP) (unhide HJ)).mono ?_
          rintro e xw_2 ⟨xv_2, rfl, hv_2, hb_2⟩
          have cc_2 := below_step cc_1 hb_2
          have hC_2 : (fun w' : World => (w'.cell? ⟨GO, n * 3, none⟩ = some (.bool tn.s) ∧ w'.cell? ⟨GO, n * 3 + 1, none⟩ = some (.slice tn.a1 tn.n1 tn.c1) ∧ w'.cell? ⟨GO, n * 3 + 2, none⟩ = some (.slice tn.a2 tn.n2 tn.c2)) ∧ (w'.cell? ⟨GO, m * 3, none⟩ = some (.bool tm.s) ∧ w'.cell? ⟨GO, m * 3 + 1, none⟩ = some (.slice tm.a1 tm.n1 tm.c1) ∧ w'.cell? ⟨GO, m * 3 + 2, none⟩ = some (.slice tm.a2 tm.n2 tm.c2)) ∧ (w'.cell? ⟨b, o + d * 3, none⟩ = some (.bool tl.s) ∧ w'.cell? ⟨b, o + d * 3 + 1, none⟩ = some (.slice tl.a1 tl.n1 tl.c1) ∧ w'.cell? ⟨b, o + d * 3 + 2, none⟩ = some (.slice tl.a2 tl.n2 tl.c2))) xw_2 := unhide HCC _ cc_2
          refine hK.out _ _ (fun _ => hC_2) ?_
          clear hK K
          (try simp only [Act.put, List.setIfInBounds_toArray, List.set_cons_zero, List.set_cons_succ])
          refine wpTill_pure (i := 18) (v := ?_) rfl (by kernel_rfl) (by kernel_rfl) (by kernel_rfl) (by kernel_rfl) (fun _ _ _ h => h) (Or.inl ⟨by rfl, ?_⟩) (fun _ => hC_2) ?_
          rotate_left
          · intro w hSw; clear hSw; go_simp; (try with_reducible rfl)
          (try simp only [List.getElem_toArray, List.getElem_cons_succ, List.getElem_cons_zero])
          (try simp only [Act.put, List.setIfInBounds_toArray, List.set_cons_zero, List.set_cons_succ])
          obtain ⟨t5, rfl, r5⟩ := tri_of hv_2
          simp only [Tri.val]
          have S8 := (unhide HS5).keep cc_2
          have ⟨⟨y0, y1, y2⟩, g0, g1, g2⟩ := S8.cells n (by rw [unhide HUL]; exact unhide HNN)
          have FZ := S8.set n (by rw [unhide HUL]; exact unhide HNN) t5 _ r5
          obtain ⟨WA, hWA⟩ : ∃ W, ((xw_2.setCell ⟨GO, n * 3, none⟩ (.bool t5.s)).setCell ⟨GO, n * 3 + 1, none⟩ (.slice t5.a1 t5.n1 t5.c1)).setCell ⟨GO, n * 3 + 2, none⟩ (.slice t5.a2 t5.n2 t5.c2) = W := ⟨_, rfl⟩
          rw [hWA, unhide HQV] at FZ
          have HFZ := hide FZ
          clear S8 FZ r5 hv_1 hv_2
          refine wpTill_one (k := 19) (by kernel_rfl) rfl (fun K hK => ?_)
          (try simp only [List.getElem_toArray, List.getElem_cons_succ, List.getElem_cons_zero])
          go_simp
          refine hK.out _ _ (fun h => absurd (h.symm.trans (by kernel_rfl)) Bool.false_ne_true) ?_
          clear hK K
          (try simp only [Act.put, List.setIfInBounds_toArray, List.set_cons_zero, List.set_cons_succ])
          refine wpTill_done (by kernel_rfl) ?_ _
          clear HCC HTN HTM HTL HS5 y0 y1 y2 g0 g1 g2 hWA hC0 hC_1 hC_2 cc_1 cc_2 bd0 hb_1 hb_2 hWd
          go_wp2_with fail
          exact ⟨⟨m + 1, _, by go_num, by omega, hlm, by rw [List.length_set]; exact unhide HUL, unhide HFZ⟩, by simp [intOf]; omega⟩
        · obtain rfl : m = n := by omega
          have f1 : ¬ (m : Int) < (m : Int) := by omega
          rw [rvx_next x N hn1] at S4
          have HS4 := hide S4
          have HUL := hide hwl
          clear S4 hwl
          go_wp2_with fail
          exact ⟨⟨m + 1, ws, by go_num, by omega, by omega, unhide HUL, unhide HS4⟩, by simp [intOf]; omega⟩
    · obtain rfl : n = N := by omega
      have j1 : ¬ (n : Int) ≤ (up : Int) := by have := unhide HNU; omega
      have e : row (rvx x n 0) n = row (Rnw.u x) n := row_congr (fun i hi => by unfold rvx; rw [if_pos hi])
      rw [e] at S
      have HF := hide S
      have HU := hide hul
      clear S hul e
      go_wp2
      go_ret
      exact ⟨GO, us, rfl, unhide HU, unhide HGO, unhide HF⟩

theorem rtc_ok {qs : List Rat} {up : Nat} (hk : rnc qs = 0) (hu : up ≤ 100) : rtc qs (up : Int) = 0 := by
  unfold rtc
  rw [if_pos hk, if_neg (by omega)]
set_option maxHeartbeats 16000000 in
set_option maxRecDepth 100000 in
set_option linter.unusedSimpArgs false in
theorem rComes_ok (v : Value) (qs : List Rat) (J JJ up N : Nat) (w : World) (h : LawIs w v qs) (hq : ∀ j, j < qs.length → RS qs[j]! J) (hk : rnc qs = 0) (hN : up + 1 = N) (hup : up ≤ 100) (hJ1 : 1 ≤ J) (hJC : 102 * (J + 1) + J ≤ JJ) (hJJ : ubd J up + J ≤ JJ) (hJ : JJ + JJ + 1 ≤ KK) :
    Calls Tryz.prog 30 #[v, .int .i64 (up : Int)] w (RowNil w (row (Rnw.u (xq qs)) N) N) := by
  obtain ⟨hA, ht, hl1, hl2⟩ := rnc_age hk
  have m1 := Nat.mul_le_mul_right (J + 1) hl2
  have HC := hide (rtime_any v qs J (up : Int) w h hq (by omega))
  rw [rtc_ok hk hup, errV_zero] at HC
  have HCO : Hid (∀ W, Below w.heap.size w W → Calls Tryz.prog 71 #[v, .int .i64 (up : Int)] W (DivPostz W (row (Rnw.u (xq qs)) N) N)) := fun W hW => comes_any v qs J JJ up N W (h.below hW) hq (by omega) (by omega) hN (by omega) hJ1 hJJ hJ
  obtain ⟨f, hf⟩ : ∃ f, Rnw.u (xq qs) = f := ⟨_, rfl⟩
  rw [hf] at HCO ⊢
  obtain ⟨a, c, rfl, -⟩ := h
  clear hq hk hJC hJJ hJ hA ht hl1 hl2 m1 hf
  generalize qs.length = nq at *
  go_enter Tryz.func30, Tryz.ntmps30
  go_wp2_with fail
  refine (unhide HC).mono ?_
  rintro e w1 ⟨rfl, hb1⟩
  have HB1 := hide hb1
  clear hb1 HC
  go_wp2_with fail
  refine (unhide HCO w1 (unhide HB1)).mono ?_
  rintro e w2 ⟨G, us, rfl, hul, hgl, S⟩
  have HS := hide (S.rebase (unhide HB1))
  have HU := hide hul
  have HG : Hid (w.heap.size ≤ G) := Nat.le_trans (unhide HB1).size hgl
  clear S hul hgl HCO
  go_wp2
  go_ret2
  exact ⟨G, us, rfl, unhide HU, unhide HG, unhide HS⟩

/-- A row of the call's own, where another row is written. -/
theorem SumsAt.apart {w wr : World} {g g2 : Nat} {us us2 : List Tri} {qs : List Rat} {T : TypeId} (h : SumsAt w wr g us qs) (hg : wr.heap[g2]? = some (.cells (tcells us2).toArray T)) (hne : g ≠ g2) (hge : w.heap.size ≤ g2) (i0 i1 i2 : Nat) (x0 x1 x2 : Value) :
    SumsAt w (((wr.setCell ⟨g2, i0, none⟩ x0).setCell ⟨g2, i1, none⟩ x1).setCell ⟨g2, i2, none⟩ x2) g us qs :=
  ⟨by rw [Below.heap_setCell _ _ _ _ hne, Below.heap_setCell _ _ _ _ hne, Below.heap_setCell _ _ _ _ hne]; exact h.row, h.len, fun j hj => (h.rat j hj).rowed hg _ _ _ _ _ _, ((h.bl.setCell hge _).setCell hge _).setCell hge _, h.gl⟩
theorem fill_one {f : Nat → Rat} (h : f 0 = 0) (N : Nat) : fill f N 0 = fill f N 1 := by
  unfold fill
  refine List.map_congr_left fun i _ => ?_
  rw [if_neg (Nat.not_lt_zero _)]
  split
  · next h' => obtain rfl : i = 0 := by omega
               exact h.symm
  · rfl
theorem u_RS {x : Nat → Rat} {J up : Nat} (hx : ∀ j, RS (x j) J) {m : Nat} (h : m ≤ up) : RS (Rnw.u x m) (ubd J up) := (part_RS hx m 0).1.mono (ubd_mono J h)
theorem mvu_RS {x : Nat → Rat} {J up : Nat} (hx : ∀ j, RS (x j) J) : ∀ k, k ≤ up → RS (Rnw.mv x k) (k * (ubd J up + 1) + 1)
  | 0, _ => (show RS (0 : Rat) _ from RS.zero.mono (by omega))
  | k + 1, h => ((mvu_RS (up := up) hx k (by omega)).add (u_RS (up := up) hx h)).mono (by rw [Nat.add_mul]; omega)
theorem mvu_RSc {x : Nat → Rat} {J up JM : Nat} (hx : ∀ j, RS (x j) J) (hM : (up + 1) * (ubd J up + 1) + 1 + ubd J up ≤ JM) {k : Nat} (hk : k ≤ up) : RS (Rnw.mv x k) JM := by
  have := Nat.mul_le_mul_right (ubd J up + 1) (show k ≤ up + 1 by omega)
  exact (mvu_RS hx k hk).mono (by omega)
set_option maxHeartbeats 16000000 in
set_option maxRecDepth 100000 in
set_option linter.unusedSimpArgs false in
theorem rMany_err (v : Value) (qs : List Rat) (J : Nat) (up k : Int) (w : World) (h : LawIs w v qs) (hq : ∀ j, j < qs.length → RS qs[j]! J) (hJ : (qs.length * (J + 1) + 1 + J) + (qs.length * (J + 1) + 1 + J) + 1 ≤ KK) (hk : rtc qs up = k) (hk0 : k ≠ 0) :
    Calls Tryz.prog 32 #[v, .int .i64 up] w fun e w' => e = .returned (.tuple #[.slice none 0 0, .iface 27 (.int .i64 k)]) ∧ Below w.heap.size w w' := by
  have HC := hide (rtime_any v qs J up w h hq hJ)
  obtain ⟨a, c, rfl, -⟩ := h
  rw [hk, errV_not hk0] at HC
  clear hq hJ hk hk0
  generalize qs.length = n at *
  go_enter Tryz.func32, Tryz.ntmps32
  go_wp2_with fail
  refine (unhide HC).mono ?_
  rintro e w1 ⟨rfl, hb1⟩
  go_wp2
  go_ret2
  exact ⟨rfl, hb1⟩

set_option maxHeartbeats 16000000 in
set_option maxRecDepth 100000 in
set_option linter.unusedSimpArgs false in
theorem rMany_ok (v : Value) (qs : List Rat) (J JJ JM up N : Nat) (w : World) (h : LawIs w v qs) (hq : ∀ j, j < qs.length → RS qs[j]! J) (hk : rnc qs = 0) (hN : up + 1 = N) (hup : up ≤ 100) (hJ1 : 1 ≤ J) (hJC : 102 * (J + 1) + J ≤ JJ) (hJJ : ubd J up + J ≤ JJ) (hJ : JJ + JJ + 1 ≤ KK) (hJM : (up + 1) * (ubd J up + 1) + 1 + ubd J up ≤ JM) (hJM2 : JM + JM + 1 ≤ KK) :
    Calls Tryz.prog 32 #[v, .int .i64 (up : Int)] w (RowNil w (row (Rnw.mv (xq qs)) N) N) := by
  obtain ⟨hA, ht, hl1, hl2⟩ := rnc_age hk
  have m1 := Nat.mul_le_mul_right (J + 1) hl2
  have HC := hide (rtime_any v qs J (up : Int) w h hq (by omega))
  rw [rtc_ok hk hup, errV_zero] at HC
  have HCO : Hid (∀ W, Below w.heap.size w W → Calls Tryz.prog 71 #[v, .int .i64 (up : Int)] W (DivPostz W (row (Rnw.u (xq qs)) N) N)) := fun W hW => comes_any v qs J JJ up N W (h.below hW) hq (by omega) (by omega) hN (by omega) hJ1 hJJ hJ
  have HXJ := xq_RS hq hJ1
  have HRU0 : Hid (∀ k, k ≤ up → RS (Rnw.u (xq qs) k) JM) := fun k hk => (u_RS HXJ hk).mono (by omega)
  have HRM0 : Hid (∀ k, k ≤ up → RS (Rnw.mv (xq qs) k) JM) := fun k hk => mvu_RSc HXJ hJM hk
  have HJ := hide hJM2
  obtain ⟨x, hx⟩ : ∃ x, xq qs = x := ⟨_, rfl⟩
  rw [hx] at HCO HRU0 HRM0 ⊢
  obtain ⟨a, c, rfl, -⟩ := h
  have qm : ∀ w : World, _ := fun w => make_ratios ((up : Int) + 1) (by omega) (by omega) w
  have HQM := hide qm
  clear qm
  have hN1 : 1 ≤ N := by omega
  have hN101 : N ≤ 101 := by omega
  have jN : (up : Int) + 1 = (N : Int) := by omega
  clear hq hk hJC hJJ hJ hA ht hl1 hl2 m1 hx HXJ hJM hJM2
  generalize qs.length = nq at *
  go_enter Tryz.func32, Tryz.ntmps32
  go_wp2_with fail
  refine (unhide HC).mono ?_
  rintro e w1 ⟨rfl, hb1⟩
  have HB1 := hide hb1
  have qm2 := unhide HQM w1
  have eN : ((up : Int) + 1).toNat = N := by omega
  rw [eN] at qm2
  have b0 := alloc_below w1 (.cells (tcells (List.replicate N zTri)).toArray 37)
  have S3 := SumsAt.start w w1 N hb1
  rw [fill_zero (Rnw.mv x), fill_one (f := Rnw.mv x) rfl] at S3
  obtain ⟨W1, hW1⟩ : ∃ W, w1.alloc (.cells (tcells (List.replicate N zTri)).toArray 37) = W := ⟨_, rfl⟩
  obtain ⟨GO, hGO⟩ : ∃ G, w1.heap.size = G := ⟨_, rfl⟩
  rw [hW1] at qm2 S3 b0
  rw [hGO] at qm2 S3
  have HS3 := hide S3
  have HB2 := hide (below_step hb1 b0)
  have hGl : GO < W1.heap.size := (Array.getElem?_eq_some_iff.1 S3.row).1
  have HGl := hide hGl
  rw [jN] at qm2
  clear hb1 HC S3 b0 HQM eN HB1 hGl
  go_wp2_with fail
  clear qm2 hW1 hGO
  refine (unhide HCO W1 (unhide HB2)).mono ?_
  rintro e w2 ⟨g2, cs, rfl, hcl, hgl, S2⟩
  have hne : g2 ≠ GO := fun e => by have := unhide HGl; omega
  have HNE := hide hne
  have HT2 := hide (S2.rebase (unhide HB2))
  have HS2 := hide ((unhide HS3).keep S2.bl)
  have HCL := hide hcl
  have HG : Hid (w.heap.size ≤ GO) := (unhide HS3).gl
  have HU0 : Hid ((List.replicate N zTri).length = N) := List.length_replicate
  clear S2 hcl hgl hne HCO HS3 HB2 HGl
  have f1 : (0 : Int) ≤ 1 := by decide
  have f2 : (1 : Int) ≤ (N : Int) := by omega
  have jup : (N : Int) - 1 = (up : Int) := by omega
  go_wp2_with fail
  · have hN1' : N = 1 := by assumption
    have hu0 : up = 0 := by omega
    go_loopw [24] (fun vi wr => vi = .int .i64 0 ∧ wr = w2) (fun _ _ => 0)
    case atStart => exact ⟨rfl, rfl⟩
    case round =>
      obtain ⟨rfl, rfl⟩ := hrel
      have HF : Hid (SumsAt w wr GO (List.replicate N zTri) (row (Rnw.mv x) N)) := by
        have := unhide HS2
        have e : fill (Rnw.mv x) N 1 = row (Rnw.mv x) N := by rw [hN1']; rfl
        rw [e] at this
        exact this
      subst hN1'
      clear HS2 HT2 HNE HCL
      go_wp2
      go_ret2
      exact ⟨GO, _, rfl, unhide HU0, unhide HG, unhide HF⟩
  · rw [show N - 1 = up by omega]
    go_loopw [24] (fun vi wr => ∃ (i : Nat) (us cs : List Tri), vi = .int .i64 (i : Int) ∧ i ≤ up ∧ us.length = N ∧ cs.length = N ∧ SumsAt w wr GO us (fill (Rnw.mv x) N (i + 1)) ∧ SumsAt w wr g2 cs (row (Rnw.u x) N)) (fun vi _ => up - (intOf vi).toNat)
    case atStart => exact ⟨0, _, cs, rfl, Nat.zero_le _, unhide HU0, unhide HCL, unhide HS2, unhide HT2⟩
    case round =>
      obtain ⟨i, us, cs, rfl, hi, hul, hcl, S, T⟩ := hrel
      clear HS2 HT2 HU0 HCL
      by_cases hlt : i < up
      · have j1 : (i : Int) < (up : Int) := by omega
        have j0 : (0 : Int) ≤ (i : Int) := by omega
        obtain ⟨k, hk⟩ : ∃ k, i + 1 = k := ⟨_, rfl⟩
        have jk : (i : Int) + 1 = (k : Int) := by omega
        have j2 : (i : Int) < (N : Int) := by omega
        have j3 : (k : Int) < (N : Int) := by omega
        have j4 : (0 : Int) ≤ (k : Int) := by omega
        have jw : IntKind.i64.wrap (k : Int) = (k : Int) := by rw [IntKind.wrap_i64]; omega
        have HKN : Hid (k < N) := show _ < _ by omega
        have HK := hide hk
        have ⟨⟨p0, p1, p2⟩, _⟩ := S.cells i (by omega)
        have ra := S.rat i (by omega)
        rw [fill_get (by omega) (by omega)] at ra
        obtain ⟨ta, hta⟩ : ∃ t, us[i]! = t := ⟨_, rfl⟩
        rw [hta] at p0 p1 p2 ra
        have ⟨⟨q0, q1, q2⟩, _⟩ := T.cells k (by omega)
        have ru := T.rat k (by omega)
        rw [row_get (by omega)] at ru
        obtain ⟨tu, htu⟩ : ∃ t, cs[k]! = t := ⟨_, rfl⟩
        rw [htu] at q0 q1 q2 ru
        have ek : k * 3 = 3 + i * 3 := by omega
        rw [ek] at q0 q1 q2
        have hGl : GO < wr.heap.size := (Array.getElem?_eq_some_iff.1 S.row).1
        have b9_ := alloc_below wr (.cells #[.bool tu.s, .slice tu.a1 tu.n1 tu.c1, .slice tu.a2 tu.n2 tu.c2] 37)
        have X9 := BoxIs.new ru
        obtain ⟨W9, hW9⟩ : ∃ W, wr.alloc (.cells #[.bool tu.s, .slice tu.a1 tu.n1 tu.c1, .slice tu.a2 tu.n2 tu.c2] 37) = W := ⟨_, rfl⟩
        obtain ⟨b9, hb9⟩ : ∃ b, wr.heap.size = b := ⟨_, rfl⟩
        rw [hW9] at b9_ X9
        rw [hb9] at X9
        have HCC : Hid (∀ W, Below W9.heap.size W9 W → (fun w' : World => (w'.cell? ⟨GO, i * 3, none⟩ = some (.bool ta.s) ∧ w'.cell? ⟨GO, i * 3 + 1, none⟩ = some (.slice ta.a1 ta.n1 ta.c1) ∧ w'.cell? ⟨GO, i * 3 + 2, none⟩ = some (.slice ta.a2 ta.n2 ta.c2)) ∧ (w'.cell? ⟨b9, 0, none⟩ = some (.bool tu.s) ∧ w'.cell? ⟨b9, 1, none⟩ = some (.slice tu.a1 tu.n1 tu.c1) ∧ w'.cell? ⟨b9, 2, none⟩ = some (.slice tu.a2 tu.n2 tu.c2))) W) := fun W hW => by
          have h2 := below_step b9_ hW
          refine ⟨⟨?_, ?_, ?_⟩, X9.cells W hW⟩
          · rw [h2.cell (p := ⟨GO, i * 3, none⟩) hGl]; exact p0
          · rw [h2.cell (p := ⟨GO, i * 3 + 1, none⟩) hGl]; exact p1
          · rw [h2.cell (p := ⟨GO, i * 3 + 2, none⟩) hGl]; exact p2
        have HTA := hide (ra.below b9_)
        have HTU := hide X9.2
        have HRA := hide (unhide HRM0 i (by omega))
        have HRU := hide (unhide HRU0 k (by omega))
        have HQV : Hid (Rnw.mv x i + Rnw.u x k = Rnw.mv x k) := by show _ = _; rw [← hk]; rfl
        have e1 : fill (Rnw.mv x) N (i + 1) = fill (Rnw.mv x) N k := by rw [hk]
        rw [e1] at S
        have HS5 := hide (S.keep b9_)
        have HT5 := hide (T.keep b9_)
        have HUL := hide hul
        have HCL := hide hcl
        clear S T hul hcl ra ru hta htu b9_ X9 hGl p0 p1 p2 ek hk e1
        go_wp2_with fail
        clear hW9 hb9 q0 q1 q2
        refine wp_region_till (fun w' : World => (w'.cell? ⟨GO, i * 3, none⟩ = some (.bool ta.s) ∧ w'.cell? ⟨GO, i * 3 + 1, none⟩ = some (.slice ta.a1 ta.n1 ta.c1) ∧ w'.cell? ⟨GO, i * 3 + 2, none⟩ = some (.slice ta.a2 ta.n2 ta.c2)) ∧ (w'.cell? ⟨b9, 0, none⟩ = some (.bool tu.s) ∧ w'.cell? ⟨b9, 1, none⟩ = some (.slice tu.a1 tu.n1 tu.c1) ∧ w'.cell? ⟨b9, 2, none⟩ = some (.slice tu.a2 tu.n2 tu.c2))) 10 (by kernel_rfl) ?_
        have bd0 : Below W9.heap.size W9 W9.drew := (Below.refl _ _).drew
        obtain ⟨Wd, hWd⟩ : ∃ W, W9.drew = W := ⟨_, rfl⟩
        rw [hWd] at bd0 ⊢
        have hC0 : (fun w' : World => (w'.cell? ⟨GO, i * 3, none⟩ = some (.bool ta.s) ∧ w'.cell? ⟨GO, i * 3 + 1, none⟩ = some (.slice ta.a1 ta.n1 ta.c1) ∧ w'.cell? ⟨GO, i * 3 + 2, none⟩ = some (.slice ta.a2 ta.n2 ta.c2)) ∧ (w'.cell? ⟨b9, 0, none⟩ = some (.bool tu.s) ∧ w'.cell? ⟨b9, 1, none⟩ = some (.slice tu.a1 tu.n1 tu.c1) ∧ w'.cell? ⟨b9, 2, none⟩ = some (.slice tu.a2 tu.n2 tu.c2))) Wd := unhide HCC _ bd0
        refine wpTill_pure (i := 0) (v := ?_) rfl (by kernel_rfl) (by kernel_rfl) (by kernel_rfl) (by kernel_rfl) (fun _ _ _ h => h) (Or.inl ⟨by rfl, ?_⟩) (fun _ => hC0) ?_
        rotate_left
        · intro w hSw; clear hSw; go_simp; (try with_reducible rfl)
        (try simp only [List.getElem_toArray, List.getElem_cons_succ, List.getElem_cons_zero])
        (try simp only [Act.put, List.setIfInBounds_toArray, List.set_cons_zero, List.set_cons_succ])
        refine wpTill_pure (i := 1) (v := ?_) rfl (by kernel_rfl) (by kernel_rfl) (by kernel_rfl) (by kernel_rfl) (fun _ _ _ h => h) (Or.inl ⟨by rfl, ?_⟩) (fun _ => hC0) ?_
        rotate_left
        · intro w hSw; clear hSw; go_simp; (try with_reducible rfl)
        (try simp only [List.getElem_toArray, List.getElem_cons_succ, List.getElem_cons_zero])
        (try simp only [Act.put, List.setIfInBounds_toArray, List.set_cons_zero, List.set_cons_succ])
        refine wpTill_pure (i := 2) (v := ?_) rfl (by kernel_rfl) (by kernel_rfl) (by kernel_rfl) (by kernel_rfl) (fun _ _ _ h => h) (Or.inl ⟨by rfl, ?_⟩) (fun _ => hC0) ?_
        rotate_left
        · intro w hSw; clear hSw; go_simp; (try with_reducible rfl)
        (try simp only [List.getElem_toArray, List.getElem_cons_succ, List.getElem_cons_zero])
        (try simp only [Act.put, List.setIfInBounds_toArray, List.set_cons_zero, List.set_cons_succ])
        refine wpTill_pure (i := 3) (v := ?_) rfl (by kernel_rfl) (by kernel_rfl) (by kernel_rfl) (by kernel_rfl) (fun _ _ _ h => h) (Or.inl ⟨by rfl, ?_⟩) (fun _ => hC0) ?_
        rotate_left
        · intro w hSw; clear hSw; go_simp; (try with_reducible rfl)
        (try simp only [List.getElem_toArray, List.getElem_cons_succ, List.getElem_cons_zero])
        (try simp only [Act.put, List.setIfInBounds_toArray, List.set_cons_zero, List.set_cons_succ])
        refine wpTill_pure (i := 4) (v := ?_) rfl (by kernel_rfl) (by kernel_rfl) (by kernel_rfl) (by kernel_rfl) (fun _ _ _ h => h) (Or.inl ⟨by rfl, ?_⟩) (fun _ => hC0) ?_
        rotate_left
        · intro w hSw; clear hSw; go_simp; (try with_reducible rfl)
        (try simp only [List.getElem_toArray, List.getElem_cons_succ, List.getElem_cons_zero])
        (try simp only [Act.put, List.setIfInBounds_toArray, List.set_cons_zero, List.set_cons_succ])
        refine wpTill_pure (i := 5) (v := ?_) rfl (by kernel_rfl) (by kernel_rfl) (by kernel_rfl) (by kernel_rfl) (fun _ _ _ h => h) (Or.inl ⟨by rfl, ?_⟩) (fun _ => hC0) ?_
        rotate_left
        · intro w hSw; clear hSw; go_simp; (try with_reducible rfl)
        (try simp only [List.getElem_toArray, List.getElem_cons_succ, List.getElem_cons_zero])
        (try simp only [Act.put, List.setIfInBounds_toArray, List.set_cons_zero, List.set_cons_succ])
        refine wpTill_take (i := 6) (v := ?_) rfl (by kernel_rfl) (by kernel_rfl) (by kernel_rfl) (by kernel_rfl) (by kernel_rfl) (by kernel_rfl) (fun _ _ _ h => h) (Or.inl ⟨by rfl, ?_⟩) hC0 ?_
        rotate_left
        · intro w hSw; (try dsimp only at hSw); obtain ⟨⟨u0, u1, u2⟩, ⟨u3, u4, u5⟩⟩ := hSw; go_simp; (try with_reducible rfl)
        (try simp only [List.getElem_toArray, List.getElem_cons_succ, List.getElem_cons_zero])
        (try simp only [Act.put, List.setIfInBounds_toArray, List.set_cons_zero, List.set_cons_succ])
        refine wpTill_take (i := 7) (v := ?_) rfl (by kernel_rfl) (by kernel_rfl) (by kernel_rfl) (by kernel_rfl) (by kernel_rfl) (by kernel_rfl) (fun _ _ _ h => h) (Or.inl ⟨by rfl, ?_⟩) hC0 ?_
        rotate_left
        · intro w hSw; (try dsimp only at hSw); obtain ⟨⟨u0, u1, u2⟩, ⟨u3, u4, u5⟩⟩ := hSw; go_simp; (try with_reducible rfl)
        (try simp only [List.getElem_toArray, List.getElem_cons_succ, List.getElem_cons_zero])
        (try simp only [Act.put, List.setIfInBounds_toArray, List.set_cons_zero, List.set_cons_succ])
        refine wpTill_one (k := 8) (by kernel_rfl) rfl (fun K hK => ?_)
        (try simp only [List.getElem_toArray, List.getElem_cons_succ, List.getElem_cons_zero])
        go_simp
        refine (addR_any ta.val tu.val _ _ _ ((unhide HTA).below bd0) ((unhide HTU).below bd0) JM (unhide HRA) (unhide HRU) (unhide HJ)).mono ?_
        rintro e xw_1 ⟨xv_1, rfl, hv_1, hb_1⟩
        have cc_1 := below_step bd0 hb_1
        have hC_1 : (fun w' : World => (w'.cell? ⟨GO, i * 3, none⟩ = some (.bool ta.s) ∧ w'.cell? ⟨GO, i * 3 + 1, none⟩ = some (.slice ta.a1 ta.n1 ta.c1) ∧ w'.cell? ⟨GO, i * 3 + 2, none⟩ = some (.slice ta.a2 ta.n2 ta.c2)) ∧ (w'.cell? ⟨b9, 0, none⟩ = some (.bool tu.s) ∧ w'.cell? ⟨b9, 1, none⟩ = some (.slice tu.a1 tu.n1 tu.c1) ∧ w'.cell? ⟨b9, 2, none⟩ = some (.slice tu.a2 tu.n2 tu.c2))) xw_1 := unhide HCC _ cc_1
        refine hK.out _ _ (fun _ => hC_1) ?_
        clear hK K
        (try simp only [Act.put, List.setIfInBounds_toArray, List.set_cons_zero, List.set_cons_succ])
        refine wpTill_pure (i := 9) (v := ?_) rfl (by kernel_rfl) (by kernel_rfl) (by kernel_rfl) (by kernel_rfl) (fun _ _ _ h => h) (Or.inl ⟨by rfl, ?_⟩) (fun _ => hC_1) ?_
        rotate_left
        · intro w hSw; clear hSw; go_simp; (try with_reducible rfl)
        (try simp only [List.getElem_toArray, List.getElem_cons_succ, List.getElem_cons_zero])
        (try simp only [Act.put, List.setIfInBounds_toArray, List.set_cons_zero, List.set_cons_succ])
        obtain ⟨t5, rfl, r5⟩ := tri_of hv_1
        simp only [Tri.val]
        have S8 := (unhide HS5).keep cc_1
        have T8 := (unhide HT5).keep cc_1
        have ⟨⟨y0, y1, y2⟩, g0, g1, g2⟩ := S8.cells k (by rw [unhide HUL]; exact unhide HKN)
        have FZ := S8.set k (by rw [unhide HUL]; exact unhide HKN) t5 _ r5
        have TZ := T8.apart S8.row (unhide HNE) S8.gl (k * 3) (k * 3 + 1) (k * 3 + 2) (.bool t5.s) (.slice t5.a1 t5.n1 t5.c1) (.slice t5.a2 t5.n2 t5.c2)
        obtain ⟨WA, hWA⟩ : ∃ W, ((xw_1.setCell ⟨GO, k * 3, none⟩ (.bool t5.s)).setCell ⟨GO, k * 3 + 1, none⟩ (.slice t5.a1 t5.n1 t5.c1)).setCell ⟨GO, k * 3 + 2, none⟩ (.slice t5.a2 t5.n2 t5.c2) = W := ⟨_, rfl⟩
        rw [hWA, unhide HQV, fill_set] at FZ
        rw [hWA] at TZ
        have HFZ := hide FZ
        have HTZ := hide TZ
        clear S8 T8 FZ TZ r5 hv_1
        refine wpTill_one (k := 10) (by kernel_rfl) rfl (fun K hK => ?_)
        (try simp only [List.getElem_toArray, List.getElem_cons_succ, List.getElem_cons_zero])
        go_simp
        refine hK.out _ _ (fun h => absurd (h.symm.trans (by kernel_rfl)) Bool.false_ne_true) ?_
        clear hK K
        (try simp only [Act.put, List.setIfInBounds_toArray, List.set_cons_zero, List.set_cons_succ])
        refine wpTill_done (by kernel_rfl) ?_ _
        clear HCC HTA HTU HS5 HT5 HRA HRU HQV y0 y1 y2 g0 g1 g2 hWA hC0 hC_1 cc_1 bd0 hb_1 hWd
        go_wp2_with fail
        exact ⟨⟨k, _, cs, rfl, by have := unhide HK; omega, by rw [List.length_set]; exact unhide HUL, unhide HCL, unhide HFZ, unhide HTZ⟩, by have := unhide HK; simp [intOf]; omega⟩
      · obtain rfl : i = up := by omega
        have j1 : ¬ (i : Int) < (i : Int) := by omega
        have e : fill (Rnw.mv x) N (i + 1) = row (Rnw.mv x) N := by rw [hN]; rfl
        rw [e] at S
        have HF := hide S
        have HU := hide hul
        clear S T hul hcl e
        go_wp2
        go_ret2
        exact ⟨GO, us, rfl, unhide HU, unhide HG, unhide HF⟩

set_option maxHeartbeats 16000000 in
set_option maxRecDepth 100000 in
set_option linter.unusedSimpArgs false in
theorem rComes_err (v : Value) (qs : List Rat) (J : Nat) (up k : Int) (w : World) (h : LawIs w v qs) (hq : ∀ j, j < qs.length → RS qs[j]! J) (hJ : (qs.length * (J + 1) + 1 + J) + (qs.length * (J + 1) + 1 + J) + 1 ≤ KK) (hk : rtc qs up = k) (hk0 : k ≠ 0) :
    Calls Tryz.prog 30 #[v, .int .i64 up] w fun e w' => e = .returned (.tuple #[.slice none 0 0, .iface 27 (.int .i64 k)]) ∧ Below w.heap.size w w' := by
  have HC := hide (rtime_any v qs J up w h hq hJ)
  obtain ⟨a, c, rfl, -⟩ := h
  rw [hk, errV_not hk0] at HC
  clear hq hJ hk hk0
  generalize qs.length = n at *
  go_enter Tryz.func30, Tryz.ntmps30
  go_wp2_with fail
  refine (unhide HC).mono ?_
  rintro e w1 ⟨rfl, hb1⟩
  go_wp2
  go_ret2
  exact ⟨rfl, hb1⟩
end Go.Proofs.YtcelbgleajpenaaGreatDoor
