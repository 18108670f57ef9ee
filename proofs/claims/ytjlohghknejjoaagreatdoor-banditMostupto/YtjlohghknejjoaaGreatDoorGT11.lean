/- Arms: Again. -/
import Derived.Test.YtjlohghknejjoaaGreatDoorGT9
namespace Go.Proofs.YtjlohghknejjoaaGreatDoor
open Go.RowKit Go.Sort Go.Shelf

set_option maxHeartbeats 16000000 in
set_option maxRecDepth 100000 in
set_option linter.unusedSimpArgs false in
theorem Again_any (v vw : Value) (gs : List Rat) (P : List (List Rat)) (b : Rat) (s : Nat) (w : World) (h : ArmIs w v gs P) (hw : RatIs w vw b) (sm : SmA gs P) (rb : RS b 1) (hs : s < gs.length) (hz : wcode gs P b = 0) :
    Calls Tryz.prog 11 #[v, vw, .int .i64 (s : Int)] w (AgainPost w (arm gs P b) s) := by
  have KKe : KK = 1099511627776 := rfl
  obtain ⟨m, l, rfl, hT, hS⟩ := h
  have hln := rows_len hS
  have hmn := law_len hT
  obtain ⟨n, hn⟩ : ∃ n, P.length = n := ⟨_, rfl⟩
  obtain ⟨k, hk⟩ : ∃ k, gs.length = k := ⟨_, rfl⟩
  rw [hn] at hln
  rw [hk] at hmn
  have HN := hide hn
  have HK := hide hk
  have HLN := hide hln
  have HMN := hide hmn
  obtain ⟨t, rfl, hwt⟩ := tri_of hw
  have X0 := ArmBox.new hT hS
  have b0 := alloc_below w (.cells #[.slice m.a m.n m.c, .slice l.a l.n l.c] 32)
  obtain ⟨W1, hW1⟩ : ∃ W, w.alloc (.cells #[.slice m.a m.n m.c, .slice l.a l.n l.c] 32) = W := ⟨_, rfl⟩
  obtain ⟨ba, hba⟩ : ∃ x, w.heap.size = x := ⟨_, rfl⟩
  rw [hW1] at X0 b0
  rw [hba] at X0
  have hXW := BoxIs.new (w := W1) (hwt.below b0)
  have b1 := alloc_below W1 (.cells #[.bool t.s, .slice t.a1 t.n1 t.c1, .slice t.a2 t.n2 t.c2] 37)
  obtain ⟨W0, hW0⟩ : ∃ W, W1.alloc (.cells #[.bool t.s, .slice t.a1 t.n1 t.c1, .slice t.a2 t.n2 t.c2] 37) = W := ⟨_, rfl⟩
  obtain ⟨bw, hbw⟩ : ∃ x, W1.heap.size = x := ⟨_, rfl⟩
  rw [hW0] at hXW b1
  rw [hbw] at hXW
  have HXW := hide hXW
  have HXA := hide (X0.keep b1)
  have HB0 := hide (below_step b0 b1)
  have HCA : Hid (∀ W, Below W0.heap.size W0 W → (fun w' : World => (w'.cell? ⟨ba, 0, none⟩ = some (.slice m.a k m.c) ∧ w'.cell? ⟨ba, 1, none⟩ = some (.slice l.a n l.c)) ∧ w'.cell? ⟨bw, 0, none⟩ = some (.bool t.s) ∧ w'.cell? ⟨bw, 1, none⟩ = some (.slice t.a1 t.n1 t.c1) ∧ w'.cell? ⟨bw, 2, none⟩ = some (.slice t.a2 t.n2 t.c2)) W) := fun W hW => by
    have h1 := (unhide HXA).cells W hW
    rw [hmn, hln] at h1
    exact ⟨h1, (unhide HXW).cells W hW⟩
  have HAR : Hid (∀ W, Below W0.heap.size W0 W → ArmIs W (.agg #[.slice m.a k m.c, .slice l.a n l.c]) gs P) := fun W hW => by
    have h1 := (unhide HXA).arm.below hW
    unfold aval at h1
    rw [hmn, hln] at h1
    exact h1
  have HRW : Hid (∀ W, Below W0.heap.size W0 W → RatIs W (.agg #[.bool t.s, .slice t.a1 t.n1 t.c1, .slice t.a2 t.n2 t.c2]) b) := fun W hW => (unhide HXW).2.below hW
  unfold aval
  rw [hmn, hln] at hW1 ⊢
  simp only [Tri.val]
  have ⟨⟨ca0, ca1⟩, cw0, cw1, cw2⟩ := unhide HCA W0 (Below.refl _ _)
  clear hT hS X0 b0 b1 hXW hwt hw hln hmn
  have hX := BoxIs.new (w := W0) (t := zTri) (q := 0) (rat_zero _)
  have hbr := alloc_below W0 (.cells #[.bool false, .slice none 0 0, .slice none 0 0] 37)
  obtain ⟨W2, hW2⟩ : ∃ W, W0.alloc (.cells #[.bool false, .slice none 0 0, .slice none 0 0] 37) = W := ⟨_, rfl⟩
  obtain ⟨br, hbrn⟩ : ∃ x, W0.heap.size = x := ⟨_, rfl⟩
  have hX' : BoxIs W2 br zTri 0 := by rw [← hW2, ← hbrn]; exact hX
  rw [hW2] at hbr
  have ⟨g1, g2, g3⟩ := wcode_zero hz
  obtain ⟨ti, hi, hy0, hy1, hy2⟩ := info_parts Tryz.infoAs
  obtain ⟨tj, htj⟩ : ∃ x, ti = x := ⟨_, rfl⟩
  rw [htj] at hi hy0 hy1 hy2
  have HI2 := hide hi
  have HZ2 := hide hy0
  clear hi hy0 htj
  have HCK := hide (checkState_any _ _ gs P b s W2 (unhide HAR W2 hbr) (unhide HRW W2 hbr) sm rb hs hz)
  have HBS : Hid (∀ W vm, ModelIs W vm (agK gs P s) b → Calls Tryz.prog 27 #[vm] W (BestPost W (agK gs P s) b)) := fun W vm hm => Best_any vm _ b W hm (agK_sm sm g1 rb hs)
  have HMC := hide (agK_code hz hs)
  have HGA := hide g1
  have HOK := hide (good_aok (b := b) g1 g2 g3)
  have HX : Hid (∀ W, Below W2.heap.size W2 W → BoxIs W br zTri 0) := fun W hW => hX'.keep hW
  have HB : Hid (∀ W, Below W2.heap.size W2 W → Below w.heap.size w W) := fun W hW => below_step (below_step (unhide HB0) hbr) hW
  have HG : Hid (w.heap.size ≤ br) := by show _ ≤ _; rw [← hbrn]; exact (unhide HB0).size
  have hpl := g1.pl
  rw [hk, hn] at hpl
  subst hpl
  have hk1 : 1 ≤ n := by have := g1.n1; omega
  have hk5 : n ≤ 5 := by have := g1.n5; omega
  have HXB : Hid (16 * XBn n + 200 ≤ KK) := xbn_le n (by omega)
  have HHS := hide hs
  have HRB := hide rb
  have hsn : s < n := by omega
  have HC4 : Hid (∀ W, Below W2.heap.size W2 W → True) := fun _ _ => trivial
  have HCA2 : Hid (∀ W, Below W2.heap.size W2 W → (fun w' : World => (w'.cell? ⟨ba, 0, none⟩ = some (.slice m.a n m.c) ∧ w'.cell? ⟨ba, 1, none⟩ = some (.slice l.a n l.c)) ∧ w'.cell? ⟨bw, 0, none⟩ = some (.bool t.s) ∧ w'.cell? ⟨bw, 1, none⟩ = some (.slice t.a1 t.n1 t.c1) ∧ w'.cell? ⟨bw, 2, none⟩ = some (.slice t.a2 t.n2 t.c2)) W) := fun W hW => unhide HCA W (below_step hbr hW)
  have HRW2 : Hid (∀ W, Below W2.heap.size W2 W → RatIs W (.agg #[.bool t.s, .slice t.a1 t.n1 t.c1, .slice t.a2 t.n2 t.c2]) b) := fun W hW => unhide HRW W (below_step hbr hW)
  have hX2 := (unhide HXA).keep hbr
  obtain ⟨ag, cg, eg, q1, q2, q3⟩ := id hX2.2.1
  obtain ⟨bg, og, ea, hbg, hcg⟩ := q3 (by omega)
  have ema : m.a = some ⟨bg, og, none⟩ := by rw [← ea]; injection eg
  obtain ⟨xs_, xp1, xp2, xn1, xd1, xn2, xd2, xk0, xk1, xk2, xr⟩ := hcg s (by omega)
  obtain ⟨tg, rfl, rfl, rfl, rfl, rfl, rfl, rfl⟩ : ∃ t : Tri, xs_ = t.s ∧ xp1 = t.a1 ∧ xp2 = t.a2 ∧ xn1 = t.n1 ∧ xd1 = t.c1 ∧ xn2 = t.n2 ∧ xd2 = t.c2 := ⟨⟨xs_, xp1, xp2, xn1, xd1, xn2, xd2⟩, rfl, rfl, rfl, rfl, rfl, rfl, rfl⟩
  have HRO : Hid (∃ bp op, l.a = some ⟨bp, op, none⟩ ∧ bp < W2.heap.size ∧ ∀ i, i < n → ∃ li : Sl, W2.cell? ⟨bp, op + i, none⟩ = some (.slice li.a n li.c) ∧ LawIs W2 (Sl.val (li.a, n, li.c)) P[i]!) := by
    obtain ⟨a, c, e, _, _, r3⟩ := hX2.2.2
    obtain ⟨bp, op, ea, hlt, hc⟩ := r3 (by omega)
    have e1 : l.a = a := by injection e
    refine ⟨bp, op, by rw [e1, ea], hlt, fun i hi => ?_⟩
    obtain ⟨mm, k0, hL⟩ := hc i (by omega)
    have hnx := g1.nx i (by omega)
    have hmm := law_len hL
    rw [hnx, hk] at hmm
    refine ⟨mm, by rw [← hmm]; exact k0, by rw [← hmm]; exact hL⟩
  obtain ⟨bp, op, ela, hbp, hcp⟩ := unhide HRO
  obtain ⟨lg, kg0, hLg⟩ := hcp s hsn
  have HC4 : Hid (∀ W, Below W2.heap.size W2 W → (fun w' : World => ((w'.cell? ⟨ba, 0, none⟩ = some (.slice m.a n m.c) ∧ w'.cell? ⟨ba, 1, none⟩ = some (.slice l.a n l.c)) ∧ w'.cell? ⟨bw, 0, none⟩ = some (.bool t.s) ∧ w'.cell? ⟨bw, 1, none⟩ = some (.slice t.a1 t.n1 t.c1) ∧ w'.cell? ⟨bw, 2, none⟩ = some (.slice t.a2 t.n2 t.c2)) ∧ (w'.cell? ⟨bg, og + s * 3, none⟩ = some (.bool tg.s) ∧ w'.cell? ⟨bg, og + s * 3 + 1, none⟩ = some (.slice tg.a1 tg.n1 tg.c1) ∧ w'.cell? ⟨bg, og + s * 3 + 2, none⟩ = some (.slice tg.a2 tg.n2 tg.c2)) ∧ w'.cell? ⟨bp, op + s, none⟩ = some (.slice lg.a n lg.c)) W) := fun W hW => by
    refine ⟨unhide HCA2 W hW, ⟨?_, ?_, ?_⟩, ?_⟩
    · rw [hW.cell (p := ⟨bg, og + s * 3, none⟩) hbg]; exact xk0
    · rw [hW.cell (p := ⟨bg, og + s * 3 + 1, none⟩) hbg]; exact xk1
    · rw [hW.cell (p := ⟨bg, og + s * 3 + 2, none⟩) hbg]; exact xk2
    · rw [hW.cell (p := ⟨bp, op + s, none⟩) hbp]; exact kg0
  have HPG : Hid (∀ i, i < n → ∃ ti : Tri, (W2.cell? ⟨bg, og + i * 3, none⟩ = some (.bool ti.s) ∧ W2.cell? ⟨bg, og + i * 3 + 1, none⟩ = some (.slice ti.a1 ti.n1 ti.c1) ∧ W2.cell? ⟨bg, og + i * 3 + 2, none⟩ = some (.slice ti.a2 ti.n2 ti.c2)) ∧ RatIs W2 ti.val gs[i]!) := fun i hi => by
    obtain ⟨xs_, xp1, xp2, xn1, xd1, xn2, xd2, k0, k1, k2, r⟩ := hcg i (by omega)
    exact ⟨⟨xs_, xp1, xp2, xn1, xd1, xn2, xd2⟩, ⟨k0, k1, k2⟩, r⟩
  have HBG := hide hbg
  have HBP := hide hbp
  have HCP := hide hcp
  have HAGn : Hid (ActIs W2 tg (lg.a, n, lg.c) (gs[s]!, P[s]!)) := ⟨xr, hLg⟩
  have HSB : Hid (W0.heap.size ≤ W2.heap.size) := hbr.size
  have HBL : Hid (ba < W2.heap.size ∧ bw < W2.heap.size) := ⟨hX2.lt, Nat.lt_of_lt_of_le (unhide HXW).lt hbr.size⟩
  have ⟨⟨d0, d1⟩, d2, d3, d4⟩ := unhide HCA2 W2 (Below.refl _ _)
  have HAN : Hid ((arm gs P b).n = n) := hk
  have HKL : Hid ((agK gs P s).length = n) := by show _ = _; rw [agK_length]; exact hk
  have s0 : (0 : Int) ≤ (s : Int) := by omega
  have s1 : (s : Int) < (n : Int) := by omega
  rw [ema] at d0
  rw [ema]
  rw [ela] at d1 ⊢
  rw [ema, ela] at HCA2 HC4 HCK hW1
  clear sm rb hz g1 g2 g3 hX hX' hbr hn hk hs hX2 eg q1 q2 q3 ea hbg hcg xr xk0 xk1 xk2 hbp hcp hLg kg0 HRO HXA HXW
  go_enter Tryz.func11, Tryz.ntmps11
  go_wp2_with fail
  refine (unhide HCK).mono ?_
  rintro e w1 ⟨rfl, hb1⟩
  have HC4' : Hid (∀ W, Below w1.heap.size w1 W → (fun w' : World => ((w'.cell? ⟨ba, 0, none⟩ = some (.slice (some ⟨bg, og, none⟩) n m.c) ∧ w'.cell? ⟨ba, 1, none⟩ = some (.slice (some ⟨bp, op, none⟩) n l.c)) ∧ w'.cell? ⟨bw, 0, none⟩ = some (.bool t.s) ∧ w'.cell? ⟨bw, 1, none⟩ = some (.slice t.a1 t.n1 t.c1) ∧ w'.cell? ⟨bw, 2, none⟩ = some (.slice t.a2 t.n2 t.c2)) ∧ (w'.cell? ⟨bg, og + s * 3, none⟩ = some (.bool tg.s) ∧ w'.cell? ⟨bg, og + s * 3 + 1, none⟩ = some (.slice tg.a1 tg.n1 tg.c1) ∧ w'.cell? ⟨bg, og + s * 3 + 2, none⟩ = some (.slice tg.a2 tg.n2 tg.c2)) ∧ w'.cell? ⟨bp, op + s, none⟩ = some (.slice lg.a n lg.c)) W) := fun W hW => unhide HC4 W (below_step hb1 hW)
  have HC4 := HC4'
  have HBB := hide hb1
  clear hb1 hW1 hW0 hW2 hba hbw hbrn ca0 ca1 cw0 cw1 cw2 d0 d1 d2 d3 d4 HCK HCA HRW HAR HC4'
  go_wp2_with fail
  refine wp_region_till (fun w' : World => ((w'.cell? ⟨ba, 0, none⟩ = some (.slice (some ⟨bg, og, none⟩) n m.c) ∧ w'.cell? ⟨ba, 1, none⟩ = some (.slice (some ⟨bp, op, none⟩) n l.c)) ∧ w'.cell? ⟨bw, 0, none⟩ = some (.bool t.s) ∧ w'.cell? ⟨bw, 1, none⟩ = some (.slice t.a1 t.n1 t.c1) ∧ w'.cell? ⟨bw, 2, none⟩ = some (.slice t.a2 t.n2 t.c2)) ∧ (w'.cell? ⟨bg, og + s * 3, none⟩ = some (.bool tg.s) ∧ w'.cell? ⟨bg, og + s * 3 + 1, none⟩ = some (.slice tg.a1 tg.n1 tg.c1) ∧ w'.cell? ⟨bg, og + s * 3 + 2, none⟩ = some (.slice tg.a2 tg.n2 tg.c2)) ∧ w'.cell? ⟨bp, op + s, none⟩ = some (.slice lg.a n lg.c)) 12 (by kernel_rfl) ?_
  have bd0 : Below w1.heap.size w1 w1.drew := (Below.refl _ _).drew
  obtain ⟨Wd, hWd⟩ : ∃ W, w1.drew = W := ⟨_, rfl⟩
  rw [hWd] at bd0 ⊢
  have hC0 : (fun w' : World => ((w'.cell? ⟨ba, 0, none⟩ = some (.slice (some ⟨bg, og, none⟩) n m.c) ∧ w'.cell? ⟨ba, 1, none⟩ = some (.slice (some ⟨bp, op, none⟩) n l.c)) ∧ w'.cell? ⟨bw, 0, none⟩ = some (.bool t.s) ∧ w'.cell? ⟨bw, 1, none⟩ = some (.slice t.a1 t.n1 t.c1) ∧ w'.cell? ⟨bw, 2, none⟩ = some (.slice t.a2 t.n2 t.c2)) ∧ (w'.cell? ⟨bg, og + s * 3, none⟩ = some (.bool tg.s) ∧ w'.cell? ⟨bg, og + s * 3 + 1, none⟩ = some (.slice tg.a1 tg.n1 tg.c1) ∧ w'.cell? ⟨bg, og + s * 3 + 2, none⟩ = some (.slice tg.a2 tg.n2 tg.c2)) ∧ w'.cell? ⟨bp, op + s, none⟩ = some (.slice lg.a n lg.c)) Wd := unhide HC4 _ bd0
  refine wpTill_pure (i := 0) (v := ?_) rfl (by kernel_rfl) (by kernel_rfl) (by kernel_rfl) (by kernel_rfl) (fun _ _ _ h => h) (Or.inl ⟨by rfl, ?_⟩) (fun _ => hC0) ?_
  rotate_left
  · intro w hSw; clear hSw; go_simp; (try with_reducible rfl)
  (try simp only [List.getElem_toArray, List.getElem_cons_succ, List.getElem_cons_zero])
  (try simp only [Act.put, List.setIfInBounds_toArray, List.set_cons_zero, List.set_cons_succ])
  refine wpTill_take (i := 1) (v := ?_) rfl (by kernel_rfl) (by kernel_rfl) (by kernel_rfl) (by kernel_rfl) (by kernel_rfl) (by kernel_rfl) (fun _ _ _ h => h) (Or.inl ⟨by rfl, ?_⟩) hC0 ?_
  rotate_left
  · intro w hSw; (try dsimp only at hSw); obtain ⟨⟨⟨z0, z1⟩, z2, z3, z4⟩, ⟨z5, z6, z7⟩, z8⟩ := hSw; go_simp; (try with_reducible rfl)
  (try simp only [List.getElem_toArray, List.getElem_cons_succ, List.getElem_cons_zero])
  (try simp only [Act.put, List.setIfInBounds_toArray, List.set_cons_zero, List.set_cons_succ])
  refine wpTill_pure (i := 2) (v := ?_) rfl (by kernel_rfl) (by kernel_rfl) (by kernel_rfl) (by kernel_rfl) (fun _ _ _ h => h) (Or.inl ⟨by rfl, ?_⟩) (fun _ => hC0) ?_
  rotate_left
  · intro w hSw; clear hSw; go_simp; (try with_reducible rfl)
  (try simp only [List.getElem_toArray, List.getElem_cons_succ, List.getElem_cons_zero])
  (try simp only [Act.put, List.setIfInBounds_toArray, List.set_cons_zero, List.set_cons_succ])
  refine wpTill_pure (i := 3) (v := ?_) rfl (by kernel_rfl) (by kernel_rfl) (by kernel_rfl) (by kernel_rfl) (fun _ _ _ h => h) (Or.inl ⟨by rfl, ?_⟩) (fun _ => hC0) ?_
  rotate_left
  · intro w hSw; clear hSw; go_simp; (try with_reducible rfl)
  (try simp only [List.getElem_toArray, List.getElem_cons_succ, List.getElem_cons_zero])
  (try simp only [Act.put, List.setIfInBounds_toArray, List.set_cons_zero, List.set_cons_succ])
  refine wpTill_take (i := 4) (v := ?_) rfl (by kernel_rfl) (by kernel_rfl) (by kernel_rfl) (by kernel_rfl) (by kernel_rfl) (by kernel_rfl) (fun _ _ _ h => h) (Or.inl ⟨by rfl, ?_⟩) hC0 ?_
  rotate_left
  · intro w hSw; (try dsimp only at hSw); obtain ⟨⟨⟨z0, z1⟩, z2, z3, z4⟩, ⟨z5, z6, z7⟩, z8⟩ := hSw; go_simp; (try with_reducible rfl)
  (try simp only [List.getElem_toArray, List.getElem_cons_succ, List.getElem_cons_zero])
  (try simp only [Act.put, List.setIfInBounds_toArray, List.set_cons_zero, List.set_cons_succ])
  refine wpTill_pure (i := 5) (v := ?_) rfl (by kernel_rfl) (by kernel_rfl) (by kernel_rfl) (by kernel_rfl) (fun _ _ _ h => h) (Or.inl ⟨by rfl, ?_⟩) (fun _ => hC0) ?_
  rotate_left
  · intro w hSw; clear hSw; go_simp; (try with_reducible rfl)
  (try simp only [List.getElem_toArray, List.getElem_cons_succ, List.getElem_cons_zero])
  (try simp only [Act.put, List.setIfInBounds_toArray, List.set_cons_zero, List.set_cons_succ])
  refine wpTill_take (i := 6) (v := ?_) rfl (by kernel_rfl) (by kernel_rfl) (by kernel_rfl) (by kernel_rfl) (by kernel_rfl) (by kernel_rfl) (fun _ _ _ h => h) (Or.inl ⟨by rfl, ?_⟩) hC0 ?_
  rotate_left
  · intro w hSw; (try dsimp only at hSw); obtain ⟨⟨⟨z0, z1⟩, z2, z3, z4⟩, ⟨z5, z6, z7⟩, z8⟩ := hSw; go_simp; (try with_reducible rfl)
  (try simp only [List.getElem_toArray, List.getElem_cons_succ, List.getElem_cons_zero])
  (try simp only [Act.put, List.setIfInBounds_toArray, List.set_cons_zero, List.set_cons_succ])
  refine wpTill_pure (i := 7) (v := ?_) rfl (by kernel_rfl) (by kernel_rfl) (by kernel_rfl) (by kernel_rfl) (fun _ _ _ h => h) (Or.inl ⟨by rfl, ?_⟩) (fun _ => hC0) ?_
  rotate_left
  · intro w hSw; clear hSw; go_simp; (try with_reducible rfl)
  (try simp only [List.getElem_toArray, List.getElem_cons_succ, List.getElem_cons_zero])
  (try simp only [Act.put, List.setIfInBounds_toArray, List.set_cons_zero, List.set_cons_succ])
  refine wpTill_pure (i := 8) (v := ?_) rfl (by kernel_rfl) (by kernel_rfl) (by kernel_rfl) (by kernel_rfl) (fun _ _ _ h => h) (Or.inl ⟨by rfl, ?_⟩) (fun _ => hC0) ?_
  rotate_left
  · intro w hSw; clear hSw; go_simp; (try with_reducible rfl)
  (try simp only [List.getElem_toArray, List.getElem_cons_succ, List.getElem_cons_zero])
  (try simp only [Act.put, List.setIfInBounds_toArray, List.set_cons_zero, List.set_cons_succ])
  refine wpTill_take (i := 9) (v := ?_) rfl (by kernel_rfl) (by kernel_rfl) (by kernel_rfl) (by kernel_rfl) (by kernel_rfl) (by kernel_rfl) (fun _ _ _ h => h) (Or.inl ⟨by rfl, ?_⟩) hC0 ?_
  rotate_left
  · intro w hSw; (try dsimp only at hSw); obtain ⟨⟨⟨z0, z1⟩, z2, z3, z4⟩, ⟨z5, z6, z7⟩, z8⟩ := hSw; go_simp; (try with_reducible rfl)
  (try simp only [List.getElem_toArray, List.getElem_cons_succ, List.getElem_cons_zero])
  (try simp only [Act.put, List.setIfInBounds_toArray, List.set_cons_zero, List.set_cons_succ])
  refine wpTill_pure (i := 10) (v := ?_) rfl (by kernel_rfl) (by kernel_rfl) (by kernel_rfl) (by kernel_rfl) (fun _ _ _ h => h) (Or.inl ⟨by rfl, ?_⟩) (fun _ => hC0) ?_
  rotate_left
  · intro w hSw; clear hSw; go_simp; (try with_reducible rfl)
  (try simp only [List.getElem_toArray, List.getElem_cons_succ, List.getElem_cons_zero])
  (try simp only [Act.put, List.setIfInBounds_toArray, List.set_cons_zero, List.set_cons_succ])
  have bN := alloc_below Wd (.cells zA 67)
  have nN := heap_alloc_new Wd (.cells zA 67)
  have hCN : (fun w' : World => ((w'.cell? ⟨ba, 0, none⟩ = some (.slice (some ⟨bg, og, none⟩) n m.c) ∧ w'.cell? ⟨ba, 1, none⟩ = some (.slice (some ⟨bp, op, none⟩) n l.c)) ∧ w'.cell? ⟨bw, 0, none⟩ = some (.bool t.s) ∧ w'.cell? ⟨bw, 1, none⟩ = some (.slice t.a1 t.n1 t.c1) ∧ w'.cell? ⟨bw, 2, none⟩ = some (.slice t.a2 t.n2 t.c2)) ∧ (w'.cell? ⟨bg, og + s * 3, none⟩ = some (.bool tg.s) ∧ w'.cell? ⟨bg, og + s * 3 + 1, none⟩ = some (.slice tg.a1 tg.n1 tg.c1) ∧ w'.cell? ⟨bg, og + s * 3 + 2, none⟩ = some (.slice tg.a2 tg.n2 tg.c2)) ∧ w'.cell? ⟨bp, op + s, none⟩ = some (.slice lg.a n lg.c)) (Wd.alloc (.cells zA 67)) := unhide HC4 _ (below_step bd0 bN)
  refine wpTill_one (k := 11) (by kernel_rfl) rfl (fun K hK => ?_)
  (try simp only [List.getElem_toArray, List.getElem_cons_succ, List.getElem_cons_zero])
  go_simp
  refine hK.out _ _ (fun _ => hCN) ?_
  clear hK K
  (try simp only [Act.put, List.setIfInBounds_toArray, List.set_cons_zero, List.set_cons_succ])
  have bN9 := alloc_below Wd (.cells #[.bool tg.s, .slice tg.a1 tg.n1 tg.c1, .slice tg.a2 tg.n2 tg.c2, .slice lg.a n lg.c] 67)
  have n9 := heap_alloc_new Wd (.cells #[.bool tg.s, .slice tg.a1 tg.n1 tg.c1, .slice tg.a2 tg.n2 tg.c2, .slice lg.a n lg.c] 67)
  obtain ⟨W9, hW9⟩ : ∃ W, Wd.alloc (.cells #[.bool tg.s, .slice tg.a1 tg.n1 tg.c1, .slice tg.a2 tg.n2 tg.c2, .slice lg.a n lg.c] 67) = W := ⟨_, rfl⟩
  obtain ⟨bn, hbn⟩ : ∃ b, Wd.heap.size = b := ⟨_, rfl⟩
  have FB := below_step bd0 bN9
  rw [hW9] at FB n9
  rw [hbn] at n9
  have HN9 := hide n9
  have HB9 := hide FB
  clear FB n9 bN9
  refine wpTill_one (k := 12) (by kernel_rfl) rfl (fun K hK => ?_)
  (try simp only [List.getElem_toArray, List.getElem_cons_succ, List.getElem_cons_zero])
  go_simp
  refine hK.out _ _ (fun h => absurd (h.symm.trans (by kernel_rfl)) Bool.false_ne_true) ?_
  clear hK K
  (try simp only [Act.put, List.setIfInBounds_toArray, List.set_cons_zero, List.set_cons_succ])
  refine wpTill_done (by kernel_rfl) ?_ _
  clear bN nN hCN hC0 bd0 hWd HC4
  have HBW := hide (below_step (unhide HBB) (unhide HB9))
  have ⟨⟨d0, d1⟩, d2, d3, d4⟩ := unhide HCA2 W9 (unhide HBW)
  have b3 := alloc_below W9 (.cells #[.slice none 0 0, .bool t.s, .slice t.a1 t.n1 t.c1, .slice t.a2 t.n2 t.c2] 70)
  have N3 := heap_alloc_new W9 (.cells #[.slice none 0 0, .bool t.s, .slice t.a1 t.n1 t.c1, .slice t.a2 t.n2 t.c2] 70)
  obtain ⟨W3, hW3⟩ : ∃ W, W9.alloc (.cells #[.slice none 0 0, .bool t.s, .slice t.a1 t.n1 t.c1, .slice t.a2 t.n2 t.c2] 70) = W := ⟨_, rfl⟩
  obtain ⟨go, hgo⟩ : ∃ g, W9.heap.size = g := ⟨_, rfl⟩
  rw [hW3] at b3 N3
  rw [hgo] at N3
  have HGO : Hid (W9.heap.size ≤ go) := by show _ ≤ _; omega
  have HN3 := hide N3
  have HB3 := hide b3
  have ⟨⟨f0, f1⟩, _⟩ := unhide HCA2 W3 (below_step (unhide HBW) b3)
  clear b3 N3
  go_wp2_with fail
  clear hW3 hgo hW9 hbn d0 d1 d2 d3 d4 f0 f1
  go_loopw [40] (fun vi wr => ∃ (i : Nat) (ss : List Sl) (sa : Option Addr) (ns cs : Nat), vi = .int .i64 (i : Int) ∧ i ≤ n ∧ ss.length = i ∧ AgAt W9 wr (.slice sa ns cs) ss (agK gs P s) ∧ wr.heap[go]? = some (.cells #[.slice sa ns cs, .bool t.s, .slice t.a1 t.n1 t.c1, .slice t.a2 t.n2 t.c2] 70)) (fun vi _ => n - (intOf vi).toNat)
  case atStart => exact ⟨0, [], none, 0, 0, rfl, Nat.zero_le _, rfl, AgAt.start W9 _ _ (unhide HB3), unhide HN3⟩
  case round =>
    obtain ⟨i, ss, sa, ns, cs, rfl, hi, hss, hT, hM⟩ := hrel
    clear HN3 HB3
    have hbT := below_step (unhide HBW) hT.bl
    have HSS := hide hss
    by_cases hlt : i < n
    · have e1 : (i : Int) < (n : Int) := by omega
      have e0 : (0 : Int) ≤ (i : Int) := by omega
      obtain ⟨tx, ⟨xk0, xk1, xk2⟩, xr⟩ := unhide HPG i hlt
      obtain ⟨li, kl0, hLi⟩ := unhide HCP i hlt
      rw [← hbT.cell (p := ⟨bg, og + i * 3, none⟩) (unhide HBG)] at xk0
      rw [← hbT.cell (p := ⟨bg, og + i * 3 + 1, none⟩) (unhide HBG)] at xk1
      rw [← hbT.cell (p := ⟨bg, og + i * 3 + 2, none⟩) (unhide HBG)] at xk2
      have bA := alloc_below wr (.cells #[.bool tx.s, .slice tx.a1 tx.n1 tx.c1, .slice tx.a2 tx.n2 tx.c2] 37)
      have X5 := BoxIs.new (xr.below hbT)
      have T5 := hT.keep bA
      have M5 := heap_kept hM bA
      obtain ⟨W5, hW5⟩ : ∃ W, wr.alloc (.cells #[.bool tx.s, .slice tx.a1 tx.n1 tx.c1, .slice tx.a2 tx.n2 tx.c2] 37) = W := ⟨_, rfl⟩
      obtain ⟨gx, hgx⟩ : ∃ g, wr.heap.size = g := ⟨_, rfl⟩
      rw [hW5] at X5 T5 M5
      rw [hgx] at X5
      have HX5 := hide X5
      have HT5 := hide T5
      have HM5 := hide M5
      have ⟨q0, q1, q2⟩ := X5.cells _ (Below.refl _ _)
      have hbn9 : bn < W9.heap.size := (Array.getElem?_eq_some_iff.1 (unhide HN9)).1
      have HC9L : Hid (ba < W9.heap.size ∧ bp < W9.heap.size ∧ bn < W9.heap.size ∧ W9.cell? ⟨ba, 1, none⟩ = some (.slice (some ⟨bp, op, none⟩) n l.c) ∧ W9.cell? ⟨bp, op + i, none⟩ = some (.slice li.a n li.c) ∧ W9.cell? ⟨bn, 0, none⟩ = some (.bool tg.s) ∧ W9.cell? ⟨bn, 1, none⟩ = some (.slice tg.a1 tg.n1 tg.c1) ∧ W9.cell? ⟨bn, 2, none⟩ = some (.slice tg.a2 tg.n2 tg.c2) ∧ W9.cell? ⟨bn, 3, none⟩ = some (.slice lg.a n lg.c)) := by
        have n9 := unhide HN9
        refine ⟨Nat.lt_of_lt_of_le (unhide HBL).1 (unhide HBW).size, Nat.lt_of_lt_of_le (unhide HBP) (unhide HBW).size, hbn9, (unhide HCA2 W9 (unhide HBW)).1.2, ?_, by simp [World.cell?, n9], by simp [World.cell?, n9], by simp [World.cell?, n9], by simp [World.cell?, n9]⟩
        rw [(unhide HBW).cell (p := ⟨bp, op + i, none⟩) (unhide HBP)]; exact kl0
      have HC9 : Hid (∀ W, Below W5.heap.size W5 W → (fun w' : World => w'.cell? ⟨go, 0, none⟩ = some (.slice sa ns cs) ∧ (w'.cell? ⟨gx, 0, none⟩ = some (.bool tx.s) ∧ w'.cell? ⟨gx, 1, none⟩ = some (.slice tx.a1 tx.n1 tx.c1) ∧ w'.cell? ⟨gx, 2, none⟩ = some (.slice tx.a2 tx.n2 tx.c2)) ∧ w'.cell? ⟨ba, 1, none⟩ = some (.slice (some ⟨bp, op, none⟩) n l.c) ∧ w'.cell? ⟨bp, op + i, none⟩ = some (.slice li.a n li.c) ∧ w'.cell? ⟨bn, 0, none⟩ = some (.bool tg.s) ∧ w'.cell? ⟨bn, 1, none⟩ = some (.slice tg.a1 tg.n1 tg.c1) ∧ w'.cell? ⟨bn, 2, none⟩ = some (.slice tg.a2 tg.n2 tg.c2) ∧ w'.cell? ⟨bn, 3, none⟩ = some (.slice lg.a n lg.c)) W) := fun W hW => by
        have hM' := heap_kept (unhide HM5) hW
        have h9 : Below W9.heap.size W9 W := below_step (unhide HT5).bl hW
        have q := unhide HC9L
        refine ⟨by simp [World.cell?, hM'], (unhide HX5).cells W hW, ?_, ?_, ?_, ?_, ?_, ?_⟩
        · rw [h9.cell (p := ⟨ba, 1, none⟩) q.1]; exact q.2.2.2.1
        · rw [h9.cell (p := ⟨bp, op + i, none⟩) q.2.1]; exact q.2.2.2.2.1
        · rw [h9.cell (p := ⟨bn, 0, none⟩) q.2.2.1]; exact q.2.2.2.2.2.1
        · rw [h9.cell (p := ⟨bn, 1, none⟩) q.2.2.1]; exact q.2.2.2.2.2.2.1
        · rw [h9.cell (p := ⟨bn, 2, none⟩) q.2.2.1]; exact q.2.2.2.2.2.2.2.1
        · rw [h9.cell (p := ⟨bn, 3, none⟩) q.2.2.1]; exact q.2.2.2.2.2.2.2.2
      have hgl : i < gs.length := by have := unhide HK; omega
      have HAI : Hid (ActIs W9 tx (li.a, n, li.c) ((agK gs P s)[ss.length]!)[0]!) := by
        show ActIs _ _ _ _
        rw [hss, agK_get hgl]
        exact ⟨xr.below (unhide HBW), hLi.below (unhide HBW)⟩
      have HAG : Hid (ActIs W9 tg (lg.a, n, lg.c) ((agK gs P s)[ss.length]!)[1]!) := by
        show ActIs _ _ _ _
        rw [hss, agK_get hgl]
        exact (unhide HAGn).below (unhide HBW)
      clear hT hM hbT hss X5 T5 M5 bA xr hLi kl0 hbn9 hgl
      go_wp2_with fail
      clear hW5 hgx xk0 xk1 xk2 q0 q1 q2
      refine wp_region_till (fun w' : World => w'.cell? ⟨go, 0, none⟩ = some (.slice sa ns cs) ∧ (w'.cell? ⟨gx, 0, none⟩ = some (.bool tx.s) ∧ w'.cell? ⟨gx, 1, none⟩ = some (.slice tx.a1 tx.n1 tx.c1) ∧ w'.cell? ⟨gx, 2, none⟩ = some (.slice tx.a2 tx.n2 tx.c2)) ∧ w'.cell? ⟨ba, 1, none⟩ = some (.slice (some ⟨bp, op, none⟩) n l.c) ∧ w'.cell? ⟨bp, op + i, none⟩ = some (.slice li.a n li.c) ∧ w'.cell? ⟨bn, 0, none⟩ = some (.bool tg.s) ∧ w'.cell? ⟨bn, 1, none⟩ = some (.slice tg.a1 tg.n1 tg.c1) ∧ w'.cell? ⟨bn, 2, none⟩ = some (.slice tg.a2 tg.n2 tg.c2) ∧ w'.cell? ⟨bn, 3, none⟩ = some (.slice lg.a n lg.c)) 14 (by kernel_rfl) ?_
      have bd0 : Below W5.heap.size W5 W5.drew := (Below.refl _ _).drew
      obtain ⟨We, hWe⟩ : ∃ W, W5.drew = W := ⟨_, rfl⟩
      rw [hWe] at bd0 ⊢
      have hC0 : (fun w' : World => w'.cell? ⟨go, 0, none⟩ = some (.slice sa ns cs) ∧ (w'.cell? ⟨gx, 0, none⟩ = some (.bool tx.s) ∧ w'.cell? ⟨gx, 1, none⟩ = some (.slice tx.a1 tx.n1 tx.c1) ∧ w'.cell? ⟨gx, 2, none⟩ = some (.slice tx.a2 tx.n2 tx.c2)) ∧ w'.cell? ⟨ba, 1, none⟩ = some (.slice (some ⟨bp, op, none⟩) n l.c) ∧ w'.cell? ⟨bp, op + i, none⟩ = some (.slice li.a n li.c) ∧ w'.cell? ⟨bn, 0, none⟩ = some (.bool tg.s) ∧ w'.cell? ⟨bn, 1, none⟩ = some (.slice tg.a1 tg.n1 tg.c1) ∧ w'.cell? ⟨bn, 2, none⟩ = some (.slice tg.a2 tg.n2 tg.c2) ∧ w'.cell? ⟨bn, 3, none⟩ = some (.slice lg.a n lg.c)) We := unhide HC9 _ bd0
      refine wpTill_pure (i := 0) (v := ?_) rfl (by kernel_rfl) (by kernel_rfl) (by kernel_rfl) (by kernel_rfl) (fun _ _ _ h => h) (Or.inl ⟨by rfl, ?_⟩) (fun _ => hC0) ?_
      rotate_left
      · intro w hSw; clear hSw; go_simp; (try with_reducible rfl)
      (try simp only [List.getElem_toArray, List.getElem_cons_succ, List.getElem_cons_zero])
      (try simp only [Act.put, List.setIfInBounds_toArray, List.set_cons_zero, List.set_cons_succ])
      refine wpTill_take (i := 1) (v := ?_) rfl (by kernel_rfl) (by kernel_rfl) (by kernel_rfl) (by kernel_rfl) (by kernel_rfl) (by kernel_rfl) (fun _ _ _ h => h) (Or.inl ⟨by rfl, ?_⟩) hC0 ?_
      rotate_left
      · intro w hSw; (try dsimp only at hSw); obtain ⟨z0, ⟨z1, z2, z3⟩, z4, z5, z6, z7, z8, z9⟩ := hSw; go_simp; (try with_reducible rfl)
      (try simp only [List.getElem_toArray, List.getElem_cons_succ, List.getElem_cons_zero])
      (try simp only [Act.put, List.setIfInBounds_toArray, List.set_cons_zero, List.set_cons_succ])
      refine wpTill_take (i := 2) (v := ?_) rfl (by kernel_rfl) (by kernel_rfl) (by kernel_rfl) (by kernel_rfl) (by kernel_rfl) (by kernel_rfl) (fun _ _ _ h => h) (Or.inl ⟨by rfl, ?_⟩) hC0 ?_
      rotate_left
      · intro w hSw; (try dsimp only at hSw); obtain ⟨z0, ⟨z1, z2, z3⟩, z4, z5, z6, z7, z8, z9⟩ := hSw; go_simp; (try with_reducible rfl)
      (try simp only [List.getElem_toArray, List.getElem_cons_succ, List.getElem_cons_zero])
      (try simp only [Act.put, List.setIfInBounds_toArray, List.set_cons_zero, List.set_cons_succ])
      refine wpTill_pure (i := 3) (v := ?_) rfl (by kernel_rfl) (by kernel_rfl) (by kernel_rfl) (by kernel_rfl) (fun _ _ _ h => h) (Or.inl ⟨by rfl, ?_⟩) (fun _ => hC0) ?_
      rotate_left
      · intro w hSw; clear hSw; go_simp; (try with_reducible rfl)
      (try simp only [List.getElem_toArray, List.getElem_cons_succ, List.getElem_cons_zero])
      (try simp only [Act.put, List.setIfInBounds_toArray, List.set_cons_zero, List.set_cons_succ])
      refine wpTill_take (i := 4) (v := ?_) rfl (by kernel_rfl) (by kernel_rfl) (by kernel_rfl) (by kernel_rfl) (by kernel_rfl) (by kernel_rfl) (fun _ _ _ h => h) (Or.inl ⟨by rfl, ?_⟩) hC0 ?_
      rotate_left
      · intro w hSw; (try dsimp only at hSw); obtain ⟨z0, ⟨z1, z2, z3⟩, z4, z5, z6, z7, z8, z9⟩ := hSw; go_simp; (try with_reducible rfl)
      (try simp only [List.getElem_toArray, List.getElem_cons_succ, List.getElem_cons_zero])
      (try simp only [Act.put, List.setIfInBounds_toArray, List.set_cons_zero, List.set_cons_succ])
      refine wpTill_pure (i := 5) (v := ?_) rfl (by kernel_rfl) (by kernel_rfl) (by kernel_rfl) (by kernel_rfl) (fun _ _ _ h => h) (Or.inl ⟨by rfl, ?_⟩) (fun _ => hC0) ?_
      rotate_left
      · intro w hSw; clear hSw; go_simp; (try with_reducible rfl)
      (try simp only [List.getElem_toArray, List.getElem_cons_succ, List.getElem_cons_zero])
      (try simp only [Act.put, List.setIfInBounds_toArray, List.set_cons_zero, List.set_cons_succ])
      refine wpTill_pure (i := 6) (v := ?_) rfl (by kernel_rfl) (by kernel_rfl) (by kernel_rfl) (by kernel_rfl) (fun _ _ _ h => h) (Or.inl ⟨by rfl, ?_⟩) (fun _ => hC0) ?_
      rotate_left
      · intro w hSw; clear hSw; go_simp; (try with_reducible rfl)
      (try simp only [List.getElem_toArray, List.getElem_cons_succ, List.getElem_cons_zero])
      (try simp only [Act.put, List.setIfInBounds_toArray, List.set_cons_zero, List.set_cons_succ])
      refine wpTill_take (i := 7) (v := ?_) rfl (by kernel_rfl) (by kernel_rfl) (by kernel_rfl) (by kernel_rfl) (by kernel_rfl) (by kernel_rfl) (fun _ _ _ h => h) (Or.inl ⟨by rfl, ?_⟩) hC0 ?_
      rotate_left
      · intro w hSw; (try dsimp only at hSw); obtain ⟨z0, ⟨z1, z2, z3⟩, z4, z5, z6, z7, z8, z9⟩ := hSw; go_simp; (try with_reducible rfl)
      (try simp only [List.getElem_toArray, List.getElem_cons_succ, List.getElem_cons_zero])
      (try simp only [Act.put, List.setIfInBounds_toArray, List.set_cons_zero, List.set_cons_succ])
      refine wpTill_pure (i := 8) (v := ?_) rfl (by kernel_rfl) (by kernel_rfl) (by kernel_rfl) (by kernel_rfl) (fun _ _ _ h => h) (Or.inl ⟨by rfl, ?_⟩) (fun _ => hC0) ?_
      rotate_left
      · intro w hSw; clear hSw; go_simp; (try with_reducible rfl)
      (try simp only [List.getElem_toArray, List.getElem_cons_succ, List.getElem_cons_zero])
      (try simp only [Act.put, List.setIfInBounds_toArray, List.set_cons_zero, List.set_cons_succ])
      refine wpTill_take (i := 9) (v := ?_) rfl (by kernel_rfl) (by kernel_rfl) (by kernel_rfl) (by kernel_rfl) (by kernel_rfl) (by kernel_rfl) (fun _ _ _ h => h) (Or.inl ⟨by rfl, ?_⟩) hC0 ?_
      rotate_left
      · intro w hSw; (try dsimp only at hSw); obtain ⟨z0, ⟨z1, z2, z3⟩, z4, z5, z6, z7, z8, z9⟩ := hSw; go_simp; (try with_reducible rfl)
      (try simp only [List.getElem_toArray, List.getElem_cons_succ, List.getElem_cons_zero])
      (try simp only [Act.put, List.setIfInBounds_toArray, List.set_cons_zero, List.set_cons_succ])
      have b8 := alloc_below We (.cells #[.bool tx.s, .slice tx.a1 tx.n1 tx.c1, .slice tx.a2 tx.n2 tx.c2, .slice li.a n li.c, .bool tg.s, .slice tg.a1 tg.n1 tg.c1, .slice tg.a2 tg.n2 tg.c2, .slice lg.a n lg.c] 67)
      have n8 := heap_alloc_new We (.cells #[.bool tx.s, .slice tx.a1 tx.n1 tx.c1, .slice tx.a2 tx.n2 tx.c2, .slice li.a n li.c, .bool tg.s, .slice tg.a1 tg.n1 tg.c1, .slice tg.a2 tg.n2 tg.c2, .slice lg.a n lg.c] 67)
      have hC8 : (fun w' : World => w'.cell? ⟨go, 0, none⟩ = some (.slice sa ns cs) ∧ (w'.cell? ⟨gx, 0, none⟩ = some (.bool tx.s) ∧ w'.cell? ⟨gx, 1, none⟩ = some (.slice tx.a1 tx.n1 tx.c1) ∧ w'.cell? ⟨gx, 2, none⟩ = some (.slice tx.a2 tx.n2 tx.c2)) ∧ w'.cell? ⟨ba, 1, none⟩ = some (.slice (some ⟨bp, op, none⟩) n l.c) ∧ w'.cell? ⟨bp, op + i, none⟩ = some (.slice li.a n li.c) ∧ w'.cell? ⟨bn, 0, none⟩ = some (.bool tg.s) ∧ w'.cell? ⟨bn, 1, none⟩ = some (.slice tg.a1 tg.n1 tg.c1) ∧ w'.cell? ⟨bn, 2, none⟩ = some (.slice tg.a2 tg.n2 tg.c2) ∧ w'.cell? ⟨bn, 3, none⟩ = some (.slice lg.a n lg.c)) (We.alloc (.cells #[.bool tx.s, .slice tx.a1 tx.n1 tx.c1, .slice tx.a2 tx.n2 tx.c2, .slice li.a n li.c, .bool tg.s, .slice tg.a1 tg.n1 tg.c1, .slice tg.a2 tg.n2 tg.c2, .slice lg.a n lg.c] 67)) := unhide HC9 _ (below_step bd0 b8)
      refine wpTill_one (k := 10) (by kernel_rfl) rfl (fun K hK => ?_)
      (try simp only [List.getElem_toArray, List.getElem_cons_succ, List.getElem_cons_zero])
      go_simp
      refine hK.out _ _ (fun _ => hC8) ?_
      clear hK K
      (try simp only [Act.put, List.setIfInBounds_toArray, List.set_cons_zero, List.set_cons_succ])
      have T8 := (unhide HT5).keep (below_step bd0 b8)
      have M8 := heap_kept (unhide HM5) (below_step bd0 b8)
      have X8 := (unhide HX5).keep (below_step bd0 b8)
      have hX8 := X8.1
      obtain ⟨w8, hw8⟩ : ∃ W, We.alloc (.cells #[.bool tx.s, .slice tx.a1 tx.n1 tx.c1, .slice tx.a2 tx.n2 tx.c2, .slice li.a n li.c, .bool tg.s, .slice tg.a1 tg.n1 tg.c1, .slice tg.a2 tg.n2 tg.c2, .slice lg.a n lg.c] 67) = W := ⟨_, rfl⟩
      obtain ⟨g8, hg8⟩ : ∃ b, We.heap.size = b := ⟨_, rfl⟩
      rw [hw8] at n8 hC8 T8 M8 X8 hX8
      rw [hg8] at n8
      (try simp only [hw8, hg8])
      have b11 := alloc_below w8 (.cells #[.slice (some ⟨g8, 0, none⟩) 2 2] 71)
      have hbw8 : Below W5.heap.size W5 w8 := by rw [← hw8]; exact below_step bd0 b8
      have hC11 : (fun w' : World => w'.cell? ⟨go, 0, none⟩ = some (.slice sa ns cs) ∧ (w'.cell? ⟨gx, 0, none⟩ = some (.bool tx.s) ∧ w'.cell? ⟨gx, 1, none⟩ = some (.slice tx.a1 tx.n1 tx.c1) ∧ w'.cell? ⟨gx, 2, none⟩ = some (.slice tx.a2 tx.n2 tx.c2)) ∧ w'.cell? ⟨ba, 1, none⟩ = some (.slice (some ⟨bp, op, none⟩) n l.c) ∧ w'.cell? ⟨bp, op + i, none⟩ = some (.slice li.a n li.c) ∧ w'.cell? ⟨bn, 0, none⟩ = some (.bool tg.s) ∧ w'.cell? ⟨bn, 1, none⟩ = some (.slice tg.a1 tg.n1 tg.c1) ∧ w'.cell? ⟨bn, 2, none⟩ = some (.slice tg.a2 tg.n2 tg.c2) ∧ w'.cell? ⟨bn, 3, none⟩ = some (.slice lg.a n lg.c)) (w8.alloc (.cells #[.slice (some ⟨g8, 0, none⟩) 2 2] 71)) := unhide HC9 _ (below_step hbw8 b11)
      refine wpTill_one (k := 11) (by kernel_rfl) rfl (fun K hK => ?_)
      (try simp only [List.getElem_toArray, List.getElem_cons_succ, List.getElem_cons_zero])
      go_simp
      refine hK.out _ _ (fun _ => hC11) ?_
      clear hK K
      (try simp only [Act.put, List.setIfInBounds_toArray, List.set_cons_zero, List.set_cons_succ])
      have T11 := T8.keep b11
      have M11 := heap_kept M8 b11
      have N11 := heap_kept n8 b11
      have hsz11 : (w8.alloc (.cells #[.slice (some ⟨g8, 0, none⟩) 2 2] 71)).heap.size = w8.heap.size + 1 := by rw [alloc_heap, Array.size_push]
      have hlen24 : (ss.length + 1) * 24 ≤ 140737488355328 := by have := unhide HSS; omega
      have hlen63 : ss.length + 1 ≤ maxLen := by have := unhide HSS; unfold maxLen; omega
      have hX11 := heap_kept hX8 b11
      refine wpTill_one (k := 12) (by kernel_rfl) rfl (fun K hK => ?_)
      refine step_append_sl _ rfl _ _ _ rfl W9.heap.size 71 tj 24 Tryz.underlying68 (unhide HI2) (unhide HZ2) hy1 hy2 _ ss.length (sv ss) rfl T11.own T11.no ⟨w8.heap.size, 0, none⟩ 1 1 [Sl.val (some ⟨g8, 0, none⟩, 2, 2)] rfl rfl (news_sl w8 (some ⟨g8, 0, none⟩, 2, 2) _) (sv_one _) (sv_notWord _) (by decide) hlen63 hlen24 T11.bl.size (w8.heap.size + 1) hsz11 ?_
      intro g cap w4 hown4 hgrow hat hlt4 hno4
      have hB4 : Below W9.heap.size W9 w4 := Below.grown T11.bl hgrow T11.bl.size (fun k hk => (ownsSt_block T11.own k hk).1)
      have P4 := T11.push (p := (some ⟨g8, 0, none⟩, 2, 2)) ⟨g8, tx, (li.a, n, li.c), tg, (lg.a, n, lg.c), rfl, N11, unhide HAI, unhide HAG⟩ hown4 hgrow hno4 hB4
      have farT : ∀ (b : Nat) (cs : Array Value) (T : TypeId), T ≠ 71 → (w8.alloc (.cells #[.slice (some ⟨g8, 0, none⟩) 2 2] 71)).heap[b]? = some (.cells cs T) → w4.heap[b]? = some (.cells cs T) := fun b cs T hT e => by
        rw [hgrow.block b (Array.getElem?_eq_some_iff.1 e).1 (fun x => own_type T11.own x.symm hT e)]; exact e
      have M4' := farT go _ _ (by decide) M11
      have X4' := farT gx _ _ (by decide) hX11
      have hC4' : (fun w' : World => w'.cell? ⟨go, 0, none⟩ = some (.slice sa ns cs) ∧ (w'.cell? ⟨gx, 0, none⟩ = some (.bool tx.s) ∧ w'.cell? ⟨gx, 1, none⟩ = some (.slice tx.a1 tx.n1 tx.c1) ∧ w'.cell? ⟨gx, 2, none⟩ = some (.slice tx.a2 tx.n2 tx.c2)) ∧ w'.cell? ⟨ba, 1, none⟩ = some (.slice (some ⟨bp, op, none⟩) n l.c) ∧ w'.cell? ⟨bp, op + i, none⟩ = some (.slice li.a n li.c) ∧ w'.cell? ⟨bn, 0, none⟩ = some (.bool tg.s) ∧ w'.cell? ⟨bn, 1, none⟩ = some (.slice tg.a1 tg.n1 tg.c1) ∧ w'.cell? ⟨bn, 2, none⟩ = some (.slice tg.a2 tg.n2 tg.c2) ∧ w'.cell? ⟨bn, 3, none⟩ = some (.slice lg.a n lg.c)) w4 := by
        have low : ∀ (b j : Nat), b < W9.heap.size → w4.cell? ⟨b, j, none⟩ = W9.cell? ⟨b, j, none⟩ := fun b j hb => hB4.cell (p := ⟨b, j, none⟩) hb
        have q := unhide HC9L
        refine ⟨by simp [World.cell?, M4'], ⟨by simp [World.cell?, X4'], by simp [World.cell?, X4'], by simp [World.cell?, X4']⟩, ?_, ?_, ?_, ?_, ?_, ?_⟩
        · rw [low _ _ q.1]; exact q.2.2.2.1
        · rw [low _ _ q.2.1]; exact q.2.2.2.2.1
        · rw [low _ _ q.2.2.1]; exact q.2.2.2.2.2.1
        · rw [low _ _ q.2.2.1]; exact q.2.2.2.2.2.2.1
        · rw [low _ _ q.2.2.1]; exact q.2.2.2.2.2.2.2.1
        · rw [low _ _ q.2.2.1]; exact q.2.2.2.2.2.2.2.2
      refine hK.out _ _ (fun _ => hC4') ?_
      clear hK K
      (try simp only [Act.put, List.setIfInBounds_toArray, List.set_cons_zero, List.set_cons_succ])
      refine wpTill_pure (i := 13) (v := ?_) rfl (by kernel_rfl) (by kernel_rfl) (by kernel_rfl) (by kernel_rfl) (fun _ _ _ h => h) (Or.inl ⟨by rfl, ?_⟩) (fun _ => hC4') ?_
      rotate_left
      · intro w hSw; clear hSw; go_simp; (try with_reducible rfl)
      (try simp only [List.getElem_toArray, List.getElem_cons_succ, List.getElem_cons_zero])
      (try simp only [Act.put, List.setIfInBounds_toArray, List.set_cons_zero, List.set_cons_succ])
      have y0 : w4.cell? ⟨go, 0, none⟩ = some (.slice sa ns cs) := by simp [World.cell?, M4']
      have y1 : w4.frozen? ⟨go, 0, none⟩ = false := by simp [World.frozen?, M4']
      have FT := P4.touch (x := .slice (some ⟨g, 0, none⟩) (ss.length + 1) cap) M4' (unhide HGO) 0
      have FM : (w4.setCell ⟨go, 0, none⟩ (.slice (some ⟨g, 0, none⟩) (ss.length + 1) cap)).heap[go]? = some (.cells #[.slice (some ⟨g, 0, none⟩) (ss.length + 1) cap, .bool t.s, .slice t.a1 t.n1 t.c1, .slice t.a2 t.n2 t.c2] 70) := by
        rw [setCell_eq]
        simp [mapBlock, Array.getElem?_modify, M4', onCells]
      have HFT := hide FT
      have HFM := hide FM
      clear FT FM P4 hown4 hgrow hat hno4 farT hB4
      refine wpTill_one (k := 14) (by kernel_rfl) rfl (fun K hK => ?_)
      (try simp only [List.getElem_toArray, List.getElem_cons_succ, List.getElem_cons_zero])
      go_simp
      refine hK.out _ _ (fun h => absurd (h.symm.trans (by kernel_rfl)) Bool.false_ne_true) ?_
      clear hK K
      (try simp only [Act.put, List.setIfInBounds_toArray, List.set_cons_zero, List.set_cons_succ])
      refine wpTill_done (by kernel_rfl) ?_ _
      clear y0 y1 hC0 hC8 hC11 hC4' bd0 hWe b8 n8 hw8 hg8 b11 hbw8 T8 M8 X8 hX8 T11 M11 N11 hsz11 hlen24 hlen63 hX11 M4' X4' HC9 HC9L HAI HAG hlt4
      go_wp2_with fail
      exact ⟨⟨i + 1, ss ++ [(some ⟨g8, 0, none⟩, 2, 2)], _, _, _, by go_num, hlt, by rw [List.length_append, unhide HSS]; rfl, unhide HFT, unhide HFM⟩, by simp [intOf]; omega⟩
    · obtain rfl : i = n := by omega
      have e1 : ¬ (i : Int) < (i : Int) := by omega
      have hST := hT.states (by rw [hss, agK_length, unhide HK]) (fun j hj => by rw [agK_length] at hj; rw [agK_get hj]; rfl)
      have hbS : ns = i ∧ True := ⟨by obtain ⟨_, _, e, _⟩ := hST; injection e with _ e; rw [e, agK_length, unhide HK], trivial⟩
      have hMI : ModelIs wr (.agg #[.slice sa ns cs, .bool t.s, .slice t.a1 t.n1 t.c1, .slice t.a2 t.n2 t.c2]) (agK gs P s) b := ⟨(sa, ns, cs), t, rfl, hST, unhide HRW2 wr hbT⟩
      have HBC := hide (unhide HBS wr _ hMI)
      have m0 : wr.cell? ⟨go, 0, none⟩ = some (.slice sa ns cs) := by simp [World.cell?, hM]
      have m1 : wr.cell? ⟨go, 1, none⟩ = some (.bool t.s) := by simp [World.cell?, hM]
      have m2 : wr.cell? ⟨go, 2, none⟩ = some (.slice t.a1 t.n1 t.c1) := by simp [World.cell?, hM]
      have m3 : wr.cell? ⟨go, 3, none⟩ = some (.slice t.a2 t.n2 t.c2) := by simp [World.cell?, hM]
      have HBT := hide hbT
      clear hT hM hbT hss hST hMI hbS
      go_wp2_with fail
      clear m0 m1 m2 m3
      refine (unhide HBC).mono ?_
      rintro e w5 (⟨hgm, v5, G5, x, rfl, hv5, ho5, hx5, hr5, hb5⟩ | ⟨hmc, _⟩)
      rotate_left
      · exact absurd (unhide HMC) hmc
      have HV5 := hide hv5
      rw [unhide HKL] at HV5 ⊢
      obtain ⟨av, cv, ev, _, _, v3⟩ := unhide HV5
      subst ev
      rw [row_length] at v3 HV5 ⊢
      obtain ⟨bv, ov, rfl, hbv, hcv⟩ := v3 (by omega)
      obtain ⟨ys_, yp1, yp2, yn1, yd1, yn2, yd2, yk0, yk1, yk2, yr⟩ := hcv s hsn
      obtain ⟨tv, rfl, rfl, rfl, rfl, rfl, rfl, rfl⟩ : ∃ t : Tri, ys_ = t.s ∧ yp1 = t.a1 ∧ yp2 = t.a2 ∧ yn1 = t.n1 ∧ yd1 = t.c1 ∧ yn2 = t.n2 ∧ yd2 = t.c2 := ⟨⟨ys_, yp1, yp2, yn1, yd1, yn2, yd2⟩, rfl, rfl, rfl, rfl, rfl, rfl, rfl⟩
      rw [row_get hsn] at yr
      have HB5 := hide (below_step (unhide HBT) hb5)
      have HBW5 := HB5
      have HCC : Hid (∀ W, Below w5.heap.size w5 W → (fun w' : World => (w'.cell? ⟨bw, 0, none⟩ = some (.bool t.s) ∧ w'.cell? ⟨bw, 1, none⟩ = some (.slice t.a1 t.n1 t.c1) ∧ w'.cell? ⟨bw, 2, none⟩ = some (.slice t.a2 t.n2 t.c2)) ∧ (w'.cell? ⟨bv, ov + s * 3, none⟩ = some (.bool tv.s) ∧ w'.cell? ⟨bv, ov + s * 3 + 1, none⟩ = some (.slice tv.a1 tv.n1 tv.c1) ∧ w'.cell? ⟨bv, ov + s * 3 + 2, none⟩ = some (.slice tv.a2 tv.n2 tv.c2))) W) := fun W hW => by
        refine ⟨(unhide HCA2 W (below_step (unhide HB5) hW)).2, ?_, ?_, ?_⟩
        · rw [hW.cell (p := ⟨bv, ov + s * 3, none⟩) hbv]; exact yk0
        · rw [hW.cell (p := ⟨bv, ov + s * 3 + 1, none⟩) hbv]; exact yk1
        · rw [hW.cell (p := ⟨bv, ov + s * 3 + 2, none⟩) hbv]; exact yk2
      have HTW : Hid (RatIs w5 t.val b) := unhide HRW2 w5 (unhide HB5)
      have HTV := hide yr
      have HR1 : Hid (RS ((1 : Int) : Rat) 3) := RS.mono one_RS' (by omega)
      have HRB3 := hide ((unhide HRB).mono (show 1 ≤ 3 by omega))
      have HRV : Hid (RS (x s) (XBn i + 5)) := by
        have := hr5 s
        rw [unhide HKL] at this
        exact this.mono (by omega)
      have HRS1 : Hid (RS (((1 : Int) : Rat) - b) (XBn i + 5)) := RS.mono (RS.sub' (one_RS' : RS (1 : Rat) 1) (unhide HRB)) (by omega)
      have HQ : Hid (∀ y, Git.Idx (arm gs P b) y → x s * (((1 : Int) : Rat) - b) = y s) := fun y hy =>
        Git.again_is (unhide HOK) hy (by rw [unhide HAN]; exact hsn) (W := x) (agK_best hgm hx5)
      have HRQ : Hid (RS (x s * (((1 : Int) : Rat) - b)) (XBn i + 5)) := by
        have h1 := hr5 s
        rw [unhide HKL] at h1
        exact RS.mono (h1.mul (RS.sub' (one_RS' : RS (1 : Rat) 1) (unhide HRB))) (by omega)
      have HBWx : Hid (Below W2.heap.size W2 w5) := unhide HB5
      clear hv5 ho5 hx5 hr5 hb5 hgm v3 hcv hbv yk0 yk1 yk2 yr HBC HV5
      go_wp2_with fail
      refine wp_region_till (fun w' : World => (w'.cell? ⟨bw, 0, none⟩ = some (.bool t.s) ∧ w'.cell? ⟨bw, 1, none⟩ = some (.slice t.a1 t.n1 t.c1) ∧ w'.cell? ⟨bw, 2, none⟩ = some (.slice t.a2 t.n2 t.c2)) ∧ (w'.cell? ⟨bv, ov + s * 3, none⟩ = some (.bool tv.s) ∧ w'.cell? ⟨bv, ov + s * 3 + 1, none⟩ = some (.slice tv.a1 tv.n1 tv.c1) ∧ w'.cell? ⟨bv, ov + s * 3 + 2, none⟩ = some (.slice tv.a2 tv.n2 tv.c2))) 8 (by kernel_rfl) ?_
      have bd0 : Below w5.heap.size w5 w5.drew := (Below.refl _ _).drew
      have hC0 : (fun w' : World => (w'.cell? ⟨bw, 0, none⟩ = some (.bool t.s) ∧ w'.cell? ⟨bw, 1, none⟩ = some (.slice t.a1 t.n1 t.c1) ∧ w'.cell? ⟨bw, 2, none⟩ = some (.slice t.a2 t.n2 t.c2)) ∧ (w'.cell? ⟨bv, ov + s * 3, none⟩ = some (.bool tv.s) ∧ w'.cell? ⟨bv, ov + s * 3 + 1, none⟩ = some (.slice tv.a1 tv.n1 tv.c1) ∧ w'.cell? ⟨bv, ov + s * 3 + 2, none⟩ = some (.slice tv.a2 tv.n2 tv.c2))) w5.drew := unhide HCC _ bd0
      refine wpTill_pure (i := 0) (v := ?_) rfl (by kernel_rfl) (by kernel_rfl) (by kernel_rfl) (by kernel_rfl) (fun _ _ _ h => h) (Or.inl ⟨by rfl, ?_⟩) (fun _ => hC0) ?_
      rotate_left
      · intro w hSw; clear hSw; go_simp; (try with_reducible rfl)
      (try simp only [List.getElem_toArray, List.getElem_cons_succ, List.getElem_cons_zero])
      (try simp only [Act.put, List.setIfInBounds_toArray, List.set_cons_zero, List.set_cons_succ])
      refine wpTill_pure (i := 1) (v := ?_) rfl (by kernel_rfl) (by kernel_rfl) (by kernel_rfl) (by kernel_rfl) (fun _ _ _ h => h) (Or.inl ⟨by rfl, ?_⟩) (fun _ => hC0) ?_
      rotate_left
      · intro w hSw; clear hSw; go_simp; (try with_reducible rfl)
      (try simp only [List.getElem_toArray, List.getElem_cons_succ, List.getElem_cons_zero])
      (try simp only [Act.put, List.setIfInBounds_toArray, List.set_cons_zero, List.set_cons_succ])
      refine wpTill_pure (i := 2) (v := ?_) rfl (by kernel_rfl) (by kernel_rfl) (by kernel_rfl) (by kernel_rfl) (fun _ _ _ h => h) (Or.inl ⟨by rfl, ?_⟩) (fun _ => hC0) ?_
      rotate_left
      · intro w hSw; clear hSw; go_simp; (try with_reducible rfl)
      (try simp only [List.getElem_toArray, List.getElem_cons_succ, List.getElem_cons_zero])
      (try simp only [Act.put, List.setIfInBounds_toArray, List.set_cons_zero, List.set_cons_succ])
      refine wpTill_take (i := 3) (v := ?_) rfl (by kernel_rfl) (by kernel_rfl) (by kernel_rfl) (by kernel_rfl) (by kernel_rfl) (by kernel_rfl) (fun _ _ _ h => h) (Or.inl ⟨by rfl, ?_⟩) hC0 ?_
      rotate_left
      · intro w hSw; (try dsimp only at hSw); obtain ⟨⟨z1, z2, z3⟩, z4, z5, z6⟩ := hSw; go_simp; (try with_reducible rfl)
      (try simp only [List.getElem_toArray, List.getElem_cons_succ, List.getElem_cons_zero])
      (try simp only [Act.put, List.setIfInBounds_toArray, List.set_cons_zero, List.set_cons_succ])
      refine wpTill_take (i := 5) (v := ?_) rfl (by kernel_rfl) (by kernel_rfl) (by kernel_rfl) (by kernel_rfl) (by kernel_rfl) (by kernel_rfl) (fun _ _ _ h => h) (Or.inl ⟨by rfl, ?_⟩) hC0 ?_
      rotate_left
      · intro w hSw; (try dsimp only at hSw); obtain ⟨⟨z1, z2, z3⟩, z4, z5, z6⟩ := hSw; go_simp; (try with_reducible rfl)
      (try simp only [List.getElem_toArray, List.getElem_cons_succ, List.getElem_cons_zero])
      (try simp only [Act.put, List.setIfInBounds_toArray, List.set_cons_zero, List.set_cons_succ])
      refine wpTill_one (k := 4) (by kernel_rfl) rfl (fun K hK => ?_)
      (try simp only [List.getElem_toArray, List.getElem_cons_succ, List.getElem_cons_zero])
      go_simp
      refine (whole_any 1 (by decide) (by decide) _).mono ?_
      rintro e xw_1 ⟨xv_1, rfl, hv_1, hb_1⟩
      have cc_1 := below_step bd0 hb_1
      have hC_1 : (fun w' : World => (w'.cell? ⟨bw, 0, none⟩ = some (.bool t.s) ∧ w'.cell? ⟨bw, 1, none⟩ = some (.slice t.a1 t.n1 t.c1) ∧ w'.cell? ⟨bw, 2, none⟩ = some (.slice t.a2 t.n2 t.c2)) ∧ (w'.cell? ⟨bv, ov + s * 3, none⟩ = some (.bool tv.s) ∧ w'.cell? ⟨bv, ov + s * 3 + 1, none⟩ = some (.slice tv.a1 tv.n1 tv.c1) ∧ w'.cell? ⟨bv, ov + s * 3 + 2, none⟩ = some (.slice tv.a2 tv.n2 tv.c2))) xw_1 := unhide HCC _ cc_1
      refine hK.out _ _ (fun _ => hC_1) ?_
      clear hK K
      (try simp only [Act.put, List.setIfInBounds_toArray, List.set_cons_zero, List.set_cons_succ])
      refine wpTill_one (k := 6) (by kernel_rfl) rfl (fun K hK => ?_)
      (try simp only [List.getElem_toArray, List.getElem_cons_succ, List.getElem_cons_zero])
      go_simp
      refine (subR_any _ t.val _ _ _ hv_1 ((unhide HTW).below cc_1) 3 (unhide HR1) (unhide HRB3) (by rw [KKe]; omega)).mono ?_
      rintro e xw_2 ⟨xv_2, rfl, hv_2, hb_2⟩
      have cc_2 := below_step cc_1 hb_2
      have hC_2 : (fun w' : World => (w'.cell? ⟨bw, 0, none⟩ = some (.bool t.s) ∧ w'.cell? ⟨bw, 1, none⟩ = some (.slice t.a1 t.n1 t.c1) ∧ w'.cell? ⟨bw, 2, none⟩ = some (.slice t.a2 t.n2 t.c2)) ∧ (w'.cell? ⟨bv, ov + s * 3, none⟩ = some (.bool tv.s) ∧ w'.cell? ⟨bv, ov + s * 3 + 1, none⟩ = some (.slice tv.a1 tv.n1 tv.c1) ∧ w'.cell? ⟨bv, ov + s * 3 + 2, none⟩ = some (.slice tv.a2 tv.n2 tv.c2))) xw_2 := unhide HCC _ cc_2
      refine hK.out _ _ (fun _ => hC_2) ?_
      clear hK K
      (try simp only [Act.put, List.setIfInBounds_toArray, List.set_cons_zero, List.set_cons_succ])
      refine wpTill_one (k := 7) (by kernel_rfl) rfl (fun K hK => ?_)
      (try simp only [List.getElem_toArray, List.getElem_cons_succ, List.getElem_cons_zero])
      go_simp
      refine (mulR_any tv.val _ _ _ _ ((unhide HTV).below cc_2) hv_2 (XBn i + 5) (unhide HRV) (unhide HRS1) (by have := unhide HXB; rw [KKe] at this ⊢; omega)).mono ?_
      rintro e xw_3 ⟨xv_3, rfl, hv_3, hb_3⟩
      have cc_3 := below_step cc_2 hb_3
      have hC_3 : (fun w' : World => (w'.cell? ⟨bw, 0, none⟩ = some (.bool t.s) ∧ w'.cell? ⟨bw, 1, none⟩ = some (.slice t.a1 t.n1 t.c1) ∧ w'.cell? ⟨bw, 2, none⟩ = some (.slice t.a2 t.n2 t.c2)) ∧ (w'.cell? ⟨bv, ov + s * 3, none⟩ = some (.bool tv.s) ∧ w'.cell? ⟨bv, ov + s * 3 + 1, none⟩ = some (.slice tv.a1 tv.n1 tv.c1) ∧ w'.cell? ⟨bv, ov + s * 3 + 2, none⟩ = some (.slice tv.a2 tv.n2 tv.c2))) xw_3 := unhide HCC _ cc_3
      refine hK.out _ _ (fun _ => hC_3) ?_
      clear hK K
      (try simp only [Act.put, List.setIfInBounds_toArray, List.set_cons_zero, List.set_cons_succ])
      obtain ⟨t5, rfl, r5⟩ := tri_of hv_3
      simp only [Tri.val]
      have hbw9 := below_step (unhide HBWx) cc_3
      have Y := unhide HX _ hbw9
      have ⟨l0, l1, l2⟩ := Y.free
      have ⟨y0, y1, y2⟩ := Y.cells _ (Below.refl _ _)
      have FIN := Y.set r5
      have FB := (((unhide HB _ hbw9).setCell (p := ⟨br, 0, none⟩) (unhide HG) (.bool t5.s)).setCell (p := ⟨br, 1, none⟩) (unhide HG) (.slice t5.a1 t5.n1 t5.c1)).setCell (p := ⟨br, 2, none⟩) (unhide HG) (.slice t5.a2 t5.n2 t5.c2)
      obtain ⟨Wf, hWf⟩ : ∃ W, ((xw_3.setCell ⟨br, 0, none⟩ (.bool t5.s)).setCell ⟨br, 1, none⟩ (.slice t5.a1 t5.n1 t5.c1)).setCell ⟨br, 2, none⟩ (.slice t5.a2 t5.n2 t5.c2) = W := ⟨_, rfl⟩
      rw [hWf] at FIN FB
      have HFIN := hide FIN
      have HFB := hide FB
      clear Y FIN FB
      refine wpTill_one (k := 8) (by kernel_rfl) rfl (fun K hK => ?_)
      (try simp only [List.getElem_toArray, List.getElem_cons_succ, List.getElem_cons_zero])
      go_simp
      refine hK.out _ _ (fun h => absurd (h.symm.trans (by kernel_rfl)) Bool.false_ne_true) ?_
      clear hK K
      (try simp only [Act.put, List.setIfInBounds_toArray, List.set_cons_zero, List.set_cons_succ])
      refine wpTill_one (k := 9) (by kernel_rfl) rfl (fun K hK => ?_)
      (try simp only [List.getElem_toArray, List.getElem_cons_succ, List.getElem_cons_zero])
      go_simp
      refine hK.out _ _ (fun h => absurd (h.symm.trans (by kernel_rfl)) Bool.false_ne_true) ?_
      clear hK K
      (try simp only [Act.put, List.setIfInBounds_toArray, List.set_cons_zero, List.set_cons_succ])
      refine wpTill_done (by kernel_rfl) ?_ _
      have ⟨u0, u1, u2⟩ := (unhide HFIN).cells _ (Below.refl _ _)
      clear hWf hC0 hC_1 hC_2 hC_3 cc_1 cc_2 cc_3 bd0 hb_1 hb_2 hb_3 y0 y1 y2 l0 l1 l2 HCC
      go_wp2
      (try simp only [Exit.inBlock, Exit.then])
      exact bodyPost_ret (v := .tuple #[.agg #[.bool t5.s, .slice t5.a1 t5.n1 t5.c1, .slice t5.a2 t5.n2 t5.c2], .nilIface]) (by simp [results, Tryz.results11, go_sem, u0, u1, u2]) rfl ⟨_, _, rfl, (unhide HFIN).2, unhide HQ, by rw [unhide HAN]; exact unhide HRQ, unhide HFB⟩

end Go.Proofs.YtjlohghknejjoaaGreatDoor
