/- seats.mean: the mean of what tickets bring. -/
import Derived.Test.YtfnbjenneodcdaaSE2
namespace Go.Proofs.Ytfnbjenneodcdaa
open Go.RowKit Go.Sort Go.Shelf

/-- What stands in the loop: the result's box, the sum, the others. -/
structure SeaI (a B : Nat → Rat) (w wr : World) (R G O i : Nat) (ts to_ : Tri) : Prop where
  xr : BoxIs wr R zTri 0
  xs : BoxIs wr G ts (Bth.ps (fun n => a n * B n) i)
  xo : BoxIs wr O to_ (1 - Bth.ps a i)
  bl : Below w.heap.size w wr
theorem SeaI.keep {a B : Nat → Rat} {w wr w' : World} {R G O i : Nat} {ts to_ : Tri} (h : SeaI a B w wr R G O i ts to_) (hb : Below wr.heap.size wr w') : SeaI a B w w' R G O i ts to_ := ⟨h.xr.keep hb, h.xs.keep hb, h.xo.keep hb, below_step h.bl hb⟩

set_option maxHeartbeats 16000000 in
set_option maxRecDepth 100000 in
set_option linter.unusedSimpArgs false in
theorem smn_any (v : Value) (qs : List Rat) (t JB : Nat) (fk : Nat) (bd : Array Value) (B : Nat → Rat) (w : World) (h : LawIs w v qs) (hq : ∀ j, j < qs.length → RS qs[j]! 1) (hl8 : qs.length ≤ 8) (ht : t ≤ 1000) (hJ : JB ≤ 10000000) (hF : ∀ j, j ≤ min t qs.length → RS (B j) JB) (heg : ∀ args w, (callFunc fk args).run Try.prog w = .ok (.enter fk args) w)
    (hc : ∀ (j : Nat), j ≤ min t qs.length → ∀ W, Below w.heap.size w W → Calls Try.prog fk (#[.int .i64 (j : Int)] ++ bd) W fun e w' => ∃ v, e = .returned v ∧ RatIs w' v (B j) ∧ Below W.heap.size W w') :
    Calls Try.prog 18 #[v, .int .i64 (t : Int), .func (.func fk) #[] bd] w fun e w' => ∃ v, e = .returned v ∧ RatIs w' v (Sea.mn (fun n => qs[n]!) qs.length t B) ∧ Below w.heap.size w w' := by
  obtain ⟨a, c, rfl, h1, h2, h3⟩ := h
  obtain ⟨K, hK⟩ : ∃ K, qs.length = K := ⟨_, rfl⟩
  have HKL := hide hK
  rw [hK] at h1 h3 hq hl8 hF hc ⊢
  obtain ⟨m, hm⟩ : ∃ m, min t K = m := ⟨_, rfl⟩
  have hmK : m ≤ K := by rw [← hm]; exact Nat.min_le_right _ _
  have hmt : m ≤ t := by rw [← hm]; exact Nat.min_le_left _ _
  have HM := hide hm
  rw [hm] at hF hc
  have hmin : (if (K : Int) < (t : Int) then (K : Int) else (t : Int)) = (m : Int) := by
    rw [← hm]
    split <;> omega
  have hmin2 : min (t : Int) (K : Int) = (m : Int) := by rw [← hm]; omega
  have H3 := hide h3
  have HQ := hide hq
  have HF := hide hF
  have HC := hide hc
  have HBN := hide (show m ≤ K ∧ K ≤ 8 ∧ t ≤ 1000 ∧ JB ≤ 10000000 from ⟨hmK, hl8, ht, hJ⟩)
  have X0 := BoxIs.new (w := w) (t := zTri) (q := 0) (rat_zero _)
  have b0 := alloc_below w (.cells #[.bool false, .slice none 0 0, .slice none 0 0] 48)
  have b1 := below_step b0 (alloc_below _ (.cells #[.bool false, .slice none 0 0, .slice none 0 0] 48))
  have X0' := X0.keep (alloc_below _ (.cells #[.bool false, .slice none 0 0, .slice none 0 0] 48))
  have X1 := BoxIs.new (w := w.alloc (.cells #[.bool false, .slice none 0 0, .slice none 0 0] 48)) (t := zTri) (q := 0) (rat_zero _)
  have e1 : (w.alloc (.cells #[.bool false, .slice none 0 0, .slice none 0 0] 48)).heap.size = w.heap.size + 1 := alloc_size _ _
  have X1' : BoxIs ((w.alloc (.cells #[.bool false, .slice none 0 0, .slice none 0 0] 48)).alloc (.cells #[.bool false, .slice none 0 0, .slice none 0 0] 48)) (w.heap.size + 1) zTri 0 := by rw [← e1]; exact X1
  have X0'' : BoxIs ((w.alloc (.cells #[.bool false, .slice none 0 0, .slice none 0 0] 48)).alloc (.cells #[.bool false, .slice none 0 0, .slice none 0 0] 48)) w.heap.size zTri 0 := X0'
  have hs1 : ((w.alloc (.cells #[.bool false, .slice none 0 0, .slice none 0 0] 48)).alloc (.cells #[.bool false, .slice none 0 0, .slice none 0 0] 48)).heap.size = w.heap.size + 1 + 1 := by rw [alloc_size, e1]
  obtain ⟨W1, hW1⟩ : ∃ W, (w.alloc (.cells #[.bool false, .slice none 0 0, .slice none 0 0] 48)).alloc (.cells #[.bool false, .slice none 0 0, .slice none 0 0] 48) = W := ⟨_, rfl⟩
  rw [hW1] at X0'' X1' b1 hs1
  obtain ⟨R, hR⟩ : ∃ R, w.heap.size = R := ⟨_, rfl⟩
  have HGR : Hid (w.heap.size ≤ R) := by show _ ≤ _; omega
  rw [hR] at X0'' X1' hs1
  obtain ⟨G, hG⟩ : ∃ G, R + 1 = G := ⟨_, rfl⟩
  have HRG : Hid (R < G) := by show _ < _; omega
  rw [hG] at X1' hs1
  have HX0 := hide X0''
  have HX1 := hide X1'
  have HB1 := hide b1
  have HS1 := hide hs1
  clear X0 X0' X1 X0'' X1' b0 b1 e1 hs1 h3 hq hF hc hm hK
  go_enter Try.func18, Try.ntmps18
  go_wp2_with fail
  clear hW1 hR hG hmin hmin2
  refine (whole_any 1 (by decide) (by decide) W1).mono ?_
  rintro e w2 ⟨v2, rfl, hv2, hb2⟩
  obtain ⟨t2, rfl, hr2⟩ := tri_of hv2
  simp only [Tri.val]
  have b2 := below_step hb2 (alloc_below w2 (.cells #[.bool t2.s, .slice t2.a1 t2.n1 t2.c1, .slice t2.a2 t2.n2 t2.c2] 48))
  have X2 := BoxIs.new hr2
  obtain ⟨W2, hW2⟩ : ∃ W, w2.alloc (.cells #[.bool t2.s, .slice t2.a1 t2.n1 t2.c1, .slice t2.a2 t2.n2 t2.c2] 48) = W := ⟨_, rfl⟩
  obtain ⟨O, hO⟩ : ∃ O, w2.heap.size = O := ⟨_, rfl⟩
  rw [hW2] at b2 X2
  rw [hO] at X2
  have HGO : Hid (G < O) := by have := unhide HS1; have := hb2.size; show _ < _; omega
  have q0 : Bth.ps (fun n => qs[n]! * B n) 0 = 0 := rfl
  have q1 : 1 - Bth.ps (fun n => qs[n]!) 0 = (((1 : Int)) : Rat) := by show (1 : Rat) - 0 = 1; grind
  have I0 : SeaI (fun n => qs[n]!) B w W2 R G O 0 zTri t2 := ⟨(unhide HX0).keep b2, by rw [q0]; exact (unhide HX1).keep b2, by rw [q1]; exact X2, below_step (unhide HB1) b2⟩
  have HI0 := hide I0
  clear hv2 hb2 hr2 b2 X2 q0 q1 I0 HX0 HX1 HB1 HS1
  have e5 : (0 : Int) ≤ (m : Int) := by omega
  have e6 : (m : Int) ≤ (c : Int) := by omega
  go_wp2_with fail
  clear hW2 hO e5 e6
  go_loopw [21] (fun vi wr => ∃ (i : Nat) (ts to_ : Tri), vi = .int .i64 i ∧ i ≤ m ∧ SeaI (fun n => qs[n]!) B w wr R G O i ts to_) (fun vi _ => m - (intOf vi).toNat)
  case atStart => exact ⟨0, zTri, t2, rfl, Nat.zero_le _, unhide HI0⟩
  case round =>
    obtain ⟨i, ts, to_, rfl, hi, T⟩ := hrel
    clear HI0
    have HT := hide T
    by_cases hlt : i < m
    · obtain ⟨b, o, rfl, hblt, hcs⟩ := unhide H3 (by omega)
      obtain ⟨xs, xp1, xp2, xn1, xd1, xn2, xd2, xk0, xk1, xk2, xr⟩ := hcs i (by omega)
      obtain ⟨tx, rfl, rfl, rfl, rfl, rfl, rfl, rfl⟩ : ∃ t : Tri, xs = t.s ∧ xp1 = t.a1 ∧ xp2 = t.a2 ∧ xn1 = t.n1 ∧ xd1 = t.c1 ∧ xn2 = t.n2 ∧ xd2 = t.c2 := ⟨⟨xs, xp1, xp2, xn1, xd1, xn2, xd2⟩, rfl, rfl, rfl, rfl, rfl, rfl, rfl⟩
      rw [← T.bl.cell (p := ⟨b, o + i * 3, none⟩) hblt] at xk0
      rw [← T.bl.cell (p := ⟨b, o + i * 3 + 1, none⟩) hblt] at xk1
      rw [← T.bl.cell (p := ⟨b, o + i * 3 + 2, none⟩) hblt] at xk2
      have rx : RatIs wr tx.val qs[i]! := xr.below T.bl
      have bX := alloc_below wr (.cells #[.bool tx.s, .slice tx.a1 tx.n1 tx.c1, .slice tx.a2 tx.n2 tx.c2] 48)
      have T5 := T.keep bX
      have X5 := BoxIs.new rx
      have hgO : wr.heap.size > O := T.xo.lt
      obtain ⟨W5, hW5⟩ : ∃ W, wr.alloc (.cells #[.bool tx.s, .slice tx.a1 tx.n1 tx.c1, .slice tx.a2 tx.n2 tx.c2] 48) = W := ⟨_, rfl⟩
      obtain ⟨gx, hgx⟩ : ∃ g, wr.heap.size = g := ⟨_, rfl⟩
      rw [hW5] at T5 X5
      rw [hgx] at X5 hgO
      have hi0 : (0 : Int) ≤ (i : Int) := by omega
      have hi1 : (i : Int) < (m : Int) := by omega
      have HT5 := hide T5
      have HX5 := hide X5
      have HOX := hide hgO
      have bd0 : Below W5.heap.size W5 W5.drew := (Below.refl _ _).drew
      have HCC : Hid (∀ W, Below W5.heap.size W5 W → (fun w' : World => (w'.cell? ⟨G, 0, none⟩ = some (.bool ts.s) ∧ w'.cell? ⟨G, 1, none⟩ = some (.slice ts.a1 ts.n1 ts.c1) ∧ w'.cell? ⟨G, 2, none⟩ = some (.slice ts.a2 ts.n2 ts.c2)) ∧ w'.cell? ⟨gx, 0, none⟩ = some (.bool tx.s) ∧ w'.cell? ⟨gx, 1, none⟩ = some (.slice tx.a1 tx.n1 tx.c1) ∧ w'.cell? ⟨gx, 2, none⟩ = some (.slice tx.a2 tx.n2 tx.c2)) W) := fun W hW => ⟨(unhide HT5).xs.cells W hW, (unhide HX5).cells W hW⟩
      have HBW : Hid (∀ W, Below W5.heap.size W5 W → Below w.heap.size w W) := fun W hW => below_step (unhide HT5).bl hW
      clear T T5 X5 xr rx hcs hgO bX HT
      go_wp2_with fail
      clear hW5 hgx xk0 xk1 xk2 bd0
      obtain ⟨g1_, g2_, g3_, g4_⟩ := unhide HBN
      have rsS := (ps_RS (a := fun n => qs[n]! * B n) (J := 1 + JB) (K := m) (fun n hn => (unhide HQ n (by omega)).mul (unhide HF n (by omega))) i (by omega))
      have m1 := Nat.mul_le_mul_right (1 + JB + 1) (show i ≤ 8 by omega)
      have HRS := hide (rsS.mono (show i * (1 + JB + 1) + 1 ≤ 9 * JB + 40 by omega))
      have rsO := ps_RS (a := fun n => qs[n]!) (J := 1) (K := m) (fun n hn => unhide HQ n (by omega)) i (by omega)
      have HRO := hide ((RS_one.sub' (rsO.mono (show i * (1 + 1) + 1 ≤ 17 by omega))).mono (show 1 + 17 + 1 ≤ 20 by omega))
      have HJK : Hid ((9 * JB + 40) + (9 * JB + 40) + 1 ≤ KK) := by show _ ≤ _; rw [KKe]; omega
      clear rsS rsO m1
      have HRB := hide (unhide HF i (by omega))
      have HRX := hide ((unhide HQ i (by omega)).mono (show 1 ≤ 20 by omega))
      clear g1_ g2_ g3_ g4_
      refine wp_region_till (fun w' : World => (w'.cell? ⟨G, 0, none⟩ = some (.bool ts.s) ∧ w'.cell? ⟨G, 1, none⟩ = some (.slice ts.a1 ts.n1 ts.c1) ∧ w'.cell? ⟨G, 2, none⟩ = some (.slice ts.a2 ts.n2 ts.c2)) ∧ w'.cell? ⟨gx, 0, none⟩ = some (.bool tx.s) ∧ w'.cell? ⟨gx, 1, none⟩ = some (.slice tx.a1 tx.n1 tx.c1) ∧ w'.cell? ⟨gx, 2, none⟩ = some (.slice tx.a2 tx.n2 tx.c2)) 7 (by kernel_rfl) ?_
      have bd0 : Below W5.heap.size W5 W5.drew := (Below.refl _ _).drew
      have hC0 : (fun w' : World => (w'.cell? ⟨G, 0, none⟩ = some (.bool ts.s) ∧ w'.cell? ⟨G, 1, none⟩ = some (.slice ts.a1 ts.n1 ts.c1) ∧ w'.cell? ⟨G, 2, none⟩ = some (.slice ts.a2 ts.n2 ts.c2)) ∧ w'.cell? ⟨gx, 0, none⟩ = some (.bool tx.s) ∧ w'.cell? ⟨gx, 1, none⟩ = some (.slice tx.a1 tx.n1 tx.c1) ∧ w'.cell? ⟨gx, 2, none⟩ = some (.slice tx.a2 tx.n2 tx.c2)) W5.drew := unhide HCC _ bd0
      refine wpTill_take (i := 0) (v := ?_) rfl (by kernel_rfl) (by kernel_rfl) (by kernel_rfl) (by kernel_rfl) (by kernel_rfl) (by kernel_rfl) (fun _ _ _ h => h) (Or.inl ⟨by rfl, ?_⟩) hC0 ?_
      rotate_left
      · intro w hSw; (try dsimp only at hSw); obtain ⟨⟨z0, z1, z2⟩, z3, z4, z5⟩ := hSw; go_simp; (try with_reducible rfl)
      (try simp only [List.getElem_toArray, List.getElem_cons_succ, List.getElem_cons_zero])
      (try simp only [Act.put, List.setIfInBounds_toArray, List.set_cons_zero, List.set_cons_succ])
      refine wpTill_take (i := 1) (v := ?_) rfl (by kernel_rfl) (by kernel_rfl) (by kernel_rfl) (by kernel_rfl) (by kernel_rfl) (by kernel_rfl) (fun _ _ _ h => h) (Or.inl ⟨by rfl, ?_⟩) hC0 ?_
      rotate_left
      · intro w hSw; (try dsimp only at hSw); obtain ⟨⟨z0, z1, z2⟩, z3, z4, z5⟩ := hSw; go_simp; (try with_reducible rfl)
      (try simp only [List.getElem_toArray, List.getElem_cons_succ, List.getElem_cons_zero])
      (try simp only [Act.put, List.setIfInBounds_toArray, List.set_cons_zero, List.set_cons_succ])
      refine wpTill_pure (i := 2) (v := ?_) rfl (by kernel_rfl) (by kernel_rfl) (by kernel_rfl) (by kernel_rfl) (fun _ _ _ h => h) (Or.inl ⟨by rfl, ?_⟩) (fun _ => hC0) ?_
      rotate_left
      · intro w hSw; clear hSw; go_simp; (try with_reducible rfl)
      (try simp only [List.getElem_toArray, List.getElem_cons_succ, List.getElem_cons_zero])
      (try simp only [Act.put, List.setIfInBounds_toArray, List.set_cons_zero, List.set_cons_succ])
      refine wpTill_pure (i := 3) (v := ?_) rfl (by kernel_rfl) (by kernel_rfl) (by kernel_rfl) (by kernel_rfl) (fun _ _ _ h => h) (Or.inl ⟨by rfl, ?_⟩) (fun _ => hC0) ?_
      rotate_left
      · intro w hSw; clear hSw; go_simp; (try with_reducible rfl)
      (try simp only [List.getElem_toArray, List.getElem_cons_succ, List.getElem_cons_zero])
      (try simp only [Act.put, List.setIfInBounds_toArray, List.set_cons_zero, List.set_cons_succ])
      refine wpTill_one (k := 4) (by kernel_rfl) rfl (fun K hK => ?_)
      (try simp only [List.getElem_toArray, List.getElem_cons_succ, List.getElem_cons_zero])
      go_simp
      refine (unhide HC i (Nat.le_of_lt hlt) _ (unhide HBW _ bd0)).mono ?_
      rintro e xw_1 ⟨xv_1, rfl, hv_1, hb_1⟩
      have cc_1 := below_step bd0 hb_1
      have hC_1 : (fun w' : World => (w'.cell? ⟨G, 0, none⟩ = some (.bool ts.s) ∧ w'.cell? ⟨G, 1, none⟩ = some (.slice ts.a1 ts.n1 ts.c1) ∧ w'.cell? ⟨G, 2, none⟩ = some (.slice ts.a2 ts.n2 ts.c2)) ∧ w'.cell? ⟨gx, 0, none⟩ = some (.bool tx.s) ∧ w'.cell? ⟨gx, 1, none⟩ = some (.slice tx.a1 tx.n1 tx.c1) ∧ w'.cell? ⟨gx, 2, none⟩ = some (.slice tx.a2 tx.n2 tx.c2)) xw_1 := unhide HCC _ cc_1
      refine hK.out _ _ (fun _ => hC_1) ?_
      clear hK K
      (try simp only [Act.put, List.setIfInBounds_toArray, List.set_cons_zero, List.set_cons_succ])
      refine wpTill_one (k := 5) (by kernel_rfl) rfl (fun K hK => ?_)
      (try simp only [List.getElem_toArray, List.getElem_cons_succ, List.getElem_cons_zero])
      go_simp
      refine (mulR_any tx.val xv_1 _ _ xw_1 ((unhide HX5).2.below cc_1) hv_1 (9 * JB + 40) ((unhide HRX).mono (by omega)) ((unhide HRB).mono (by omega)) (unhide HJK)).mono ?_
      rintro e xw_2 ⟨xv_2, rfl, hv_2, hb_2⟩
      have cc_2 := below_step cc_1 hb_2
      have hC_2 : (fun w' : World => (w'.cell? ⟨G, 0, none⟩ = some (.bool ts.s) ∧ w'.cell? ⟨G, 1, none⟩ = some (.slice ts.a1 ts.n1 ts.c1) ∧ w'.cell? ⟨G, 2, none⟩ = some (.slice ts.a2 ts.n2 ts.c2)) ∧ w'.cell? ⟨gx, 0, none⟩ = some (.bool tx.s) ∧ w'.cell? ⟨gx, 1, none⟩ = some (.slice tx.a1 tx.n1 tx.c1) ∧ w'.cell? ⟨gx, 2, none⟩ = some (.slice tx.a2 tx.n2 tx.c2)) xw_2 := unhide HCC _ cc_2
      refine hK.out _ _ (fun _ => hC_2) ?_
      clear hK K
      (try simp only [Act.put, List.setIfInBounds_toArray, List.set_cons_zero, List.set_cons_succ])
      refine wpTill_one (k := 6) (by kernel_rfl) rfl (fun K hK => ?_)
      (try simp only [List.getElem_toArray, List.getElem_cons_succ, List.getElem_cons_zero])
      go_simp
      refine (addR_any ts.val xv_2 _ _ xw_2 ((unhide HT5).xs.2.below cc_2) hv_2 (9 * JB + 40) (unhide HRS) (((unhide HQ i (by have := unhide HBN; omega)).mul (unhide HRB)).mono (by omega)) (unhide HJK)).mono ?_
      rintro e xw_3 ⟨xv_3, rfl, hv_3, hb_3⟩
      have cc_3 := below_step cc_2 hb_3
      have hC_3 : (fun w' : World => (w'.cell? ⟨G, 0, none⟩ = some (.bool ts.s) ∧ w'.cell? ⟨G, 1, none⟩ = some (.slice ts.a1 ts.n1 ts.c1) ∧ w'.cell? ⟨G, 2, none⟩ = some (.slice ts.a2 ts.n2 ts.c2)) ∧ w'.cell? ⟨gx, 0, none⟩ = some (.bool tx.s) ∧ w'.cell? ⟨gx, 1, none⟩ = some (.slice tx.a1 tx.n1 tx.c1) ∧ w'.cell? ⟨gx, 2, none⟩ = some (.slice tx.a2 tx.n2 tx.c2)) xw_3 := unhide HCC _ cc_3
      refine hK.out _ _ (fun _ => hC_3) ?_
      clear hK K
      (try simp only [Act.put, List.setIfInBounds_toArray, List.set_cons_zero, List.set_cons_succ])
      obtain ⟨t9, rfl, hr9⟩ := tri_of hv_3
      simp only [Tri.val]
      have T9 := (unhide HT5).keep cc_3
      have X9 := (unhide HX5).keep cc_3
      have ⟨l0, l1, l2⟩ := T9.xs.free
      have ⟨y0, y1, y2⟩ := T9.xs.cells _ (Below.refl _ _)
      have hGG : w.heap.size ≤ G := by have := unhide HGR; have := unhide HRG; omega
      have B9 := (((T9.bl.setCell (p := ⟨G, 0, none⟩) hGG (.bool t9.s)).setCell (p := ⟨G, 1, none⟩) hGG (.slice t9.a1 t9.n1 t9.c1)).setCell (p := ⟨G, 2, none⟩) hGG (.slice t9.a2 t9.n2 t9.c2))
      have NS := T9.xs.set hr9
      have NO := T9.xo.other T9.xs (Nat.ne_of_gt (unhide HGO)) (.bool t9.s) (.slice t9.a1 t9.n1 t9.c1) (.slice t9.a2 t9.n2 t9.c2)
      have NR := T9.xr.other T9.xs (Nat.ne_of_lt (unhide HRG)) (.bool t9.s) (.slice t9.a1 t9.n1 t9.c1) (.slice t9.a2 t9.n2 t9.c2)
      have NX := X9.other T9.xs (by have := unhide HGO; have := unhide HOX; omega) (.bool t9.s) (.slice t9.a1 t9.n1 t9.c1) (.slice t9.a2 t9.n2 t9.c2)
      obtain ⟨W6, hW6⟩ : ∃ W, ((xw_3.setCell ⟨G, 0, none⟩ (.bool t9.s)).setCell ⟨G, 1, none⟩ (.slice t9.a1 t9.n1 t9.c1)).setCell ⟨G, 2, none⟩ (.slice t9.a2 t9.n2 t9.c2) = W := ⟨_, rfl⟩
      rw [hW6] at B9 NS NO NR NX
      have HXS6 := hide NS
      have HXO6 := hide NO
      have HXR6 := hide NR
      have HXX6 := hide NX
      have HB6 := hide B9
      clear T9 X9 B9 NS NO NR NX hv_3 hr9 hGG
      refine wpTill_one (k := 7) (by kernel_rfl) rfl (fun K hK => ?_)
      (try simp only [List.getElem_toArray, List.getElem_cons_succ, List.getElem_cons_zero])
      go_simp
      refine hK.out _ _ (fun h => absurd (h.symm.trans (by kernel_rfl)) Bool.false_ne_true) ?_
      clear hK K
      (try simp only [Act.put, List.setIfInBounds_toArray, List.set_cons_zero, List.set_cons_succ])
      refine wpTill_done (by kernel_rfl) ?_ _
      clear hC0 bd0 hC_1 hC_2 hC_3 cc_1 cc_2 cc_3 hb_1 hb_2 hb_3 hv_1 hv_2 l0 l1 l2 y0 y1 y2 HT5 HX5 HCC HBW HRS HRB HJK
      have ⟨x0, x1, x2⟩ := (unhide HXO6).cells _ (Below.refl _ _)
      have ⟨x3, x4, x5⟩ := (unhide HXX6).cells _ (Below.refl _ _)
      go_wp2_with fail
      clear hW6 x0 x1 x2 x3 x4 x5
      refine (subR_any to_.val tx.val _ _ W6 (unhide HXO6).2 (unhide HXX6).2 20 (unhide HRO) (unhide HRX) (by rw [KKe]; omega)).mono ?_
      rintro e w8 ⟨v8, rfl, hv8, hb8⟩
      obtain ⟨t8, rfl, hr8⟩ := tri_of hv8
      simp only [Tri.val]
      have XO8 := (unhide HXO6).keep hb8
      have XS8 := (unhide HXS6).keep hb8
      have XR8 := (unhide HXR6).keep hb8
      have ⟨l0, l1, l2⟩ := XO8.free
      have ⟨y0, y1, y2⟩ := XO8.cells _ (Below.refl _ _)
      have HGO' : w.heap.size ≤ O := by have := unhide HGR; have := unhide HRG; have := unhide HGO; omega
      have FB := ((((below_step (unhide HB6) hb8).setCell (p := ⟨O, 0, none⟩) HGO' (.bool t8.s)).setCell (p := ⟨O, 1, none⟩) HGO' (.slice t8.a1 t8.n1 t8.c1)).setCell (p := ⟨O, 2, none⟩) HGO' (.slice t8.a2 t8.n2 t8.c2))
      have N1 := XO8.set hr8
      have N2 := XS8.other XO8 (Nat.ne_of_lt (unhide HGO)) (.bool t8.s) (.slice t8.a1 t8.n1 t8.c1) (.slice t8.a2 t8.n2 t8.c2)
      have N3 := XR8.other XO8 (by have := unhide HRG; have := unhide HGO; omega) (.bool t8.s) (.slice t8.a1 t8.n1 t8.c1) (.slice t8.a2 t8.n2 t8.c2)
      obtain ⟨Wf, hWf⟩ : ∃ W, ((w8.setCell ⟨O, 0, none⟩ (.bool t8.s)).setCell ⟨O, 1, none⟩ (.slice t8.a1 t8.n1 t8.c1)).setCell ⟨O, 2, none⟩ (.slice t8.a2 t8.n2 t8.c2) = W := ⟨_, rfl⟩
      rw [hWf] at FB N1 N2 N3
      have q2 : 1 - Bth.ps (fun n => qs[n]!) i - qs[i]! = 1 - Bth.ps (fun n => qs[n]!) (i + 1) := by
        show _ = 1 - (Bth.ps (fun n => qs[n]!) i + qs[i]!); grind
      rw [q2] at N1
      have FIN : SeaI (fun n => qs[n]!) B w Wf R G O (i + 1) t9 t8 := ⟨N3, N2, N1, FB⟩
      have HFIN := hide FIN
      clear FIN N1 N2 N3 FB XO8 XS8 XR8 hv8 hr8 hb8 q2 HXO6 HXX6 HXS6 HXR6 HRO HRX
      go_wp2_with fail
      exact ⟨⟨i + 1, t9, t8, by go_num, hlt, unhide HFIN⟩, by simp [intOf]; omega⟩
    · obtain rfl : i = m := by omega
      have hlt' : ¬ (i : Int) < (i : Int) := by omega
      have bd0 : Below wr.heap.size wr wr.drew := (Below.refl _ _).drew
      have HCC : Hid (∀ W, Below wr.heap.size wr W → (fun w' : World => (w'.cell? ⟨G, 0, none⟩ = some (.bool ts.s) ∧ w'.cell? ⟨G, 1, none⟩ = some (.slice ts.a1 ts.n1 ts.c1) ∧ w'.cell? ⟨G, 2, none⟩ = some (.slice ts.a2 ts.n2 ts.c2)) ∧ w'.cell? ⟨O, 0, none⟩ = some (.bool to_.s) ∧ w'.cell? ⟨O, 1, none⟩ = some (.slice to_.a1 to_.n1 to_.c1) ∧ w'.cell? ⟨O, 2, none⟩ = some (.slice to_.a2 to_.n2 to_.c2)) W) := fun W hW => ⟨(unhide HT).xs.cells W hW, (unhide HT).xo.cells W hW⟩
      have HBW : Hid (∀ W, Below wr.heap.size wr W → Below w.heap.size w W) := fun W hW => below_step (unhide HT).bl hW
      clear T bd0 hlt
      go_wp2_with fail
      obtain ⟨g1_, g2_, g3_, g4_⟩ := unhide HBN
      have rsS := (ps_RS (a := fun n => qs[n]! * B n) (J := 1 + JB) (K := i) (fun n hn => (unhide HQ n (by omega)).mul (unhide HF n (by omega))) i (by omega))
      have m1 := Nat.mul_le_mul_right (1 + JB + 1) (show i ≤ 8 by omega)
      have HRS := hide (rsS.mono (show i * (1 + JB + 1) + 1 ≤ 9 * JB + 40 by omega))
      have rsO := ps_RS (a := fun n => qs[n]!) (J := 1) (K := i) (fun n hn => unhide HQ n (by omega)) i (by omega)
      have HRO := hide ((RS_one.sub' (rsO.mono (show i * (1 + 1) + 1 ≤ 17 by omega))).mono (show 1 + 17 + 1 ≤ 20 by omega))
      have HJK : Hid ((9 * JB + 40) + (9 * JB + 40) + 1 ≤ KK) := by show _ ≤ _; rw [KKe]; omega
      clear rsS rsO m1
      have HRB := hide (unhide HF i (by omega))
      clear g1_ g2_ g3_ g4_
      refine wp_region_till (fun w' : World => (w'.cell? ⟨G, 0, none⟩ = some (.bool ts.s) ∧ w'.cell? ⟨G, 1, none⟩ = some (.slice ts.a1 ts.n1 ts.c1) ∧ w'.cell? ⟨G, 2, none⟩ = some (.slice ts.a2 ts.n2 ts.c2)) ∧ w'.cell? ⟨O, 0, none⟩ = some (.bool to_.s) ∧ w'.cell? ⟨O, 1, none⟩ = some (.slice to_.a1 to_.n1 to_.c1) ∧ w'.cell? ⟨O, 2, none⟩ = some (.slice to_.a2 to_.n2 to_.c2)) 7 (by kernel_rfl) ?_
      have bd0 : Below wr.heap.size wr wr.drew := (Below.refl _ _).drew
      have hC0 : (fun w' : World => (w'.cell? ⟨G, 0, none⟩ = some (.bool ts.s) ∧ w'.cell? ⟨G, 1, none⟩ = some (.slice ts.a1 ts.n1 ts.c1) ∧ w'.cell? ⟨G, 2, none⟩ = some (.slice ts.a2 ts.n2 ts.c2)) ∧ w'.cell? ⟨O, 0, none⟩ = some (.bool to_.s) ∧ w'.cell? ⟨O, 1, none⟩ = some (.slice to_.a1 to_.n1 to_.c1) ∧ w'.cell? ⟨O, 2, none⟩ = some (.slice to_.a2 to_.n2 to_.c2)) wr.drew := unhide HCC _ bd0
      refine wpTill_take (i := 0) (v := ?_) rfl (by kernel_rfl) (by kernel_rfl) (by kernel_rfl) (by kernel_rfl) (by kernel_rfl) (by kernel_rfl) (fun _ _ _ h => h) (Or.inl ⟨by rfl, ?_⟩) hC0 ?_
      rotate_left
      · intro w hSw; (try dsimp only at hSw); obtain ⟨⟨z0, z1, z2⟩, z3, z4, z5⟩ := hSw; go_simp; (try with_reducible rfl)
      (try simp only [List.getElem_toArray, List.getElem_cons_succ, List.getElem_cons_zero])
      (try simp only [Act.put, List.setIfInBounds_toArray, List.set_cons_zero, List.set_cons_succ])
      refine wpTill_take (i := 1) (v := ?_) rfl (by kernel_rfl) (by kernel_rfl) (by kernel_rfl) (by kernel_rfl) (by kernel_rfl) (by kernel_rfl) (fun _ _ _ h => h) (Or.inl ⟨by rfl, ?_⟩) hC0 ?_
      rotate_left
      · intro w hSw; (try dsimp only at hSw); obtain ⟨⟨z0, z1, z2⟩, z3, z4, z5⟩ := hSw; go_simp; (try with_reducible rfl)
      (try simp only [List.getElem_toArray, List.getElem_cons_succ, List.getElem_cons_zero])
      (try simp only [Act.put, List.setIfInBounds_toArray, List.set_cons_zero, List.set_cons_succ])
      refine wpTill_pure (i := 2) (v := ?_) rfl (by kernel_rfl) (by kernel_rfl) (by kernel_rfl) (by kernel_rfl) (fun _ _ _ h => h) (Or.inl ⟨by rfl, ?_⟩) (fun _ => hC0) ?_
      rotate_left
      · intro w hSw; clear hSw; go_simp; (try with_reducible rfl)
      (try simp only [List.getElem_toArray, List.getElem_cons_succ, List.getElem_cons_zero])
      (try simp only [Act.put, List.setIfInBounds_toArray, List.set_cons_zero, List.set_cons_succ])
      refine wpTill_pure (i := 3) (v := ?_) rfl (by kernel_rfl) (by kernel_rfl) (by kernel_rfl) (by kernel_rfl) (fun _ _ _ h => h) (Or.inl ⟨by rfl, ?_⟩) (fun _ => hC0) ?_
      rotate_left
      · intro w hSw; clear hSw; go_simp; (try with_reducible rfl)
      (try simp only [List.getElem_toArray, List.getElem_cons_succ, List.getElem_cons_zero])
      (try simp only [Act.put, List.setIfInBounds_toArray, List.set_cons_zero, List.set_cons_succ])
      refine wpTill_one (k := 4) (by kernel_rfl) rfl (fun K hK => ?_)
      (try simp only [List.getElem_toArray, List.getElem_cons_succ, List.getElem_cons_zero])
      go_simp
      refine (unhide HC i (Nat.le_refl _) _ (unhide HBW _ bd0)).mono ?_
      rintro e xw_1 ⟨xv_1, rfl, hv_1, hb_1⟩
      have cc_1 := below_step bd0 hb_1
      have hC_1 : (fun w' : World => (w'.cell? ⟨G, 0, none⟩ = some (.bool ts.s) ∧ w'.cell? ⟨G, 1, none⟩ = some (.slice ts.a1 ts.n1 ts.c1) ∧ w'.cell? ⟨G, 2, none⟩ = some (.slice ts.a2 ts.n2 ts.c2)) ∧ w'.cell? ⟨O, 0, none⟩ = some (.bool to_.s) ∧ w'.cell? ⟨O, 1, none⟩ = some (.slice to_.a1 to_.n1 to_.c1) ∧ w'.cell? ⟨O, 2, none⟩ = some (.slice to_.a2 to_.n2 to_.c2)) xw_1 := unhide HCC _ cc_1
      refine hK.out _ _ (fun _ => hC_1) ?_
      clear hK K
      (try simp only [Act.put, List.setIfInBounds_toArray, List.set_cons_zero, List.set_cons_succ])
      refine wpTill_one (k := 5) (by kernel_rfl) rfl (fun K hK => ?_)
      (try simp only [List.getElem_toArray, List.getElem_cons_succ, List.getElem_cons_zero])
      go_simp
      refine (mulR_any to_.val xv_1 _ _ xw_1 ((unhide HT).xo.2.below cc_1) hv_1 (9 * JB + 40) ((unhide HRO).mono (by omega)) ((unhide HRB).mono (by omega)) (unhide HJK)).mono ?_
      rintro e xw_2 ⟨xv_2, rfl, hv_2, hb_2⟩
      have cc_2 := below_step cc_1 hb_2
      have hC_2 : (fun w' : World => (w'.cell? ⟨G, 0, none⟩ = some (.bool ts.s) ∧ w'.cell? ⟨G, 1, none⟩ = some (.slice ts.a1 ts.n1 ts.c1) ∧ w'.cell? ⟨G, 2, none⟩ = some (.slice ts.a2 ts.n2 ts.c2)) ∧ w'.cell? ⟨O, 0, none⟩ = some (.bool to_.s) ∧ w'.cell? ⟨O, 1, none⟩ = some (.slice to_.a1 to_.n1 to_.c1) ∧ w'.cell? ⟨O, 2, none⟩ = some (.slice to_.a2 to_.n2 to_.c2)) xw_2 := unhide HCC _ cc_2
      refine hK.out _ _ (fun _ => hC_2) ?_
      clear hK K
      (try simp only [Act.put, List.setIfInBounds_toArray, List.set_cons_zero, List.set_cons_succ])
      refine wpTill_one (k := 6) (by kernel_rfl) rfl (fun K hK => ?_)
      (try simp only [List.getElem_toArray, List.getElem_cons_succ, List.getElem_cons_zero])
      go_simp
      refine (addR_any ts.val xv_2 _ _ xw_2 ((unhide HT).xs.2.below cc_2) hv_2 (9 * JB + 40) (unhide HRS) (((unhide HRO).mul (unhide HRB)).mono (by omega)) (unhide HJK)).mono ?_
      rintro e xw_3 ⟨xv_3, rfl, hv_3, hb_3⟩
      have cc_3 := below_step cc_2 hb_3
      have hC_3 : (fun w' : World => (w'.cell? ⟨G, 0, none⟩ = some (.bool ts.s) ∧ w'.cell? ⟨G, 1, none⟩ = some (.slice ts.a1 ts.n1 ts.c1) ∧ w'.cell? ⟨G, 2, none⟩ = some (.slice ts.a2 ts.n2 ts.c2)) ∧ w'.cell? ⟨O, 0, none⟩ = some (.bool to_.s) ∧ w'.cell? ⟨O, 1, none⟩ = some (.slice to_.a1 to_.n1 to_.c1) ∧ w'.cell? ⟨O, 2, none⟩ = some (.slice to_.a2 to_.n2 to_.c2)) xw_3 := unhide HCC _ cc_3
      refine hK.out _ _ (fun _ => hC_3) ?_
      clear hK K
      (try simp only [Act.put, List.setIfInBounds_toArray, List.set_cons_zero, List.set_cons_succ])
      obtain ⟨t9, rfl, hr9⟩ := tri_of hv_3
      simp only [Tri.val]
      have T9 := (unhide HT).keep cc_3
      have ⟨l0, l1, l2⟩ := T9.xr.free
      have ⟨y0, y1, y2⟩ := T9.xr.cells _ (Below.refl _ _)
      have B9 := (((T9.bl.setCell (p := ⟨R, 0, none⟩) (unhide HGR) (.bool t9.s)).setCell (p := ⟨R, 1, none⟩) (unhide HGR) (.slice t9.a1 t9.n1 t9.c1)).setCell (p := ⟨R, 2, none⟩) (unhide HGR) (.slice t9.a2 t9.n2 t9.c2))
      have NS := T9.xr.set hr9
      obtain ⟨W6, hW6⟩ : ∃ W, ((xw_3.setCell ⟨R, 0, none⟩ (.bool t9.s)).setCell ⟨R, 1, none⟩ (.slice t9.a1 t9.n1 t9.c1)).setCell ⟨R, 2, none⟩ (.slice t9.a2 t9.n2 t9.c2) = W := ⟨_, rfl⟩
      rw [hW6] at B9 NS
      have HFX := hide NS
      have HFB := hide B9
      clear T9 B9 NS hv_3 hr9
      refine wpTill_one (k := 7) (by kernel_rfl) rfl (fun K hK => ?_)
      (try simp only [List.getElem_toArray, List.getElem_cons_succ, List.getElem_cons_zero])
      go_simp
      refine hK.out _ _ (fun h => absurd (h.symm.trans (by kernel_rfl)) Bool.false_ne_true) ?_
      clear hK K
      (try simp only [Act.put, List.setIfInBounds_toArray, List.set_cons_zero, List.set_cons_succ])
      refine wpTill_done (by kernel_rfl) ?_ _
      clear hC0 bd0 hC_1 hC_2 hC_3 cc_1 cc_2 cc_3 hb_1 hb_2 hb_3 hv_1 hv_2 l0 l1 l2 y0 y1 y2 HT HCC HBW HRS HRB HJK HRO
      have ⟨x0, x1, x2⟩ := (unhide HFX).cells _ (Below.refl _ _)
      have hmn : Sea.mn (fun n => qs[n]!) K t B = Bth.ps (fun n => qs[n]! * B n) i + (1 - Bth.ps (fun n => qs[n]!) i) * B i := by unfold Sea.mn; rw [unhide HM]
      go_wp2
      (try simp only [Exit.inBlock, Exit.then])
      exact bodyPost_ret (v := .agg #[.bool t9.s, .slice t9.a1 t9.n1 t9.c1, .slice t9.a2 t9.n2 t9.c2]) (by simp [results, Try.results18, go_sem, x0, x1, x2]) rfl ⟨_, rfl, by rw [hmn]; exact (unhide HFX).2, unhide HFB⟩
end Go.Proofs.Ytfnbjenneodcdaa
