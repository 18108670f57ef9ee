/- foresightkeep's farthest. -/
import Derived.Test.YtaacibgmdeoikaaGreatDoorIG
namespace Go.Proofs.YtaacibgmdeoikaaGreatDoor
open Go.RowKit Go.Sort Go.Shelf

/-- By how much two rows differ. -/
def df (qs xs : List Rat) (i : Nat) : Rat := qs[i]! - xs[i]!
theorem absq_RS {q : Rat} {J : Nat} (h : RS q J) : RS (Mdp.absq q) J := by
  unfold Mdp.absq
  by_cases c : q < 0
  · rw [if_pos c]
    have : (0 : Rat) - q = -q := by grind
    rw [this]; exact h.neg
  · rw [if_neg c]; exact h
theorem far_RS {f : Nat → Rat} {J : Nat} (hJ : 1 ≤ J) : ∀ {n : Nat}, (∀ i, i < n → RS (f i) J) → RS (Mdp.far f n) J
  | 0, _ => RS.zero.mono hJ
  | n + 1, h => by
    show RS (if Mdp.far f n < Mdp.absq (f n) then _ else _) J
    by_cases c : Mdp.far f n < Mdp.absq (f n)
    · rw [if_pos c]; exact absq_RS (h n (by omega))
    · rw [if_neg c]; exact far_RS hJ (fun i hi => h i (by omega))

set_option maxHeartbeats 16000000 in
set_option maxRecDepth 100000 in
set_option linter.unusedSimpArgs false in
theorem farthest_any (v vx : Value) (qs xs : List Rat) (JJ : Nat) (w : World) (h : LawIs w v qs) (hx : LawIs w vx xs) (hl : xs.length = qs.length) (hJ1 : 1 ≤ JJ) (hJ : 2 * (JJ + JJ + 1) + 10 ≤ KK) (hq : ∀ j, j < qs.length → RS qs[j]! JJ) (hxr : ∀ j, j < qs.length → RS xs[j]! JJ) :
    Calls Tryz.prog 17 #[v, vx] w fun e w' => ∃ v, e = .returned v ∧ RatIs w' v (Mdp.far (df qs xs) qs.length) ∧ Below w.heap.size w w' := by
  obtain ⟨a, c, rfl, h1, h2, h3⟩ := h
  obtain ⟨ax, cx, rfl, x1, x2, x3⟩ := hx
  rw [hl] at x1 x3 ⊢
  have H3 := hide h3
  have X3 := hide x3
  have HQ := hide hq
  have HXR := hide hxr
  have HK : Hid (JJ + JJ + 1 ≤ KK) := by show _ ≤ _; omega
  have HK2 : Hid ((JJ + JJ + 1) + (JJ + JJ + 1) + 1 ≤ KK) := by show _ ≤ _; omega
  have HJ1 := hide hJ1
  have hX := BoxIs.new (w := w) (t := zTri) (q := 0) (rat_zero _)
  have hb0 := alloc_below w (.cells #[.bool false, .slice none 0 0, .slice none 0 0] 33)
  obtain ⟨W0, hW0⟩ : ∃ W, w.alloc (.cells #[.bool false, .slice none 0 0, .slice none 0 0] 33) = W := ⟨_, rfl⟩
  obtain ⟨gr, hgr⟩ : ∃ g, w.heap.size = g := ⟨_, rfl⟩
  have hX' : BoxIs W0 gr zTri 0 := by rw [← hW0, ← hgr]; exact hX
  rw [hW0] at hb0
  have HX0 := hide hX'
  have HB0 := hide hb0
  have HGR : Hid (w.heap.size ≤ gr) := by show _ ≤ _; omega
  clear h3 x3 hq hxr hl hJ hJ1 hX hX' hb0
  go_enter Tryz.func17, Tryz.ntmps17
  go_wp2_with fail
  clear hW0 hgr
  refine (whole_any 0 (by decide) (by decide) W0).mono ?_
  rintro e w1 ⟨v1, rfl, hv1, hb1⟩
  obtain ⟨t1, rfl, r1⟩ := tri_of hv1
  simp only [Tri.val]
  have b1 := alloc_below w1 (.cells #[.bool t1.s, .slice t1.a1 t1.n1 t1.c1, .slice t1.a2 t1.n2 t1.c2] 33)
  have XM := BoxIs.new r1
  have XR := (unhide HX0).keep (below_step hb1 b1)
  have BW := below_step (unhide HB0) (below_step hb1 b1)
  have hgm1 : w.heap.size ≤ w1.heap.size := (below_step (unhide HB0) hb1).size
  have hne1 : gr < w1.heap.size := Nat.lt_of_lt_of_le (unhide HX0).lt hb1.size
  obtain ⟨W1, hW1⟩ : ∃ W, w1.alloc (.cells #[.bool t1.s, .slice t1.a1 t1.n1 t1.c1, .slice t1.a2 t1.n2 t1.c2] 33) = W := ⟨_, rfl⟩
  obtain ⟨gm, hgm⟩ : ∃ g, w1.heap.size = g := ⟨_, rfl⟩
  rw [hW1] at XM XR BW
  rw [hgm] at XM hgm1 hne1
  have HXM0 : Hid (BoxIs W1 gm t1 (Mdp.far (df qs xs) 0)) := XM
  have HXR0 := hide XR
  have HBW0 := hide BW
  have HGMW := hide hgm1
  have HNRM : Hid (gr ≠ gm) := by show gr ≠ gm; omega
  clear hv1 hb1 r1 b1 XM XR BW hgm1 hne1 HX0 HB0
  go_wp2_with fail
  clear hW1 hgm
  go_loopw [6] (fun vi wr => ∃ (i : Nat) (tm : Tri), vi = .int .i64 (i : Int) ∧ i ≤ qs.length ∧ BoxIs wr gm tm (Mdp.far (df qs xs) i) ∧ BoxIs wr gr zTri 0 ∧ Below w.heap.size w wr) (fun vi _ => qs.length - (intOf vi).toNat)
  case atStart => exact ⟨0, t1, rfl, Nat.zero_le _, unhide HXM0, unhide HXR0, unhide HBW0⟩
  case round =>
    obtain ⟨i, tm, rfl, hi, hM, hR, hB⟩ := hrel
    clear HXM0 HXR0 HBW0
    by_cases hlt : i < qs.length
    · have e1 : (i : Int) < (qs.length : Int) := by omega
      have e0 : (0 : Int) ≤ (i : Int) := by omega
      obtain ⟨bv, ov, rfl, hvlt, hcv⟩ := unhide X3 (by omega)
      obtain ⟨xs_, xp1, xp2, xn1, xd1, xn2, xd2, xk0, xk1, xk2, xr⟩ := hcv i hlt
      obtain ⟨tv, rfl, rfl, rfl, rfl, rfl, rfl, rfl⟩ : ∃ t : Tri, xs_ = t.s ∧ xp1 = t.a1 ∧ xp2 = t.a2 ∧ xn1 = t.n1 ∧ xd1 = t.c1 ∧ xn2 = t.n2 ∧ xd2 = t.c2 := ⟨⟨xs_, xp1, xp2, xn1, xd1, xn2, xd2⟩, rfl, rfl, rfl, rfl, rfl, rfl, rfl⟩
      obtain ⟨b, o, rfl, hblt, hcs⟩ := unhide H3 (by omega)
      obtain ⟨s', p1, p2, m1, d1, m2, d2, k0, k1, k2, rr⟩ := hcs i hlt
      obtain ⟨tx, rfl, rfl, rfl, rfl, rfl, rfl, rfl⟩ : ∃ t : Tri, s' = t.s ∧ p1 = t.a1 ∧ p2 = t.a2 ∧ m1 = t.n1 ∧ d1 = t.c1 ∧ m2 = t.n2 ∧ d2 = t.c2 := ⟨⟨s', p1, p2, m1, d1, m2, d2⟩, rfl, rfl, rfl, rfl, rfl, rfl, rfl⟩
      have HCC : Hid (∀ W, Below wr.heap.size wr W → (fun w' : World => (w'.cell? ⟨b, o + i * 3, none⟩ = some (.bool tx.s) ∧ w'.cell? ⟨b, o + i * 3 + 1, none⟩ = some (.slice tx.a1 tx.n1 tx.c1) ∧ w'.cell? ⟨b, o + i * 3 + 2, none⟩ = some (.slice tx.a2 tx.n2 tx.c2)) ∧ w'.cell? ⟨bv, ov + i * 3, none⟩ = some (.bool tv.s) ∧ w'.cell? ⟨bv, ov + i * 3 + 1, none⟩ = some (.slice tv.a1 tv.n1 tv.c1) ∧ w'.cell? ⟨bv, ov + i * 3 + 2, none⟩ = some (.slice tv.a2 tv.n2 tv.c2)) W) := fun W hW => by
        have bc := below_step hB hW
        refine ⟨?_, ?_⟩
        · rw [bc.cell (p := ⟨b, o + i * 3, none⟩) hblt, bc.cell (p := ⟨b, o + i * 3 + 1, none⟩) hblt, bc.cell (p := ⟨b, o + i * 3 + 2, none⟩) hblt]; exact ⟨k0, k1, k2⟩
        · rw [bc.cell (p := ⟨bv, ov + i * 3, none⟩) hvlt, bc.cell (p := ⟨bv, ov + i * 3 + 1, none⟩) hvlt, bc.cell (p := ⟨bv, ov + i * 3 + 2, none⟩) hvlt]; exact ⟨xk0, xk1, xk2⟩
      have HRA := hide (rr.below hB)
      have HRV := hide (xr.below hB)
      have HM := hide hM
      have HR := hide hR
      have HB := hide hB
      have hgl := hM.lt
      have hgrl := hR.lt
      have HRQ' : Hid (RS (df qs xs i) (JJ + JJ + 1)) := RS.sub' (unhide HQ i hlt) (unhide HXR i hlt)
      have HRF : Hid (RS (Mdp.far (df qs xs) i) (JJ + JJ + 1)) := far_RS (by omega) (fun j hj => RS.sub' (unhide HQ j (by omega)) (unhide HXR j (by omega)))
      have HML := hide hgl
      have HRL := hide hgrl
      clear hM hR hB hcv hcs rr xr k0 k1 k2 xk0 xk1 xk2 hgl hgrl
      go_wp2_with fail
      refine wp_region_hold (fun w' : World => (w'.cell? ⟨b, o + i * 3, none⟩ = some (.bool tx.s) ∧ w'.cell? ⟨b, o + i * 3 + 1, none⟩ = some (.slice tx.a1 tx.n1 tx.c1) ∧ w'.cell? ⟨b, o + i * 3 + 2, none⟩ = some (.slice tx.a2 tx.n2 tx.c2)) ∧ w'.cell? ⟨bv, ov + i * 3, none⟩ = some (.bool tv.s) ∧ w'.cell? ⟨bv, ov + i * 3 + 1, none⟩ = some (.slice tv.a1 tv.n1 tv.c1) ∧ w'.cell? ⟨bv, ov + i * 3 + 2, none⟩ = some (.slice tv.a2 tv.n2 tv.c2)) (by kernel_rfl) ?_
      have bd0 : Below wr.heap.size wr wr.drew := (Below.refl _ _).drew
      obtain ⟨Wx, hWx⟩ : ∃ W, wr.drew = W := ⟨_, rfl⟩
      rw [hWx] at bd0 ⊢
      have hC0 : (fun w' : World => (w'.cell? ⟨b, o + i * 3, none⟩ = some (.bool tx.s) ∧ w'.cell? ⟨b, o + i * 3 + 1, none⟩ = some (.slice tx.a1 tx.n1 tx.c1) ∧ w'.cell? ⟨b, o + i * 3 + 2, none⟩ = some (.slice tx.a2 tx.n2 tx.c2)) ∧ w'.cell? ⟨bv, ov + i * 3, none⟩ = some (.bool tv.s) ∧ w'.cell? ⟨bv, ov + i * 3 + 1, none⟩ = some (.slice tv.a1 tv.n1 tv.c1) ∧ w'.cell? ⟨bv, ov + i * 3 + 2, none⟩ = some (.slice tv.a2 tv.n2 tv.c2)) Wx := unhide HCC _ bd0
      refine wpHold_take (i := 0) (v := ?_) rfl (by kernel_rfl) (by kernel_rfl) (by kernel_rfl) (fun _ _ _ h => h) (Or.inl ⟨by rfl, ?_⟩) hC0 ?_
      rotate_left
      · intro w hSw; clear hSw; go_simp; (try with_reducible rfl)
      (try simp only [List.getElem_toArray, List.getElem_cons_succ, List.getElem_cons_zero])
      (try simp only [Act.put, List.setIfInBounds_toArray, List.set_cons_zero, List.set_cons_succ])
      refine wpHold_take (i := 1) (v := ?_) rfl (by kernel_rfl) (by kernel_rfl) (by kernel_rfl) (fun _ _ _ h => h) (Or.inl ⟨by rfl, ?_⟩) hC0 ?_
      rotate_left
      · intro w hSw; clear hSw; go_simp; (try with_reducible rfl)
      (try simp only [List.getElem_toArray, List.getElem_cons_succ, List.getElem_cons_zero])
      (try simp only [Act.put, List.setIfInBounds_toArray, List.set_cons_zero, List.set_cons_succ])
      refine wpHold_take (i := 2) (v := ?_) rfl (by kernel_rfl) (by kernel_rfl) (by kernel_rfl) (fun _ _ _ h => h) (Or.inl ⟨by rfl, ?_⟩) hC0 ?_
      rotate_left
      · intro w hSw; clear hSw; go_simp; (try with_reducible rfl)
      (try simp only [List.getElem_toArray, List.getElem_cons_succ, List.getElem_cons_zero])
      (try simp only [Act.put, List.setIfInBounds_toArray, List.set_cons_zero, List.set_cons_succ])
      refine wpHold_take (i := 3) (v := ?_) rfl (by kernel_rfl) (by kernel_rfl) (by kernel_rfl) (fun _ _ _ h => h) (Or.inl ⟨by rfl, ?_⟩) hC0 ?_
      rotate_left
      · intro w hSw; (try dsimp only at hSw); obtain ⟨⟨z0, z1, z2⟩, z3, z4, z5⟩ := hSw; go_simp; (try with_reducible rfl)
      (try simp only [List.getElem_toArray, List.getElem_cons_succ, List.getElem_cons_zero])
      (try simp only [Act.put, List.setIfInBounds_toArray, List.set_cons_zero, List.set_cons_succ])
      refine wpHold_take (i := 4) (v := ?_) rfl (by kernel_rfl) (by kernel_rfl) (by kernel_rfl) (fun _ _ _ h => h) (Or.inl ⟨by rfl, ?_⟩) hC0 ?_
      rotate_left
      · intro w hSw; clear hSw; go_simp; (try with_reducible rfl)
      (try simp only [List.getElem_toArray, List.getElem_cons_succ, List.getElem_cons_zero])
      (try simp only [Act.put, List.setIfInBounds_toArray, List.set_cons_zero, List.set_cons_succ])
      refine wpHold_take (i := 5) (v := ?_) rfl (by kernel_rfl) (by kernel_rfl) (by kernel_rfl) (fun _ _ _ h => h) (Or.inl ⟨by rfl, ?_⟩) hC0 ?_
      rotate_left
      · intro w hSw; clear hSw; go_simp; (try with_reducible rfl)
      (try simp only [List.getElem_toArray, List.getElem_cons_succ, List.getElem_cons_zero])
      (try simp only [Act.put, List.setIfInBounds_toArray, List.set_cons_zero, List.set_cons_succ])
      refine wpHold_take (i := 6) (v := ?_) rfl (by kernel_rfl) (by kernel_rfl) (by kernel_rfl) (fun _ _ _ h => h) (Or.inl ⟨by rfl, ?_⟩) hC0 ?_
      rotate_left
      · intro w hSw; clear hSw; go_simp; (try with_reducible rfl)
      (try simp only [List.getElem_toArray, List.getElem_cons_succ, List.getElem_cons_zero])
      (try simp only [Act.put, List.setIfInBounds_toArray, List.set_cons_zero, List.set_cons_succ])
      refine wpHold_take (i := 7) (v := ?_) rfl (by kernel_rfl) (by kernel_rfl) (by kernel_rfl) (fun _ _ _ h => h) (Or.inl ⟨by rfl, ?_⟩) hC0 ?_
      rotate_left
      · intro w hSw; (try dsimp only at hSw); obtain ⟨⟨z0, z1, z2⟩, z3, z4, z5⟩ := hSw; go_simp; (try with_reducible rfl)
      (try simp only [List.getElem_toArray, List.getElem_cons_succ, List.getElem_cons_zero])
      (try simp only [Act.put, List.setIfInBounds_toArray, List.set_cons_zero, List.set_cons_succ])
      refine wpHold_listed (n := 3) (L' := (fun nc nl => #[true, true, true, true, true, true, true, true, decide (1 ≤ nc), nl, false]) 0 false) (by kernel_rfl) (by kernel_rfl) ?_
      refine wpHold_name (fun a0 ha0 => ?_)
      refine chain_one_any 1 (fun nc nl => #[true, true, true, true, true, true, true, true, decide (1 ≤ nc), nl, false]) (fun _ => 8) 9 1 (fun nc nl na W => ∃ s1 s3, na = (a0.put (some 23) s1).put (some 7) s3 ∧ OneJ (qs[i]! - xs[i]!) Wx nc nl W s1 s3) ?_ ?_ ?_ (fun c => rfl) ?_ ?_ ?_ 2 0 false (by omega) (by rfl) _ _ ⟨u23, u7, by subst ha0; rfl, Below.refl _ _, fun h => absurd h (by decide), fun h => by cases h⟩
      · clear ha0
        intro nc nl hnc
        match nc, hnc with
        | 0, _ => cases nl <;> (show (_ : Bool) = _; kernel_rfl)
        | 1, _ => cases nl <;> (show (_ : Bool) = _; kernel_rfl)
      · clear ha0
        intro nc nl hnc
        match nc, hnc with
        | 0, _ => cases nl <;> (intro _; show (_ : Bool) = _; kernel_rfl)
        | 1, _ => cases nl <;> (intro h; first | (show (_ : Bool) = _; kernel_rfl) | exact absurd h (by decide))
      · clear ha0
        intro nc nl hnc
        match nc, hnc with
        | 0, _ => rfl
      · rintro nc nl na wv hnc ⟨s1, s3, rfl, J⟩
        obtain rfl : nc = 0 := by omega
        subst ha0
        refine wpOp_step rfl (fun K hK => ?_)
        (try simp only [Act.put, List.setIfInBounds_toArray, List.set_cons_zero, List.set_cons_succ] at hK ⊢)
        (try simp only [List.getElem_toArray, List.getElem_cons_succ, List.getElem_cons_zero])
        go_simp
        refine (subR_any tx.val tv.val _ _ _ ((unhide HRA).below (below_step bd0 J.bl)) ((unhide HRV).below (below_step bd0 J.bl)) JJ (unhide HQ i hlt) (unhide HXR i hlt) (unhide HK)).mono ?_
        rintro e wz ⟨v, rfl, hv, hb⟩
        exact hK _ _ ⟨unhide HCC _ (below_step bd0 (below_step J.bl hb)), v, s3, rfl, below_step J.bl hb, fun _ => hv, fun h => by
          obtain ⟨b, e1, e2, e3⟩ := J.al h
          exact ⟨b, e1, e2.keep hb, e3⟩⟩
      · rintro nc na wv ⟨s1, s3, rfl, J⟩
        subst ha0
        refine wpOp_step rfl (fun K hK => ?_)
        (try simp only [Act.put, List.setIfInBounds_toArray, List.set_cons_zero, List.set_cons_succ] at hK ⊢)
        (try simp only [List.getElem_toArray, List.getElem_cons_succ, List.getElem_cons_zero])
        go_simp
        have hb := alloc_below wv (.cells #[.bool false, .slice none 0 0, .slice none 0 0] 33)
        exact hK _ _ ⟨unhide HCC _ (below_step bd0 (below_step J.bl hb)), s1, .pointer (some ⟨wv.heap.size, 0, none⟩), rfl, below_step J.bl hb, fun h => (J.r1 h).below hb, fun _ => ⟨wv.heap.size, rfl, BoxIs.new (t := zTri) (rat_zero _), J.bl.size⟩⟩
      · rintro na wv ⟨s1, s3, rfl, J⟩
        subst ha0
        obtain ⟨gd, rfl, B10, e10⟩ := J.al rfl
        obtain ⟨td, rfl, r0⟩ := tri_of (J.r1 (by decide))
        simp only [Tri.val]
        (try simp only [Act.put, List.setIfInBounds_toArray, List.set_cons_zero, List.set_cons_succ])
        have ⟨l0, l1, l2⟩ := B10.free
        have ⟨k0, k1, k2⟩ := B10.cells _ (Below.refl _ _)
        have NB := B10.set r0
        have e10' : wr.heap.size ≤ gd := Nat.le_trans bd0.size e10
        have YB := (((below_step bd0 J.bl).setCell (p := ⟨gd, 0, none⟩) e10' (.bool td.s)).setCell (p := ⟨gd, 1, none⟩) e10' (.slice td.a1 td.n1 td.c1)).setCell (p := ⟨gd, 2, none⟩) e10' (.slice td.a2 td.n2 td.c2)
        have HG_gd := hide e10'
        have hCn : (fun w' : World => (w'.cell? ⟨b, o + i * 3, none⟩ = some (.bool tx.s) ∧ w'.cell? ⟨b, o + i * 3 + 1, none⟩ = some (.slice tx.a1 tx.n1 tx.c1) ∧ w'.cell? ⟨b, o + i * 3 + 2, none⟩ = some (.slice tx.a2 tx.n2 tx.c2)) ∧ w'.cell? ⟨bv, ov + i * 3, none⟩ = some (.bool tv.s) ∧ w'.cell? ⟨bv, ov + i * 3 + 1, none⟩ = some (.slice tv.a1 tv.n1 tv.c1) ∧ w'.cell? ⟨bv, ov + i * 3 + 2, none⟩ = some (.slice tv.a2 tv.n2 tv.c2)) _ := unhide HCC _ YB
        obtain ⟨Wgd, hWy⟩ : ∃ W, ((wv.setCell ⟨gd, 0, none⟩ (.bool td.s)).setCell ⟨gd, 1, none⟩ (.slice td.a1 td.n1 td.c1)).setCell ⟨gd, 2, none⟩ (.slice td.a2 td.n2 td.c2) = W := ⟨_, rfl⟩
        rw [hWy] at NB YB hCn
        have HX_gd := hide NB
        have HY_gd := hide YB
        clear J B10 r0 hC0 YB NB e10'
        refine wpHold_one (k := 10) (by kernel_rfl) rfl (fun K hK => ?_)
        (try simp only [List.getElem_toArray, List.getElem_cons_succ, List.getElem_cons_zero])
        go_simp
        refine hK.out _ _ hCn ?_
        clear hK K
        (try simp only [Act.put, List.setIfInBounds_toArray, List.set_cons_zero, List.set_cons_succ])
        refine wpHold_done (by kernel_rfl) ?_ _
        clear hCn l0 l1 l2 k0 k1 k2 hWy e10 bd0 hWx
        have HXM := hide ((unhide HM).keep (unhide HY_gd))
        have HXR2 := hide ((unhide HR).keep (unhide HY_gd))
        have HBW := hide (below_step (unhide HB) (unhide HY_gd))
        have HNMD : Hid (gm ≠ gd) := by show gm ≠ gd; have := unhide HG_gd; have := unhide HML; omega
        have HNRD : Hid (gr ≠ gd) := by show gr ≠ gd; have := unhide HG_gd; have := unhide HRL; omega
        have HGDW : Hid (w.heap.size ≤ gd) := Nat.le_trans (unhide HB).size (unhide HG_gd)
        have ⟨c0, c1, c2⟩ := (unhide HX_gd).cells _ (Below.refl _ _)
        have HSG := hide (sign_any td.val (qs[i]! - xs[i]!) Wgd (unhide HX_gd).2)
        obtain ⟨q, hq⟩ : ∃ q, qs[i]! - xs[i]! = q := ⟨_, rfl⟩
        rw [hq] at HSG HX_gd
        have HQQ : Hid (df qs xs i = q) := hq
        have HRQ : Hid (RS q (JJ + JJ + 1)) := by show RS q _; rw [← hq]; exact unhide HRQ'
        have HRZ : Hid (RS ((0 : Int) : Rat) (JJ + JJ + 1)) := RS.zero.mono (by omega)
        clear hq HCC HRA HRV HM HR HB HY_gd HG_gd HML HRL
        go_wp2_with fail
        refine (unhide HSG).mono ?_
        rintro e w7 ⟨rfl, hb7⟩
        have HXD := hide ((unhide HX_gd).keep hb7)
        have HXM := hide ((unhide HXM).keep hb7)
        have HXR2 := hide ((unhide HXR2).keep hb7)
        have HBW := hide (below_step (unhide HBW) hb7)
        clear hb7 c0 c1 c2 HX_gd HSG
        by_cases hneg : q < 0
        · rw [sign_neg hneg]
          have HC7 : Hid (∀ W, Below w7.heap.size w7 W → (fun w' : World => w'.cell? ⟨gd, 0, none⟩ = some (.bool td.s) ∧ w'.cell? ⟨gd, 1, none⟩ = some (.slice td.a1 td.n1 td.c1) ∧ w'.cell? ⟨gd, 2, none⟩ = some (.slice td.a2 td.n2 td.c2)) W) := fun W hW => (unhide HXD).cells W hW
          have HNG := hide hneg
          clear hneg
          go_wp2_with fail
          refine wp_region_till (fun w' : World => w'.cell? ⟨gd, 0, none⟩ = some (.bool td.s) ∧ w'.cell? ⟨gd, 1, none⟩ = some (.slice td.a1 td.n1 td.c1) ∧ w'.cell? ⟨gd, 2, none⟩ = some (.slice td.a2 td.n2 td.c2)) 3 (by kernel_rfl) ?_
          have bd0 : Below w7.heap.size w7 w7.drew := (Below.refl _ _).drew
          have hC0 : (fun w' : World => w'.cell? ⟨gd, 0, none⟩ = some (.bool td.s) ∧ w'.cell? ⟨gd, 1, none⟩ = some (.slice td.a1 td.n1 td.c1) ∧ w'.cell? ⟨gd, 2, none⟩ = some (.slice td.a2 td.n2 td.c2)) w7.drew := unhide HC7 _ bd0
          refine wpTill_take (i := 1) (v := ?_) rfl (by kernel_rfl) (by kernel_rfl) (by kernel_rfl) (by kernel_rfl) (by kernel_rfl) (by kernel_rfl) (fun _ _ _ h => h) (Or.inl ⟨by rfl, ?_⟩) hC0 ?_
          rotate_left
          · intro w hSw; (try dsimp only at hSw); obtain ⟨z0, z1, z2⟩ := hSw; go_simp; (try with_reducible rfl)
          (try simp only [List.getElem_toArray, List.getElem_cons_succ, List.getElem_cons_zero])
          (try simp only [Act.put, List.setIfInBounds_toArray, List.set_cons_zero, List.set_cons_succ])
          refine wpTill_one (k := 0) (by kernel_rfl) rfl (fun K hK => ?_)
          (try simp only [List.getElem_toArray, List.getElem_cons_succ, List.getElem_cons_zero])
          go_simp
          refine (whole_any 0 (by decide) (by decide) _).mono ?_
          rintro e xw_1 ⟨xv_1, rfl, hv_1, hb_1⟩
          have cc_1 := below_step bd0 hb_1
          have hC_1 : (fun w' : World => w'.cell? ⟨gd, 0, none⟩ = some (.bool td.s) ∧ w'.cell? ⟨gd, 1, none⟩ = some (.slice td.a1 td.n1 td.c1) ∧ w'.cell? ⟨gd, 2, none⟩ = some (.slice td.a2 td.n2 td.c2)) xw_1 := unhide HC7 _ cc_1
          refine hK.out _ _ (fun _ => hC_1) ?_
          clear hK K
          (try simp only [Act.put, List.setIfInBounds_toArray, List.set_cons_zero, List.set_cons_succ])
          refine wpTill_one (k := 2) (by kernel_rfl) rfl (fun K hK => ?_)
          (try simp only [List.getElem_toArray, List.getElem_cons_succ, List.getElem_cons_zero])
          go_simp
          refine (subR_any _ td.val _ _ _ hv_1 ((unhide HXD).2.below cc_1) (JJ + JJ + 1) (unhide HRZ) (unhide HRQ) (unhide HK2)).mono ?_
          rintro e xw_2 ⟨xv_2, rfl, hv_2, hb_2⟩
          have cc_2 := below_step cc_1 hb_2
          have hC_2 : (fun w' : World => w'.cell? ⟨gd, 0, none⟩ = some (.bool td.s) ∧ w'.cell? ⟨gd, 1, none⟩ = some (.slice td.a1 td.n1 td.c1) ∧ w'.cell? ⟨gd, 2, none⟩ = some (.slice td.a2 td.n2 td.c2)) xw_2 := unhide HC7 _ cc_2
          refine hK.out _ _ (fun _ => hC_2) ?_
          clear hK K
          (try simp only [Act.put, List.setIfInBounds_toArray, List.set_cons_zero, List.set_cons_succ])
          obtain ⟨tn, rfl, rn⟩ := tri_of hv_2
          simp only [Tri.val]
          have Y := (unhide HXD).keep cc_2
          have ⟨l0, l1, l2⟩ := Y.free
          have ⟨y0, y1, y2⟩ := Y.cells _ (Below.refl _ _)
          have FIN := Y.set rn
          have XM9 := ((unhide HXM).keep cc_2).other Y (unhide HNMD) (.bool tn.s) (.slice tn.a1 tn.n1 tn.c1) (.slice tn.a2 tn.n2 tn.c2)
          have XR9 := ((unhide HXR2).keep cc_2).other Y (unhide HNRD) (.bool tn.s) (.slice tn.a1 tn.n1 tn.c1) (.slice tn.a2 tn.n2 tn.c2)
          have FB := (((below_step (unhide HBW) cc_2).setCell (p := ⟨gd, 0, none⟩) (unhide HGDW) (.bool tn.s)).setCell (p := ⟨gd, 1, none⟩) (unhide HGDW) (.slice tn.a1 tn.n1 tn.c1)).setCell (p := ⟨gd, 2, none⟩) (unhide HGDW) (.slice tn.a2 tn.n2 tn.c2)
          obtain ⟨Wn, hWn⟩ : ∃ W, ((xw_2.setCell ⟨gd, 0, none⟩ (.bool tn.s)).setCell ⟨gd, 1, none⟩ (.slice tn.a1 tn.n1 tn.c1)).setCell ⟨gd, 2, none⟩ (.slice tn.a2 tn.n2 tn.c2) = W := ⟨_, rfl⟩
          rw [hWn] at FIN XM9 XR9 FB
          have HXE := hide FIN
          have HXME := hide XM9
          have HXRE := hide XR9
          have HBE := hide FB
          clear Y FIN XM9 XR9 FB rn hv_1 hv_2
          refine wpTill_one (k := 3) (by kernel_rfl) rfl (fun K hK => ?_)
          (try simp only [List.getElem_toArray, List.getElem_cons_succ, List.getElem_cons_zero])
          go_simp
          refine hK.out _ _ (fun h => absurd (h.symm.trans (by kernel_rfl)) Bool.false_ne_true) ?_
          clear hK K
          (try simp only [Act.put, List.setIfInBounds_toArray, List.set_cons_zero, List.set_cons_succ])
          refine wpTill_done (by kernel_rfl) ?_ _
          clear hC0 hC_1 hC_2 cc_1 cc_2 bd0 hb_1 hb_2 l0 l1 l2 y0 y1 y2 hWn HC7 HXM HXR2 HBW HXD
          have ⟨c0, c1, c2⟩ := (unhide HXE).cells _ (Below.refl _ _)
          have ⟨d0, d1, d2⟩ := (unhide HXME).cells _ (Below.refl _ _)
          have HAQ : Hid (((0 : Int) : Rat) - q = Mdp.absq (df qs xs i)) := by show _ = _; unfold Mdp.absq; rw [unhide HQQ, if_pos (unhide HNG)]; rfl
          have HRD : Hid (RS (((0 : Int) : Rat) - q) (JJ + JJ + 1)) := by show RS _ _; rw [unhide HAQ]; exact absq_RS (unhide HRQ')
          have HCM := hide (cmpR_all tn.val tm.val (((0 : Int) : Rat) - q) (Mdp.far (df qs xs) i) Wn (unhide HXE).2 (unhide HXME).2 (JJ + JJ + 1) (unhide HRD) (unhide HRF) (by have := unhide HK2; omega))
          by_cases hgt : Mdp.far (df qs xs) i < ((0 : Int) : Rat) - q
          · rw [cmpv_gt hgt] at HCM
            have HFE : Hid (Mdp.far (df qs xs) (i + 1) = ((0 : Int) : Rat) - q) := by
              show (if Mdp.far (df qs xs) i < Mdp.absq (df qs xs i) then _ else _) = _
              rw [← unhide HAQ, if_pos hgt]
            clear hgt
            go_wp2_with fail
            refine (unhide HCM).mono ?_
            rintro e w8 ⟨rfl, hb8⟩
            have Y := (unhide HXME).keep hb8
            have X8 := (unhide HXE).keep hb8
            have ⟨x0, x1, x2⟩ := X8.cells _ (Below.refl _ _)
            have ⟨l0, l1, l2⟩ := Y.free
            have ⟨y0, y1, y2⟩ := Y.cells _ (Below.refl _ _)
            have FIN := Y.set X8.2
            have XR9 := ((unhide HXRE).keep hb8).other Y (unhide HNRM) (.bool tn.s) (.slice tn.a1 tn.n1 tn.c1) (.slice tn.a2 tn.n2 tn.c2)
            have FB := (((below_step (unhide HBE) hb8).setCell (p := ⟨gm, 0, none⟩) (unhide HGMW) (.bool tn.s)).setCell (p := ⟨gm, 1, none⟩) (unhide HGMW) (.slice tn.a1 tn.n1 tn.c1)).setCell (p := ⟨gm, 2, none⟩) (unhide HGMW) (.slice tn.a2 tn.n2 tn.c2)
            obtain ⟨Wf, hWf⟩ : ∃ W, ((w8.setCell ⟨gm, 0, none⟩ (.bool tn.s)).setCell ⟨gm, 1, none⟩ (.slice tn.a1 tn.n1 tn.c1)).setCell ⟨gm, 2, none⟩ (.slice tn.a2 tn.n2 tn.c2) = W := ⟨_, rfl⟩
            rw [hWf] at FIN XR9 FB
            have HZ1 := hide FIN
            have HZ2 := hide XR9
            have HZ3 := hide FB
            clear Y X8 FIN XR9 FB hb8 c0 c1 c2 d0 d1 d2 HCM
            go_wp2_with fail
            exact ⟨⟨i + 1, _, by go_num, hlt, by rw [unhide HFE]; exact unhide HZ1, unhide HZ2, unhide HZ3⟩, by simp [intOf]; omega⟩
          · have hcl := cmpv_le (Rat.not_lt.1 hgt)
            obtain ⟨cz, hcz⟩ : ∃ z, cmpv (((0 : Int) : Rat) - q) (Mdp.far (df qs xs) i) = z := ⟨_, rfl⟩
            rw [hcz] at hcl HCM
            have hd : decide (0 < cz) = false := decide_eq_false (by omega)
            have hd2 : ¬ 0 < cz := by omega
            have HFE : Hid (Mdp.far (df qs xs) (i + 1) = Mdp.far (df qs xs) i) := by
              show (if Mdp.far (df qs xs) i < Mdp.absq (df qs xs i) then _ else _) = _
              rw [← unhide HAQ, if_neg hgt]
            clear hgt hcl hcz
            go_wp2_with fail
            refine (unhide HCM).mono ?_
            rintro e w8 ⟨rfl, hb8⟩
            have HZ1 := hide ((unhide HXME).keep hb8)
            have HZ2 := hide ((unhide HXRE).keep hb8)
            have HZ3 := hide (below_step (unhide HBE) hb8)
            clear hb8 c0 c1 c2 d0 d1 d2 HCM
            go_wp2_with fail
            exact ⟨⟨i + 1, tm, by go_num, hlt, by rw [unhide HFE]; exact unhide HZ1, unhide HZ2, unhide HZ3⟩, by simp [intOf]; omega⟩
        · have s0 := sign_nn hneg
          obtain ⟨x, hx⟩ : ∃ x, q.num.sign = x := ⟨_, rfl⟩
          rw [hx] at s0
          rw [hx]
          have hdx : decide (x < 0) = false := decide_eq_false (by omega)
          have hdx2 : ¬ x < 0 := by omega
          have HNG := hide hneg
          clear hneg hx s0
          have ⟨c0, c1, c2⟩ := (unhide HXD).cells _ (Below.refl _ _)
          have ⟨d0, d1, d2⟩ := (unhide HXM).cells _ (Below.refl _ _)
          have HAQ : Hid (q = Mdp.absq (df qs xs i)) := by show _ = _; unfold Mdp.absq; rw [unhide HQQ, if_neg (unhide HNG)]
          have HRD : Hid (RS (q) (JJ + JJ + 1)) := by show RS _ _; rw [unhide HAQ]; exact absq_RS (unhide HRQ')
          have HCM := hide (cmpR_all td.val tm.val (q) (Mdp.far (df qs xs) i) w7 (unhide HXD).2 (unhide HXM).2 (JJ + JJ + 1) (unhide HRD) (unhide HRF) (by have := unhide HK2; omega))
          by_cases hgt : Mdp.far (df qs xs) i < q
          · rw [cmpv_gt hgt] at HCM
            have HFE : Hid (Mdp.far (df qs xs) (i + 1) = q) := by
              show (if Mdp.far (df qs xs) i < Mdp.absq (df qs xs i) then _ else _) = _
              rw [← unhide HAQ, if_pos hgt]
            clear hgt
            go_wp2_with fail
            refine (unhide HCM).mono ?_
            rintro e w8 ⟨rfl, hb8⟩
            have Y := (unhide HXM).keep hb8
            have X8 := (unhide HXD).keep hb8
            have ⟨x0, x1, x2⟩ := X8.cells _ (Below.refl _ _)
            have ⟨l0, l1, l2⟩ := Y.free
            have ⟨y0, y1, y2⟩ := Y.cells _ (Below.refl _ _)
            have FIN := Y.set X8.2
            have XR9 := ((unhide HXR2).keep hb8).other Y (unhide HNRM) (.bool td.s) (.slice td.a1 td.n1 td.c1) (.slice td.a2 td.n2 td.c2)
            have FB := (((below_step (unhide HBW) hb8).setCell (p := ⟨gm, 0, none⟩) (unhide HGMW) (.bool td.s)).setCell (p := ⟨gm, 1, none⟩) (unhide HGMW) (.slice td.a1 td.n1 td.c1)).setCell (p := ⟨gm, 2, none⟩) (unhide HGMW) (.slice td.a2 td.n2 td.c2)
            obtain ⟨Wf, hWf⟩ : ∃ W, ((w8.setCell ⟨gm, 0, none⟩ (.bool td.s)).setCell ⟨gm, 1, none⟩ (.slice td.a1 td.n1 td.c1)).setCell ⟨gm, 2, none⟩ (.slice td.a2 td.n2 td.c2) = W := ⟨_, rfl⟩
            rw [hWf] at FIN XR9 FB
            have HZ1 := hide FIN
            have HZ2 := hide XR9
            have HZ3 := hide FB
            clear Y X8 FIN XR9 FB hb8 c0 c1 c2 d0 d1 d2 HCM
            go_wp2_with fail
            exact ⟨⟨i + 1, _, by go_num, hlt, by rw [unhide HFE]; exact unhide HZ1, unhide HZ2, unhide HZ3⟩, by simp [intOf]; omega⟩
          · have hcl := cmpv_le (Rat.not_lt.1 hgt)
            obtain ⟨cz, hcz⟩ : ∃ z, cmpv (q) (Mdp.far (df qs xs) i) = z := ⟨_, rfl⟩
            rw [hcz] at hcl HCM
            have hd : decide (0 < cz) = false := decide_eq_false (by omega)
            have hd2 : ¬ 0 < cz := by omega
            have HFE : Hid (Mdp.far (df qs xs) (i + 1) = Mdp.far (df qs xs) i) := by
              show (if Mdp.far (df qs xs) i < Mdp.absq (df qs xs i) then _ else _) = _
              rw [← unhide HAQ, if_neg hgt]
            clear hgt hcl hcz
            go_wp2_with fail
            refine (unhide HCM).mono ?_
            rintro e w8 ⟨rfl, hb8⟩
            have HZ1 := hide ((unhide HXM).keep hb8)
            have HZ2 := hide ((unhide HXR2).keep hb8)
            have HZ3 := hide (below_step (unhide HBW) hb8)
            clear hb8 c0 c1 c2 d0 d1 d2 HCM
            go_wp2_with fail
            exact ⟨⟨i + 1, tm, by go_num, hlt, by rw [unhide HFE]; exact unhide HZ1, unhide HZ2, unhide HZ3⟩, by simp [intOf]; omega⟩
    · obtain rfl : i = qs.length := by omega
      have e1 : ¬ (qs.length : Int) < (qs.length : Int) := by omega
      have ⟨g0, g1, g2⟩ := hM.cells _ (Below.refl _ _)
      have ⟨l0, l1, l2⟩ := hR.free
      have ⟨y0, y1, y2⟩ := hR.cells _ (Below.refl _ _)
      have FIN := hR.set hM.2
      have FB := ((hB.setCell (p := ⟨gr, 0, none⟩) (unhide HGR) (.bool tm.s)).setCell (p := ⟨gr, 1, none⟩) (unhide HGR) (.slice tm.a1 tm.n1 tm.c1)).setCell (p := ⟨gr, 2, none⟩) (unhide HGR) (.slice tm.a2 tm.n2 tm.c2)
      obtain ⟨Wf, hWf⟩ : ∃ W, ((wr.setCell ⟨gr, 0, none⟩ (.bool tm.s)).setCell ⟨gr, 1, none⟩ (.slice tm.a1 tm.n1 tm.c1)).setCell ⟨gr, 2, none⟩ (.slice tm.a2 tm.n2 tm.c2) = W := ⟨_, rfl⟩
      rw [hWf] at FIN FB
      have HFIN := hide FIN
      have HFB := hide FB
      have ⟨x0, x1', x2'⟩ := FIN.cells _ (Below.refl _ _)
      clear hM hR hB FIN FB
      go_wp2
      exact bodyPost_ret (v := .agg #[.bool tm.s, .slice tm.a1 tm.n1 tm.c1, .slice tm.a2 tm.n2 tm.c2]) (by simp [results, Tryz.results17, go_sem, x0, x1', x2']) rfl ⟨_, rfl, (unhide HFIN).2, unhide HFB⟩

end Go.Proofs.YtaacibgmdeoikaaGreatDoor
