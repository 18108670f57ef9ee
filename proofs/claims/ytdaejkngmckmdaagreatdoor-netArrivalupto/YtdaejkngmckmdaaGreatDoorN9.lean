/- Nets: Chance. -/
import Derived.Test.YtdaejkngmckmdaaGreatDoorN8
namespace Go.Proofs.YtdaejkngmckmdaaGreatDoor
open Go.RowKit Go.Sort Go.Shelf

/-- Two fractions one behind the other, and a box. -/
structure TwoJ (q1 q2 : Rat) (w0 : World) (c : Nat) (l : Bool) (w : World) (s1 s2 s3 : Value) : Prop where
  bl : Below w0.heap.size w0 w
  r1 : 1 ≤ c → RatIs w s1 q1
  r2 : 2 ≤ c → RatIs w s2 q2
  al : l = true → ∃ b, s3 = .pointer (some ⟨b, 0, none⟩) ∧ BoxIs w b zTri 0 ∧ w0.heap.size ≤ b

/-- Whole numbers in a block. -/
def IntsAt (w : World) (b n : Nat) (p : Nat → Nat) : Prop := b < w.heap.size ∧ ∀ j, j < n → w.cell? ⟨b, j, none⟩ = some (.int .i64 ((p j : Nat) : Int))
theorem IntsAt.below {w w' : World} {b n : Nat} {p : Nat → Nat} (h : IntsAt w b n p) (hb : Below w.heap.size w w') : IntsAt w' b n p :=
  ⟨Nat.lt_of_lt_of_le h.1 hb.size, fun j hj => by rw [hb.cell (p := ⟨b, j, none⟩) h.1]; exact h.2 j hj⟩
theorem pw_RS {q : Rat} {R : Nat} (h : RS q R) : ∀ m, RS (Net.pw q m) (m * R + 1)
  | 0 => one_RS'.mono (by omega)
  | m + 1 => RS.mono ((pw_RS h m).mul h) (by rw [Nat.succ_mul]; omega)
theorem jk_RS {r : Nat → Rat} {p : Nat → Nat} {R : Nat} (h : ∀ i, RS (r i) R) (hp : ∀ i, p i ≤ 6) : ∀ k, RS (Net.jk r p k) (k * (8 * R + 8) + 1)
  | 0 => one_RS'.mono (by omega)
  | k + 1 => by
    have a := ((jk_RS h hp k).mul (one_RS'.sub' (h k))).mul (pw_RS (h k) (p k))
    refine RS.mono a ?_
    have h6 : p k * R ≤ 6 * R := Nat.mul_le_mul_right _ (hp k)
    have e : (k + 1) * (8 * R + 8) = k * (8 * R + 8) + (8 * R + 8) := Nat.succ_mul _ _
    rw [e]
    generalize k * (8 * R + 8) = z at *
    generalize p k * R = y at *
    omega
theorem jkp_RS {r : Nat → Rat} {p : Nat → Nat} {R : Nat} (h : ∀ i, RS (r i) R) (hp : ∀ i, p i ≤ 6) (k i : Nat) (hi : i ≤ 6) : RS (Net.jk r p k * (1 - r k) * Net.pw (r k) i) (k * (8 * R + 8) + 8 * R + 9) := by
  have a := ((jk_RS h hp k).mul (one_RS'.sub' (h k))).mul (pw_RS (h k) i)
  refine RS.mono a ?_
  have h6 : i * R ≤ 6 * R := Nat.mul_le_mul_right _ hi
  generalize k * (8 * R + 8) = z at *
  generalize i * R = y at *
  omega
theorem kb (k : Nat) (h : k ≤ 5) : k * (8 * (XB + 1) + 8) + 8 * (XB + 1) + 9 ≤ 300000000 := by
  match k, h with
  | 0, _ => decide
  | 1, _ => decide
  | 2, _ => decide
  | 3, _ => decide
  | 4, _ => decide
  | 5, _ => decide

set_option maxHeartbeats 8000000 in
set_option maxRecDepth 100000 in
set_option linter.unusedSimpArgs false in
theorem chance_any (v : Value) (n bp : Nat) (r : Nat → Rat) (p : Nat → Nat) (w : World) (h : LawIs w v (row r n)) (hp : IntsAt w bp n p) (hn0 : 0 < n) (hn5 : n ≤ 5) (hr0 : ∀ i, i < n → 0 ≤ r i) (hr1 : ∀ i, i < n → r i < 1) (hp6 : ∀ i, p i ≤ 6) (hR : ∀ i, RS (r i) (XB + 1)) :
    Calls Tryz.prog 12 #[v, .slice (some ⟨bp, 0, none⟩) n n] w fun e w' => ∃ v, e = .returned (.tuple #[v, .nilIface]) ∧ RatIs w' v (Net.jk r p n) ∧ Below w.heap.size w w' := by
  have KKe : KK = 1099511627776 := rfl
  have XBe : XB = 4000000 := rfl
  obtain ⟨a, c, rfl, h1, h2, h3⟩ := h
  rw [row_length] at h1 h3 ⊢
  have H3 := hide h3
  have HP := hide hp
  have HR0 := hide hr0
  have HR1 := hide hr1
  have HP6 := hide hp6
  have HR := hide hR
  have HN0 := hide hn0
  have X0 := BoxIs.new (w := w) (t := zTri) (q := 0) (rat_zero _)
  have bA := alloc_below w (.cells #[.bool false, .slice none 0 0, .slice none 0 0] 39)
  obtain ⟨W0, hW0⟩ : ∃ W, w.alloc (.cells #[.bool false, .slice none 0 0, .slice none 0 0] 39) = W := ⟨_, rfl⟩
  rw [show w.alloc (.cells #[.bool zTri.s, .slice zTri.a1 zTri.n1 zTri.c1, .slice zTri.a2 zTri.n2 zTri.c2] 39) = W0 from hW0] at X0
  obtain ⟨br, hbr⟩ : ∃ g, w.heap.size = g := ⟨_, rfl⟩
  rw [hW0] at bA
  rw [hbr] at X0
  have HX0 := hide X0
  have HB0 := hide bA
  have HGR : Hid (w.heap.size ≤ br) := by show _ ≤ _; omega
  clear h3 hp hr0 hr1 hp6 hR X0 bA hn0
  go_enter Tryz.func12, Tryz.ntmps12
  go_wp2_with fail
  refine (placesFit_any (n : Int) W0 (by omega) (by omega)).mono ?_
  rintro e w1 ⟨(⟨_, rfl⟩ | ⟨hx, rfl⟩), hb1⟩
  rotate_left
  · exact absurd ⟨by have := unhide HN0; omega, by omega⟩ hx
  have HX1 := hide ((unhide HX0).keep hb1)
  have HB1 := hide (below_step (unhide HB0) hb1)
  clear hb1 hW0 hbr HX0 HB0
  go_wp2_with fail
  refine (whole_any 1 (by decide) (by decide) w1).mono ?_
  rintro e w2 ⟨v2, rfl, hv2, hb2⟩
  obtain ⟨t2, rfl, ht2⟩ := tri_of hv2
  simp only [Tri.val]
  have Y0 := BoxIs.new ht2
  have b2 := below_step hb2 (alloc_below w2 (.cells #[.bool t2.s, .slice t2.a1 t2.n1 t2.c1, .slice t2.a2 t2.n2 t2.c2] 39))
  have HX2 := hide ((unhide HX1).keep b2)
  have HB2 := hide (below_step (unhide HB1) b2)
  have hlt2 := Nat.lt_of_lt_of_le (unhide HX1).lt hb2.size
  have hge2 := (below_step (unhide HB1) hb2).size
  obtain ⟨W2, hW2⟩ : ∃ W, w2.alloc (.cells #[.bool t2.s, .slice t2.a1 t2.n1 t2.c1, .slice t2.a2 t2.n2 t2.c2] 39) = W := ⟨_, rfl⟩
  obtain ⟨bo, hbo⟩ : ∃ g, w2.heap.size = g := ⟨_, rfl⟩
  rw [hW2] at Y0 HX2 HB2
  rw [hbo] at Y0 hlt2 hge2
  have HY2 := hide Y0
  have HRO := hide (Nat.ne_of_lt hlt2)
  have HGO := hide hge2
  clear hv2 ht2 hb2 b2 Y0 hlt2 hge2 HX1 HB1
  go_wp2_with fail
  clear hW2 hbo
  go_loopw [26] (fun vi wr => ∃ (k : Nat) (t : Tri), vi = .int .i64 (k : Int) ∧ k ≤ n ∧ BoxIs wr bo t (Net.jk r p k) ∧ BoxIs wr br zTri 0 ∧ Below w.heap.size w wr) (fun vi _ => n - (intOf vi).toNat)
  case atStart => exact ⟨0, _, rfl, Nat.zero_le _, unhide HY2, unhide HX2, unhide HB2⟩
  case round =>
    obtain ⟨k, t, rfl, hk, hO, hX, hb⟩ := hrel
    clear HY2 HX2 HB2
    by_cases hlt : k < n
    · have e1 : (k : Int) < (n : Int) := by omega
      have e0 : (0 : Int) ≤ (k : Int) := by omega
      obtain ⟨b, o, rfl, hblt, hcs⟩ := unhide H3 (by omega)
      obtain ⟨xs, xp1, xp2, xn1, xd1, xn2, xd2, xk0, xk1, xk2, xr⟩ := hcs k hlt
      obtain ⟨tx, rfl, rfl, rfl, rfl, rfl, rfl, rfl⟩ : ∃ t : Tri, xs = t.s ∧ xp1 = t.a1 ∧ xp2 = t.a2 ∧ xn1 = t.n1 ∧ xd1 = t.c1 ∧ xn2 = t.n2 ∧ xd2 = t.c2 := ⟨⟨xs, xp1, xp2, xn1, xd1, xn2, xd2⟩, rfl, rfl, rfl, rfl, rfl, rfl, rfl⟩
      rw [← (hb).cell (p := ⟨b, o + k * 3, none⟩) hblt] at xk0
      rw [← (hb).cell (p := ⟨b, o + k * 3 + 1, none⟩) hblt] at xk1
      rw [← (hb).cell (p := ⟨b, o + k * 3 + 2, none⟩) hblt] at xk2
      have Y0 := BoxIs.new (t := tx) (xr.below (hb))
      have HBA := hide (alloc_below wr (.cells #[.bool tx.s, .slice tx.a1 tx.n1 tx.c1, .slice tx.a2 tx.n2 tx.c2] 39))
      obtain ⟨W2, hW2⟩ : ∃ W, wr.alloc (.cells #[.bool tx.s, .slice tx.a1 tx.n1 tx.c1, .slice tx.a2 tx.n2 tx.c2] 39) = W := ⟨_, rfl⟩
      obtain ⟨bx, hbx⟩ : ∃ g, wr.heap.size = g := ⟨_, rfl⟩
      rw [hW2] at Y0 HBA
      rw [hbx] at Y0
      have HY := hide Y0
      have ⟨c0, c1, c2⟩ := Y0.cells _ (Below.refl _ _)
      rw [row_get hlt] at Y0
      have HYY := hide Y0
      have HO2 := hide (hO.keep (unhide HBA))
      have HX2 := hide (hX.keep (unhide HBA))
      have HB2 := hide (below_step hb (unhide HBA))
      have HNO : Hid (bx ≠ bo) := by have := hO.lt; show _ ≠ _; omega
      have HNX : Hid (br ≠ bx) := by have := hX.lt; show _ ≠ _; omega
      have hpk := (unhide HP).2 k hlt
      have hp6 := unhide HP6 k
      have HPI := hide ((unhide HP).below (unhide HB2))
      clear hb hO hX Y0 HY hcs xr HBA hpk
      have HCC : Hid (∀ W, Below W2.heap.size W2 W → (fun w' : World => (w'.cell? ⟨bx, 0, none⟩ = some (.bool tx.s) ∧ w'.cell? ⟨bx, 1, none⟩ = some (.slice tx.a1 tx.n1 tx.c1) ∧ w'.cell? ⟨bx, 2, none⟩ = some (.slice tx.a2 tx.n2 tx.c2))) W) := fun W hW => (unhide HYY).cells W hW
      have HSU : Hid (∀ W v, Below W2.heap.size W2 W → RatIs W v ((1 : Int) : Rat) → Calls Tryz.prog 16 #[v, .agg #[.bool tx.s, .slice tx.a1 tx.n1 tx.c1, .slice tx.a2 tx.n2 tx.c2]] W fun e w' => ∃ v, e = .returned v ∧ RatIs w' v (1 - r k) ∧ Below W.heap.size W w') := fun W v hW hv => subR_any v tx.val _ _ W hv ((unhide HYY).2.below hW) (XB + 1) (onei_RS.mono (by omega)) (unhide HR k) (by rw [KKe]; omega)
      go_wp2_with fail
      clear hW2 hbx c0 c1 c2 xk0 xk1 xk2
      refine wp_region_hold (fun w' : World => (w'.cell? ⟨bx, 0, none⟩ = some (.bool tx.s) ∧ w'.cell? ⟨bx, 1, none⟩ = some (.slice tx.a1 tx.n1 tx.c1) ∧ w'.cell? ⟨bx, 2, none⟩ = some (.slice tx.a2 tx.n2 tx.c2))) (by kernel_rfl) ?_
      have bd0 : Below W2.heap.size W2 W2.drew := (Below.refl _ _).drew
      obtain ⟨Wx, hWx⟩ : ∃ W, W2.drew = W := ⟨_, rfl⟩
      rw [hWx] at bd0 ⊢
      have hC0 : (fun w' : World => (w'.cell? ⟨bx, 0, none⟩ = some (.bool tx.s) ∧ w'.cell? ⟨bx, 1, none⟩ = some (.slice tx.a1 tx.n1 tx.c1) ∧ w'.cell? ⟨bx, 2, none⟩ = some (.slice tx.a2 tx.n2 tx.c2))) Wx := unhide HCC _ bd0
      refine wpHold_take (i := 1) (v := ?_) rfl (by kernel_rfl) (by kernel_rfl) (by kernel_rfl) (fun _ _ _ h => h) (Or.inl ⟨by rfl, ?_⟩) hC0 ?_
      rotate_left
      · intro w hSw; (try dsimp only at hSw); obtain ⟨z0, z1, z2⟩ := hSw; go_simp; (try with_reducible rfl)
      (try simp only [List.getElem_toArray, List.getElem_cons_succ, List.getElem_cons_zero])
      (try simp only [Act.put, List.setIfInBounds_toArray, List.set_cons_zero, List.set_cons_succ])
      refine wpHold_listed (n := 4) (L' := (fun nc nl => #[decide (1 ≤ nc), true, decide (2 ≤ nc), nl, false]) 0 false) (by kernel_rfl) (by kernel_rfl) ?_
      refine wpHold_name (fun a0 ha0 => ?_)
      refine two_one_any (fun nc nl => #[decide (1 ≤ nc), true, decide (2 ≤ nc), nl, false]) 0 2 3 1 (fun nc nl na W => ∃ s1 s2 s3, na = ((a0.put (some 31) s1).put (some 33) s2).put (some 9) s3 ∧ TwoJ (((1 : Int) : Rat)) (1 - r k) Wx nc nl W s1 s2 s3) ?_ ?_ (fun l => rfl) (fun l => rfl) (fun c => rfl) ?_ ?_ ?_ ?_ 3 0 false (by omega) (by rfl) _ _ ⟨u31, u33, u9, by subst ha0; rfl, Below.refl _ _, fun h => absurd h (by decide), fun h => absurd h (by decide), fun h => by cases h⟩
      · clear ha0
        intro nc nl hnc
        match nc, hnc with
        | 0, _ => cases nl <;> (show (_ : Bool) = _; kernel_rfl)
        | 1, _ => cases nl <;> (show (_ : Bool) = _; kernel_rfl)
        | 2, _ => cases nl <;> (show (_ : Bool) = _; kernel_rfl)
      · clear ha0
        intro nc nl hnc
        match nc, hnc with
        | 0, _ => cases nl <;> (intro _; show (_ : Bool) = _; kernel_rfl)
        | 1, _ => cases nl <;> (intro _; show (_ : Bool) = _; kernel_rfl)
        | 2, _ => cases nl <;> (intro h; first | (show (_ : Bool) = _; kernel_rfl) | exact absurd h (by decide))
      · rintro nl na wv ⟨s1, s2, s3, rfl, J⟩
        subst ha0
        refine wpOp_step rfl (fun K hK => ?_)
        (try simp only [Act.put, List.setIfInBounds_toArray, List.set_cons_zero, List.set_cons_succ] at hK ⊢)
        (try simp only [List.getElem_toArray, List.getElem_cons_succ, List.getElem_cons_zero])
        go_simp
        refine (whole_any 1 (by decide) (by decide) wv).mono ?_
        rintro e wz ⟨v, rfl, hv, hb⟩
        exact hK _ _ ⟨unhide HCC _ (below_step bd0 (below_step J.bl hb)), v, s2, s3, rfl, below_step J.bl hb, fun _ => hv, fun h => absurd h (by decide), fun h => by
          obtain ⟨b, e1, e2, e3⟩ := J.al h
          exact ⟨b, e1, e2.keep hb, e3⟩⟩
      · rintro nl na wv ⟨s1, s2, s3, rfl, J⟩
        subst ha0
        refine wpOp_step rfl (fun K hK => ?_)
        (try simp only [Act.put, List.setIfInBounds_toArray, List.set_cons_zero, List.set_cons_succ] at hK ⊢)
        (try simp only [List.getElem_toArray, List.getElem_cons_succ, List.getElem_cons_zero])
        go_simp
        refine (unhide HSU wv _ (below_step bd0 J.bl) (J.r1 (by decide))).mono ?_
        rintro e wz ⟨v, rfl, hv, hb⟩
        exact hK _ _ ⟨unhide HCC _ (below_step bd0 (below_step J.bl hb)), s1, v, s3, rfl, below_step J.bl hb, fun _ => (J.r1 (by decide)).below hb, fun _ => hv, fun h => by
          obtain ⟨b, e1, e2, e3⟩ := J.al h
          exact ⟨b, e1, e2.keep hb, e3⟩⟩
      · rintro nc na wv ⟨s1, s2, s3, rfl, J⟩
        subst ha0
        refine wpOp_step rfl (fun K hK => ?_)
        (try simp only [Act.put, List.setIfInBounds_toArray, List.set_cons_zero, List.set_cons_succ] at hK ⊢)
        (try simp only [List.getElem_toArray, List.getElem_cons_succ, List.getElem_cons_zero])
        go_simp
        have hb := alloc_below wv (.cells #[.bool false, .slice none 0 0, .slice none 0 0] 39)
        exact hK _ _ ⟨unhide HCC _ (below_step bd0 (below_step J.bl hb)), s1, s2, .pointer (some ⟨wv.heap.size, 0, none⟩), rfl, below_step J.bl hb, fun h => (J.r1 h).below hb, fun h => (J.r2 h).below hb, fun _ => ⟨wv.heap.size, rfl, BoxIs.new (t := zTri) (rat_zero _), J.bl.size⟩⟩
      · rintro na wv ⟨s1, s2, s3, rfl, J⟩
        subst ha0
        obtain ⟨bf, rfl, B10, e10⟩ := J.al rfl
        obtain ⟨tf, rfl, r0⟩ := tri_of (J.r2 (by decide))
        simp only [Tri.val]
        (try simp only [Act.put, List.setIfInBounds_toArray, List.set_cons_zero, List.set_cons_succ])
        have ⟨l0, l1, l2⟩ := B10.free
        have ⟨k0, k1, k2⟩ := B10.cells _ (Below.refl _ _)
        have NB := B10.set r0
        have e10' : W2.heap.size ≤ bf := Nat.le_trans bd0.size e10
        have YB := (((below_step bd0 J.bl).setCell (p := ⟨bf, 0, none⟩) e10' (.bool tf.s)).setCell (p := ⟨bf, 1, none⟩) e10' (.slice tf.a1 tf.n1 tf.c1)).setCell (p := ⟨bf, 2, none⟩) e10' (.slice tf.a2 tf.n2 tf.c2)
        have HG_bf := hide e10'
        have hCn : (fun w' : World => (w'.cell? ⟨bx, 0, none⟩ = some (.bool tx.s) ∧ w'.cell? ⟨bx, 1, none⟩ = some (.slice tx.a1 tx.n1 tx.c1) ∧ w'.cell? ⟨bx, 2, none⟩ = some (.slice tx.a2 tx.n2 tx.c2))) _ := unhide HCC _ YB
        obtain ⟨Wbf, hWy⟩ : ∃ W, ((wv.setCell ⟨bf, 0, none⟩ (.bool tf.s)).setCell ⟨bf, 1, none⟩ (.slice tf.a1 tf.n1 tf.c1)).setCell ⟨bf, 2, none⟩ (.slice tf.a2 tf.n2 tf.c2) = W := ⟨_, rfl⟩
        rw [hWy] at NB YB hCn
        have HX_bf := hide NB
        have HY_bf := hide YB
        clear J B10 r0 hC0 YB NB e10'
        refine wpHold_one (k := 4) (by kernel_rfl) rfl (fun K hK => ?_)
        (try simp only [List.getElem_toArray, List.getElem_cons_succ, List.getElem_cons_zero])
        go_simp
        refine hK.out _ _ hCn ?_
        clear hK K
        (try simp only [Act.put, List.setIfInBounds_toArray, List.set_cons_zero, List.set_cons_succ])
        refine wpHold_done (by kernel_rfl) ?_ _
        clear hCn l0 l1 l2 k0 k1 k2 hWy e10 bd0 hWx
        have HO3 := hide ((unhide HO2).keep (unhide HY_bf))
        have HX3 := hide ((unhide HX2).keep (unhide HY_bf))
        have HL3 := hide ((unhide HYY).keep (unhide HY_bf))
        have HB3 := hide (below_step (unhide HB2) (unhide HY_bf))
        have HP3 := hide ((unhide HPI).below (unhide HY_bf))
        have HFO : Hid (bf ≠ bo) := by have a := unhide HG_bf; have b := (unhide HO2).lt; show _ ≠ _; omega
        have HFX : Hid (br ≠ bf) := by have a := unhide HG_bf; have b := (unhide HX2).lt; show _ ≠ _; omega
        have ⟨c0, c1, c2⟩ := (unhide HL3).cells _ (Below.refl _ _)
        have HS1 := hide (sign_any tx.val (r k) Wbf (unhide HL3).2)
        have s0 := sign_nn (q := r k) (by have := unhide HR0 k hlt; grind)
        have s1 := (sign_bd (r k).num).2
        obtain ⟨sx, hsx⟩ : ∃ x, (r k).num.sign = x := ⟨_, rfl⟩
        rw [hsx] at HS1 s0 s1
        clear HCC HSU HO2 HX2 HYY HB2 HPI hsx
        go_wp2_with fail
        refine (unhide HS1).mono ?_
        rintro e w3 ⟨rfl, hb3⟩
        have HO4 := hide ((unhide HO3).keep hb3)
        have HX4 := hide ((unhide HX3).keep hb3)
        have HL4 := hide ((unhide HL3).keep hb3)
        have HF4 := hide ((unhide HX_bf).keep hb3)
        have HB4 := hide (below_step (unhide HB3) hb3)
        have HP4 := hide ((unhide HP3).below hb3)
        have hpos : (0 : Rat) < 1 - r k := by have := unhide HR1 k hlt; grind
        have HS2 := hide (sign_any tf.val (1 - r k) w3 (unhide HF4).2)
        rw [sign_ps hpos] at HS2
        clear c0 c1 c2 HS1 hb3 HO3 HX3 HL3 HX_bf HB3 HP3 hpos
        have ⟨c0, c1, c2⟩ := (unhide HF4).cells _ (Below.refl _ _)
        go_wp2_with fail
        refine (unhide HS2).mono ?_
        rintro e w4 ⟨rfl, hb4⟩
        have HO5 := hide ((unhide HO4).keep hb4)
        have HX5 := hide ((unhide HX4).keep hb4)
        have HL5 := hide ((unhide HL4).keep hb4)
        have HF5 := hide ((unhide HF4).keep hb4)
        have HB5 := hide (below_step (unhide HB4) hb4)
        have HP5 := hide ((unhide HP4).below hb4)
        clear c0 c1 c2 HS2 hb4 HO4 HX4 HL4 HF4 HB4 HP4
        have ⟨c0, c1, c2⟩ := (unhide HF5).cells _ (Below.refl _ _)
        have ⟨d0, d1, d2⟩ := (unhide HO5).cells _ (Below.refl _ _)
        have cp := (unhide HP5).2 k hlt
        obtain ⟨pk, hpk⟩ : ∃ x, p k = x := ⟨_, rfl⟩
        rw [hpk] at cp hp6
        have HPK := hide hpk
        have e5 : ¬ (pk : Int) < 0 := by omega
        have e6 : ¬ (100 : Int) < (pk : Int) := by omega
        have HMU := hide (mulR_any t.val tf.val _ _ w4 (unhide HO5).2 (unhide HF5).2 300000000 ((jk_RS (unhide HR) (unhide HP6) k).mono (Nat.le_trans (by generalize k * (8 * (XB + 1) + 8) = z; omega) (kb k (by omega)))) ((one_RS'.sub' (unhide HR k)).mono (by omega)) (by rw [KKe]; omega))
        clear hpk
        go_wp2_with fail
        refine (unhide HMU).mono ?_
        rintro e w5 ⟨v5, rfl, hv5, hb5⟩
        obtain ⟨t5, rfl, ht5⟩ := tri_of hv5
        simp only [Tri.val]
        have O6 := (unhide HO5).keep hb5
        have X6 := (unhide HX5).keep hb5
        have L6 := (unhide HL5).keep hb5
        have ⟨l0, l1, l2⟩ := O6.free
        have ⟨y0, y1, y2⟩ := O6.cells _ (Below.refl _ _)
        have FO := O6.set ht5
        have FX := X6.other O6 (unhide HRO) (.bool t5.s) (.slice t5.a1 t5.n1 t5.c1) (.slice t5.a2 t5.n2 t5.c2)
        have FL := L6.other O6 (unhide HNO) (.bool t5.s) (.slice t5.a1 t5.n1 t5.c1) (.slice t5.a2 t5.n2 t5.c2)
        have FB := ((((below_step (unhide HB5) hb5).setCell (p := ⟨bo, 0, none⟩) (unhide HGO) (.bool t5.s)).setCell (p := ⟨bo, 1, none⟩) (unhide HGO) (.slice t5.a1 t5.n1 t5.c1)).setCell (p := ⟨bo, 2, none⟩) (unhide HGO) (.slice t5.a2 t5.n2 t5.c2))
        obtain ⟨W6, hW6⟩ : ∃ W, ((w5.setCell ⟨bo, 0, none⟩ (.bool t5.s)).setCell ⟨bo, 1, none⟩ (.slice t5.a1 t5.n1 t5.c1)).setCell ⟨bo, 2, none⟩ (.slice t5.a2 t5.n2 t5.c2) = W := ⟨_, rfl⟩
        rw [hW6] at FO FX FL FB
        have cp6 := ((unhide HP).below FB).2 k hlt
        rw [unhide HPK] at cp6
        have FO' : BoxIs W6 bo t5 (Net.jk r p k * (1 - r k) * Net.pw (r k) 0) := by
          show BoxIs W6 bo t5 (Net.jk r p k * (1 - r k) * 1)
          rw [Rat.mul_one]; exact FO
        have HFO6 := hide FO'
        have HFX6 := hide FX
        have HFL6 := hide FL
        have HFB6 := hide FB
        clear O6 X6 L6 FO FO' FX FL FB hv5 hb5 ht5 HMU cp c0 c1 c2 d0 d1 d2 HO5 HX5 HL5 HF5 HB5 HP5
        go_wp2_with fail
        clear hW6 l0 l1 l2 y0 y1 y2 cp6
        go_loopw [65] (fun vi wr => ∃ (i : Nat) (t : Tri), vi = .int .i64 (i : Int) ∧ i ≤ pk ∧ BoxIs wr bo t (Net.jk r p k * (1 - r k) * Net.pw (r k) i) ∧ BoxIs wr br zTri 0 ∧ BoxIs wr bx tx (r k) ∧ Below w.heap.size w wr) (fun vi _ => pk - (intOf vi).toNat)
        case atStart => exact ⟨0, _, rfl, Nat.zero_le _, unhide HFO6, unhide HFX6, unhide HFL6, unhide HFB6⟩
        case round =>
          obtain ⟨i, t, rfl, hi, hO, hX, hL, hb⟩ := hrel
          clear HFO6 HFX6 HFL6 HFB6
          by_cases hlt2 : i < pk
          · have ⟨c0, c1, c2⟩ := hO.cells _ (Below.refl _ _)
            have ⟨d0, d1, d2⟩ := hL.cells _ (Below.refl _ _)
            have e7 : (i : Int) < (pk : Int) := by omega
            have HO := hide hO
            have HX := hide hX
            have HL := hide hL
            have HB := hide hb
            have HMU := hide (mulR_any t.val tx.val _ _ wr hO.2 hL.2 300000000 ((jkp_RS (unhide HR) (unhide HP6) k i (by omega)).mono (Nat.le_trans (by generalize k * (8 * (XB + 1) + 8) = z; omega) (kb k (by omega)))) ((unhide HR k).mono (by omega)) (by rw [KKe]; omega))
            clear hO hX hL hb
            go_wp2_with fail
            refine (unhide HMU).mono ?_
            rintro e w5 ⟨v5, rfl, hv5, hb5⟩
            obtain ⟨t5, rfl, ht5⟩ := tri_of hv5
            simp only [Tri.val]
            have O6 := (unhide HO).keep hb5
            have X6 := (unhide HX).keep hb5
            have L6 := (unhide HL).keep hb5
            have ⟨l0, l1, l2⟩ := O6.free
            have ⟨y0, y1, y2⟩ := O6.cells _ (Below.refl _ _)
            have FO := O6.set ht5
            have FX := X6.other O6 (unhide HRO) (.bool t5.s) (.slice t5.a1 t5.n1 t5.c1) (.slice t5.a2 t5.n2 t5.c2)
            have FL := L6.other O6 (unhide HNO) (.bool t5.s) (.slice t5.a1 t5.n1 t5.c1) (.slice t5.a2 t5.n2 t5.c2)
            have FB := ((((below_step (unhide HB) hb5).setCell (p := ⟨bo, 0, none⟩) (unhide HGO) (.bool t5.s)).setCell (p := ⟨bo, 1, none⟩) (unhide HGO) (.slice t5.a1 t5.n1 t5.c1)).setCell (p := ⟨bo, 2, none⟩) (unhide HGO) (.slice t5.a2 t5.n2 t5.c2))
            obtain ⟨W6, hW6⟩ : ∃ W, ((w5.setCell ⟨bo, 0, none⟩ (.bool t5.s)).setCell ⟨bo, 1, none⟩ (.slice t5.a1 t5.n1 t5.c1)).setCell ⟨bo, 2, none⟩ (.slice t5.a2 t5.n2 t5.c2) = W := ⟨_, rfl⟩
            rw [hW6] at FO FX FL FB
            rw [show Net.jk r p k * (1 - r k) * Net.pw (r k) i * r k = Net.jk r p k * (1 - r k) * Net.pw (r k) (i + 1) from by rw [Rat.mul_assoc]; rfl] at FO
            have HFO6 := hide FO
            have HFX6 := hide FX
            have HFL6 := hide FL
            have HFB6 := hide FB
            clear O6 X6 L6 FO FX FL FB hv5 hb5 ht5 HMU c0 c1 c2 d0 d1 d2 HO HX HL HB
            go_wp2_with fail
            exact ⟨⟨i + 1, t5, by go_num, hlt2, unhide HFO6, unhide HFX6, unhide HFL6, unhide HFB6⟩, by simp [intOf]; omega⟩
          · obtain rfl : i = pk := by omega
            have e7 : ¬ (i : Int) < (i : Int) := by omega
            rw [← unhide HPK] at hO
            have HO : Hid (BoxIs wr bo t (Net.jk r p (k + 1))) := hO
            have HX := hide hX
            have HB := hide hb
            clear hO hX hL hb
            go_wp2_with fail
            exact ⟨⟨k + 1, t, by go_num, hlt, unhide HO, unhide HX, unhide HB⟩, by simp [intOf]; omega⟩
    · obtain rfl : k = n := by omega
      have e1 : ¬ (k : Int) < (k : Int) := by omega
      have ⟨y0, y1, y2⟩ := hO.cells _ (Below.refl _ _)
      have ⟨l0, l1, l2⟩ := hX.free
      have ⟨x0, x1, x2⟩ := hX.cells _ (Below.refl _ _)
      have FX := hX.set hO.2
      have FB := ((((hb).setCell (p := ⟨br, 0, none⟩) (unhide HGR) (.bool t.s)).setCell (p := ⟨br, 1, none⟩) (unhide HGR) (.slice t.a1 t.n1 t.c1)).setCell (p := ⟨br, 2, none⟩) (unhide HGR) (.slice t.a2 t.n2 t.c2))
      obtain ⟨W9, hW9⟩ : ∃ W, ((wr.setCell ⟨br, 0, none⟩ (.bool t.s)).setCell ⟨br, 1, none⟩ (.slice t.a1 t.n1 t.c1)).setCell ⟨br, 2, none⟩ (.slice t.a2 t.n2 t.c2) = W := ⟨_, rfl⟩
      rw [hW9] at FX FB
      have ⟨z0, z1, z2⟩ := FX.cells _ (Below.refl _ _)
      have HFX := hide FX
      have HFB := hide FB
      clear hO hX hb FX FB
      go_wp2
      exact bodyPost_ret (v := .tuple #[.agg #[.bool t.s, .slice t.a1 t.n1 t.c1, .slice t.a2 t.n2 t.c2], .nilIface]) (by simp [results, Tryz.results12, go_sem, z0, z1, z2]) rfl ⟨_, rfl, (unhide HFX).2, unhide HFB⟩
end Go.Proofs.YtdaejkngmckmdaaGreatDoor
