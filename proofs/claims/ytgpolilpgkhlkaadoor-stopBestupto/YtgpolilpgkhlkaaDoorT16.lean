/- foresightkeep's on. -/
import Derived.Test.YtgpolilpgkhlkaaDoorT13
import Derived.Test.YtgpolilpgkhlkaaDoorV2
namespace Go.Proofs.YtgpolilpgkhlkaaDoor
open Go.RowKit Go.Sort Go.Shelf

/-- Two fractions one behind the other, and a box. -/
structure TwoJ (q1 q2 : Rat) (w0 : World) (c : Nat) (l : Bool) (w : World) (s1 s2 s3 : Value) : Prop where
  bl : Below w0.heap.size w0 w
  r1 : 1 ≤ c → RatIs w s1 q1
  r2 : 2 ≤ c → RatIs w s2 q2
  al : l = true → ∃ b, s3 = .pointer (some ⟨b, 0, none⟩) ∧ BoxIs w b zTri 0 ∧ w0.heap.size ≤ b

set_option maxHeartbeats 16000000 in
set_option maxRecDepth 100000 in
set_option linter.unusedSimpArgs false in
theorem on_any (v vx : Value) (P : List (List Rat)) (gs : List Rat) (c : Rat) (xs : List Rat) (s J : Nat) (w : World) (h : ChainIs w v P gs c) (sm : SmC P gs c) (gm : GoodC P gs) (hs : s < P.length) (hx : LawIs w vx xs) (hxl : xs.length = P.length) (hxr : ∀ j, j < P.length → RS xs[j]! J) (hJ : 16 * J + 200 ≤ KK) :
    Calls Tryd.prog 13 #[v, vx, .int .i64 (s : Int)] w fun e w' => ∃ v, e = .returned v ∧ RatIs w' v (Stp.on (chn P gs c) (bf xs) s) ∧ Below w.heap.size w w' := by
  have KKe : KK = 1099511627776 := rfl
  obtain ⟨l, m, t, rfl, hS, hT, hR⟩ := h
  have hln := rows_len hS
  have hmn := law_len hT
  have X0 := CBox.new hS hT hR
  have b0 := alloc_below w (.cells #[.slice l.a l.n l.c, .slice m.a m.n m.c, .bool t.s, .slice t.a1 t.n1 t.c1, .slice t.a2 t.n2 t.c2] 37)
  obtain ⟨W0, hW0⟩ : ∃ W, w.alloc (.cells #[.slice l.a l.n l.c, .slice m.a m.n m.c, .bool t.s, .slice t.a1 t.n1 t.c1, .slice t.a2 t.n2 t.c2] 37) = W := ⟨_, rfl⟩
  obtain ⟨bx, hbx⟩ : ∃ b, w.heap.size = b := ⟨_, rfl⟩
  rw [hW0] at X0 b0
  rw [hbx] at X0
  have ⟨c0, c1, c2, c3, c4⟩ := X0.cells _ (Below.refl _ _)
  have HX0 := hide X0
  have HB0 := hide b0
  obtain ⟨n, hn⟩ : ∃ n, P.length = n := ⟨_, rfl⟩
  have HN := hide hn
  rw [hn] at hln
  rw [gm.gl, hn] at hmn
  rw [hln] at c0
  rw [hmn] at c1
  unfold cval
  rw [hln, hmn] at hW0 ⊢
  have HLN := hide hln
  have HMN := hide hmn
  clear hS hT hR X0 b0 hn hln hmn
  have hn8 := gm.n8
  have HSM := hide sm
  have HLX := hide hx
  have hrow := gm.nx s hs
  obtain ⟨ax, cx, rfl, x1, x2, x3⟩ := hx
  obtain ⟨bk, ok, lr, hla, hbk, k0, hA⟩ := (unhide HX0).2.1.at hs
  have hlr := law_len hA
  rw [hrow, unhide HN] at hlr
  obtain ⟨ar, cr, er, r1, r2, r3⟩ := hA
  have HR3r := hide r3
  have HXX : Hid (∀ j, j < n → RS xs[j]! J) := fun j hj => hxr j (by rw [unhide HN]; exact hj)
  have HQ : Hid (∀ j, j < n → RS (P[s]!)[j]! 1) := fun j hj => sm.rp s j hs (by rw [hrow, unhide HN]; exact hj)
  have HRW : Hid ((P[s]!).length = n) := by show _ = _; rw [hrow]; exact unhide HN
  rw [hxl, unhide HN] at HLX x1 ⊢
  have HXL : Hid (xs.length = n) := by show _ = _; rw [hxl]; exact unhide HN
  rw [unhide HN] at hn8
  have f1 : (s : Int) < (n : Int) := by have := unhide HN; omega
  have f0 : (0 : Int) ≤ (s : Int) := by omega
  obtain ⟨lra, hlra⟩ : ∃ a, lr.a = a := ⟨_, rfl⟩
  obtain ⟨lrc, hlrc⟩ : ∃ a, lr.c = a := ⟨_, rfl⟩
  have ea : lr.a = ar := by injection er
  rw [hlr, hlra, hlrc] at k0
  have HK0 := hide k0
  have HBK := hide hbk
  have HAR : Hid (ar = lra) := ea.symm.trans hlra
  have HON : Hid (Stp.on (chn P gs c) (bf xs) s = mv P[s]! xs n - c) := by
    show Bth.ps _ _ - c = _
    rw [← unhide HN]
    rfl
  rw [unhide HON]
  obtain ⟨pr, hpr⟩ : ∃ p, P[s]! = p := ⟨_, rfl⟩
  rw [hpr] at HR3r HQ HRW ⊢
  have HLA := hide hla
  have HCO0 := (unhide HX0).2.2.2
  have HR0 : Hid (RS ((0 : Int) : Rat) 1) := ⟨by decide, by decide⟩
  have HJ1 : Hid (1 + 1 + 1 ≤ KK) := by show _ ≤ _; rw [KKe]; omega
  have B1 := alloc_below W0 (.cells #[.bool false, .slice none 0 0, .slice none 0 0] 35)
  have nZ := heap_alloc_new W0 (.cells #[.bool false, .slice none 0 0, .slice none 0 0] 35)
  obtain ⟨W1, hW1⟩ : ∃ W, W0.alloc (.cells #[.bool false, .slice none 0 0, .slice none 0 0] 35) = W := ⟨_, rfl⟩
  obtain ⟨R, hR⟩ : ∃ R, W0.heap.size = R := ⟨_, rfl⟩
  rw [hW1] at B1 nZ
  rw [hR] at nZ
  have HRZ := hide nZ
  have HB1 := hide B1
  have HRG : Hid (W0.heap.size ≤ R) := by show _ ≤ R; omega
  have HCO := hide (HCO0.below B1)
  have HC1 : Hid (∀ W, Below W1.heap.size W1 W → (fun w' : World => w'.cell? ⟨bx, 0, none⟩ = some (.slice l.a n l.c) ∧ w'.cell? ⟨bx, 1, none⟩ = some (.slice m.a n m.c) ∧ w'.cell? ⟨bx, 2, none⟩ = some (.bool t.s) ∧ w'.cell? ⟨bx, 3, none⟩ = some (.slice t.a1 t.n1 t.c1) ∧ w'.cell? ⟨bx, 4, none⟩ = some (.slice t.a2 t.n2 t.c2)) W) := fun W hW => by
    have mc := (unhide HX0).cells W (below_step B1 hW)
    rw [unhide HLN, unhide HMN] at mc
    exact mc
  clear B1 nZ k0 x3 r1 r2 r3 er hxl hxr hrow hlr hlra hlrc ea sm gm HCO0 hla hbk hs hpr HON
  go_enter Tryd.func13, Tryd.ntmps13
  go_wp2_with fail
  clear hW0 hbx c0 c1 c2 c3 c4 hW1 hR
  refine wp_region_hold (fun w' : World => w'.cell? ⟨bx, 0, none⟩ = some (.slice l.a n l.c) ∧ w'.cell? ⟨bx, 1, none⟩ = some (.slice m.a n m.c) ∧ w'.cell? ⟨bx, 2, none⟩ = some (.bool t.s) ∧ w'.cell? ⟨bx, 3, none⟩ = some (.slice t.a1 t.n1 t.c1) ∧ w'.cell? ⟨bx, 4, none⟩ = some (.slice t.a2 t.n2 t.c2)) (by kernel_rfl) ?_
  have bd0 : Below W1.heap.size W1 W1.drew := (Below.refl _ _).drew
  obtain ⟨Wx, hWx⟩ : ∃ W, W1.drew = W := ⟨_, rfl⟩
  rw [hWx] at bd0 ⊢
  have hC0 : (fun w' : World => w'.cell? ⟨bx, 0, none⟩ = some (.slice l.a n l.c) ∧ w'.cell? ⟨bx, 1, none⟩ = some (.slice m.a n m.c) ∧ w'.cell? ⟨bx, 2, none⟩ = some (.bool t.s) ∧ w'.cell? ⟨bx, 3, none⟩ = some (.slice t.a1 t.n1 t.c1) ∧ w'.cell? ⟨bx, 4, none⟩ = some (.slice t.a2 t.n2 t.c2)) Wx := unhide HC1 _ bd0
  refine wpHold_take (i := 1) (v := ?_) rfl (by kernel_rfl) (by kernel_rfl) (by kernel_rfl) (fun _ _ _ h => h) (Or.inl ⟨by rfl, ?_⟩) hC0 ?_
  rotate_left
  · intro w hSw; clear hSw; go_simp; (try with_reducible rfl)
  (try simp only [List.getElem_toArray, List.getElem_cons_succ, List.getElem_cons_zero])
  (try simp only [Act.put, List.setIfInBounds_toArray, List.set_cons_zero, List.set_cons_succ])
  refine wpHold_take (i := 2) (v := ?_) rfl (by kernel_rfl) (by kernel_rfl) (by kernel_rfl) (fun _ _ _ h => h) (Or.inl ⟨by rfl, ?_⟩) hC0 ?_
  rotate_left
  · intro w hSw; (try dsimp only at hSw); obtain ⟨z0, z1, z2, z3, z4⟩ := hSw; go_simp; (try with_reducible rfl)
  (try simp only [List.getElem_toArray, List.getElem_cons_succ, List.getElem_cons_zero])
  (try simp only [Act.put, List.setIfInBounds_toArray, List.set_cons_zero, List.set_cons_succ])
  refine wpHold_listed (n := 4) (L' := (fun nc nl => #[decide (1 ≤ nc), true, true, decide (2 ≤ nc), nl, false]) 0 false) (by kernel_rfl) (by kernel_rfl) ?_
  refine wpHold_name (fun a0 ha0 => ?_)
  refine two_one_any (fun nc nl => #[decide (1 ≤ nc), true, true, decide (2 ≤ nc), nl, false]) 0 3 4 1 (fun nc nl na W => ∃ s1 s2 s3, na = ((a0.put (some 9) s1).put (some 12) s2).put (some 7) s3 ∧ TwoJ (((0 : Int) : Rat)) (((0 : Int) : Rat) - c) Wx nc nl W s1 s2 s3) ?_ ?_ (fun l => rfl) (fun l => rfl) (fun c => rfl) ?_ ?_ ?_ ?_ 3 0 false (by omega) (by rfl) _ _ ⟨undef, undef, undef, by subst ha0; rfl, Below.refl _ _, fun h => absurd h (by decide), fun h => absurd h (by decide), fun h => by cases h⟩
  · clear ha0
    intro nc nl hnc
    match nc, hnc with
    | 0, _ => cases nl <;> (show (_ : Bool) = _; kernel_rfl)
    | 1, _ => cases nl <;> (show (_ : Bool) = _; kernel_rfl)
    | 2, _ => cases nl <;> (show (_ : Bool) = _; kernel_rfl)
  · clear ha0
    intro nc nl hnc
    match nc, hnc with
    | 0, _ => cases nl <;> (intro _; show (_ : Bool) = _; kernel_rfl)
    | 1, _ => cases nl <;> (intro _; show (_ : Bool) = _; kernel_rfl)
    | 2, _ => cases nl <;> (intro h; first | (show (_ : Bool) = _; kernel_rfl) | exact absurd h (by decide))
  · rintro nl na wv ⟨s1, s2, s3, rfl, J⟩
    subst ha0
    refine wpOp_step rfl (fun K hK => ?_)
    (try simp only [Act.put, List.setIfInBounds_toArray, List.set_cons_zero, List.set_cons_succ] at hK ⊢)
    (try simp only [List.getElem_toArray, List.getElem_cons_succ, List.getElem_cons_zero])
    go_simp
    refine (whole_any 0 (by decide) (by decide) _).mono ?_
    rintro e wz ⟨v, rfl, hv, hb⟩
    exact hK _ _ ⟨unhide HC1 _ (below_step bd0 (below_step J.bl hb)), v, s2, s3, rfl, below_step J.bl hb, fun _ => hv, fun h => absurd h (by decide), fun h => by
      obtain ⟨b, e1, e2, e3⟩ := J.al h
      exact ⟨b, e1, e2.keep hb, e3⟩⟩
  · rintro nl na wv ⟨s1, s2, s3, rfl, J⟩
    subst ha0
    refine wpOp_step rfl (fun K hK => ?_)
    (try simp only [Act.put, List.setIfInBounds_toArray, List.set_cons_zero, List.set_cons_succ] at hK ⊢)
    (try simp only [List.getElem_toArray, List.getElem_cons_succ, List.getElem_cons_zero])
    go_simp
    refine (subR_any _ t.val _ _ _ (J.r1 (by decide)) ((unhide HCO).below (below_step bd0 J.bl)) 1 (unhide HR0) (unhide HSM).wc (unhide HJ1)).mono ?_
    rintro e wz ⟨v, rfl, hv, hb⟩
    exact hK _ _ ⟨unhide HC1 _ (below_step bd0 (below_step J.bl hb)), s1, v, s3, rfl, below_step J.bl hb, fun _ => (J.r1 (by decide)).below hb, fun _ => hv, fun h => by
      obtain ⟨b, e1, e2, e3⟩ := J.al h
      exact ⟨b, e1, e2.keep hb, e3⟩⟩
  · rintro nc na wv ⟨s1, s2, s3, rfl, J⟩
    subst ha0
    refine wpOp_step rfl (fun K hK => ?_)
    (try simp only [Act.put, List.setIfInBounds_toArray, List.set_cons_zero, List.set_cons_succ] at hK ⊢)
    (try simp only [List.getElem_toArray, List.getElem_cons_succ, List.getElem_cons_zero])
    go_simp
    have hb := alloc_below wv (.cells #[.bool false, .slice none 0 0, .slice none 0 0] 35)
    exact hK _ _ ⟨unhide HC1 _ (below_step bd0 (below_step J.bl hb)), s1, s2, .pointer (some ⟨wv.heap.size, 0, none⟩), rfl, below_step J.bl hb, fun h => (J.r1 h).below hb, fun h => (J.r2 h).below hb, fun _ => ⟨wv.heap.size, rfl, BoxIs.new (t := zTri) (rat_zero _), J.bl.size⟩⟩
  · rintro na wv ⟨s1, s2, s3, rfl, J⟩
    subst ha0
    obtain ⟨G, rfl, B10, e10⟩ := J.al rfl
    obtain ⟨tg, rfl, r0⟩ := tri_of (J.r2 (by decide))
    simp only [Tri.val]
    (try simp only [Act.put, List.setIfInBounds_toArray, List.set_cons_zero, List.set_cons_succ])
    have ⟨l0, l1, l2⟩ := B10.free
    have ⟨k0, k1, k2⟩ := B10.cells _ (Below.refl _ _)
    have NB := B10.set r0
    have e10' : W1.heap.size ≤ G := Nat.le_trans bd0.size e10
    have YB := (((below_step bd0 J.bl).setCell (p := ⟨G, 0, none⟩) e10' (.bool tg.s)).setCell (p := ⟨G, 1, none⟩) e10' (.slice tg.a1 tg.n1 tg.c1)).setCell (p := ⟨G, 2, none⟩) e10' (.slice tg.a2 tg.n2 tg.c2)
    have HG_G := hide e10'
    have hCn : (fun w' : World => w'.cell? ⟨bx, 0, none⟩ = some (.slice l.a n l.c) ∧ w'.cell? ⟨bx, 1, none⟩ = some (.slice m.a n m.c) ∧ w'.cell? ⟨bx, 2, none⟩ = some (.bool t.s) ∧ w'.cell? ⟨bx, 3, none⟩ = some (.slice t.a1 t.n1 t.c1) ∧ w'.cell? ⟨bx, 4, none⟩ = some (.slice t.a2 t.n2 t.c2)) _ := unhide HC1 _ YB
    obtain ⟨WG, hWy⟩ : ∃ W, ((wv.setCell ⟨G, 0, none⟩ (.bool tg.s)).setCell ⟨G, 1, none⟩ (.slice tg.a1 tg.n1 tg.c1)).setCell ⟨G, 2, none⟩ (.slice tg.a2 tg.n2 tg.c2) = W := ⟨_, rfl⟩
    rw [hWy] at NB YB hCn
    have HX_G := hide NB
    have HY_G := hide YB
    clear J B10 r0 hC0 YB NB e10'
    refine wpHold_one (k := 5) (by kernel_rfl) rfl (fun K hK => ?_)
    (try simp only [List.getElem_toArray, List.getElem_cons_succ, List.getElem_cons_zero])
    go_simp
    refine hK.out _ _ hCn ?_
    clear hK K
    (try simp only [Act.put, List.setIfInBounds_toArray, List.set_cons_zero, List.set_cons_succ])
    refine wpHold_done (by kernel_rfl) ?_ _
    clear hCn l0 l1 l2 k0 k1 k2 hWy e10 bd0 hWx
    have E0 := unhide HX_G
    have hRl : R < W1.heap.size := (Array.getElem?_eq_some_iff.1 (unhide HRZ)).1
    have HS1 : Hid (BoxAt W0 WG R G (((0 : Int) : Rat) - c + mv pr xs 0) tg) := ⟨by rw [(unhide HY_G).block _ hRl]; exact unhide HRZ, E0.1, by rw [show ((0 : Int) : Rat) - c + mv pr xs 0 = ((0 : Int) : Rat) - c from Rat.add_zero _]; exact E0.2, below_step (unhide HB1) (unhide HY_G), unhide HRG, Nat.le_trans (unhide HB1).size (unhide HG_G), fun e => by have := unhide HG_G; omega⟩
    clear E0 HX_G HY_G HG_G HC1 hRl
    go_wp2_with fail
    go_loopw [8] (fun vi wr => ∃ (i : Nat) (tg : Tri), vi = .int .i64 i ∧ i ≤ n ∧ BoxAt W0 wr R G (((0 : Int) : Rat) - c + mv pr xs i) tg) (fun vi _ => n - (intOf vi).toNat)
    case atStart => exact ⟨0, tg, rfl, Nat.zero_le _, unhide HS1⟩
    case round =>
      obtain ⟨i, tg, rfl, hi, T⟩ := hrel
      clear HS1
      have rs1 := mv_RS (qs := pr) (xs := xs) (J := J) (fun j hj => unhide HQ j (by rw [← unhide HRW]; exact hj)) (fun j hj => unhide HXX j (by rw [← unhide HRW]; exact hj)) i (by rw [unhide HRW]; omega)
      have hmi : i * (J + 2) ≤ 8 * (J + 2) := Nat.mul_le_mul_right (J + 2) (by omega)
      have rs0 := ((unhide HR0).sub' (unhide HSM).wc).add rs1
      by_cases hlt : i < n
      · obtain ⟨ax', cx', ex, _, _, hcx⟩ := (unhide HLX).below (below_step (unhide HB0) T.bl)
        obtain ⟨bv, ov, eav, hvlt, hcv⟩ := hcx (by rw [unhide HXL]; omega)
        have eax : ax = some ⟨bv, ov, none⟩ := by injection ex with e1; rw [e1, eav]
        obtain ⟨xs_, xp1, xp2, xn1, xd1, xn2, xd2, xk0, xk1, xk2, xr⟩ := hcv i (by rw [unhide HXL]; exact hlt)
        obtain ⟨tv, rfl, rfl, rfl, rfl, rfl, rfl, rfl⟩ : ∃ t : Tri, xs_ = t.s ∧ xp1 = t.a1 ∧ xp2 = t.a2 ∧ xn1 = t.n1 ∧ xd1 = t.c1 ∧ xn2 = t.n2 ∧ xd2 = t.c2 := ⟨⟨xs_, xp1, xp2, xn1, xd1, xn2, xd2⟩, rfl, rfl, rfl, rfl, rfl, rfl, rfl⟩
        have rv : RatIs wr tv.val xs[i]! := xr
        obtain ⟨b, o, eb, hblt, hcs⟩ := unhide HR3r (by rw [unhide HRW]; omega)
        rw [unhide HAR] at eb
        obtain ⟨s', p1, p2, m1, d1, m2, d2, k0, k1, k2, r⟩ := hcs i (by rw [unhide HRW]; exact hlt)
        obtain ⟨tx, rfl, rfl, rfl, rfl, rfl, rfl, rfl⟩ : ∃ t : Tri, s' = t.s ∧ p1 = t.a1 ∧ p2 = t.a2 ∧ m1 = t.n1 ∧ d1 = t.c1 ∧ m2 = t.n2 ∧ d2 = t.c2 := ⟨⟨s', p1, p2, m1, d1, m2, d2⟩, rfl, rfl, rfl, rfl, rfl, rfl, rfl⟩
        have rx : RatIs wr tx.val pr[i]! := r.below T.bl
        have hi0 : (0 : Int) ≤ (i : Int) := by omega
        have hi1 : (i : Int) < (n : Int) := by omega
        have hrow := unhide HK0
        rw [eb] at hrow
        have HCC : Hid (∀ W, Below wr.heap.size wr W → (fun w' : World => (w'.cell? ⟨G, 0, none⟩ = some (.bool tg.s) ∧ w'.cell? ⟨G, 1, none⟩ = some (.slice tg.a1 tg.n1 tg.c1) ∧ w'.cell? ⟨G, 2, none⟩ = some (.slice tg.a2 tg.n2 tg.c2)) ∧ (w'.cell? ⟨bx, 0, none⟩ = some (.slice (some ⟨bk, ok, none⟩) n l.c) ∧ w'.cell? ⟨bx, 1, none⟩ = some (.slice m.a n m.c) ∧ w'.cell? ⟨bx, 2, none⟩ = some (.bool t.s) ∧ w'.cell? ⟨bx, 3, none⟩ = some (.slice t.a1 t.n1 t.c1) ∧ w'.cell? ⟨bx, 4, none⟩ = some (.slice t.a2 t.n2 t.c2)) ∧ w'.cell? ⟨bk, ok + s, none⟩ = some (.slice (some ⟨b, o, none⟩) n lrc) ∧ (w'.cell? ⟨b, o + i * 3, none⟩ = some (.bool tx.s) ∧ w'.cell? ⟨b, o + i * 3 + 1, none⟩ = some (.slice tx.a1 tx.n1 tx.c1) ∧ w'.cell? ⟨b, o + i * 3 + 2, none⟩ = some (.slice tx.a2 tx.n2 tx.c2)) ∧ w'.cell? ⟨bv, ov + i * 3, none⟩ = some (.bool tv.s) ∧ w'.cell? ⟨bv, ov + i * 3 + 1, none⟩ = some (.slice tv.a1 tv.n1 tv.c1) ∧ w'.cell? ⟨bv, ov + i * 3 + 2, none⟩ = some (.slice tv.a2 tv.n2 tv.c2)) W) := fun W hW => by
          have mc := (unhide HX0).cells W (below_step T.bl hW)
          rw [unhide HLA, unhide HLN, unhide HMN] at mc
          refine ⟨BoxIs.cells (q := ((0 : Int) : Rat) - c + mv pr xs i) ⟨T.all, T.rat⟩ W hW, mc, ?_, ?_, ?_⟩
          · rw [(below_step T.bl hW).cell (p := ⟨bk, ok + s, none⟩) (unhide HBK)]; exact hrow
          · have bc := below_step T.bl hW
            rw [bc.cell (p := ⟨b, o + i * 3, none⟩) hblt, bc.cell (p := ⟨b, o + i * 3 + 1, none⟩) hblt, bc.cell (p := ⟨b, o + i * 3 + 2, none⟩) hblt]
            exact ⟨k0, k1, k2⟩
          · rw [hW.cell (p := ⟨bv, ov + i * 3, none⟩) hvlt, hW.cell (p := ⟨bv, ov + i * 3 + 1, none⟩) hvlt, hW.cell (p := ⟨bv, ov + i * 3 + 2, none⟩) hvlt]
            exact ⟨xk0, xk1, xk2⟩
        have HT := hide T
        have HTX := hide rx
        have HTV := hide rv
        have rs2 := unhide HQ i hlt
        have rs3 := unhide HXX i hlt
        have HR1 := hide (rs0.mono (show 1 + 1 + 1 + (i * (J + 2) + 1) + 1 ≤ 8 * (J + 2) + 5 by omega))
        have HR2 := hide (rs2.mono (show 1 ≤ 8 * (J + 2) + 5 by omega))
        have HR3 := hide (rs3.mono (show J ≤ 8 * (J + 2) + 5 by omega))
        have HR4 := hide ((rs2.mul rs3).mono (show 1 + J ≤ 8 * (J + 2) + 5 by omega))
        have HJ2 : Hid ((8 * (J + 2) + 5) + (8 * (J + 2) + 5) + 1 ≤ KK) := by show _ ≤ _; omega
        rw [eax]
        clear T r rx hcs rs0 rs1 rs2 rs3 hmi rv xr hcv xk0 xk1 xk2 hcx ex k0 k1 k2 hrow
        go_wp2_with fail
        refine wp_region_till (fun w' : World => (w'.cell? ⟨G, 0, none⟩ = some (.bool tg.s) ∧ w'.cell? ⟨G, 1, none⟩ = some (.slice tg.a1 tg.n1 tg.c1) ∧ w'.cell? ⟨G, 2, none⟩ = some (.slice tg.a2 tg.n2 tg.c2)) ∧ (w'.cell? ⟨bx, 0, none⟩ = some (.slice (some ⟨bk, ok, none⟩) n l.c) ∧ w'.cell? ⟨bx, 1, none⟩ = some (.slice m.a n m.c) ∧ w'.cell? ⟨bx, 2, none⟩ = some (.bool t.s) ∧ w'.cell? ⟨bx, 3, none⟩ = some (.slice t.a1 t.n1 t.c1) ∧ w'.cell? ⟨bx, 4, none⟩ = some (.slice t.a2 t.n2 t.c2)) ∧ w'.cell? ⟨bk, ok + s, none⟩ = some (.slice (some ⟨b, o, none⟩) n lrc) ∧ (w'.cell? ⟨b, o + i * 3, none⟩ = some (.bool tx.s) ∧ w'.cell? ⟨b, o + i * 3 + 1, none⟩ = some (.slice tx.a1 tx.n1 tx.c1) ∧ w'.cell? ⟨b, o + i * 3 + 2, none⟩ = some (.slice tx.a2 tx.n2 tx.c2)) ∧ w'.cell? ⟨bv, ov + i * 3, none⟩ = some (.bool tv.s) ∧ w'.cell? ⟨bv, ov + i * 3 + 1, none⟩ = some (.slice tv.a1 tv.n1 tv.c1) ∧ w'.cell? ⟨bv, ov + i * 3 + 2, none⟩ = some (.slice tv.a2 tv.n2 tv.c2)) 15 (by kernel_rfl) ?_
        have bd0 : Below wr.heap.size wr wr.drew := (Below.refl _ _).drew
        have hC0 : (fun w' : World => (w'.cell? ⟨G, 0, none⟩ = some (.bool tg.s) ∧ w'.cell? ⟨G, 1, none⟩ = some (.slice tg.a1 tg.n1 tg.c1) ∧ w'.cell? ⟨G, 2, none⟩ = some (.slice tg.a2 tg.n2 tg.c2)) ∧ (w'.cell? ⟨bx, 0, none⟩ = some (.slice (some ⟨bk, ok, none⟩) n l.c) ∧ w'.cell? ⟨bx, 1, none⟩ = some (.slice m.a n m.c) ∧ w'.cell? ⟨bx, 2, none⟩ = some (.bool t.s) ∧ w'.cell? ⟨bx, 3, none⟩ = some (.slice t.a1 t.n1 t.c1) ∧ w'.cell? ⟨bx, 4, none⟩ = some (.slice t.a2 t.n2 t.c2)) ∧ w'.cell? ⟨bk, ok + s, none⟩ = some (.slice (some ⟨b, o, none⟩) n lrc) ∧ (w'.cell? ⟨b, o + i * 3, none⟩ = some (.bool tx.s) ∧ w'.cell? ⟨b, o + i * 3 + 1, none⟩ = some (.slice tx.a1 tx.n1 tx.c1) ∧ w'.cell? ⟨b, o + i * 3 + 2, none⟩ = some (.slice tx.a2 tx.n2 tx.c2)) ∧ w'.cell? ⟨bv, ov + i * 3, none⟩ = some (.bool tv.s) ∧ w'.cell? ⟨bv, ov + i * 3 + 1, none⟩ = some (.slice tv.a1 tv.n1 tv.c1) ∧ w'.cell? ⟨bv, ov + i * 3 + 2, none⟩ = some (.slice tv.a2 tv.n2 tv.c2)) wr.drew := unhide HCC _ bd0
        refine wpTill_take (i := 0) (v := ?_) rfl (by kernel_rfl) (by kernel_rfl) (by kernel_rfl) (by kernel_rfl) (by kernel_rfl) (by kernel_rfl) (fun _ _ _ h => h) (Or.inl ⟨by rfl, ?_⟩) hC0 ?_
        rotate_left
        · intro w hSw; (try dsimp only at hSw); obtain ⟨⟨u0, u1, u2⟩, ⟨u3, u4, u5, u6, u7⟩, u8, ⟨u9, u10, u11⟩, u12, u13, u14⟩ := hSw; go_simp; (try with_reducible rfl)
        (try simp only [List.getElem_toArray, List.getElem_cons_succ, List.getElem_cons_zero])
        (try simp only [Act.put, List.setIfInBounds_toArray, List.set_cons_zero, List.set_cons_succ])
        refine wpTill_pure (i := 1) (v := ?_) rfl (by kernel_rfl) (by kernel_rfl) (by kernel_rfl) (by kernel_rfl) (fun _ _ _ h => h) (Or.inl ⟨by rfl, ?_⟩) (fun _ => hC0) ?_
        rotate_left
        · intro w hSw; clear hSw; go_simp; (try with_reducible rfl)
        (try simp only [List.getElem_toArray, List.getElem_cons_succ, List.getElem_cons_zero])
        (try simp only [Act.put, List.setIfInBounds_toArray, List.set_cons_zero, List.set_cons_succ])
        refine wpTill_take (i := 2) (v := ?_) rfl (by kernel_rfl) (by kernel_rfl) (by kernel_rfl) (by kernel_rfl) (by kernel_rfl) (by kernel_rfl) (fun _ _ _ h => h) (Or.inl ⟨by rfl, ?_⟩) hC0 ?_
        rotate_left
        · intro w hSw; (try dsimp only at hSw); obtain ⟨⟨u0, u1, u2⟩, ⟨u3, u4, u5, u6, u7⟩, u8, ⟨u9, u10, u11⟩, u12, u13, u14⟩ := hSw; go_simp; (try with_reducible rfl)
        (try simp only [List.getElem_toArray, List.getElem_cons_succ, List.getElem_cons_zero])
        (try simp only [Act.put, List.setIfInBounds_toArray, List.set_cons_zero, List.set_cons_succ])
        refine wpTill_pure (i := 3) (v := ?_) rfl (by kernel_rfl) (by kernel_rfl) (by kernel_rfl) (by kernel_rfl) (fun _ _ _ h => h) (Or.inl ⟨by rfl, ?_⟩) (fun _ => hC0) ?_
        rotate_left
        · intro w hSw; clear hSw; go_simp; (try with_reducible rfl)
        (try simp only [List.getElem_toArray, List.getElem_cons_succ, List.getElem_cons_zero])
        (try simp only [Act.put, List.setIfInBounds_toArray, List.set_cons_zero, List.set_cons_succ])
        refine wpTill_pure (i := 4) (v := ?_) rfl (by kernel_rfl) (by kernel_rfl) (by kernel_rfl) (by kernel_rfl) (fun _ _ _ h => h) (Or.inl ⟨by rfl, ?_⟩) (fun _ => hC0) ?_
        rotate_left
        · intro w hSw; clear hSw; go_simp; (try with_reducible rfl)
        (try simp only [List.getElem_toArray, List.getElem_cons_succ, List.getElem_cons_zero])
        (try simp only [Act.put, List.setIfInBounds_toArray, List.set_cons_zero, List.set_cons_succ])
        refine wpTill_take (i := 5) (v := ?_) rfl (by kernel_rfl) (by kernel_rfl) (by kernel_rfl) (by kernel_rfl) (by kernel_rfl) (by kernel_rfl) (fun _ _ _ h => h) (Or.inl ⟨by rfl, ?_⟩) hC0 ?_
        rotate_left
        · intro w hSw; (try dsimp only at hSw); obtain ⟨⟨u0, u1, u2⟩, ⟨u3, u4, u5, u6, u7⟩, u8, ⟨u9, u10, u11⟩, u12, u13, u14⟩ := hSw; go_simp; (try with_reducible rfl)
        (try simp only [List.getElem_toArray, List.getElem_cons_succ, List.getElem_cons_zero])
        (try simp only [Act.put, List.setIfInBounds_toArray, List.set_cons_zero, List.set_cons_succ])
        refine wpTill_pure (i := 6) (v := ?_) rfl (by kernel_rfl) (by kernel_rfl) (by kernel_rfl) (by kernel_rfl) (fun _ _ _ h => h) (Or.inl ⟨by rfl, ?_⟩) (fun _ => hC0) ?_
        rotate_left
        · intro w hSw; clear hSw; go_simp; (try with_reducible rfl)
        (try simp only [List.getElem_toArray, List.getElem_cons_succ, List.getElem_cons_zero])
        (try simp only [Act.put, List.setIfInBounds_toArray, List.set_cons_zero, List.set_cons_succ])
        refine wpTill_pure (i := 7) (v := ?_) rfl (by kernel_rfl) (by kernel_rfl) (by kernel_rfl) (by kernel_rfl) (fun _ _ _ h => h) (Or.inl ⟨by rfl, ?_⟩) (fun _ => hC0) ?_
        rotate_left
        · intro w hSw; clear hSw; go_simp; (try with_reducible rfl)
        (try simp only [List.getElem_toArray, List.getElem_cons_succ, List.getElem_cons_zero])
        (try simp only [Act.put, List.setIfInBounds_toArray, List.set_cons_zero, List.set_cons_succ])
        refine wpTill_take (i := 8) (v := ?_) rfl (by kernel_rfl) (by kernel_rfl) (by kernel_rfl) (by kernel_rfl) (by kernel_rfl) (by kernel_rfl) (fun _ _ _ h => h) (Or.inl ⟨by rfl, ?_⟩) hC0 ?_
        rotate_left
        · intro w hSw; (try dsimp only at hSw); obtain ⟨⟨u0, u1, u2⟩, ⟨u3, u4, u5, u6, u7⟩, u8, ⟨u9, u10, u11⟩, u12, u13, u14⟩ := hSw; go_simp; (try with_reducible rfl)
        (try simp only [List.getElem_toArray, List.getElem_cons_succ, List.getElem_cons_zero])
        (try simp only [Act.put, List.setIfInBounds_toArray, List.set_cons_zero, List.set_cons_succ])
        refine wpTill_pure (i := 9) (v := ?_) rfl (by kernel_rfl) (by kernel_rfl) (by kernel_rfl) (by kernel_rfl) (fun _ _ _ h => h) (Or.inl ⟨by rfl, ?_⟩) (fun _ => hC0) ?_
        rotate_left
        · intro w hSw; clear hSw; go_simp; (try with_reducible rfl)
        (try simp only [List.getElem_toArray, List.getElem_cons_succ, List.getElem_cons_zero])
        (try simp only [Act.put, List.setIfInBounds_toArray, List.set_cons_zero, List.set_cons_succ])
        refine wpTill_pure (i := 10) (v := ?_) rfl (by kernel_rfl) (by kernel_rfl) (by kernel_rfl) (by kernel_rfl) (fun _ _ _ h => h) (Or.inl ⟨by rfl, ?_⟩) (fun _ => hC0) ?_
        rotate_left
        · intro w hSw; clear hSw; go_simp; (try with_reducible rfl)
        (try simp only [List.getElem_toArray, List.getElem_cons_succ, List.getElem_cons_zero])
        (try simp only [Act.put, List.setIfInBounds_toArray, List.set_cons_zero, List.set_cons_succ])
        refine wpTill_pure (i := 11) (v := ?_) rfl (by kernel_rfl) (by kernel_rfl) (by kernel_rfl) (by kernel_rfl) (fun _ _ _ h => h) (Or.inl ⟨by rfl, ?_⟩) (fun _ => hC0) ?_
        rotate_left
        · intro w hSw; clear hSw; go_simp; (try with_reducible rfl)
        (try simp only [List.getElem_toArray, List.getElem_cons_succ, List.getElem_cons_zero])
        (try simp only [Act.put, List.setIfInBounds_toArray, List.set_cons_zero, List.set_cons_succ])
        refine wpTill_take (i := 12) (v := ?_) rfl (by kernel_rfl) (by kernel_rfl) (by kernel_rfl) (by kernel_rfl) (by kernel_rfl) (by kernel_rfl) (fun _ _ _ h => h) (Or.inl ⟨by rfl, ?_⟩) hC0 ?_
        rotate_left
        · intro w hSw; (try dsimp only at hSw); obtain ⟨⟨u0, u1, u2⟩, ⟨u3, u4, u5, u6, u7⟩, u8, ⟨u9, u10, u11⟩, u12, u13, u14⟩ := hSw; go_simp; (try with_reducible rfl)
        (try simp only [List.getElem_toArray, List.getElem_cons_succ, List.getElem_cons_zero])
        (try simp only [Act.put, List.setIfInBounds_toArray, List.set_cons_zero, List.set_cons_succ])
        refine wpTill_one (k := 13) (by kernel_rfl) rfl (fun K hK => ?_)
        (try simp only [List.getElem_toArray, List.getElem_cons_succ, List.getElem_cons_zero])
        go_simp
        refine (mulR_any tx.val tv.val _ _ _ ((unhide HTX).below bd0) ((unhide HTV).below bd0) _ (unhide HR2) (unhide HR3) (unhide HJ2)).mono ?_
        rintro e xw_1 ⟨xv_1, rfl, hv_1, hb_1⟩
        have cc_1 := below_step bd0 hb_1
        have hC_1 : (fun w' : World => (w'.cell? ⟨G, 0, none⟩ = some (.bool tg.s) ∧ w'.cell? ⟨G, 1, none⟩ = some (.slice tg.a1 tg.n1 tg.c1) ∧ w'.cell? ⟨G, 2, none⟩ = some (.slice tg.a2 tg.n2 tg.c2)) ∧ (w'.cell? ⟨bx, 0, none⟩ = some (.slice (some ⟨bk, ok, none⟩) n l.c) ∧ w'.cell? ⟨bx, 1, none⟩ = some (.slice m.a n m.c) ∧ w'.cell? ⟨bx, 2, none⟩ = some (.bool t.s) ∧ w'.cell? ⟨bx, 3, none⟩ = some (.slice t.a1 t.n1 t.c1) ∧ w'.cell? ⟨bx, 4, none⟩ = some (.slice t.a2 t.n2 t.c2)) ∧ w'.cell? ⟨bk, ok + s, none⟩ = some (.slice (some ⟨b, o, none⟩) n lrc) ∧ (w'.cell? ⟨b, o + i * 3, none⟩ = some (.bool tx.s) ∧ w'.cell? ⟨b, o + i * 3 + 1, none⟩ = some (.slice tx.a1 tx.n1 tx.c1) ∧ w'.cell? ⟨b, o + i * 3 + 2, none⟩ = some (.slice tx.a2 tx.n2 tx.c2)) ∧ w'.cell? ⟨bv, ov + i * 3, none⟩ = some (.bool tv.s) ∧ w'.cell? ⟨bv, ov + i * 3 + 1, none⟩ = some (.slice tv.a1 tv.n1 tv.c1) ∧ w'.cell? ⟨bv, ov + i * 3 + 2, none⟩ = some (.slice tv.a2 tv.n2 tv.c2)) xw_1 := unhide HCC _ cc_1
        refine hK.out _ _ (fun _ => hC_1) ?_
        clear hK K
        (try simp only [Act.put, List.setIfInBounds_toArray, List.set_cons_zero, List.set_cons_succ])
        refine wpTill_one (k := 14) (by kernel_rfl) rfl (fun K hK => ?_)
        (try simp only [List.getElem_toArray, List.getElem_cons_succ, List.getElem_cons_zero])
        go_simp
        refine (addR_any tg.val _ _ _ _ ((unhide HT).rat.below cc_1) hv_1 _ (unhide HR1) (unhide HR4) (unhide HJ2)).mono ?_
        rintro e xw_2 ⟨xv_2, rfl, hv_2, hb_2⟩
        have cc_2 := below_step cc_1 hb_2
        have hC_2 : (fun w' : World => (w'.cell? ⟨G, 0, none⟩ = some (.bool tg.s) ∧ w'.cell? ⟨G, 1, none⟩ = some (.slice tg.a1 tg.n1 tg.c1) ∧ w'.cell? ⟨G, 2, none⟩ = some (.slice tg.a2 tg.n2 tg.c2)) ∧ (w'.cell? ⟨bx, 0, none⟩ = some (.slice (some ⟨bk, ok, none⟩) n l.c) ∧ w'.cell? ⟨bx, 1, none⟩ = some (.slice m.a n m.c) ∧ w'.cell? ⟨bx, 2, none⟩ = some (.bool t.s) ∧ w'.cell? ⟨bx, 3, none⟩ = some (.slice t.a1 t.n1 t.c1) ∧ w'.cell? ⟨bx, 4, none⟩ = some (.slice t.a2 t.n2 t.c2)) ∧ w'.cell? ⟨bk, ok + s, none⟩ = some (.slice (some ⟨b, o, none⟩) n lrc) ∧ (w'.cell? ⟨b, o + i * 3, none⟩ = some (.bool tx.s) ∧ w'.cell? ⟨b, o + i * 3 + 1, none⟩ = some (.slice tx.a1 tx.n1 tx.c1) ∧ w'.cell? ⟨b, o + i * 3 + 2, none⟩ = some (.slice tx.a2 tx.n2 tx.c2)) ∧ w'.cell? ⟨bv, ov + i * 3, none⟩ = some (.bool tv.s) ∧ w'.cell? ⟨bv, ov + i * 3 + 1, none⟩ = some (.slice tv.a1 tv.n1 tv.c1) ∧ w'.cell? ⟨bv, ov + i * 3 + 2, none⟩ = some (.slice tv.a2 tv.n2 tv.c2)) xw_2 := unhide HCC _ cc_2
        refine hK.out _ _ (fun _ => hC_2) ?_
        clear hK K
        (try simp only [Act.put, List.setIfInBounds_toArray, List.set_cons_zero, List.set_cons_succ])
        obtain ⟨t9, rfl, hr9⟩ := tri_of hv_2
        have T9 := (unhide HT).keep cc_2
        have FIN := hide (T9.set hr9)
        have ⟨_, _, _, l0, l1, l2⟩ := box_cell T9.all
        have ⟨⟨y0, y1, y2⟩, _⟩ := hC_2
        simp only [Tri.val]
        clear T9 hv_1 hv_2 hr9
        refine wpTill_one (k := 15) (by kernel_rfl) rfl (fun K hK => ?_)
        (try simp only [List.getElem_toArray, List.getElem_cons_succ, List.getElem_cons_zero])
        go_simp
        refine hK.out _ _ (fun h => absurd (h.symm.trans (by kernel_rfl)) Bool.false_ne_true) ?_
        clear hK K
        (try simp only [Act.put, List.setIfInBounds_toArray, List.set_cons_zero, List.set_cons_succ])
        refine wpTill_done (by kernel_rfl) ?_ _
        clear hC0 hC_1 hC_2 cc_1 cc_2 bd0 hb_1 hb_2 y0 y1 y2 l0 l1 l2 HCC HT HTX HTV
        have EA : Hid (((0 : Int) : Rat) - c + mv pr xs i + pr[i]! * xs[i]! = ((0 : Int) : Rat) - c + mv pr xs (i + 1)) := by
          show _ = ((0 : Int) : Rat) - c + (mv pr xs i + _)
          rw [Rat.add_assoc]
        rw [unhide EA] at FIN
        go_wp2_with fail
        exact ⟨⟨i + 1, t9, by go_num, hlt, unhide FIN⟩, by simp [intOf]; omega⟩
      · obtain rfl : i = n := by omega
        have hlt' : ¬ (i : Int) < (i : Int) := by omega
        have ⟨g0, g1, g2, _, _, _⟩ := box_cell T.all
        have ⟨h0, h1', h2', l0, l1, l2⟩ := box_cell T.res
        have EQ : ((0 : Int) : Rat) - c + mv pr xs i = mv pr xs i - c := by
          have : ((0 : Int) : Rat) = 0 := rfl
          rw [this]; grind
        have rt := T.rat
        rw [EQ] at rt
        have rb := rat_boxed (w0 := W0) rt T.res T.bl T.rl (.bool tg.s) (.slice tg.a1 tg.n1 tg.c1) (.slice tg.a2 tg.n2 tg.c2)
        have RB := hide rb
        clear T rb rt EQ rs0 rs1 hmi
        go_wp2
        (try simp only [Exit.inBlock, Exit.then])
        have rb := unhide RB
        exact bodyPost_ret (v := .agg #[.bool tg.s, .slice tg.a1 tg.n1 tg.c1, .slice tg.a2 tg.n2 tg.c2]) (by simp [results, Tryd.results13, go_sem, h0, h1', h2']) rfl ⟨_, rfl, rb.1, below_step (unhide HB0) rb.2⟩

end Go.Proofs.YtgpolilpgkhlkaaDoor
