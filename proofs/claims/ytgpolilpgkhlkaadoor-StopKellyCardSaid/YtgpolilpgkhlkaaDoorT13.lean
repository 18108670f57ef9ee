/- Chains: going on; the greater one; a copy of a row. -/
import Derived.Test.YtgpolilpgkhlkaaDoorT12
import Derived.Deep.Slices
namespace Go.Proofs.YtgpolilpgkhlkaaDoor
open Go.RowKit Go.Sort Go.Shelf

theorem on_RS {P : List (List Rat)} {gs : List Rat} {c : Rat} {x : Nat → Rat} {J s : Nat} (sm : SmC P gs c) (gm : GoodC P gs) (hs : s < P.length) (hx : ∀ j, j < P.length → RS (x j) J) : RS (Stp.on (chn P gs c) x s) (8 * (J + 2) + 3) := by
  have key : ∀ k, k ≤ P.length → RS (Bth.ps (fun t => (P[s]!)[t]! * x t) k) (k * (J + 2) + 1) := fun k => by
    induction k with
    | zero => intro _; exact RS.zero.mono (by omega)
    | succ k ih =>
      intro hk
      exact RS.mono ((ih (by omega)).add ((sm.rp s k hs (by rw [gm.nx s hs]; omega)).mul (hx k (by omega)))) (by rw [Nat.succ_mul]; omega)
  have h2 : P.length * (J + 2) ≤ 8 * (J + 2) := Nat.mul_le_mul_right _ gm.n8
  exact RS.mono ((key P.length (Nat.le_refl _)).sub' sm.wc) (by omega)
set_option maxHeartbeats 16000000 in
set_option maxRecDepth 100000 in
set_option linter.unusedSimpArgs false in
theorem going_any (v vx : Value) (P : List (List Rat)) (gs : List Rat) (c : Rat) (xs : List Rat) (s J : Nat) (w : World) (h : ChainIs w v P gs c) (sm : SmC P gs c) (gm : GoodC P gs) (hs : s < P.length) (hx : LawIs w vx xs) (hxl : xs.length = P.length) (hxr : ∀ j, j < P.length → RS xs[j]! J) (hJ : 16 * J + 200 ≤ KK) :
    Calls Tryd.prog 42 #[v, .int .i64 (s : Int), vx] w fun e w' => ∃ v, e = .returned v ∧ RatIs w' v (Stp.on (chn P gs c) (bf xs) s) ∧ Below w.heap.size w w' := by
  have KKe : KK = 1099511627776 := rfl
  obtain ⟨l, m, t, rfl, hS, hT, hR⟩ := h
  have hln := rows_len hS
  have hmn := law_len hT
  have X0 := CBox.new hS hT hR
  have b0 := alloc_below w (.cells #[.slice l.a l.n l.c, .slice m.a m.n m.c, .bool t.s, .slice t.a1 t.n1 t.c1, .slice t.a2 t.n2 t.c2] 37)
  obtain ⟨W0, hW0⟩ : ∃ W, w.alloc (.cells #[.slice l.a l.n l.c, .slice m.a m.n m.c, .bool t.s, .slice t.a1 t.n1 t.c1, .slice t.a2 t.n2 t.c2] 37) = W := ⟨_, rfl⟩
  obtain ⟨bx, hbx⟩ : ∃ b, w.heap.size = b := ⟨_, rfl⟩
  rw [hW0] at X0 b0
  rw [hbx] at X0
  have ⟨c0, c1, c2, c3, c4⟩ := X0.cells _ (Below.refl _ _)
  have HX0 := hide X0
  have HB0 := hide b0
  obtain ⟨n, hn⟩ : ∃ n, P.length = n := ⟨_, rfl⟩
  have HN := hide hn
  rw [hn] at hln
  rw [gm.gl, hn] at hmn
  rw [hln] at c0
  rw [hmn] at c1
  unfold cval
  rw [hln, hmn] at hW0 ⊢
  have HLN := hide hln
  have HMN := hide hmn
  clear hS hT hR X0 b0 hn hln hmn
  have hn8 := gm.n8
  have HSM := hide sm
  have HLX := hide hx
  have hrow := gm.nx s hs
  obtain ⟨ax, cx, rfl, x1, x2, x3⟩ := hx
  obtain ⟨bk, ok, lr, hla, hbk, k0, hA⟩ := (unhide HX0).2.1.at hs
  have hlr := law_len hA
  rw [hrow, unhide HN] at hlr
  have H3 := hide hA
  obtain ⟨ar, cr, er, r1, r2, r3⟩ := hA
  have HR3 := hide r3
  have HLR := hide hlr
  have hxr' : ∀ j, j < n → RS xs[j]! J := fun j hj => hxr j (by rw [unhide HN]; exact hj)
  have HXX := hide hxr'
  have HQ : Hid (∀ j, j < n → RS (P[s]!)[j]! 1) := fun j hj => sm.rp s j hs (by rw [hrow, unhide HN]; exact hj)
  have HRW : Hid ((P[s]!).length = n) := by show _ = _; rw [hrow]; exact unhide HN
  rw [hxl, unhide HN] at HLX x1 ⊢
  have HXL : Hid (xs.length = n) := by show _ = _; rw [hxl]; exact unhide HN
  rw [unhide HN] at hn8
  have f1 : (s : Int) < (n : Int) := by have := unhide HN; omega
  have f0 : (0 : Int) ≤ (s : Int) := by omega
  obtain ⟨lra, hlra⟩ : ∃ a, lr.a = a := ⟨_, rfl⟩
  obtain ⟨lrc, hlrc⟩ : ∃ a, lr.c = a := ⟨_, rfl⟩
  have ea : lr.a = ar := by injection er
  rw [hlr, hlra, hlrc] at k0
  have HAR : Hid (ar = lra) := ea.symm.trans hlra
  have HON : Hid (Stp.on (chn P gs c) (bf xs) s = mv P[s]! xs n - c) := by
    show Bth.ps _ _ - c = _
    rw [← unhide HN]
    rfl
  rw [unhide HON]
  rw [hla] at c0 hW0 ⊢
  have q0 : (W0.alloc (.cells #[.bool false, .slice none 0 0, .slice none 0 0] 35)).cell? ⟨bk, ok + s, none⟩ = some (.slice lra n lrc) := by rw [(alloc_below W0 _).cell (p := ⟨bk, ok + s, none⟩) hbk]; exact k0
  have hb0 : Below (W0.alloc (.cells #[.bool false, .slice none 0 0, .slice none 0 0] 35)).heap.size (W0.alloc (.cells #[.bool false, .slice none 0 0, .slice none 0 0] 35)) (W0.alloc (.cells #[.bool false, .slice none 0 0, .slice none 0 0] 35)) := Below.refl _ _
  have HS0 := hide (BoxAt.start (t := zTri) hb0 (rat_zero _))
  obtain ⟨W1, hW1⟩ : ∃ W, W0.alloc (.cells #[.bool false, .slice none 0 0, .slice none 0 0] 35) = W := ⟨_, rfl⟩
  have B1 := alloc_below W0 (.cells #[.bool false, .slice none 0 0, .slice none 0 0] 35)
  rw [hW1] at HS0 B1 q0
  obtain ⟨G, hG⟩ : ∃ G, W1.heap.size = G := ⟨_, rfl⟩
  obtain ⟨R, hR⟩ : ∃ R, W0.heap.size = R := ⟨_, rfl⟩
  rw [hG, hR] at HS0
  obtain ⟨W2, hW2⟩ : ∃ W, W1.alloc (.cells #[.bool false, .slice none 0 0, .slice none 0 0] 35) = W := ⟨_, rfl⟩
  have HS1 : Hid (BoxAt W0 W2 R G (mv P[s]! xs 0) zTri) := by rw [← hW2]; exact unhide HS0
  have B2 := alloc_below W1 (.cells #[.bool false, .slice none 0 0, .slice none 0 0] 35)
  rw [hW2] at B2
  have B02 := below_step B1 B2
  have q2 : W2.cell? ⟨bk, ok + s, none⟩ = some (.slice lra n lrc) := by rw [B02.cell (p := ⟨bk, ok + s, none⟩) hbk]; exact k0
  have ⟨d0, d1, d2, d3, d4⟩ := (unhide HX0).cells _ B02
  rw [hla, unhide HLN] at d0
  rw [unhide HMN] at d1
  have HRR := hide hR
  clear hb0 HS0 q0 B1 B2 B02 k0 x3 r1 r2 r3 er hxl hxr hxr' hrow hlr hlra hlrc ea sm gm
  go_enter Tryd.func42, Tryd.ntmps42
  go_wp2_with fail
  clear hW0 hbx c0 c1 c2 c3 c4 d0 d1 d2 d3 d4 q2 hW1 hW2 hG hR
  go_loopw [16] (fun vi wr => ∃ (i : Nat) (tg : Tri), vi = .int .i64 i ∧ i ≤ n ∧ BoxAt W0 wr R G (mv P[s]! xs i) tg) (fun vi _ => n - (intOf vi).toNat)
  case atStart => exact ⟨0, zTri, rfl, Nat.zero_le _, unhide HS1⟩
  case round =>
    obtain ⟨i, tg, rfl, hi, T⟩ := hrel
    clear HS1
    have HBT := hide T.bl
    by_cases hlt : i < n
    · obtain ⟨ax', cx', ex, _, _, hcx⟩ := (unhide HLX).below (below_step (unhide HB0) T.bl)
      obtain ⟨bv, ov, eav, hvlt, hcv⟩ := hcx (by rw [unhide HXL]; omega)
      have eax : ax = some ⟨bv, ov, none⟩ := by injection ex with e1; rw [e1, eav]
      obtain ⟨xs_, xp1, xp2, xn1, xd1, xn2, xd2, xk0, xk1, xk2, xr⟩ := hcv i (by rw [unhide HXL]; exact hlt)
      obtain ⟨tv, rfl, rfl, rfl, rfl, rfl, rfl, rfl⟩ : ∃ t : Tri, xs_ = t.s ∧ xp1 = t.a1 ∧ xp2 = t.a2 ∧ xn1 = t.n1 ∧ xd1 = t.c1 ∧ xn2 = t.n2 ∧ xd2 = t.c2 := ⟨⟨xs_, xp1, xp2, xn1, xd1, xn2, xd2⟩, rfl, rfl, rfl, rfl, rfl, rfl, rfl⟩
      have rv : RatIs wr tv.val xs[i]! := xr
      obtain ⟨b, o, eb, hblt, hcs⟩ := unhide HR3 (by rw [unhide HRW]; omega)
      rw [unhide HAR] at eb
      obtain ⟨s', p1, p2, m1, d1, m2, d2, k0, k1, k2, r⟩ := hcs i (by rw [unhide HRW]; exact hlt)
      obtain ⟨tx, rfl, rfl, rfl, rfl, rfl, rfl, rfl⟩ : ∃ t : Tri, s' = t.s ∧ p1 = t.a1 ∧ p2 = t.a2 ∧ m1 = t.n1 ∧ d1 = t.c1 ∧ m2 = t.n2 ∧ d2 = t.c2 := ⟨⟨s', p1, p2, m1, d1, m2, d2⟩, rfl, rfl, rfl, rfl, rfl, rfl, rfl⟩
      rw [← T.bl.cell (p := ⟨b, o + i * 3, none⟩) hblt] at k0
      rw [← T.bl.cell (p := ⟨b, o + i * 3 + 1, none⟩) hblt] at k1
      rw [← T.bl.cell (p := ⟨b, o + i * 3 + 2, none⟩) hblt] at k2
      have rx : RatIs wr tx.val (P[s]!)[i]! := r.below T.bl
      have bA := alloc_below wr (.cells #[.bool tx.s, .slice tx.a1 tx.n1 tx.c1, .slice tx.a2 tx.n2 tx.c2] 35)
      have T5 := T.keep bA
      have X5 := BoxIs.new rx
      have hi0 : (0 : Int) ≤ (i : Int) := by omega
      have hi1 : (i : Int) < (n : Int) := by omega
      have HCC : Hid (∀ W, Below (wr.alloc (.cells #[.bool tx.s, .slice tx.a1 tx.n1 tx.c1, .slice tx.a2 tx.n2 tx.c2] 35)).heap.size (wr.alloc (.cells #[.bool tx.s, .slice tx.a1 tx.n1 tx.c1, .slice tx.a2 tx.n2 tx.c2] 35)) W → (fun w' : World => (w'.cell? ⟨G, 0, none⟩ = some (.bool tg.s) ∧ w'.cell? ⟨G, 1, none⟩ = some (.slice tg.a1 tg.n1 tg.c1) ∧ w'.cell? ⟨G, 2, none⟩ = some (.slice tg.a2 tg.n2 tg.c2)) ∧ (w'.cell? ⟨wr.heap.size, 0, none⟩ = some (.bool tx.s) ∧ w'.cell? ⟨wr.heap.size, 1, none⟩ = some (.slice tx.a1 tx.n1 tx.c1) ∧ w'.cell? ⟨wr.heap.size, 2, none⟩ = some (.slice tx.a2 tx.n2 tx.c2)) ∧ w'.cell? ⟨bv, ov + i * 3, none⟩ = some (.bool tv.s) ∧ w'.cell? ⟨bv, ov + i * 3 + 1, none⟩ = some (.slice tv.a1 tv.n1 tv.c1) ∧ w'.cell? ⟨bv, ov + i * 3 + 2, none⟩ = some (.slice tv.a2 tv.n2 tv.c2)) W) := fun W hW => by
        have bc := below_step bA hW
        refine ⟨BoxIs.cells (q := mv P[s]! xs i) ⟨T5.all, T5.rat⟩ W hW, X5.cells W hW, ?_⟩
        rw [bc.cell (p := ⟨bv, ov + i * 3, none⟩) hvlt, bc.cell (p := ⟨bv, ov + i * 3 + 1, none⟩) hvlt, bc.cell (p := ⟨bv, ov + i * 3 + 2, none⟩) hvlt]
        exact ⟨xk0, xk1, xk2⟩
      have RV5 := rv.below bA
      obtain ⟨W5, hW5⟩ : ∃ W, wr.alloc (.cells #[.bool tx.s, .slice tx.a1 tx.n1 tx.c1, .slice tx.a2 tx.n2 tx.c2] 35) = W := ⟨_, rfl⟩
      obtain ⟨gx, hgx⟩ : ∃ g, wr.heap.size = g := ⟨_, rfl⟩
      rw [hW5] at T5 X5 HCC RV5
      rw [hgx] at X5 HCC
      have HT5 := hide T5
      have HX5 := hide X5
      have HV5 := hide RV5
      have rs1 := mv_RS (qs := P[s]!) (xs := xs) (J := J) (fun j hj => unhide HQ j (by rw [← unhide HRW]; exact hj)) (fun j hj => unhide HXX j (by rw [← unhide HRW]; exact hj)) i (by rw [unhide HRW]; omega)
      have rs2 := unhide HQ i hlt
      have rs3 := unhide HXX i hlt
      have hmi : i * (J + 2) ≤ 8 * (J + 2) := Nat.mul_le_mul_right (J + 2) (by omega)
      have HR1 := hide (rs1.mono (show i * (J + 2) + 1 ≤ 8 * (J + 2) + 1 by omega))
      have HR2 := hide (rs2.mono (show 1 ≤ 8 * (J + 2) + 1 by omega))
      have HR3' := hide (rs3.mono (show J ≤ 8 * (J + 2) + 1 by omega))
      have HR4 := hide ((rs2.mul rs3).mono (show 1 + J ≤ 8 * (J + 2) + 1 by omega))
      have HJ2 : Hid ((8 * (J + 2) + 1) + (8 * (J + 2) + 1) + 1 ≤ KK) := by show _ ≤ _; omega
      rw [eb, eax]
      clear T T5 X5 r rx hcs rs1 rs2 rs3 hmi bA RV5 rv xr hcv xk0 xk1 xk2 hcx ex
      go_wp2_with fail
      clear hW5 hgx k0 k1 k2
      refine wp_region_till (fun w' : World => (w'.cell? ⟨G, 0, none⟩ = some (.bool tg.s) ∧ w'.cell? ⟨G, 1, none⟩ = some (.slice tg.a1 tg.n1 tg.c1) ∧ w'.cell? ⟨G, 2, none⟩ = some (.slice tg.a2 tg.n2 tg.c2)) ∧ (w'.cell? ⟨gx, 0, none⟩ = some (.bool tx.s) ∧ w'.cell? ⟨gx, 1, none⟩ = some (.slice tx.a1 tx.n1 tx.c1) ∧ w'.cell? ⟨gx, 2, none⟩ = some (.slice tx.a2 tx.n2 tx.c2)) ∧ w'.cell? ⟨bv, ov + i * 3, none⟩ = some (.bool tv.s) ∧ w'.cell? ⟨bv, ov + i * 3 + 1, none⟩ = some (.slice tv.a1 tv.n1 tv.c1) ∧ w'.cell? ⟨bv, ov + i * 3 + 2, none⟩ = some (.slice tv.a2 tv.n2 tv.c2)) 8 (by kernel_rfl) ?_
      have bd0 : Below W5.heap.size W5 W5.drew := (Below.refl _ _).drew
      have hC0 : (fun w' : World => (w'.cell? ⟨G, 0, none⟩ = some (.bool tg.s) ∧ w'.cell? ⟨G, 1, none⟩ = some (.slice tg.a1 tg.n1 tg.c1) ∧ w'.cell? ⟨G, 2, none⟩ = some (.slice tg.a2 tg.n2 tg.c2)) ∧ (w'.cell? ⟨gx, 0, none⟩ = some (.bool tx.s) ∧ w'.cell? ⟨gx, 1, none⟩ = some (.slice tx.a1 tx.n1 tx.c1) ∧ w'.cell? ⟨gx, 2, none⟩ = some (.slice tx.a2 tx.n2 tx.c2)) ∧ w'.cell? ⟨bv, ov + i * 3, none⟩ = some (.bool tv.s) ∧ w'.cell? ⟨bv, ov + i * 3 + 1, none⟩ = some (.slice tv.a1 tv.n1 tv.c1) ∧ w'.cell? ⟨bv, ov + i * 3 + 2, none⟩ = some (.slice tv.a2 tv.n2 tv.c2)) W5.drew := unhide HCC _ bd0
      refine wpTill_take (i := 0) (v := ?_) rfl (by kernel_rfl) (by kernel_rfl) (by kernel_rfl) (by kernel_rfl) (by kernel_rfl) (by kernel_rfl) (fun _ _ _ h => h) (Or.inl ⟨by rfl, ?_⟩) hC0 ?_
      rotate_left
      · intro w hSw; (try dsimp only at hSw); obtain ⟨⟨u0, u1, u2⟩, ⟨u3, u4, u5⟩, u6, u7, u8⟩ := hSw; go_simp; (try with_reducible rfl)
      (try simp only [List.getElem_toArray, List.getElem_cons_succ, List.getElem_cons_zero])
      (try simp only [Act.put, List.setIfInBounds_toArray, List.set_cons_zero, List.set_cons_succ])
      refine wpTill_take (i := 1) (v := ?_) rfl (by kernel_rfl) (by kernel_rfl) (by kernel_rfl) (by kernel_rfl) (by kernel_rfl) (by kernel_rfl) (fun _ _ _ h => h) (Or.inl ⟨by rfl, ?_⟩) hC0 ?_
      rotate_left
      · intro w hSw; (try dsimp only at hSw); obtain ⟨⟨u0, u1, u2⟩, ⟨u3, u4, u5⟩, u6, u7, u8⟩ := hSw; go_simp; (try with_reducible rfl)
      (try simp only [List.getElem_toArray, List.getElem_cons_succ, List.getElem_cons_zero])
      (try simp only [Act.put, List.setIfInBounds_toArray, List.set_cons_zero, List.set_cons_succ])
      refine wpTill_pure (i := 2) (v := ?_) rfl (by kernel_rfl) (by kernel_rfl) (by kernel_rfl) (by kernel_rfl) (fun _ _ _ h => h) (Or.inl ⟨by rfl, ?_⟩) (fun _ => hC0) ?_
      rotate_left
      · intro w hSw; clear hSw; go_simp; (try with_reducible rfl)
      (try simp only [List.getElem_toArray, List.getElem_cons_succ, List.getElem_cons_zero])
      (try simp only [Act.put, List.setIfInBounds_toArray, List.set_cons_zero, List.set_cons_succ])
      refine wpTill_pure (i := 3) (v := ?_) rfl (by kernel_rfl) (by kernel_rfl) (by kernel_rfl) (by kernel_rfl) (fun _ _ _ h => h) (Or.inl ⟨by rfl, ?_⟩) (fun _ => hC0) ?_
      rotate_left
      · intro w hSw; clear hSw; go_simp; (try with_reducible rfl)
      (try simp only [List.getElem_toArray, List.getElem_cons_succ, List.getElem_cons_zero])
      (try simp only [Act.put, List.setIfInBounds_toArray, List.set_cons_zero, List.set_cons_succ])
      refine wpTill_pure (i := 4) (v := ?_) rfl (by kernel_rfl) (by kernel_rfl) (by kernel_rfl) (by kernel_rfl) (fun _ _ _ h => h) (Or.inl ⟨by rfl, ?_⟩) (fun _ => hC0) ?_
      rotate_left
      · intro w hSw; clear hSw; go_simp; (try with_reducible rfl)
      (try simp only [List.getElem_toArray, List.getElem_cons_succ, List.getElem_cons_zero])
      (try simp only [Act.put, List.setIfInBounds_toArray, List.set_cons_zero, List.set_cons_succ])
      refine wpTill_take (i := 5) (v := ?_) rfl (by kernel_rfl) (by kernel_rfl) (by kernel_rfl) (by kernel_rfl) (by kernel_rfl) (by kernel_rfl) (fun _ _ _ h => h) (Or.inl ⟨by rfl, ?_⟩) hC0 ?_
      rotate_left
      · intro w hSw; (try dsimp only at hSw); obtain ⟨⟨u0, u1, u2⟩, ⟨u3, u4, u5⟩, u6, u7, u8⟩ := hSw; go_simp; (try with_reducible rfl)
      (try simp only [List.getElem_toArray, List.getElem_cons_succ, List.getElem_cons_zero])
      (try simp only [Act.put, List.setIfInBounds_toArray, List.set_cons_zero, List.set_cons_succ])
      refine wpTill_one (k := 6) (by kernel_rfl) rfl (fun K hK => ?_)
      (try simp only [List.getElem_toArray, List.getElem_cons_succ, List.getElem_cons_zero])
      go_simp
      refine (mulR_any _ _ _ _ _ ((unhide HX5).2.below bd0) ((unhide HV5).below bd0) _ (unhide HR2) (unhide HR3') (unhide HJ2)).mono ?_
      rintro e w8 ⟨v8, rfl, hv8, hb8⟩
      have b8 := below_step bd0 hb8
      have hC8 : (fun w' : World => (w'.cell? ⟨G, 0, none⟩ = some (.bool tg.s) ∧ w'.cell? ⟨G, 1, none⟩ = some (.slice tg.a1 tg.n1 tg.c1) ∧ w'.cell? ⟨G, 2, none⟩ = some (.slice tg.a2 tg.n2 tg.c2)) ∧ (w'.cell? ⟨gx, 0, none⟩ = some (.bool tx.s) ∧ w'.cell? ⟨gx, 1, none⟩ = some (.slice tx.a1 tx.n1 tx.c1) ∧ w'.cell? ⟨gx, 2, none⟩ = some (.slice tx.a2 tx.n2 tx.c2)) ∧ w'.cell? ⟨bv, ov + i * 3, none⟩ = some (.bool tv.s) ∧ w'.cell? ⟨bv, ov + i * 3 + 1, none⟩ = some (.slice tv.a1 tv.n1 tv.c1) ∧ w'.cell? ⟨bv, ov + i * 3 + 2, none⟩ = some (.slice tv.a2 tv.n2 tv.c2)) w8 := unhide HCC _ b8
      have HAD := hide (addR_any _ _ _ _ w8 ((unhide HT5).rat.below b8) hv8 _ (unhide HR1) (unhide HR4) (unhide HJ2))
      refine hK.out _ _ (fun _ => hC8) ?_
      clear hK K
      (try simp only [Act.put, List.setIfInBounds_toArray, List.set_cons_zero, List.set_cons_succ])
      refine wpTill_one (k := 7) (by kernel_rfl) rfl (fun K hK => ?_)
      (try simp only [List.getElem_toArray, List.getElem_cons_succ, List.getElem_cons_zero])
      go_simp
      refine (unhide HAD).mono ?_
      rintro e w9 ⟨v9, rfl, hv9, hb9⟩
      have b9 := below_step b8 hb9
      have hC9 : (fun w' : World => (w'.cell? ⟨G, 0, none⟩ = some (.bool tg.s) ∧ w'.cell? ⟨G, 1, none⟩ = some (.slice tg.a1 tg.n1 tg.c1) ∧ w'.cell? ⟨G, 2, none⟩ = some (.slice tg.a2 tg.n2 tg.c2)) ∧ (w'.cell? ⟨gx, 0, none⟩ = some (.bool tx.s) ∧ w'.cell? ⟨gx, 1, none⟩ = some (.slice tx.a1 tx.n1 tx.c1) ∧ w'.cell? ⟨gx, 2, none⟩ = some (.slice tx.a2 tx.n2 tx.c2)) ∧ w'.cell? ⟨bv, ov + i * 3, none⟩ = some (.bool tv.s) ∧ w'.cell? ⟨bv, ov + i * 3 + 1, none⟩ = some (.slice tv.a1 tv.n1 tv.c1) ∧ w'.cell? ⟨bv, ov + i * 3 + 2, none⟩ = some (.slice tv.a2 tv.n2 tv.c2)) w9 := unhide HCC _ b9
      obtain ⟨t9, rfl, hr9⟩ := tri_of hv9
      have T9 := (unhide HT5).keep b9
      have FIN := hide (T9.set hr9)
      have ⟨_, _, _, l0, l1, l2⟩ := box_cell T9.all
      have ⟨⟨y0, y1, y2⟩, _⟩ := hC9
      simp only [Tri.val]
      clear T9 hv9 hr9 hv8
      refine hK.out _ _ (fun _ => hC9) ?_
      clear hK K
      (try simp only [Act.put, List.setIfInBounds_toArray, List.set_cons_zero, List.set_cons_succ])
      refine wpTill_one (k := 8) (by kernel_rfl) rfl (fun K hK => ?_)
      (try simp only [List.getElem_toArray, List.getElem_cons_succ, List.getElem_cons_zero])
      go_simp
      refine hK.out _ _ (fun h => absurd (h.symm.trans (by kernel_rfl)) Bool.false_ne_true) ?_
      clear hK K
      (try simp only [Act.put, List.setIfInBounds_toArray, List.set_cons_zero, List.set_cons_succ])
      refine wpTill_done (by kernel_rfl) ?_ _
      clear hC0 hC8 hC9 bd0 b8 b9 hb8 hb9 y0 y1 y2 l0 l1 l2
      go_wp2_with fail
      exact ⟨⟨i + 1, t9, by go_num, hlt, unhide FIN⟩, by simp [intOf]; omega⟩
    · obtain rfl : i = n := by omega
      have hlt' : ¬ (i : Int) < (i : Int) := by omega
      have ⟨g0, g1, g2, _, _, _⟩ := box_cell T.all
      have ⟨d0, d1, d2, d3, d4⟩ := (unhide HX0).cells _ T.bl
      have rs1 := mv_RS (qs := P[s]!) (xs := xs) (J := J) (fun j hj => unhide HQ j (by rw [← unhide HRW]; exact hj)) (fun j hj => unhide HXX j (by rw [← unhide HRW]; exact hj)) i (by rw [unhide HRW]; omega)
      have hmi : i * (J + 2) ≤ 8 * (J + 2) := Nat.mul_le_mul_right (J + 2) (by omega)
      have HSUB := hide (subR_any tg.val t.val _ _ wr T.rat ((unhide HX0).2.2.2.below T.bl) (8 * (J + 2) + 1) (rs1.mono (by omega)) ((unhide HSM).wc.mono (by omega)) (by omega))
      have HT := hide T
      clear T rs1 hmi HQ
      go_wp2_with fail
      refine (unhide HSUB).mono ?_
      rintro e w6 ⟨v6, rfl, hv6, hb6⟩
      obtain ⟨t6, rfl, hr6⟩ := tri_of hv6
      have T6 := (unhide HT).keep hb6
      have ⟨h0, h1', h2', l0, l1, l2⟩ := box_cell T6.res
      have rb := rat_boxed (w0 := W0) hr6 T6.res T6.bl T6.rl (.bool t6.s) (.slice t6.a1 t6.n1 t6.c1) (.slice t6.a2 t6.n2 t6.c2)
      have RB := hide rb
      simp only [Tri.val]
      clear T6 rb HSUB HT hv6 hr6 hb6 g0 g1 g2 d0 d1 d2 d3 d4
      go_wp2
      (try simp only [Exit.inBlock, Exit.then])
      have rb := unhide RB
      exact bodyPost_ret (v := .agg #[.bool t6.s, .slice t6.a1 t6.n1 t6.c1, .slice t6.a2 t6.n2 t6.c2]) (by simp [results, Tryd.results42, go_sem, h0, h1', h2']) rfl ⟨_, rfl, rb.1, below_step (unhide HB0) rb.2⟩

set_option maxHeartbeats 16000000 in
set_option maxRecDepth 100000 in
set_option linter.unusedSimpArgs false in
theorem greater_any (va vb : Value) (qa qb : Rat) (w : World) (ha : RatIs w va qa) (hb : RatIs w vb qb) (j : Nat) (ra : RS qa j) (rb : RS qb j) (hj : j ≤ KK) : Calls Tryd.prog 52 #[va, vb] w (fun e w' => ∃ v, e = .returned v ∧ RatIs w' v (Stp.mx qa qb) ∧ Below w.heap.size w w') := by
  obtain ⟨ta, rfl, ha'⟩ := tri_of ha
  obtain ⟨tb, rfl, hb'⟩ := tri_of hb
  have b1 := alloc_below w (.cells #[.bool ta.s, .slice ta.a1 ta.n1 ta.c1, .slice ta.a2 ta.n2 ta.c2] 35)
  have X0 := BoxIs.new ha'
  obtain ⟨W1, hW1⟩ : ∃ W, w.alloc (.cells #[.bool ta.s, .slice ta.a1 ta.n1 ta.c1, .slice ta.a2 ta.n2 ta.c2] 35) = W := ⟨_, rfl⟩
  obtain ⟨g1, hg1⟩ : ∃ g, w.heap.size + 1 = g := ⟨_, rfl⟩
  have s1 : W1.heap.size = g1 := by rw [← hW1, alloc_size, hg1]
  rw [hW1] at b1 X0
  have b2 := alloc_below W1 (.cells #[.bool tb.s, .slice tb.a1 tb.n1 tb.c1, .slice tb.a2 tb.n2 tb.c2] 35)
  have X1 := BoxIs.new (hb'.below b1)
  obtain ⟨W2, hW2⟩ : ∃ W, W1.alloc (.cells #[.bool tb.s, .slice tb.a1 tb.n1 tb.c1, .slice tb.a2 tb.n2 tb.c2] 35) = W := ⟨_, rfl⟩
  obtain ⟨g2, hg2⟩ : ∃ g, g1 + 1 = g := ⟨_, rfl⟩
  have s2 : W2.heap.size = g2 := by rw [← hW2, alloc_size, s1, hg2]
  rw [hW2] at b2 X1
  rw [s1] at X1
  have b3 := alloc_below W2 (.cells #[.bool false, .slice none 0 0, .slice none 0 0] 35)
  have X2 := BoxIs.new (w := W2) (t := zTri) (q := 0) (rat_zero _)
  obtain ⟨W3, hW3⟩ : ∃ W, W2.alloc (.cells #[.bool false, .slice none 0 0, .slice none 0 0] 35) = W := ⟨_, rfl⟩
  have X2' : BoxIs W3 g2 zTri 0 := by rw [← hW3, ← s2]; exact X2
  rw [hW3] at b3
  have Y0 := X0.keep (below_step b2 b3)
  have Y1 := X1.keep b3
  have ⟨c0, c1, c2⟩ := Y0.cells _ (Below.refl _ _)
  have ⟨d0, d1, d2⟩ := Y1.cells _ (Below.refl _ _)
  have HCM := hide (cmpR_all ta.val tb.val qa qb W3 Y0.2 Y1.2 j ra rb hj)
  have HB := hide (below_step b1 (below_step b2 b3))
  have HX0 := hide Y0
  have HX1 := hide Y1
  have HX2 := hide X2'
  have HG2 : Hid (w.heap.size ≤ g2) := by show _ ≤ _; omega
  simp only [Tri.val]
  clear ha hb ha' hb' b1 b2 b3 X0 X1 X2 X2' Y0 Y1 ra rb
  by_cases hlt : qa < qb
  · have HE : Hid (Stp.mx qa qb = qb) := by show Stp.mx qa qb = qb; unfold Stp.mx; rw [if_pos hlt]
    rw [cmpv_lt hlt] at HCM
    go_enter Tryd.func52, Tryd.ntmps52
    go_wp2_with fail
    refine (unhide HCM).mono ?_
    rintro e w3 ⟨rfl, hb3⟩
    clear hW1 hW2 hW3 s1 s2 hg1 hg2 c0 c1 c2 d0 d1 d2 HCM
    have HB3' := hide (below_step (unhide HB) hb3)
    have Y2 := (unhide HX2).keep hb3
    have Yt := (unhide HX1).keep hb3
    have ⟨l0, l1, l2⟩ := Y2.free
    have ⟨y0, y1, y2⟩ := Y2.cells _ (Below.refl _ _)
    have ⟨z0, z1, z2⟩ := Yt.cells _ (Below.refl _ _)
    have RB := hide (rat_boxed (w0 := w) Yt.2 Y2.1 (unhide HB3') (unhide HG2) (.bool tb.s) (.slice tb.a1 tb.n1 tb.c1) (.slice tb.a2 tb.n2 tb.c2))
    clear hb3 Y2 Yt
    go_wp2
    (try simp only [Exit.inBlock, Exit.then])
    have rb := unhide RB
    exact bodyPost_ret (v := .agg #[.bool tb.s, .slice tb.a1 tb.n1 tb.c1, .slice tb.a2 tb.n2 tb.c2]) (by simp [results, Tryd.results52, go_sem, y0, y1, y2]) rfl ⟨_, rfl, by rw [unhide HE]; exact rb.1, rb.2⟩
  · have HE : Hid (Stp.mx qa qb = qa) := by show Stp.mx qa qb = qa; unfold Stp.mx; rw [if_neg hlt]
    obtain ⟨y, hy⟩ : ∃ y, cmpv qa qb = y := ⟨_, rfl⟩
    have hy0 := cmpv_ge (Rat.not_lt.1 hlt)
    rw [hy] at HCM hy0
    have hy1 : ¬ y < 0 := by omega
    clear hy hy0
    go_enter Tryd.func52, Tryd.ntmps52
    go_wp2_with fail
    refine (unhide HCM).mono ?_
    rintro e w3 ⟨rfl, hb3⟩
    clear hW1 hW2 hW3 s1 s2 hg1 hg2 c0 c1 c2 d0 d1 d2 HCM
    have HB3' := hide (below_step (unhide HB) hb3)
    have Y2 := (unhide HX2).keep hb3
    have Yt := (unhide HX0).keep hb3
    have ⟨l0, l1, l2⟩ := Y2.free
    have ⟨y0, y1, y2⟩ := Y2.cells _ (Below.refl _ _)
    have ⟨z0, z1, z2⟩ := Yt.cells _ (Below.refl _ _)
    have RB := hide (rat_boxed (w0 := w) Yt.2 Y2.1 (unhide HB3') (unhide HG2) (.bool ta.s) (.slice ta.a1 ta.n1 ta.c1) (.slice ta.a2 ta.n2 ta.c2))
    clear hb3 Y2 Yt
    go_wp2
    (try simp only [Exit.inBlock, Exit.then])
    have rb := unhide RB
    exact bodyPost_ret (v := .agg #[.bool ta.s, .slice ta.a1 ta.n1 ta.c1, .slice ta.a2 ta.n2 ta.c2]) (by simp [results, Tryd.results52, go_sem, y0, y1, y2]) rfl ⟨_, rfl, by rw [unhide HE]; exact rb.1, rb.2⟩


theorem law_tris {w : World} {a : Option Addr} {c : Nat} {qs : List Rat} (h : LawIs w (.slice a qs.length c) qs) (hp : 0 < qs.length) : ∃ (b o : Nat) (us : List Tri), a = some ⟨b, o, none⟩ ∧ b < w.heap.size ∧ us.length = qs.length ∧ (∀ j u, (tcells us)[j]? = some u → w.cell? ((⟨b, o, none⟩ : Addr).add j) = some u) ∧ ∀ j, j < qs.length → RatIs w (us[j]!).val qs[j]! := by
  obtain ⟨a', c', e, _, _, h3⟩ := h
  obtain ⟨b, o, ea, hlt, hc⟩ := h3 hp
  have e1 : a = a' := by injection e
  have each : ∀ j, j < qs.length → ∃ t : Tri, (w.cell? ⟨b, o + j * 3, none⟩ = some (.bool t.s) ∧ w.cell? ⟨b, o + j * 3 + 1, none⟩ = some (.slice t.a1 t.n1 t.c1) ∧ w.cell? ⟨b, o + j * 3 + 2, none⟩ = some (.slice t.a2 t.n2 t.c2)) ∧ RatIs w t.val qs[j]! := fun j hj => by
    obtain ⟨s, a1, a2, n1, c1, n2, c2, k0, k1, k2, r⟩ := hc j hj
    exact ⟨⟨s, a1, a2, n1, c1, n2, c2⟩, ⟨k0, k1, k2⟩, r⟩
  obtain ⟨F, hF⟩ := Deep.choose_lt each
  have get : ∀ j, j < qs.length → ((List.range qs.length).map F)[j]! = F j := fun j hj => by simp [hj]
  refine ⟨b, o, (List.range qs.length).map F, by rw [e1, ea], hlt, by simp, fun j u hu => ?_, fun j hj => by rw [get j hj]; exact (hF j hj).2⟩
  have hj3 : j < qs.length * 3 := by
    have := (List.getElem?_eq_some_iff.1 hu).1
    rw [tcells_length] at this
    simpa using this
  have ej : j = j / 3 * 3 + j % 3 := by omega
  have hd : j / 3 < qs.length := by omega
  have hm : j % 3 < 3 := Nat.mod_lt _ (by decide)
  rw [ej, tcells_get _ _ _ (by simpa using hd) hm, get _ hd] at hu
  rw [addr_add, ej]
  obtain ⟨k0, k1, k2⟩ := (hF _ hd).1
  generalize j / 3 = p at *
  generalize j % 3 = r at *
  match r, hm with
  | 0, _ => rw [Nat.add_zero]; rw [k0]; exact hu
  | 1, _ => rw [← Nat.add_assoc, k1]; exact hu
  | 2, _ => rw [← Nat.add_assoc, k2]; exact hu
/-- What a copy is. -/
def ClonePost (w : World) (qs : List Rat) (e : Ending) (w' : World) : Prop := ∃ (G : Nat) (us : List Tri), e = .returned (.slice (some ⟨G, 0, none⟩) qs.length us.length) ∧ SumsAt w w' G us (qs ++ List.replicate (us.length - qs.length) 0) ∧ qs.length ≤ us.length ∧ us.length ≤ 9223372036854775807
set_option maxHeartbeats 16000000 in
set_option maxRecDepth 100000 in
set_option linter.unusedSimpArgs false in
theorem rclone_any (v : Value) (qs : List Rat) (w : World) (h : LawIs w v qs) (hp : 0 < qs.length) (hl : qs.length ≤ 1000) : Calls Tryd.prog 41 #[v] w (ClonePost w qs) := by
  obtain ⟨a, c, rfl, h1, h2, h3⟩ := id h
  obtain ⟨b, o, us, rfl, hblt, hus, hnews, hr⟩ := law_tris h hp
  obtain ⟨n, hn⟩ : ∃ n, qs.length = n := ⟨_, rfl⟩
  have q1 := fun (W : World) (a : Option Addr) (n c : Nat) => Lib.run_eql_slice_nil (P := Tryd.prog) W 31 35 a n c 0 0 Tryd.underlying31
  obtain ⟨i, hi, hz0, hz1, hz2⟩ := info_parts Tryd.infoR
  have hnews' : ∀ j u, (tcells us)[j]? = some u → (w.alloc (.cells #[] 35)).cell? ((⟨b, o, none⟩ : Addr).add j) = some u := fun j u hu => by
    have := hnews j u hu
    rw [addr_add] at this ⊢
    rw [(alloc_below w _).cell (p := ⟨b, o + j, none⟩) hblt]
    exact this
  have HNW := hide hnews'
  have HR := hide hr
  have HI := hide hi
  have H0 := hide hz0
  have HTL : Hid ((tcells us).length = n * 3) := by show _ = _; rw [tcells_length, hus, hn]
  have HUS : Hid (us.length = n) := by show _ = _; rw [hus, hn]
  have HN := hide hn
  rw [hn] at hp hl ⊢
  clear h h3 hnews hnews' hr hi hz0 hus hn
  go_enter Tryd.func41, Tryd.ntmps41
  go_wp2_with (at_builtin; go_loud (refine wpList_append_new _ rfl _ _ _ rfl 35 i _ 56 Tryd.underlying31 (unhide HI) (unhide H0) hz1 hz2 ⟨w.heap.size, 0, none⟩ rfl ⟨b, o, none⟩ n c (tcells us) rfl (unhide HTL) (unhide HNW) hp (by unfold maxLen; omega) (by omega) ?_; intro cap hcap hmx))
  go_ret
  have hzc : (Value.agg zR).cells = zR := by simp [Value.cells, zR]
  have bA : Below w.heap.size w ((w.alloc (.cells #[] 35)).drew.alloc (.cells ((tcells us).toArray ++ Builtin.zeroCells (Value.agg zR).cells (cap - n)) 35)) := below_step (below_step (alloc_below w _) ((Below.refl _ _).drew)) (alloc_below _ _)
  have hlen : (us ++ List.replicate (cap - n) zTri).length = cap := by rw [List.length_append, List.length_replicate, unhide HUS]; omega
  refine ⟨_, us ++ List.replicate (cap - n) zTri, by rw [hlen, unhide HN]; rfl, ⟨?_, ?_, fun j hj => ?_, bA, Nat.le_succ _⟩, by rw [hlen]; have := unhide HN; omega, by rw [hlen]; exact hmx⟩
  · have hn := heap_alloc_new ((w.alloc (.cells #[] 35)).drew) (.cells ((tcells us).toArray ++ Builtin.zeroCells (Value.agg zR).cells (cap - n)) 35)
    have hsz : (w.alloc (.cells #[] 35)).drew.heap.size = w.heap.size + 1 := alloc_size w _
    rw [hsz, hzc, zero_tcells] at hn
    rw [zero_tcells, tcells_app, show (tcells us ++ tcells (List.replicate (cap - n) zTri)).toArray = (tcells us).toArray ++ (tcells (List.replicate (cap - n) zTri)).toArray by simp]
    exact hn
  · rw [hlen, List.length_append, List.length_replicate, unhide HN]; omega
  · rw [hlen] at hj
    by_cases hjn : j < n
    · have e1 : (us ++ List.replicate (cap - n) zTri)[j]! = us[j]! := by rw [List.getElem!_eq_getElem?_getD, List.getElem!_eq_getElem?_getD, List.getElem?_append_left (by rw [unhide HUS]; exact hjn)]
      have e2 : (qs ++ List.replicate ((us ++ List.replicate (cap - n) zTri).length - qs.length) (0 : Rat))[j]! = qs[j]! := by rw [List.getElem!_eq_getElem?_getD, List.getElem!_eq_getElem?_getD, List.getElem?_append_left (by rw [unhide HN]; exact hjn)]
      rw [e1, e2]
      exact (unhide HR j (by rw [unhide HN]; exact hjn)).below bA
    · have e1 : (us ++ List.replicate (cap - n) zTri)[j]! = zTri := by
        rw [List.getElem!_eq_getElem?_getD, List.getElem?_append_right (by rw [unhide HUS]; omega), List.getElem?_replicate, if_pos (by rw [unhide HUS]; omega)]; rfl
      have e2 : (qs ++ List.replicate ((us ++ List.replicate (cap - n) zTri).length - qs.length) (0 : Rat))[j]! = 0 := by
        rw [hlen, List.getElem!_eq_getElem?_getD, List.getElem?_append_right (by rw [unhide HN]; omega), List.getElem?_replicate, if_pos (by rw [unhide HN]; omega)]; rfl
      rw [e1, e2]
      exact rat_zero _

end Go.Proofs.YtgpolilpgkhlkaaDoor
