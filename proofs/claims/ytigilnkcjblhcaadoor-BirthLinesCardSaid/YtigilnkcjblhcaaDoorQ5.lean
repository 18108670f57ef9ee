/- Erlang: what is allowed, how likely each number of servers is at work, and who is lost. -/
import Derived.Test.YtigilnkcjblhcaaDoorQ2
namespace Go.Proofs.YtigilnkcjblhcaaDoor
open Go.RowKit Go.Sort Go.Shelf

/-- The sign of a comparison. -/
def cmpv (a b : Rat) : Int := Wd.sg (a.num * b.den) (b.num * a.den)
theorem cmpv_lt {a b : Rat} (h : a < b) : cmpv a b = -1 := by
  have h' := Rat.lt_iff a b |>.1 h
  unfold cmpv Wd.sg
  rw [if_pos h']
theorem cmpv_ge {a b : Rat} (h : b ≤ a) : 0 ≤ cmpv a b ∧ cmpv a b ≤ 1 := by
  have h' := Rat.le_iff b a |>.1 h
  unfold cmpv
  exact sg_ge h'
theorem cmpv_le {a b : Rat} (h : a ≤ b) : -1 ≤ cmpv a b ∧ cmpv a b ≤ 0 := by
  have h' := Rat.le_iff a b |>.1 h
  unfold cmpv Wd.sg
  by_cases e : a.num * b.den < b.num * a.den
  · rw [if_pos e]; exact ⟨by decide, by decide⟩
  · rw [if_neg e, if_pos (by omega)]; exact ⟨by decide, by decide⟩
theorem cmpR_all (va vb : Value) (qa qb : Rat) (w : World) (ha : RatIs w va qa) (hb : RatIs w vb qb) (j : Nat) (ra : RS qa j) (rb : RS qb j) (hj : j ≤ KK) :
    Calls Tryd.prog 17 #[va, vb] w fun e w' => e = .returned (.int .i64 (cmpv qa qb)) ∧ Below w.heap.size w w' :=
  cmpR_any va vb qa qb w ha hb (sm_of ra.1 hj) (sm_of rb.1 hj) (sm_of ra.2 hj) (sm_of rb.2 hj)

/-- What weights says. -/
def WtSays (w : World) (a : Rat) (c : Nat) (e : Ending) (w' : World) : Prop := ∃ G us, e = .returned (.slice (some ⟨G, 0, none⟩) (c + 1) (c + 1)) ∧ SumsAt w w' G us (row (Bth.wt a) (c + 1))

theorem wt_RS {a : Rat} (ha : RS a 1) : ∀ n, n ≤ 1000 → RS (Bth.wt a n) (2 * n + 1)
  | 0, _ => one_RS'
  | n + 1, h => by
    have ih := wt_RS ha n (by omega)
    have hw : RS (((n + 1 : Nat) : Int) : Rat) 1 := by
      have e : Wd.pw 1 = 18446744073709551616 := Wd.pw_one
      refine ⟨?_, ?_⟩
      · rw [e]; show ((((n + 1 : Nat) : Int).natAbs : Nat) : Int) < _; omega
      · rw [e]; show ((1 : Nat) : Int) < _; decide
    rw [Bth.wt_succ]
    exact (RS.div' (RS.mul ih ha) hw (show ((n + 1 : Nat) : Int) ≠ 0 by omega)).mono (by omega)

set_option maxHeartbeats 8000000 in
set_option maxRecDepth 100000 in
set_option linter.unusedSimpArgs false in
theorem allowed_ok (v : Value) (a : Rat) (c : Nat) (w : World) (h : RatIs w v a) (ha : 0 ≤ a.num) (hc : c ≤ 100) :
    Calls Tryd.prog 36 #[v, .int .i64 (c : Int)] w fun e w' => e = .returned .nilIface ∧ Below w.heap.size w w' := by
  obtain ⟨t, rfl, h'⟩ := tri_of h
  have X0 := BoxIs.new h'
  have b0 := alloc_below w (.cells #[.bool t.s, .slice t.a1 t.n1 t.c1, .slice t.a2 t.n2 t.c2] 34)
  obtain ⟨W0, hW0⟩ : ∃ W, w.alloc (.cells #[.bool t.s, .slice t.a1 t.n1 t.c1, .slice t.a2 t.n2 t.c2] 34) = W := ⟨_, rfl⟩
  rw [hW0] at X0 b0
  have ⟨c0, c1, c2⟩ := X0.cells _ (Below.refl _ _)
  have HSX : Hid (∃ x : Int, 0 ≤ x ∧ x ≤ 1 ∧ Calls Tryd.prog 16 #[.agg #[.bool t.s, .slice t.a1 t.n1 t.c1, .slice t.a2 t.n2 t.c2]] W0 fun e w' => e = .returned (.int .i64 x) ∧ Below W0.heap.size W0 w') := ⟨a.num.sign, Int.sign_nonneg_iff.2 ha, (sign_bd _).2, sign_any t.val a W0 X0.2⟩
  obtain ⟨x, x0, x1, hx⟩ := unhide HSX
  have HX := hide hx
  have HB0 := hide b0
  have e1 : ¬ (c : Int) < 0 := by omega
  have e2 : ¬ (100 : Int) < (c : Int) := by omega
  simp only [Tri.val]
  clear h h' X0 b0 HSX hx
  go_enter Tryd.func36, Tryd.ntmps36
  go_wp2_with fail
  refine (unhide HX).mono ?_
  rintro e w1 ⟨rfl, hb1⟩
  have HB1 := hide (below_step (unhide HB0) hb1)
  clear hb1 hW0 c0 c1 c2 HX
  go_wp2
  go_ret
  exact ⟨rfl, unhide HB1⟩

set_option maxHeartbeats 8000000 in
set_option maxRecDepth 100000 in
set_option linter.unusedSimpArgs false in
theorem allowed_bad (v : Value) (a : Rat) (c : Nat) (w : World) (h : RatIs w v a) (ha : a.num < 0) :
    Calls Tryd.prog 36 #[v, .int .i64 (c : Int)] w fun e w' => e = .returned (.iface 62 (.int .i64 1)) ∧ Below w.heap.size w w' := by
  obtain ⟨t, rfl, h'⟩ := tri_of h
  have X0 := BoxIs.new h'
  have b0 := alloc_below w (.cells #[.bool t.s, .slice t.a1 t.n1 t.c1, .slice t.a2 t.n2 t.c2] 34)
  obtain ⟨W0, hW0⟩ : ∃ W, w.alloc (.cells #[.bool t.s, .slice t.a1 t.n1 t.c1, .slice t.a2 t.n2 t.c2] 34) = W := ⟨_, rfl⟩
  rw [hW0] at X0 b0
  have ⟨c0, c1, c2⟩ := X0.cells _ (Below.refl _ _)
  have hx := sign_any t.val a W0 X0.2
  rw [Int.sign_eq_neg_one_of_neg ha] at hx
  have HX := hide hx
  have HB0 := hide b0
  simp only [Tri.val]
  clear h h' X0 b0 hx
  go_enter Tryd.func36, Tryd.ntmps36
  go_wp2_with fail
  refine (unhide HX).mono ?_
  rintro e w1 ⟨rfl, hb1⟩
  have HB1 := hide (below_step (unhide HB0) hb1)
  clear hb1 hW0 c0 c1 c2 HX
  go_wp2
  go_ret
  exact ⟨rfl, unhide HB1⟩

set_option maxHeartbeats 8000000 in
set_option maxRecDepth 100000 in
set_option linter.unusedSimpArgs false in
theorem weights_own (v : Value) (a : Rat) (c : Nat) (w : World) (h : RatIs w v a) (ha : RS a 1) (hc : c ≤ 20) :
    Calls Tryd.prog 37 #[v, .int .i64 (c : Int)] w (WtSays w a c) := by
  obtain ⟨t, rfl, h'⟩ := tri_of h
  have KKe : KK = 1099511627776 := rfl
  have HRA := hide ha
  have X0 := BoxIs.new h'
  have b0 := alloc_below w (.cells #[.bool t.s, .slice t.a1 t.n1 t.c1, .slice t.a2 t.n2 t.c2] 34)
  obtain ⟨W0, hW0⟩ : ∃ W, w.alloc (.cells #[.bool t.s, .slice t.a1 t.n1 t.c1, .slice t.a2 t.n2 t.c2] 34) = W := ⟨_, rfl⟩
  obtain ⟨bb, hbb⟩ : ∃ b, w.heap.size = b := ⟨_, rfl⟩
  rw [hW0] at X0 b0
  have qmk := make_ratios ((c : Int) + 1) (by omega) (by omega) W0
  rw [show ((c : Int) + 1).toNat = c + 1 by omega] at qmk
  have S0 := SumsAt.start w W0 (c + 1) b0
  rw [fill_zero (Bth.wt a) (c + 1)] at S0
  have X1 := X0.keep (alloc_below W0 (.cells (tcells (List.replicate (c + 1) zTri)).toArray 34))
  have hbG : bb < W0.heap.size := by rw [← hbb]; exact X0.lt
  obtain ⟨W1, hW1⟩ : ∃ W, W0.alloc (.cells (tcells (List.replicate (c + 1) zTri)).toArray 34) = W := ⟨_, rfl⟩
  obtain ⟨G, hG⟩ : ∃ G, W0.heap.size = G := ⟨_, rfl⟩
  rw [hW1, hG] at qmk S0
  rw [hW1, hbb] at X1
  rw [hG] at hbG
  have HS0 := hide S0
  have HX1 := hide X1
  have HNE := hide (Nat.ne_of_lt hbG)
  have HBE := hide hbb
  have HMUL : Hid (∀ W v v' q q' (r : RatIs W v q) (r' : RatIs W v' q') (s : RS q 100) (s' : RS q' 100), Calls Tryd.prog 10 #[v, v'] W fun e w' => ∃ v, e = .returned v ∧ RatIs w' v (q * q') ∧ Below W.heap.size W w') := fun W v v' q q' h h' r r' => mulR_any v v' q q' W h h' 100 r r' (by rw [KKe]; omega)
  have HDIV : Hid (∀ W v v' q q' (r : RatIs W v q) (r' : RatIs W v' q') (s : RS q 100) (s' : RS q' 100) (z : q'.num ≠ 0), Calls Tryd.prog 23 #[v, v'] W fun e w' => ∃ v, e = .returned v ∧ RatIs w' v (q / q') ∧ Below W.heap.size W w') := fun W v v' q q' h h' r r' z => bdivided_any v v' q q' W h h' 100 r r' (by rw [KKe]; omega) z
  have e4 : (0 : Int) < (c : Int) + 1 := by omega
  simp only [Tri.val]
  clear h h' X0 b0 S0 X1 hG hbG hW1
  go_enter Tryd.func37, Tryd.ntmps37
  go_wp2_with fail
  clear hW0 qmk hbb
  refine (whole_any 1 (by decide) (by decide) _).mono ?_
  rintro e w1 ⟨v1, rfl, hv1, hb1⟩
  obtain ⟨t1, rfl, r1⟩ := tri_of hv1
  simp only [Tri.val]
  have S1 := (unhide HS0).keep hb1
  have X2 := (unhide HX1).keep hb1
  have CZ := S1.cells 0 (by rw [S1.len, fill_length]; omega)
  have FZ := S1.set 0 (by rw [S1.len, fill_length]; omega) t1 (Bth.wt a 0) r1
  have FX := X2.rowed S1.row (unhide HNE) 0 1 2 (.bool t1.s) (.slice t1.a1 t1.n1 t1.c1) (.slice t1.a2 t1.n2 t1.c2)
  rw [fill_set (Bth.wt a)] at FZ
  simp only [Nat.zero_mul, Nat.zero_add] at CZ FZ
  obtain ⟨⟨y0, y1, y2⟩, l0, l1, l2⟩ := CZ
  obtain ⟨W2, hW2⟩ : ∃ W, ((w1.setCell ⟨G, 0, none⟩ (.bool t1.s)).setCell ⟨G, 1, none⟩ (.slice t1.a1 t1.n1 t1.c1)).setCell ⟨G, 2, none⟩ (.slice t1.a2 t1.n2 t1.c2) = W := ⟨_, rfl⟩
  rw [hW2] at FZ FX
  have HS2 := hide FZ
  have HX2 := hide FX
  clear S1 X2 FZ FX r1 hv1 hb1 HS0 HX1
  go_wp2_with fail
  clear hW2 y0 y1 y2 l0 l1 l2
  go_loopw [14] (fun vi wr => ∃ (k : Nat) (us : List Tri), vi = .int .i64 (k : Int) ∧ k ≤ c ∧ SumsAt w wr G us (fill (Bth.wt a) (c + 1) (k + 1)) ∧ BoxIs wr bb t a) (fun vi _ => c - (intOf vi).toNat)
  case atStart => exact ⟨0, _, rfl, Nat.zero_le _, unhide HS2, unhide HX2⟩
  case round =>
    obtain ⟨k, us, rfl, hk, S, X⟩ := hrel
    have hul : us.length = c + 1 := by rw [S.len, fill_length]
    clear HS2 HX2
    by_cases hlt : k < c
    · obtain ⟨sk0, _⟩ := S.cells k (by omega)
      have rk := S.rat k (by omega)
      rw [fill_get (by omega) (by omega)] at rk
      obtain ⟨tp, htp⟩ : ∃ t, us[k]! = t := ⟨_, rfl⟩
      rw [htp] at sk0 rk
      have hGlt : G < wr.heap.size := (Array.getElem?_eq_some_iff.1 S.row).1
      have HS := hide S
      have HX := hide X
      have HCC : Hid (∀ W, Below wr.heap.size wr W → (fun w' : World => (w'.cell? ⟨G, k * 3, none⟩ = some (.bool tp.s) ∧ w'.cell? ⟨G, k * 3 + 1, none⟩ = some (.slice tp.a1 tp.n1 tp.c1) ∧ w'.cell? ⟨G, k * 3 + 2, none⟩ = some (.slice tp.a2 tp.n2 tp.c2)) ∧ (w'.cell? ⟨bb, 0, none⟩ = some (.bool t.s) ∧ w'.cell? ⟨bb, 1, none⟩ = some (.slice t.a1 t.n1 t.c1) ∧ w'.cell? ⟨bb, 2, none⟩ = some (.slice t.a2 t.n2 t.c2))) W) := fun W hW => by
        refine ⟨?_, (unhide HX).cells W hW⟩
        rw [hW.cell (p := ⟨G, k * 3, none⟩) hGlt, hW.cell (p := ⟨G, k * 3 + 1, none⟩) hGlt, hW.cell (p := ⟨G, k * 3 + 2, none⟩) hGlt]
        exact sk0
      have HRP := hide rk
      have rsp := (wt_RS (unhide HRA) k (by omega)).mono (show 2 * k + 1 ≤ 51 by omega)
      have HSP := hide (rsp.mono (show 51 ≤ 100 by omega))
      have HSA := hide ((unhide HRA).mono (show 1 ≤ 100 by omega))
      have HSM := hide ((RS.mul rsp (unhide HRA)).mono (show 51 + 1 ≤ 100 by omega))
      have HSW : Hid (RS (((k : Int) + 1 : Int) : Rat) 100) := by
        have e : Wd.pw 1 = 18446744073709551616 := Wd.pw_one
        have h : RS (((k : Int) + 1 : Int) : Rat) 1 := by
          refine ⟨?_, ?_⟩
          · rw [e]; show ((((k : Int) + 1).natAbs : Nat) : Int) < _; omega
          · rw [e]; show ((1 : Nat) : Int) < _; decide
        exact h.mono (by omega)
      have HZ : Hid ((((k : Int) + 1 : Int) : Rat).num ≠ 0) := show ((k : Int) + 1) ≠ 0 by omega
      have HWH : Hid (∀ W, Calls Tryd.prog 12 #[.int .i64 ((k : Int) + 1)] W fun e w' => ∃ v, e = .returned v ∧ RatIs w' v (((k : Int) + 1 : Int) : Rat) ∧ Below W.heap.size W w') := fun W => whole_any ((k : Int) + 1) (by omega) (by omega) W
      have HPN : Hid (Bth.wt a k * a / (((k : Int) + 1 : Int) : Rat) = Bth.wt a (k + 1)) := (Bth.wt_succ a k).symm
      have j1 : (k : Int) < (c : Int) := by omega
      have j2 : (0 : Int) ≤ (k : Int) := by omega
      have j3 : (k : Int) < (c : Int) + 1 := by omega
      have j4 : (k : Int) + 1 < (c : Int) + 1 := by omega
      have j5 : (0 : Int) ≤ (k : Int) + 1 := by omega
      have j6 : IntKind.i64.wrap ((k : Int) + 1) = (k : Int) + 1 := by rw [IntKind.wrap_i64]; omega
      have j7 : ((k : Int) + 1).toNat = k + 1 := by omega
      have HTP := hide htp
      clear S X rk rsp sk0 htp
      go_wp2_with fail
      refine wp_region_hold (fun w' : World => (w'.cell? ⟨G, k * 3, none⟩ = some (.bool tp.s) ∧ w'.cell? ⟨G, k * 3 + 1, none⟩ = some (.slice tp.a1 tp.n1 tp.c1) ∧ w'.cell? ⟨G, k * 3 + 2, none⟩ = some (.slice tp.a2 tp.n2 tp.c2)) ∧ (w'.cell? ⟨bb, 0, none⟩ = some (.bool t.s) ∧ w'.cell? ⟨bb, 1, none⟩ = some (.slice t.a1 t.n1 t.c1) ∧ w'.cell? ⟨bb, 2, none⟩ = some (.slice t.a2 t.n2 t.c2))) (by kernel_rfl) ?_
      have bd0 : Below wr.heap.size wr wr.drew := (Below.refl _ _).drew
      have hC0 : (fun w' : World => (w'.cell? ⟨G, k * 3, none⟩ = some (.bool tp.s) ∧ w'.cell? ⟨G, k * 3 + 1, none⟩ = some (.slice tp.a1 tp.n1 tp.c1) ∧ w'.cell? ⟨G, k * 3 + 2, none⟩ = some (.slice tp.a2 tp.n2 tp.c2)) ∧ (w'.cell? ⟨bb, 0, none⟩ = some (.bool t.s) ∧ w'.cell? ⟨bb, 1, none⟩ = some (.slice t.a1 t.n1 t.c1) ∧ w'.cell? ⟨bb, 2, none⟩ = some (.slice t.a2 t.n2 t.c2))) wr.drew := unhide HCC _ bd0
      refine wpHold_take (i := 0) (v := ?_) rfl (by kernel_rfl) (by kernel_rfl) (by kernel_rfl) (fun _ _ _ h => h) (Or.inl ⟨by rfl, ?_⟩) hC0 ?_
      rotate_left
      · intro w hSw; clear hSw; go_simp; (try with_reducible rfl)
      (try simp only [List.getElem_toArray, List.getElem_cons_succ, List.getElem_cons_zero])
      (try simp only [Act.put, List.setIfInBounds_toArray, List.set_cons_zero, List.set_cons_succ])
      refine wpHold_take (i := 1) (v := ?_) rfl (by kernel_rfl) (by kernel_rfl) (by kernel_rfl) (fun _ _ _ h => h) (Or.inl ⟨by rfl, ?_⟩) hC0 ?_
      rotate_left
      · intro w hSw; clear hSw; go_simp; (try with_reducible rfl)
      (try simp only [List.getElem_toArray, List.getElem_cons_succ, List.getElem_cons_zero])
      (try simp only [Act.put, List.setIfInBounds_toArray, List.set_cons_zero, List.set_cons_succ])
      refine wpHold_take (i := 2) (v := ?_) rfl (by kernel_rfl) (by kernel_rfl) (by kernel_rfl) (fun _ _ _ h => h) (Or.inl ⟨by rfl, ?_⟩) hC0 ?_
      rotate_left
      · intro w hSw; clear hSw; go_simp; (try with_reducible rfl)
      (try simp only [List.getElem_toArray, List.getElem_cons_succ, List.getElem_cons_zero])
      (try simp only [Act.put, List.setIfInBounds_toArray, List.set_cons_zero, List.set_cons_succ])
      refine wpHold_take (i := 3) (v := ?_) rfl (by kernel_rfl) (by kernel_rfl) (by kernel_rfl) (fun _ _ _ h => h) (Or.inl ⟨by rfl, ?_⟩) hC0 ?_
      rotate_left
      · intro w hSw; clear hSw; go_simp; (try with_reducible rfl)
      (try simp only [List.getElem_toArray, List.getElem_cons_succ, List.getElem_cons_zero])
      (try simp only [Act.put, List.setIfInBounds_toArray, List.set_cons_zero, List.set_cons_succ])
      refine wpHold_take (i := 4) (v := ?_) rfl (by kernel_rfl) (by kernel_rfl) (by kernel_rfl) (fun _ _ _ h => h) (Or.inl ⟨by rfl, ?_⟩) hC0 ?_
      rotate_left
      · intro w hSw; clear hSw; go_simp; (try with_reducible rfl)
      (try simp only [List.getElem_toArray, List.getElem_cons_succ, List.getElem_cons_zero])
      (try simp only [Act.put, List.setIfInBounds_toArray, List.set_cons_zero, List.set_cons_succ])
      refine wpHold_take (i := 5) (v := ?_) rfl (by kernel_rfl) (by kernel_rfl) (by kernel_rfl) (fun _ _ _ h => h) (Or.inl ⟨by rfl, ?_⟩) hC0 ?_
      rotate_left
      · intro w hSw; clear hSw; go_simp; (try with_reducible rfl)
      (try simp only [List.getElem_toArray, List.getElem_cons_succ, List.getElem_cons_zero])
      (try simp only [Act.put, List.setIfInBounds_toArray, List.set_cons_zero, List.set_cons_succ])
      refine wpHold_take (i := 6) (v := ?_) rfl (by kernel_rfl) (by kernel_rfl) (by kernel_rfl) (fun _ _ _ h => h) (Or.inl ⟨by rfl, ?_⟩) hC0 ?_
      rotate_left
      · intro w hSw; (try dsimp only at hSw); obtain ⟨⟨z0, z1, z2⟩, z3, z4, z5⟩ := hSw; go_simp; (try with_reducible rfl)
      (try simp only [List.getElem_toArray, List.getElem_cons_succ, List.getElem_cons_zero])
      (try simp only [Act.put, List.setIfInBounds_toArray, List.set_cons_zero, List.set_cons_succ])
      refine wpHold_take (i := 7) (v := ?_) rfl (by kernel_rfl) (by kernel_rfl) (by kernel_rfl) (fun _ _ _ h => h) (Or.inl ⟨by rfl, ?_⟩) hC0 ?_
      rotate_left
      · intro w hSw; (try dsimp only at hSw); obtain ⟨⟨z0, z1, z2⟩, z3, z4, z5⟩ := hSw; go_simp; (try with_reducible rfl)
      (try simp only [List.getElem_toArray, List.getElem_cons_succ, List.getElem_cons_zero])
      (try simp only [Act.put, List.setIfInBounds_toArray, List.set_cons_zero, List.set_cons_succ])
      refine wpHold_take (i := 9) (v := ?_) rfl (by kernel_rfl) (by kernel_rfl) (by kernel_rfl) (fun _ _ _ h => h) (Or.inl ⟨by rfl, ?_⟩) hC0 ?_
      rotate_left
      · intro w hSw; clear hSw; go_simp; (try with_reducible rfl)
      (try simp only [List.getElem_toArray, List.getElem_cons_succ, List.getElem_cons_zero])
      (try simp only [Act.put, List.setIfInBounds_toArray, List.set_cons_zero, List.set_cons_succ])
      refine wpHold_take (i := 10) (v := ?_) rfl (by kernel_rfl) (by kernel_rfl) (by kernel_rfl) (fun _ _ _ h => h) (Or.inl ⟨by rfl, ?_⟩) hC0 ?_
      rotate_left
      · intro w hSw; clear hSw; go_simp; (try with_reducible rfl)
      (try simp only [List.getElem_toArray, List.getElem_cons_succ, List.getElem_cons_zero])
      (try simp only [Act.put, List.setIfInBounds_toArray, List.set_cons_zero, List.set_cons_succ])
      refine wpHold_one (k := 8) (by kernel_rfl) rfl (fun K hK => ?_)
      (try simp only [List.getElem_toArray, List.getElem_cons_succ, List.getElem_cons_zero])
      go_simp
      refine (unhide HMUL _ _ _ _ _ ((unhide HRP).below bd0) ((unhide HX).2.below bd0) (unhide HSP) (unhide HSA)).mono ?_
      rintro e xw_1 ⟨xv_1, rfl, hv_1, hb_1⟩
      have cc_1 := below_step bd0 hb_1
      have hC_1 : (fun w' : World => (w'.cell? ⟨G, k * 3, none⟩ = some (.bool tp.s) ∧ w'.cell? ⟨G, k * 3 + 1, none⟩ = some (.slice tp.a1 tp.n1 tp.c1) ∧ w'.cell? ⟨G, k * 3 + 2, none⟩ = some (.slice tp.a2 tp.n2 tp.c2)) ∧ (w'.cell? ⟨bb, 0, none⟩ = some (.bool t.s) ∧ w'.cell? ⟨bb, 1, none⟩ = some (.slice t.a1 t.n1 t.c1) ∧ w'.cell? ⟨bb, 2, none⟩ = some (.slice t.a2 t.n2 t.c2))) xw_1 := unhide HCC _ cc_1
      refine hK.out _ _ hC_1 ?_
      clear hK K
      (try simp only [Act.put, List.setIfInBounds_toArray, List.set_cons_zero, List.set_cons_succ])
      refine wpHold_one (k := 11) (by kernel_rfl) rfl (fun K hK => ?_)
      (try simp only [List.getElem_toArray, List.getElem_cons_succ, List.getElem_cons_zero])
      go_simp
      refine (unhide HWH _).mono ?_
      rintro e xw_2 ⟨xv_2, rfl, hv_2, hb_2⟩
      have cc_2 := below_step cc_1 hb_2
      have hC_2 : (fun w' : World => (w'.cell? ⟨G, k * 3, none⟩ = some (.bool tp.s) ∧ w'.cell? ⟨G, k * 3 + 1, none⟩ = some (.slice tp.a1 tp.n1 tp.c1) ∧ w'.cell? ⟨G, k * 3 + 2, none⟩ = some (.slice tp.a2 tp.n2 tp.c2)) ∧ (w'.cell? ⟨bb, 0, none⟩ = some (.bool t.s) ∧ w'.cell? ⟨bb, 1, none⟩ = some (.slice t.a1 t.n1 t.c1) ∧ w'.cell? ⟨bb, 2, none⟩ = some (.slice t.a2 t.n2 t.c2))) xw_2 := unhide HCC _ cc_2
      refine hK.out _ _ hC_2 ?_
      clear hK K
      (try simp only [Act.put, List.setIfInBounds_toArray, List.set_cons_zero, List.set_cons_succ])
      refine wpHold_one (k := 12) (by kernel_rfl) rfl (fun K hK => ?_)
      (try simp only [List.getElem_toArray, List.getElem_cons_succ, List.getElem_cons_zero])
      go_simp
      refine (unhide HDIV _ _ _ _ _ (hv_1.below hb_2) hv_2 (unhide HSM) (unhide HSW) (unhide HZ)).mono ?_
      rintro e xw_3 ⟨xv_3, rfl, hv_3, hb_3⟩
      have cc_3 := below_step cc_2 hb_3
      have hC_3 : (fun w' : World => (w'.cell? ⟨G, k * 3, none⟩ = some (.bool tp.s) ∧ w'.cell? ⟨G, k * 3 + 1, none⟩ = some (.slice tp.a1 tp.n1 tp.c1) ∧ w'.cell? ⟨G, k * 3 + 2, none⟩ = some (.slice tp.a2 tp.n2 tp.c2)) ∧ (w'.cell? ⟨bb, 0, none⟩ = some (.bool t.s) ∧ w'.cell? ⟨bb, 1, none⟩ = some (.slice t.a1 t.n1 t.c1) ∧ w'.cell? ⟨bb, 2, none⟩ = some (.slice t.a2 t.n2 t.c2))) xw_3 := unhide HCC _ cc_3
      refine hK.out _ _ hC_3 ?_
      clear hK K
      (try simp only [Act.put, List.setIfInBounds_toArray, List.set_cons_zero, List.set_cons_succ])
      refine wpHold_take (i := 13) (v := ?_) rfl (by kernel_rfl) (by kernel_rfl) (by kernel_rfl) (fun _ _ _ h => h) (Or.inl ⟨by rfl, ?_⟩) hC_3 ?_
      rotate_left
      · intro w hSw; clear hSw; go_simp; (try with_reducible rfl)
      (try simp only [List.getElem_toArray, List.getElem_cons_succ, List.getElem_cons_zero])
      (try simp only [Act.put, List.setIfInBounds_toArray, List.set_cons_zero, List.set_cons_succ])
      rw [unhide HPN] at hv_3
      obtain ⟨ta, rfl, ra⟩ := tri_of hv_3
      simp only [Tri.val]
      have S2 := (unhide HS).keep cc_3
      have X2 := (unhide HX).keep cc_3
      have ⟨⟨y0, y1, y2⟩, l0, l1, l2⟩ := S2.cells (k + 1) (by omega)
      have FZ := S2.set (k + 1) (by omega) ta _ ra
      rw [fill_set (Bth.wt a)] at FZ
      have FX := X2.rowed S2.row (unhide HNE) ((k + 1) * 3) ((k + 1) * 3 + 1) ((k + 1) * 3 + 2) (.bool ta.s) (.slice ta.a1 ta.n1 ta.c1) (.slice ta.a2 ta.n2 ta.c2)
      obtain ⟨Wz, hWz⟩ : ∃ W, ((xw_3.setCell ⟨G, (k + 1) * 3, none⟩ (.bool ta.s)).setCell ⟨G, (k + 1) * 3 + 1, none⟩ (.slice ta.a1 ta.n1 ta.c1)).setCell ⟨G, (k + 1) * 3 + 2, none⟩ (.slice ta.a2 ta.n2 ta.c2) = W := ⟨_, rfl⟩
      rw [hWz] at FZ FX
      have HFS := hide FZ
      have HFX := hide FX
      have hCz : (fun w' : World => (w'.cell? ⟨G, k * 3, none⟩ = some (.bool tp.s) ∧ w'.cell? ⟨G, k * 3 + 1, none⟩ = some (.slice tp.a1 tp.n1 tp.c1) ∧ w'.cell? ⟨G, k * 3 + 2, none⟩ = some (.slice tp.a2 tp.n2 tp.c2)) ∧ (w'.cell? ⟨bb, 0, none⟩ = some (.bool t.s) ∧ w'.cell? ⟨bb, 1, none⟩ = some (.slice t.a1 t.n1 t.c1) ∧ w'.cell? ⟨bb, 2, none⟩ = some (.slice t.a2 t.n2 t.c2))) Wz := by
        refine ⟨?_, FX.cells _ (Below.refl _ _)⟩
        have h := (FZ.cells k (by rw [List.length_set]; omega)).1
        have e : (us.set (k + 1) ta)[k]! = tp := by rw [← unhide HTP]; simp
        rw [e] at h
        exact h
      clear S2 X2 FZ FX ra hb_1 hb_2 hb_3 hv_1 hv_2 hv_3
      refine wpHold_one (k := 14) (by kernel_rfl) rfl (fun K hK => ?_)
      (try simp only [List.getElem_toArray, List.getElem_cons_succ, List.getElem_cons_zero])
      go_simp
      refine hK.out _ _ hCz ?_
      clear hK K
      (try simp only [Act.put, List.setIfInBounds_toArray, List.set_cons_zero, List.set_cons_succ])
      refine wpHold_done (by kernel_rfl) ?_ _
      clear hCz l0 l1 l2 y0 y1 y2 hWz hC0
      go_wp2_with fail
      exact ⟨⟨k + 1, us.set (k + 1) ta, by go_num, by omega, unhide HFS, unhide HFX⟩, by simp [intOf]; omega⟩
    · obtain rfl : k = c := by omega
      have j1 : ¬ (k : Int) < (k : Int) := by omega
      have HS : Hid (SumsAt w wr G us (row (Bth.wt a) (k + 1))) := S
      clear S X
      go_wp2
      go_ret
      exact ⟨_, _, rfl, unhide HS⟩

theorem weights_any (v : Value) (a : Rat) (c : Nat) (w : World) (h : RatIs w v a) (ha : RS a 1) (hc : c ≤ 20) :
    Calls Tryd.prog 37 #[v, .int .i64 (c : Int)] w fun e w' => ∃ v, e = .returned v ∧ LawIs w' v (row (Bth.wt a) (c + 1)) ∧ Below w.heap.size w w' := by
  refine (weights_own v a c w h ha hc).mono ?_
  rintro e w' ⟨G, us, rfl, S⟩
  have hl := S.len
  rw [row_length] at hl
  have L := S.law (by omega)
  rw [hl] at L
  exact ⟨_, rfl, L, S.bl⟩
end Go.Proofs.YtigilnkcjblhcaaDoor
