/- RenewBest: the walk. -/
import Derived.Test.YtpopcfclpemlaaaDoorRN5c
import Derived.Test.YtpopcfclpemlaaaDoorRN6
namespace Go.Proofs.YtpopcfclpemlaaaDoor
open Go.RowKit Go.Sort Go.Shelf

theorem cst_RS {qs : List Rat} {qf qp : Rat} {J JS k : Nat} (hk : rnc qs = 0) (hq : ∀ j, j < qs.length → RS qs[j]! J) (rf : RS qf JS) (rp : RS qp JS) (hJS : 102 * (101 * (J + 1) + 5) + J ≤ JS) (h1 : 1 ≤ k) (h2 : k ≤ 101) : RS (Rnw.cst qf qp (xq qs) k) (6 * JS + 8) := by
  obtain ⟨hA, ht, hl1, hl2⟩ := rnc_age hk
  have hSR := svRS_of hq hl2 (show 102 * (101 * (J + 1) + 5) ≤ JS by omega)
  unfold Rnw.cst
  have e := one_RS'.sub' (hSR.sv k)
  exact ((((rf.mul e).add (rp.mul (hSR.sv k))).div' (hSR.ps k h2) (fun e => hA.ne h1 (Rat.num_eq_zero.1 e))).mono (by omega))
set_option maxHeartbeats 16000000 in
set_option maxRecDepth 100000 in
set_option linter.unusedSimpArgs false in
theorem age_err (v vf vp : Value) (qs : List Rat) (qf qp : Rat) (J : Nat) (k : Int) (w : World) (h : LawIs w v qs) (hf0 : RatIs w vf qf) (hp0 : RatIs w vp qp) (hq : ∀ j, j < qs.length → RS qs[j]! J) (hJ : (qs.length * (J + 1) + 1 + J) + (qs.length * (J + 1) + 1 + J) + 1 ≤ KK) (hk : rcc qs qf qp = k) (hk0 : k ≠ 0) :
    Calls Tryd.prog 34 #[v, vf, vp] w fun e w' => e = .returned (.tuple #[.int .i64 0, .agg #[.bool false, .slice none 0 0, .slice none 0 0], .iface 92 (.int .i64 k)]) ∧ Below w.heap.size w w' := by
  obtain ⟨tf, rfl, hf⟩ := tri_of hf0
  obtain ⟨tp, rfl, hp⟩ := tri_of hp0
  simp only [Tri.val]
  have bb_1 := alloc_below w (.cells #[.bool tf.s, .slice tf.a1 tf.n1 tf.c1, .slice tf.a2 tf.n2 tf.c2] 31)
  have X_1 := BoxIs.new (hf)
  obtain ⟨W_1, hW_1⟩ : ∃ W, w.alloc (.cells #[.bool tf.s, .slice tf.a1 tf.n1 tf.c1, .slice tf.a2 tf.n2 tf.c2] 31) = W := ⟨_, rfl⟩
  obtain ⟨b_f, hb_f⟩ : ∃ b, w.heap.size = b := ⟨_, rfl⟩
  rw [hW_1] at bb_1 X_1
  rw [hb_f] at X_1
  have X_1_ := X_1
  have tb_1 := bb_1
  have hg_f : w.heap.size ≤ b_f := by rw [← hb_f]; exact Nat.le_refl _
  have HG_f := hide hg_f
  have bb_2 := alloc_below W_1 (.cells #[.bool tp.s, .slice tp.a1 tp.n1 tp.c1, .slice tp.a2 tp.n2 tp.c2] 31)
  have X_2 := BoxIs.new (hp.below tb_1)
  obtain ⟨W_2, hW_2⟩ : ∃ W, W_1.alloc (.cells #[.bool tp.s, .slice tp.a1 tp.n1 tp.c1, .slice tp.a2 tp.n2 tp.c2] 31) = W := ⟨_, rfl⟩
  obtain ⟨b_p, hb_p⟩ : ∃ b, W_1.heap.size = b := ⟨_, rfl⟩
  rw [hW_2] at bb_2 X_2
  rw [hb_p] at X_2
  have X_2_ := X_2
  have tb_2 := below_step tb_1 bb_2
  have hg_p : w.heap.size ≤ b_p := by rw [← hb_p]; exact tb_1.size
  have HG_p := hide hg_p
  have bb_3 := alloc_below W_2 (.cells #[.bool false, .slice none 0 0, .slice none 0 0] 31)
  have X_3 := BoxIs.new (w := W_2) (t := zTri) (q := 0) (rat_zero _)
  obtain ⟨W_3, hW_3⟩ : ∃ W, W_2.alloc (.cells #[.bool false, .slice none 0 0, .slice none 0 0] 31) = W := ⟨_, rfl⟩
  obtain ⟨b_R, hb_R⟩ : ∃ b, W_2.heap.size = b := ⟨_, rfl⟩
  have X_3_ : BoxIs W_3 b_R zTri 0 := by rw [← hW_3, ← hb_R]; exact X_3
  rw [hW_3] at bb_3
  have tb_3 := below_step tb_2 bb_3
  have hg_R : w.heap.size ≤ b_R := by rw [← hb_R]; exact tb_2.size
  have HG_R := hide hg_R
  have HX_f := hide (fun W (hW : Below W_3.heap.size W_3 W) => ((X_1_.keep bb_2).keep bb_3).keep hW)
  have HX_p := hide (fun W (hW : Below W_3.heap.size W_3 W) => (X_2_.keep bb_3).keep hW)
  have HX_R := hide (fun W (hW : Below W_3.heap.size W_3 W) => X_3_.keep hW)
  have HBW := hide (fun W (hW : Below W_3.heap.size W_3 W) => below_step tb_3 hW)
  have HB0 := hide tb_3
  clear bb_1 X_1 X_1_ tb_1 bb_2 X_2 X_2_ tb_2 bb_3 X_3 X_3_ tb_3 hg_f hg_p hg_R
  have HC := hide (rcosts_any v tf.val tp.val qs qf qp J W_3 (h.below (unhide HB0)) (unhide HX_f _ (Below.refl _ _)).2 (unhide HX_p _ (Below.refl _ _)).2 hq hJ)
  rw [hk, errV_not hk0] at HC
  simp only [Tri.val] at HC
  have h' := h
  obtain ⟨a, c, rfl, -⟩ := h'
  clear h hf0 hp0 hf hp hq hJ hk hk0
  generalize qs.length = nq at *
  have ⟨c0, c1, c2⟩ := (unhide HX_f _ (Below.refl _ _)).cells _ (Below.refl _ _)
  have ⟨d0, d1, d2⟩ := (unhide HX_p _ (Below.refl _ _)).cells _ (Below.refl _ _)
  go_enter Tryd.func34, Tryd.ntmps34
  go_wp2_with fail
  clear hW_1 hb_f hW_2 hb_p hW_3 hb_R c0 c1 c2 d0 d1 d2
  refine (unhide HC).mono ?_
  rintro e w1 ⟨rfl, hb1⟩
  have X2 := unhide HX_R _ hb1
  have ⟨g0, g1, g2, f0, f1, f2⟩ := box_cell X2.1
  have BEL := hide ((((unhide HBW _ hb1).setCell (p := ⟨b_R, 0, none⟩) (unhide HG_R) (.bool false)).setCell (p := ⟨b_R, 1, none⟩) (unhide HG_R) (.slice none 0 0)).setCell (p := ⟨b_R, 2, none⟩) (unhide HG_R) (.slice none 0 0))
  clear X2 hb1 HC
  go_wp2
  exact bodyPost_ret (v := .tuple #[.int .i64 0, .agg #[.bool false, .slice none 0 0, .slice none 0 0], .iface 92 (.int .i64 k)]) (by simp [results, Tryd.results34, go_sem, g0, g1, g2]) rfl ⟨rfl, unhide BEL⟩

/-- What Age says. -/
def AgAt (k : Int) (m : Nat) (q : Rat) (w : World) (s : Value) : Prop := ∃ (n : Int) (t : Tri) (ev : Value), s = .tuple #[.int .i64 n, t.val, ev] ∧
  ((k ≠ 0 ∧ n = 0 ∧ RatIs w t.val 0 ∧ ev = .iface 92 (.int .i64 k)) ∨ (k = 0 ∧ ev = .nilIface ∧ n = (m : Int) ∧ RatIs w t.val q))
theorem AgAt.keep {k : Int} {m : Nat} {q : Rat} {w w' : World} {s : Value} (h : AgAt k m q w s) (hb : Below w.heap.size w w') : AgAt k m q w' s := by
  obtain ⟨n, t, ev, e, h⟩ := h
  refine ⟨n, t, ev, e, ?_⟩
  rcases h with ⟨h1, h2, h3, h4⟩ | ⟨h1, h2, h3, h4⟩
  · exact Or.inl ⟨h1, h2, h3.below hb, h4⟩
  · exact Or.inr ⟨h1, h2, h3, h4.below hb⟩
theorem age_at (v vf vp : Value) (qs : List Rat) (qf qp : Rat) (J JS JJ : Nat) (w : World) (h : LawIs w v qs) (hf0 : RatIs w vf qf) (hp0 : RatIs w vp qp) (hq : ∀ j, j < qs.length → RS qs[j]! J) (hl : qs.length ≤ 1000) (rf : RS qf JS) (rp : RS qp JS) (hJS : 102 * (101 * (J + 1) + 5) + J ≤ JS) (hJJ : 4 * JS + 8 ≤ JJ) (hJ : JJ + JJ + 1 ≤ KK) (hJ2 : (1000 * (J + 1) + 1 + J) + (1000 * (J + 1) + 1 + J) + 1 ≤ KK) :
    Calls Tryd.prog 34 #[v, vf, vp] w fun e w' => ∃ x, e = .returned x ∧ AgAt (rcc qs qf qp) (Rnw.bst (Rnw.cst qf qp (xq qs)) (gst qs)) (Rnw.cst qf qp (xq qs) (Rnw.bst (Rnw.cst qf qp (xq qs)) (gst qs))) w' x ∧ Below w.heap.size w w' := by
  by_cases hk : rcc qs qf qp = 0
  · refine (age_ok v vf vp qs qf qp J JS JJ w h hf0 hp0 hq rf rp hk hJS hJJ hJ).mono ?_
    rintro e w' ⟨u, rfl, hu, hb⟩
    obtain ⟨t, rfl, hr⟩ := tri_of hu
    exact ⟨_, rfl, ⟨_, t, _, rfl, Or.inr ⟨hk, rfl, rfl, hr⟩⟩, hb⟩
  · have m1 := Nat.mul_le_mul_right (J + 1) hl
    refine (age_err v vf vp qs qf qp J _ w h hf0 hp0 hq (by omega) rfl hk).mono ?_
    rintro e w' ⟨rfl, hb⟩
    exact ⟨_, rfl, ⟨0, zTri, _, rfl, Or.inl ⟨hk, rfl, rat_zero _, rfl⟩⟩, hb⟩

/-- 3 calls one behind the other, and a box. -/
structure Nj3 (P1 P2 P3 : World → Value → Prop) (w0 : World) (c : Nat) (l : Bool) (w : World) (s1 s2 s3 s4 : Value) : Prop where
  bl : Below w0.heap.size w0 w
  r1 : 1 ≤ c → P1 w s1
  r2 : 2 ≤ c → P2 w s2
  r3 : 3 ≤ c → P3 w s3
  al : l = true → ∃ b, s4 = .pointer (some ⟨b, 0, none⟩) ∧ BoxIs w b zTri 0 ∧ w0.heap.size ≤ b
/-- 5 calls one behind the other, and a box. -/
structure Nj5 (P1 P2 P3 P4 P5 : World → Value → Prop) (w0 : World) (c : Nat) (l : Bool) (w : World) (s1 s2 s3 s4 s5 s6 : Value) : Prop where
  bl : Below w0.heap.size w0 w
  r1 : 1 ≤ c → P1 w s1
  r2 : 2 ≤ c → P2 w s2
  r3 : 3 ≤ c → P3 w s3
  r4 : 4 ≤ c → P4 w s4
  r5 : 5 ≤ c → P5 w s5
  al : l = true → ∃ b, s6 = .pointer (some ⟨b, 0, none⟩) ∧ BoxIs w b zTri 0 ∧ w0.heap.size ≤ b
set_option maxHeartbeats 16000000 in
set_option maxRecDepth 100000 in
set_option linter.unusedSimpArgs false in
theorem renewBest_any (v : Value) (ps : List (Int × Int)) (x y z u other : Int) (w : World) (htab : Tab w) (hp : PairsAre w v ps) (hx : I64 x) (hy : I64 y) (hz : I64 z) (hu : I64 u) :
    Calls Tryd.prog 8 #[v, .agg #[.int .i64 x, .int .i64 y], .agg #[.int .i64 z, .int .i64 u], .int .i64 other] w fun e w' => e = .returned (.bool true) ∧ Below w.heap.size w w' := by
  have KKe : KK = 1099511627776 := rfl
  have HKE := hide KKe
  have HRS : Hid (∀ t, t < (pqs ps).length → RS (pqs ps)[t]! 1) := fun t ht => pqs_RS hp t ht
  have hpl := pqs_length ps
  have HP0 := hide hp
  have hp' := hp
  obtain ⟨a, c, rfl, h1, h2, -⟩ := hp'
  have b1 := alloc_below w (.cells #[.int .i64 x, .int .i64 y] 54)
  have X0 := heap_alloc_new w (.cells #[.int .i64 x, .int .i64 y] 54)
  obtain ⟨W1, hW1⟩ : ∃ W, w.alloc (.cells #[.int .i64 x, .int .i64 y] 54) = W := ⟨_, rfl⟩
  obtain ⟨g1, s1⟩ : ∃ g, W1.heap.size = g := ⟨_, rfl⟩
  rw [hW1] at b1 X0
  have b2 := alloc_below W1 (.cells #[.int .i64 z, .int .i64 u] 54)
  have X1 := heap_alloc_new W1 (.cells #[.int .i64 z, .int .i64 u] 54)
  obtain ⟨W2, hW2⟩ : ∃ W, W1.alloc (.cells #[.int .i64 z, .int .i64 u] 54) = W := ⟨_, rfl⟩
  rw [hW2] at b2 X1
  rw [s1] at X1
  have bb : Below w.heap.size w W2 := below_step b1 b2
  have Y0 := heap_kept X0 b2
  have HCC : Hid (∀ W, Below W2.heap.size W2 W → (fun w' : World => (w'.cell? ⟨w.heap.size, 0, none⟩ = some (.int .i64 x) ∧ w'.cell? ⟨w.heap.size, 1, none⟩ = some (.int .i64 y)) ∧ w'.cell? ⟨g1, 0, none⟩ = some (.int .i64 z) ∧ w'.cell? ⟨g1, 1, none⟩ = some (.int .i64 u)) W) := fun W hW => by
    have e1 := heap_kept Y0 hW
    have e2 := heap_kept X1 hW
    exact ⟨⟨by simp [World.cell?, e1], by simp [World.cell?, e1]⟩, by simp [World.cell?, e2], by simp [World.cell?, e2]⟩
  have HBW : Hid (∀ W, Below W2.heap.size W2 W → Below w.heap.size w W) := fun W hW => below_step bb hW
  have HTB := hide htab
  by_cases hlen : 15 < ps.length
  · have e1 : decide ((15 : Int) < (ps.length : Int)) = true := decide_eq_true (by omega)
    have HBB := hide bb
    clear b1 b2 bb X0 X1 Y0 HCC HBW HTB htab hx hy hz hu hp
    go_enter Tryd.func8, Tryd.ntmps8
    go_wp2
    go_ret
    exact ⟨rfl, unhide HBB⟩
  have e1 : decide ((15 : Int) < (ps.length : Int)) = false := decide_eq_false (by omega)
  have HLW := hide (law_any _ ps W2 (hp.below bb) (by omega))
  have HRA : RS (pq (x, y)) 1 := pq_RS hx hy
  have HRB : RS (pq (z, u)) 1 := pq_RS hz hu
  have HFA : Hid (∀ W, Calls Tryd.prog 25 #[.agg #[.int .i64 x, .int .i64 y]] W fun e w' => ∃ v, e = .returned v ∧ RatIs w' v (pq (x, y)) ∧ Below W.heap.size W w') := fun W => f_any x y hx.1 hx.2 hy.1 hy.2 W
  have HFB : Hid (∀ W, Calls Tryd.prog 25 #[.agg #[.int .i64 z, .int .i64 u]] W fun e w' => ∃ v, e = .returned v ∧ RatIs w' v (pq (z, u)) ∧ Below W.heap.size W w') := fun W => f_any z u hz.1 hz.2 hu.1 hu.2 W
  have HPI : Hid (∀ W, Calls Tryd.prog 10 #[.int .i64 other, .int .i64 100] W fun e w' => ∃ m : Nat, e = .returned (.int .i64 (m : Int)) ∧ m < 100 ∧ Below W.heap.size W w') := fun W => by
    refine (pick_any other 100 (by decide) (by decide) W).mono ?_
    rintro e w' ⟨m, rfl, hm, hw⟩
    exact ⟨m, rfl, hm, by rw [hw]; exact Below.refl _ _⟩
  obtain ⟨qs, hqs⟩ : ∃ qs, pqs ps = qs := ⟨_, rfl⟩
  rw [hqs] at HRS HLW hpl
  obtain ⟨qf, hqf⟩ : ∃ q, pq (x, y) = q := ⟨_, rfl⟩
  obtain ⟨qp, hqp⟩ : ∃ q, pq (z, u) = q := ⟨_, rfl⟩
  have hlq : qs.length ≤ 15 := by omega
  obtain ⟨n, hn⟩ : ∃ n, ps.length = n := ⟨_, rfl⟩
  rw [hn] at hpl HLW e1 h1 ⊢
  have HPL := hide hpl
  have HAG0 : Hid (∀ v1 v2 v3 W, RatIs W v2 (pq (x, y)) → RatIs W v3 (pq (z, u)) → LawIs W v1 qs → Calls Tryd.prog 34 #[v1, v2, v3] W fun e w' => ∃ x', e = .returned x' ∧ AgAt (rcc qs qf qp) (Rnw.bst (Rnw.cst qf qp (xq qs)) (gst qs)) (Rnw.cst qf qp (xq qs) (Rnw.bst (Rnw.cst qf qp (xq qs)) (gst qs))) w' x' ∧ Below W.heap.size W w') := fun v1 v2 v3 W k2 k3 k1 => by
    rw [hqf] at k2
    rw [hqp] at k3
    exact age_at v1 v2 v3 qs qf qp 1 22000 90000 W k1 k2 k3 (unhide HRS) (by omega) (by rw [← hqf]; exact HRA.mono (by omega)) (by rw [← hqp]; exact HRB.mono (by omega)) (by omega) (by omega) (by rw [KKe]; omega) (by rw [KKe]; omega)
  have HGOOD0 : Hid (rcc qs qf qp = 0 → 1 ≤ Rnw.bst (Rnw.cst qf qp (xq qs)) (gst qs) ∧ Rnw.bst (Rnw.cst qf qp (xq qs)) (gst qs) ≤ 100 ∧ (∀ m, 1 ≤ m → Rnw.cst qf qp (xq qs) (Rnw.bst (Rnw.cst qf qp (xq qs)) (gst qs)) ≤ Rnw.cst qf qp (xq qs) m) ∧ (∀ m, 1 ≤ m → m ≤ 100 → RS (Rnw.cst qf qp (xq qs) m) 140000) ∧
      (∀ v1 v2 v3 v4 W, (∃ m : Nat, v4 = .int .i64 (1 + (m : Int)) ∧ m < 100) → RatIs W v2 (pq (x, y)) → RatIs W v3 (pq (z, u)) → LawIs W v1 qs → Calls Tryd.prog 35 #[v1, v2, v3, v4] W fun e w' => ∃ (m' : Nat) (v : Value), e = .returned (.tuple #[v, .nilIface]) ∧ (1 ≤ m' ∧ m' ≤ 100) ∧ RatIs w' v (Rnw.cst qf qp (xq qs) m') ∧ Below W.heap.size W w') ∧
      (∀ v1 v2 v3 W, RatIs W v2 (pq (x, y)) → RatIs W v3 (pq (z, u)) → LawIs W v1 qs → Calls Tryd.prog 35 #[v1, v2, v3, .int .i64 (Rnw.bst (Rnw.cst qf qp (xq qs)) (gst qs) : Int)] W fun e w' => ∃ (v : Value), e = .returned (.tuple #[v, .nilIface]) ∧ RatIs w' v (Rnw.cst qf qp (xq qs) (Rnw.bst (Rnw.cst qf qp (xq qs)) (gst qs))) ∧ Below W.heap.size W w')) := fun hk => by
    have hk1 := (rcc_zero hk).1
    obtain ⟨hA, ht, hl1, hl2⟩ := rnc_age hk1
    have hb := Rnw.bst_le (Rnw.cst qf qp (xq qs)) (gst qs) hA.g1
    have rf : RS qf 22000 := by rw [← hqf]; exact HRA.mono (by omega)
    have rp : RS qp 22000 := by rw [← hqp]; exact HRB.mono (by omega)
    have hb2 : Rnw.bst (Rnw.cst qf qp (xq qs)) (gst qs) ≤ 100 := by omega
    refine ⟨hb.1, hb2, fun m hm => hA.best qf qp hm, fun m h1 h2 => (cst_RS hk1 (unhide HRS) rf rp (by omega) h1 (by omega)).mono (by omega), ?_, ?_⟩
    · rintro v1 v2 v3 v4 W ⟨m, rfl, hm⟩ k2 k3 k1
      rw [hqf] at k2
      rw [hqp] at k3
      have e : (1 + (m : Int)) = ((m + 1 : Nat) : Int) := by push_cast; omega
      rw [e]
      refine (rCost_ok v1 v2 v3 qs qf qp 1 22000 90000 (m + 1) W k1 k2 k3 (unhide HRS) rf rp hk (by omega) (by omega) (by rw [KKe]; omega) (by omega) (by omega)).mono ?_
      rintro e w' ⟨v, rfl, hv, hb⟩
      exact ⟨m + 1, v, rfl, ⟨by omega, by omega⟩, hv, hb⟩
    · intro v1 v2 v3 W k2 k3 k1
      rw [hqf] at k2
      rw [hqp] at k3
      exact rCost_ok v1 v2 v3 qs qf qp 1 22000 90000 _ W k1 k2 k3 (unhide HRS) rf rp hk (by omega) (by omega) (by rw [KKe]; omega) hb.1 hb2
  obtain ⟨kc, hkc⟩ : ∃ k, rcc qs qf qp = k := ⟨_, rfl⟩
  obtain ⟨f, hf⟩ : ∃ f, Rnw.cst qf qp (xq qs) = f := ⟨_, rfl⟩
  rw [hkc, hf] at HAG0 HGOOD0
  obtain ⟨bm, hbm⟩ : ∃ b, Rnw.bst f (gst qs) = b := ⟨_, rfl⟩
  rw [hbm] at HAG0 HGOOD0
  clear b1 b2 bb X0 X1 Y0 htab hx hy hz hu hp HP0 hqs hqf hqp hlq hn hkc hf hbm HRA HRB hlen KKe hpl
  go_enter Tryd.func8, Tryd.ntmps8
  go_wp2_with fail
  clear hW1 hW2 s1
  refine (unhide HLW).mono ?_
  rintro e w1 ⟨v1, rfl, hl1, hb1⟩
  have HL1_ := hide hl1
  have hl1' := hl1
  obtain ⟨a1, cp1, rfl, m1, m2, -⟩ := hl1'
  have hqn : qs.length = n := by have := unhide HPL; omega
  rw [hqn] at HL1_ m1 ⊢
  have HL1 : Hid (∀ W, Below w1.heap.size w1 W → LawIs W (.slice a1 n cp1) qs) := fun W hW => (unhide HL1_).below hW
  have HC1 : Hid (∀ W, Below w1.heap.size w1 W → (fun w' : World => (w'.cell? ⟨w.heap.size, 0, none⟩ = some (.int .i64 x) ∧ w'.cell? ⟨w.heap.size, 1, none⟩ = some (.int .i64 y)) ∧ w'.cell? ⟨g1, 0, none⟩ = some (.int .i64 z) ∧ w'.cell? ⟨g1, 1, none⟩ = some (.int .i64 u)) W) := fun W hW => unhide HCC W (below_step hb1 hW)
  have HBW1 := hide (unhide HBW _ hb1)
  have HTB1 := hide (tab_below (unhide HTB) (unhide HBW _ hb1))
  have HAG : Hid (∀ v2 v3 W, RatIs W v2 (pq (x, y)) → RatIs W v3 (pq (z, u)) → LawIs W (.slice a1 n cp1) qs → Calls Tryd.prog 34 #[.slice a1 n cp1, v2, v3] W fun e w' => ∃ x', e = .returned x' ∧ AgAt kc bm (f bm) w' x' ∧ Below W.heap.size W w') := fun v2 v3 W => unhide HAG0 _ v2 v3 W
  have HGOOD : Hid (kc = 0 → 1 ≤ bm ∧ bm ≤ 100 ∧ (∀ m, 1 ≤ m → f bm ≤ f m) ∧ (∀ m, 1 ≤ m → m ≤ 100 → RS (f m) 140000) ∧
      (∀ v2 v3 v4 W, (∃ m : Nat, v4 = .int .i64 (1 + (m : Int)) ∧ m < 100) → RatIs W v2 (pq (x, y)) → RatIs W v3 (pq (z, u)) → LawIs W (.slice a1 n cp1) qs → Calls Tryd.prog 35 #[.slice a1 n cp1, v2, v3, v4] W fun e w' => ∃ (m' : Nat) (v : Value), e = .returned (.tuple #[v, .nilIface]) ∧ (1 ≤ m' ∧ m' ≤ 100) ∧ RatIs w' v (f m') ∧ Below W.heap.size W w') ∧
      (∀ v2 v3 W, RatIs W v2 (pq (x, y)) → RatIs W v3 (pq (z, u)) → LawIs W (.slice a1 n cp1) qs → Calls Tryd.prog 35 #[.slice a1 n cp1, v2, v3, .int .i64 (bm : Int)] W fun e w' => ∃ (v : Value), e = .returned (.tuple #[v, .nilIface]) ∧ RatIs w' v (f bm) ∧ Below W.heap.size W w')) := fun hk => by
    obtain ⟨q1, q2, q3, q4, q5, q6⟩ := unhide HGOOD0 hk
    exact ⟨q1, q2, q3, q4, fun v2 v3 v4 W => q5 _ v2 v3 v4 W, fun v2 v3 W => q6 _ v2 v3 W⟩
  clear hl1 hb1 HAG0 HGOOD0 HCC HBW HTB HLW HL1_ hqn
  go_wp2_with fail
  refine wp_region_hold (fun w' : World => (w'.cell? ⟨w.heap.size, 0, none⟩ = some (.int .i64 x) ∧ w'.cell? ⟨w.heap.size, 1, none⟩ = some (.int .i64 y)) ∧ w'.cell? ⟨g1, 0, none⟩ = some (.int .i64 z) ∧ w'.cell? ⟨g1, 1, none⟩ = some (.int .i64 u)) (by kernel_rfl) ?_
  have bd0 : Below w1.heap.size w1 w1.drew := (Below.refl _ _).drew
  obtain ⟨Wx, hWx⟩ : ∃ W, w1.drew = W := ⟨_, rfl⟩
  rw [hWx] at bd0 ⊢
  have hC0 : (fun w' : World => (w'.cell? ⟨w.heap.size, 0, none⟩ = some (.int .i64 x) ∧ w'.cell? ⟨w.heap.size, 1, none⟩ = some (.int .i64 y)) ∧ w'.cell? ⟨g1, 0, none⟩ = some (.int .i64 z) ∧ w'.cell? ⟨g1, 1, none⟩ = some (.int .i64 u)) Wx := unhide HC1 _ bd0
  have KP1 : Hid (∀ (w w' : World) (s : Value), (fun (w : World) (s : Value) => RatIs w s (pq (x, y))) w s → Below w.heap.size w w' → (fun (w : World) (s : Value) => RatIs w s (pq (x, y))) w' s) := fun _ _ _ h hb => RatIs.below h hb
  have KP2 : Hid (∀ (w w' : World) (s : Value), (fun (w : World) (s : Value) => RatIs w s (pq (z, u))) w s → Below w.heap.size w w' → (fun (w : World) (s : Value) => RatIs w s (pq (z, u))) w' s) := fun _ _ _ h hb => RatIs.below h hb
  have KP3 : Hid (∀ (w w' : World) (s : Value), (fun (w : World) (s : Value) => AgAt kc bm (f bm) w s) w s → Below w.heap.size w w' → (fun (w : World) (s : Value) => AgAt kc bm (f bm) w s) w' s) := fun _ _ _ h hb => AgAt.keep h hb
  refine wpHold_take (i := 0) (v := ?_) rfl (by kernel_rfl) (by kernel_rfl) (by kernel_rfl) (fun _ _ _ h => h) (Or.inl ⟨by rfl, ?_⟩) hC0 ?_
  rotate_left
  · intro w hSw; clear hSw; go_simp; (try with_reducible rfl)
  (try simp only [List.getElem_toArray, List.getElem_cons_succ, List.getElem_cons_zero])
  (try simp only [Act.put, List.setIfInBounds_toArray, List.set_cons_zero, List.set_cons_succ])
  refine wpHold_take (i := 1) (v := ?_) rfl (by kernel_rfl) (by kernel_rfl) (by kernel_rfl) (fun _ _ _ h => h) (Or.inl ⟨by rfl, ?_⟩) hC0 ?_
  rotate_left
  · intro w hSw; (try dsimp only at hSw); obtain ⟨⟨z0, z1⟩, z2, z3⟩ := hSw; go_simp; (try with_reducible rfl)
  (try simp only [List.getElem_toArray, List.getElem_cons_succ, List.getElem_cons_zero])
  (try simp only [Act.put, List.setIfInBounds_toArray, List.set_cons_zero, List.set_cons_succ])
  refine wpHold_take (i := 3) (v := ?_) rfl (by kernel_rfl) (by kernel_rfl) (by kernel_rfl) (fun _ _ _ h => h) (Or.inl ⟨by rfl, ?_⟩) hC0 ?_
  rotate_left
  · intro w hSw; (try dsimp only at hSw); obtain ⟨⟨z0, z1⟩, z2, z3⟩ := hSw; go_simp; (try with_reducible rfl)
  (try simp only [List.getElem_toArray, List.getElem_cons_succ, List.getElem_cons_zero])
  (try simp only [Act.put, List.setIfInBounds_toArray, List.set_cons_zero, List.set_cons_succ])
  refine wpHold_listed (n := 11) (L' := (fun nc nl => #[true, true, decide (1 ≤ nc), true, decide (2 ≤ nc), decide (3 ≤ nc), false, false, false, false, nl, false, false, false]) 0 false) (by kernel_rfl) (by kernel_rfl) ?_
  refine wpHold_name (fun a0 ha0 => ?_)
  refine chain_fin 3 (fun nc nl => #[true, true, decide (1 ≤ nc), true, decide (2 ≤ nc), decide (3 ≤ nc), false, false, false, false, nl, false, false, false]) (fun nc => match nc with | 0 => 2 | 1 => 4 | _ => 5) 10 7 (fun nc nl na W => ∃ s1 s2 s3 s4, na = (((a0.put (some 25) s1).put (some 27) s2).put (some 28) s3).put (some 11) s4 ∧ Nj3 (fun (w : World) (s : Value) => RatIs w s (pq (x, y))) (fun (w : World) (s : Value) => RatIs w s (pq (z, u))) (fun (w : World) (s : Value) => AgAt kc bm (f bm) w s) Wx nc nl W s1 s2 s3 s4) ?_ ?_ ?_ ?_ ?_ ?_ ?_ 4 0 false (by omega) (by rfl) _ _ ⟨undef, undef, undef, undef, by subst ha0; rfl, Below.refl _ _, fun h => absurd h (by decide), fun h => absurd h (by decide), fun h => absurd h (by decide), fun h => by cases h⟩
  · clear ha0
    intro nc nl hnc
    match nc, hnc with
    | 0, _ => cases nl <;> (show (_ : Bool) = _; kernel_rfl)
    | 1, _ => cases nl <;> (show (_ : Bool) = _; kernel_rfl)
    | 2, _ => cases nl <;> (show (_ : Bool) = _; kernel_rfl)
  · clear ha0
    intro nc nl hnc
    match nc, hnc with
    | 0, _ => cases nl <;> (show (_ : Bool) = _; kernel_rfl)
    | 1, _ => cases nl <;> (show (_ : Bool) = _; kernel_rfl)
    | 2, _ => cases nl <;> (show (_ : Bool) = _; kernel_rfl)
  · clear ha0
    intro nc nl hnc
    match nc, hnc with
    | 0, _ => rfl
    | 1, _ => rfl
    | 2, _ => rfl
  · clear ha0
    intro nc hnc
    match nc, hnc with
    | 0, _ => rfl
    | 1, _ => rfl
    | 2, _ => rfl
  · rintro nc nl na wv hnc ⟨s1, s2, s3, s4, rfl, J⟩
    subst ha0
    match nc, hnc, J with
    | 0, _, J =>
      refine wpOp_step rfl (fun K hK => ?_)
      (try simp only [Act.put, List.setIfInBounds_toArray, List.set_cons_zero, List.set_cons_succ] at hK ⊢)
      (try simp only [List.getElem_toArray, List.getElem_cons_succ, List.getElem_cons_zero])
      go_simp
      refine (unhide HFA _).mono ?_
      rintro e wz ⟨v_, rfl, hv, hb⟩
      exact hK _ _ ⟨unhide HC1 _ (below_step bd0 (below_step J.bl hb)), v_, s2, s3, s4, rfl, below_step J.bl hb, fun _ => hv, fun h => absurd h (by decide), fun h => absurd h (by decide), fun h => by
        obtain ⟨b, e1, e2, e3⟩ := J.al h
        exact ⟨b, e1, e2.keep hb, e3⟩⟩
    | 1, _, J =>
      refine wpOp_step rfl (fun K hK => ?_)
      (try simp only [Act.put, List.setIfInBounds_toArray, List.set_cons_zero, List.set_cons_succ] at hK ⊢)
      (try simp only [List.getElem_toArray, List.getElem_cons_succ, List.getElem_cons_zero])
      go_simp
      refine (unhide HFB _).mono ?_
      rintro e wz ⟨v_, rfl, hv, hb⟩
      exact hK _ _ ⟨unhide HC1 _ (below_step bd0 (below_step J.bl hb)), s1, v_, s3, s4, rfl, below_step J.bl hb, fun _ => unhide KP1 _ _ _ (J.r1 (by decide)) hb, fun _ => hv, fun h => absurd h (by decide), fun h => by
        obtain ⟨b, e1, e2, e3⟩ := J.al h
        exact ⟨b, e1, e2.keep hb, e3⟩⟩
    | 2, _, J =>
      refine wpOp_step rfl (fun K hK => ?_)
      (try simp only [Act.put, List.setIfInBounds_toArray, List.set_cons_zero, List.set_cons_succ] at hK ⊢)
      (try simp only [List.getElem_toArray, List.getElem_cons_succ, List.getElem_cons_zero])
      go_simp
      refine (unhide HAG _ _ _ (J.r1 (by decide)) (J.r2 (by decide)) (unhide HL1 _ (below_step bd0 J.bl))).mono ?_
      rintro e wz ⟨v_, rfl, hv, hb⟩
      exact hK _ _ ⟨unhide HC1 _ (below_step bd0 (below_step J.bl hb)), s1, s2, v_, s4, rfl, below_step J.bl hb, fun _ => unhide KP1 _ _ _ (J.r1 (by decide)) hb, fun _ => unhide KP2 _ _ _ (J.r2 (by decide)) hb, fun _ => hv, fun h => by
        obtain ⟨b, e1, e2, e3⟩ := J.al h
        exact ⟨b, e1, e2.keep hb, e3⟩⟩
  · rintro nc na wv hnc ⟨s1, s2, s3, s4, rfl, J⟩
    subst ha0
    refine wpOp_step rfl (fun K hK => ?_)
    (try simp only [Act.put, List.setIfInBounds_toArray, List.set_cons_zero, List.set_cons_succ] at hK ⊢)
    (try simp only [List.getElem_toArray, List.getElem_cons_succ, List.getElem_cons_zero])
    go_simp
    have hb := alloc_below wv (.cells #[.bool false, .slice none 0 0, .slice none 0 0] 31)
    exact hK _ _ ⟨unhide HC1 _ (below_step bd0 (below_step J.bl hb)), s1, s2, s3, .pointer (some ⟨wv.heap.size, 0, none⟩), rfl, below_step J.bl hb, fun h => unhide KP1 _ _ _ (J.r1 h) hb, fun h => unhide KP2 _ _ _ (J.r2 h) hb, fun h => unhide KP3 _ _ _ (J.r3 h) hb, fun _ => ⟨wv.heap.size, rfl, BoxIs.new (t := zTri) (rat_zero _), J.bl.size⟩⟩
  · rintro nl na wv ⟨s1, s2, s3, s4, rfl, J⟩
    subst ha0
    obtain ⟨n_, tc, ev_, rfl, hrel0⟩ := J.r3 (by decide)
    obtain ⟨qc, r0, hrel⟩ : ∃ qc, RatIs wv tc.val qc ∧ ((kc ≠ 0 ∧ n_ = 0 ∧ ev_ = .iface 92 (.int .i64 kc) ∧ qc = 0) ∨ (kc = 0 ∧ ev_ = .nilIface ∧ n_ = (bm : Int) ∧ qc = f bm)) := by
      rcases hrel0 with ⟨h1, h2, h3, h4⟩ | ⟨h1, h2, h3, h4⟩
      · exact ⟨_, h3, Or.inl ⟨h1, h2, h4, rfl⟩⟩
      · exact ⟨_, h4, Or.inr ⟨h1, h2, h3, rfl⟩⟩
    clear hrel0
    simp only [Tri.val]
    (try simp only [Act.put, List.setIfInBounds_toArray, List.set_cons_zero, List.set_cons_succ])
    have hCv : (fun w' : World => (w'.cell? ⟨w.heap.size, 0, none⟩ = some (.int .i64 x) ∧ w'.cell? ⟨w.heap.size, 1, none⟩ = some (.int .i64 y)) ∧ w'.cell? ⟨g1, 0, none⟩ = some (.int .i64 z) ∧ w'.cell? ⟨g1, 1, none⟩ = some (.int .i64 u)) wv := unhide HC1 _ (below_step bd0 J.bl)
    clear hC0
    cases nl with
    | true =>
      obtain ⟨bc, rfl, B10, e10⟩ := J.al rfl
      refine wpHold_take (i := 6) (v := ?_) rfl (by kernel_rfl) (by kernel_rfl) (by kernel_rfl) (fun _ _ _ h => h) (Or.inl ⟨by rfl, ?_⟩) hCv ?_
      rotate_left
      · intro w hSw; clear hSw; go_simp; (try with_reducible rfl)
      (try simp only [List.getElem_toArray, List.getElem_cons_succ, List.getElem_cons_zero])
      (try simp only [Act.put, List.setIfInBounds_toArray, List.set_cons_zero, List.set_cons_succ])
      refine wpHold_take (i := 7) (v := ?_) rfl (by kernel_rfl) (by kernel_rfl) (by kernel_rfl) (fun _ _ _ h => h) (Or.inl ⟨by rfl, ?_⟩) hCv ?_
      rotate_left
      · intro w hSw; clear hSw; go_simp; (try with_reducible rfl)
      (try simp only [List.getElem_toArray, List.getElem_cons_succ, List.getElem_cons_zero])
      (try simp only [Act.put, List.setIfInBounds_toArray, List.set_cons_zero, List.set_cons_succ])
      refine wpHold_take (i := 8) (v := ?_) rfl (by kernel_rfl) (by kernel_rfl) (by kernel_rfl) (fun _ _ _ h => h) (Or.inl ⟨by rfl, ?_⟩) hCv ?_
      rotate_left
      · intro w hSw; clear hSw; go_simp; (try with_reducible rfl)
      (try simp only [List.getElem_toArray, List.getElem_cons_succ, List.getElem_cons_zero])
      (try simp only [Act.put, List.setIfInBounds_toArray, List.set_cons_zero, List.set_cons_succ])
      refine wpHold_take (i := 9) (v := ?_) rfl (by kernel_rfl) (by kernel_rfl) (by kernel_rfl) (fun _ _ _ h => h) (Or.inl ⟨by rfl, ?_⟩) hCv ?_
      rotate_left
      · intro w hSw; clear hSw; go_simp; (try with_reducible rfl)
      (try simp only [List.getElem_toArray, List.getElem_cons_succ, List.getElem_cons_zero])
      (try simp only [Act.put, List.setIfInBounds_toArray, List.set_cons_zero, List.set_cons_succ])
      have ⟨l0, l1, l2⟩ := B10.free
      have ⟨k0, k1, k2⟩ := B10.cells _ (Below.refl _ _)
      have HJB := hide (below_step bd0 J.bl)
      have NB := B10.set r0
      have e10' : w1.heap.size ≤ bc := Nat.le_trans bd0.size e10
      have YB := (((below_step bd0 J.bl).setCell (p := ⟨bc, 0, none⟩) e10' (.bool tc.s)).setCell (p := ⟨bc, 1, none⟩) e10' (.slice tc.a1 tc.n1 tc.c1)).setCell (p := ⟨bc, 2, none⟩) e10' (.slice tc.a2 tc.n2 tc.c2)
      have HG_bc := hide e10'
      have hCn : (fun w' : World => (w'.cell? ⟨w.heap.size, 0, none⟩ = some (.int .i64 x) ∧ w'.cell? ⟨w.heap.size, 1, none⟩ = some (.int .i64 y)) ∧ w'.cell? ⟨g1, 0, none⟩ = some (.int .i64 z) ∧ w'.cell? ⟨g1, 1, none⟩ = some (.int .i64 u)) _ := unhide HC1 _ YB
      obtain ⟨Wbc, hWy⟩ : ∃ W, ((wv.setCell ⟨bc, 0, none⟩ (.bool tc.s)).setCell ⟨bc, 1, none⟩ (.slice tc.a1 tc.n1 tc.c1)).setCell ⟨bc, 2, none⟩ (.slice tc.a2 tc.n2 tc.c2) = W := ⟨_, rfl⟩
      rw [hWy] at NB YB hCn
      have HX_bc := hide NB
      have HY_bc := hide YB
      clear J B10 YB NB e10' hCv
      refine wpHold_one (k := 11) (by kernel_rfl) rfl (fun K hK => ?_)
      (try simp only [List.getElem_toArray, List.getElem_cons_succ, List.getElem_cons_zero])
      go_simp
      refine hK.out _ _ (unhide HC1 _ (unhide HJB)) ?_
      clear hK K
      (try simp only [Act.put, List.setIfInBounds_toArray, List.set_cons_zero, List.set_cons_succ])
      refine wpHold_one (k := 12) (by kernel_rfl) rfl (fun K hK => ?_)
      (try simp only [List.getElem_toArray, List.getElem_cons_succ, List.getElem_cons_zero])
      go_simp
      refine hK.out _ _ hCn ?_
      clear hK K
      (try simp only [Act.put, List.setIfInBounds_toArray, List.set_cons_zero, List.set_cons_succ])
      refine wpHold_one (k := 13) (by kernel_rfl) rfl (fun K hK => ?_)
      (try simp only [List.getElem_toArray, List.getElem_cons_succ, List.getElem_cons_zero])
      go_simp
      refine hK.out _ _ hCn ?_
      clear hK K
      (try simp only [Act.put, List.setIfInBounds_toArray, List.set_cons_zero, List.set_cons_succ])
      refine wpHold_done (by kernel_rfl) ?_ _
      clear hCn l0 l1 l2 k0 k1 k2 hWy e10 bd0 hWx r0 HJB KP1 KP2 KP3
      have hb0 := unhide HY_bc
      have HT3 := hide (tab_below (unhide HTB1) hb0)
      have C1 := hide (lasting_any Wbc (unhide HT3))
      have HX1 := hide (unhide HX_bc)
      have HB1 := hide (below_step (unhide HBW1) hb0)
      have HQ1 : Hid (∀ W, Below Wbc.heap.size Wbc W → (fun w' : World => (w'.cell? ⟨w.heap.size, 0, none⟩ = some (.int .i64 x) ∧ w'.cell? ⟨w.heap.size, 1, none⟩ = some (.int .i64 y)) ∧ w'.cell? ⟨g1, 0, none⟩ = some (.int .i64 z) ∧ w'.cell? ⟨g1, 1, none⟩ = some (.int .i64 u)) W ∧ LawIs W (.slice a1 n cp1) qs ∧ Tab W) := fun W hW => ⟨unhide HC1 W (below_step hb0 hW), unhide HL1 W (below_step hb0 hW), tab_below (unhide HT3) hW⟩
      clear hb0 HX_bc HY_bc HG_bc
      go_wp2_with fail
      refine (unhide C1).mono ?_
      rintro e w5 ⟨rfl, hb5⟩
      clear C1
      rcases hrel with ⟨hc, rfl, rfl, hq0⟩ | ⟨hc, rfl, rfl, hql⟩
      · have C2 := hide (lasting_any w5 (unhide HQ1 _ hb5).2.2)
        have q5 : (kc == 0) = false := by simpa using hc
        have HB5 := hide hb5
        rw [hq0] at HX1
        clear hb5 hc
        go_wp2_with fail
        refine (unhide C2).mono ?_
        rintro e w6 ⟨rfl, hb6⟩
        have hb56 := below_step (unhide HB5) hb6
        have C3 := hide (sign_any _ _ w6 ((unhide HX1).keep hb56).2)
        obtain ⟨c0, c1, c2⟩ := (unhide HX1).cells _ hb56
        have HB6 := hide (below_step (unhide HB1) hb56)
        simp only [Tri.val] at C3
        rw [show (0 : Rat).num.sign = 0 from rfl] at C3
        clear C2 hb6 hb56
        go_wp2_with fail
        refine (unhide C3).mono ?_
        rintro e w7 ⟨rfl, hb7⟩
        have HB7 := hide (below_step (unhide HB6) hb7)
        clear hb7 C3 c0 c1 c2
        go_wp2
        go_ret
        exact ⟨rfl, unhide HB7⟩
      · rw [hql] at HX1
        have HM := unhide HGOOD hc
        have HM1 := hide HM.1
        have HM2 := hide HM.2.1
        have HLE := hide HM.2.2.1
        have HRC := hide HM.2.2.2.1
        have HOT := hide HM.2.2.2.2.1
        have HOW := hide HM.2.2.2.2.2
        have HXC : Hid (∀ W, Below w5.heap.size w5 W → BoxIs W bc tc (f bm)) := fun W hW => (unhide HX1).keep (below_step hb5 hW)
        have HBX : Hid (∀ W, Below w5.heap.size w5 W → Below w.heap.size w W) := fun W hW => below_step (unhide HB1) (below_step hb5 hW)
        have HC5 : Hid (∀ W, Below w5.heap.size w5 W → (fun w' : World => (w'.cell? ⟨w.heap.size, 0, none⟩ = some (.int .i64 x) ∧ w'.cell? ⟨w.heap.size, 1, none⟩ = some (.int .i64 y)) ∧ w'.cell? ⟨g1, 0, none⟩ = some (.int .i64 z) ∧ w'.cell? ⟨g1, 1, none⟩ = some (.int .i64 u)) W) := fun W hW => (unhide HQ1 W (below_step hb5 hW)).1
        have HL5 : Hid (∀ W, Below w5.heap.size w5 W → LawIs W (.slice a1 n cp1) qs) := fun W hW => (unhide HQ1 W (below_step hb5 hW)).2.1
        have HTB5 := hide (unhide HQ1 _ hb5).2.2
        clear hb5 hc HB1 HQ1 HX1 hql HM HGOOD
        go_wp2_with fail
        refine wp_region_hold (fun w' : World => (w'.cell? ⟨w.heap.size, 0, none⟩ = some (.int .i64 x) ∧ w'.cell? ⟨w.heap.size, 1, none⟩ = some (.int .i64 y)) ∧ w'.cell? ⟨g1, 0, none⟩ = some (.int .i64 z) ∧ w'.cell? ⟨g1, 1, none⟩ = some (.int .i64 u)) (by kernel_rfl) ?_
        have bd0 : Below w5.heap.size w5 w5.drew := (Below.refl _ _).drew
        obtain ⟨Wx, hWx⟩ : ∃ W, w5.drew = W := ⟨_, rfl⟩
        rw [hWx] at bd0 ⊢
        have hC0 : (fun w' : World => (w'.cell? ⟨w.heap.size, 0, none⟩ = some (.int .i64 x) ∧ w'.cell? ⟨w.heap.size, 1, none⟩ = some (.int .i64 y)) ∧ w'.cell? ⟨g1, 0, none⟩ = some (.int .i64 z) ∧ w'.cell? ⟨g1, 1, none⟩ = some (.int .i64 u)) Wx := unhide HC5 _ bd0
        have KP1 : Hid (∀ (w w' : World) (s : Value), (fun (w : World) (s : Value) => RatIs w s (pq (x, y))) w s → Below w.heap.size w w' → (fun (w : World) (s : Value) => RatIs w s (pq (x, y))) w' s) := fun _ _ _ h hb => RatIs.below h hb
        have KP2 : Hid (∀ (w w' : World) (s : Value), (fun (w : World) (s : Value) => RatIs w s (pq (z, u))) w s → Below w.heap.size w w' → (fun (w : World) (s : Value) => RatIs w s (pq (z, u))) w' s) := fun _ _ _ h hb => RatIs.below h hb
        have KP3 : Hid (∀ (w w' : World) (s : Value), (fun (_ : World) (s : Value) => ∃ m : Nat, s = .int .i64 (m : Int) ∧ m < 100) w s → Below w.heap.size w w' → (fun (_ : World) (s : Value) => ∃ m : Nat, s = .int .i64 (m : Int) ∧ m < 100) w' s) := fun _ _ _ h _ => h
        have KP4 : Hid (∀ (w w' : World) (s : Value), (fun (_ : World) (s : Value) => ∃ m : Nat, s = .int .i64 (1 + (m : Int)) ∧ m < 100) w s → Below w.heap.size w w' → (fun (_ : World) (s : Value) => ∃ m : Nat, s = .int .i64 (1 + (m : Int)) ∧ m < 100) w' s) := fun _ _ _ h _ => h
        have KP5 : Hid (∀ (w w' : World) (s : Value), (fun (w : World) (s : Value) => ∃ (m : Nat) (v : Value), (1 ≤ m ∧ m ≤ 100) ∧ s = .tuple #[v, .nilIface] ∧ RatIs w v (f m)) w s → Below w.heap.size w w' → (fun (w : World) (s : Value) => ∃ (m : Nat) (v : Value), (1 ≤ m ∧ m ≤ 100) ∧ s = .tuple #[v, .nilIface] ∧ RatIs w v (f m)) w' s) := fun _ _ _ h hb => by obtain ⟨m, v, h1, h2, h3⟩ := h; exact ⟨m, v, h1, h2, h3.below hb⟩
        refine wpHold_take (i := 0) (v := ?_) rfl (by kernel_rfl) (by kernel_rfl) (by kernel_rfl) (fun _ _ _ h => h) (Or.inl ⟨by rfl, ?_⟩) hC0 ?_
        rotate_left
        · intro w hSw; clear hSw; go_simp; (try with_reducible rfl)
        (try simp only [List.getElem_toArray, List.getElem_cons_succ, List.getElem_cons_zero])
        (try simp only [Act.put, List.setIfInBounds_toArray, List.set_cons_zero, List.set_cons_succ])
        refine wpHold_take (i := 1) (v := ?_) rfl (by kernel_rfl) (by kernel_rfl) (by kernel_rfl) (fun _ _ _ h => h) (Or.inl ⟨by rfl, ?_⟩) hC0 ?_
        rotate_left
        · intro w hSw; (try dsimp only at hSw); obtain ⟨⟨z0, z1⟩, z2, z3⟩ := hSw; go_simp; (try with_reducible rfl)
        (try simp only [List.getElem_toArray, List.getElem_cons_succ, List.getElem_cons_zero])
        (try simp only [Act.put, List.setIfInBounds_toArray, List.set_cons_zero, List.set_cons_succ])
        refine wpHold_take (i := 3) (v := ?_) rfl (by kernel_rfl) (by kernel_rfl) (by kernel_rfl) (fun _ _ _ h => h) (Or.inl ⟨by rfl, ?_⟩) hC0 ?_
        rotate_left
        · intro w hSw; (try dsimp only at hSw); obtain ⟨⟨z0, z1⟩, z2, z3⟩ := hSw; go_simp; (try with_reducible rfl)
        (try simp only [List.getElem_toArray, List.getElem_cons_succ, List.getElem_cons_zero])
        (try simp only [Act.put, List.setIfInBounds_toArray, List.set_cons_zero, List.set_cons_succ])
        refine wpHold_take (i := 5) (v := ?_) rfl (by kernel_rfl) (by kernel_rfl) (by kernel_rfl) (fun _ _ _ h => h) (Or.inl ⟨by rfl, ?_⟩) hC0 ?_
        rotate_left
        · intro w hSw; clear hSw; go_simp; (try with_reducible rfl)
        (try simp only [List.getElem_toArray, List.getElem_cons_succ, List.getElem_cons_zero])
        (try simp only [Act.put, List.setIfInBounds_toArray, List.set_cons_zero, List.set_cons_succ])
        refine wpHold_listed (n := 11) (L' := (fun nc nl => #[true, true, decide (1 ≤ nc), true, decide (2 ≤ nc), true, decide (3 ≤ nc), decide (4 ≤ nc), decide (5 ≤ nc), false, false, false, nl, false, false]) 0 false) (by kernel_rfl) (by kernel_rfl) ?_
        refine wpHold_name (fun a0 ha0 => ?_)
        refine chain_fin 5 (fun nc nl => #[true, true, decide (1 ≤ nc), true, decide (2 ≤ nc), true, decide (3 ≤ nc), decide (4 ≤ nc), decide (5 ≤ nc), false, false, false, nl, false, false]) (fun nc => match nc with | 0 => 2 | 1 => 4 | 2 => 6 | 3 => 7 | _ => 8) 12 5 (fun nc nl na W => ∃ s1 s2 s3 s4 s5 s6, na = (((((a0.put (some 51) s1).put (some 53) s2).put (some 55) s3).put (some 56) s4).put (some 57) s5).put (some 13) s6 ∧ Nj5 (fun (w : World) (s : Value) => RatIs w s (pq (x, y))) (fun (w : World) (s : Value) => RatIs w s (pq (z, u))) (fun (_ : World) (s : Value) => ∃ m : Nat, s = .int .i64 (m : Int) ∧ m < 100) (fun (_ : World) (s : Value) => ∃ m : Nat, s = .int .i64 (1 + (m : Int)) ∧ m < 100) (fun (w : World) (s : Value) => ∃ (m : Nat) (v : Value), (1 ≤ m ∧ m ≤ 100) ∧ s = .tuple #[v, .nilIface] ∧ RatIs w v (f m)) Wx nc nl W s1 s2 s3 s4 s5 s6) ?_ ?_ ?_ ?_ ?_ ?_ ?_ 6 0 false (by omega) (by rfl) _ _ ⟨undef, undef, undef, undef, undef, undef, by subst ha0; rfl, Below.refl _ _, fun h => absurd h (by decide), fun h => absurd h (by decide), fun h => absurd h (by decide), fun h => absurd h (by decide), fun h => absurd h (by decide), fun h => by cases h⟩
        · clear ha0
          intro nc nl hnc
          match nc, hnc with
          | 0, _ => cases nl <;> (show (_ : Bool) = _; kernel_rfl)
          | 1, _ => cases nl <;> (show (_ : Bool) = _; kernel_rfl)
          | 2, _ => cases nl <;> (show (_ : Bool) = _; kernel_rfl)
          | 3, _ => cases nl <;> (show (_ : Bool) = _; kernel_rfl)
          | 4, _ => cases nl <;> (show (_ : Bool) = _; kernel_rfl)
        · clear ha0
          intro nc nl hnc
          match nc, hnc with
          | 0, _ => cases nl <;> (show (_ : Bool) = _; kernel_rfl)
          | 1, _ => cases nl <;> (show (_ : Bool) = _; kernel_rfl)
          | 2, _ => cases nl <;> (show (_ : Bool) = _; kernel_rfl)
          | 3, _ => cases nl <;> (show (_ : Bool) = _; kernel_rfl)
          | 4, _ => cases nl <;> (show (_ : Bool) = _; kernel_rfl)
        · clear ha0
          intro nc nl hnc
          match nc, hnc with
          | 0, _ => rfl
          | 1, _ => rfl
          | 2, _ => rfl
          | 3, _ => rfl
          | 4, _ => rfl
        · clear ha0
          intro nc hnc
          match nc, hnc with
          | 0, _ => rfl
          | 1, _ => rfl
          | 2, _ => rfl
          | 3, _ => rfl
          | 4, _ => rfl
        · rintro nc nl na wv hnc ⟨s1, s2, s3, s4, s5, s6, rfl, J⟩
          subst ha0
          match nc, hnc, J with
          | 0, _, J =>
            refine wpOp_step rfl (fun K hK => ?_)
            (try simp only [Act.put, List.setIfInBounds_toArray, List.set_cons_zero, List.set_cons_succ] at hK ⊢)
            (try simp only [List.getElem_toArray, List.getElem_cons_succ, List.getElem_cons_zero])
            go_simp
            refine (unhide HFA _).mono ?_
            rintro e wz ⟨v_, rfl, hv, hb⟩
            exact hK _ _ ⟨unhide HC5 _ (below_step bd0 (below_step J.bl hb)), v_, s2, s3, s4, s5, s6, rfl, below_step J.bl hb, fun _ => hv, fun h => absurd h (by decide), fun h => absurd h (by decide), fun h => absurd h (by decide), fun h => absurd h (by decide), fun h => by
              obtain ⟨b, e1, e2, e3⟩ := J.al h
              exact ⟨b, e1, e2.keep hb, e3⟩⟩
          | 1, _, J =>
            refine wpOp_step rfl (fun K hK => ?_)
            (try simp only [Act.put, List.setIfInBounds_toArray, List.set_cons_zero, List.set_cons_succ] at hK ⊢)
            (try simp only [List.getElem_toArray, List.getElem_cons_succ, List.getElem_cons_zero])
            go_simp
            refine (unhide HFB _).mono ?_
            rintro e wz ⟨v_, rfl, hv, hb⟩
            exact hK _ _ ⟨unhide HC5 _ (below_step bd0 (below_step J.bl hb)), s1, v_, s3, s4, s5, s6, rfl, below_step J.bl hb, fun _ => unhide KP1 _ _ _ (J.r1 (by decide)) hb, fun _ => hv, fun h => absurd h (by decide), fun h => absurd h (by decide), fun h => absurd h (by decide), fun h => by
              obtain ⟨b, e1, e2, e3⟩ := J.al h
              exact ⟨b, e1, e2.keep hb, e3⟩⟩
          | 2, _, J =>
            refine wpOp_step rfl (fun K hK => ?_)
            (try simp only [Act.put, List.setIfInBounds_toArray, List.set_cons_zero, List.set_cons_succ] at hK ⊢)
            (try simp only [List.getElem_toArray, List.getElem_cons_succ, List.getElem_cons_zero])
            go_simp
            refine (unhide HPI _).mono ?_
            rintro e wz ⟨m_, rfl, hm_, hb⟩
            exact hK _ _ ⟨unhide HC5 _ (below_step bd0 (below_step J.bl hb)), s1, s2, .int .i64 (m_ : Int), s4, s5, s6, rfl, below_step J.bl hb, fun _ => unhide KP1 _ _ _ (J.r1 (by decide)) hb, fun _ => unhide KP2 _ _ _ (J.r2 (by decide)) hb, fun _ => ⟨m_, rfl, hm_⟩, fun h => absurd h (by decide), fun h => absurd h (by decide), fun h => by
              obtain ⟨b, e1, e2, e3⟩ := J.al h
              exact ⟨b, e1, e2.keep hb, e3⟩⟩
          | 3, _, J =>
            obtain ⟨m_, rfl, hm_⟩ := J.r3 (by decide)
            have jw : IntKind.i64.wrap (1 + (m_ : Int)) = 1 + (m_ : Int) := by rw [IntKind.wrap_i64]; omega
            refine wpOp_step rfl (fun K hK => ?_)
            (try simp only [Act.put, List.setIfInBounds_toArray, List.set_cons_zero, List.set_cons_succ] at hK ⊢)
            (try simp only [List.getElem_toArray, List.getElem_cons_succ, List.getElem_cons_zero])
            go_simp
            have hb := Below.refl wv.heap.size wv
            exact hK _ _ ⟨unhide HC5 _ (below_step bd0 (below_step J.bl hb)), s1, s2, _, .int .i64 (1 + (m_ : Int)), s5, s6, rfl, below_step J.bl hb, fun _ => unhide KP1 _ _ _ (J.r1 (by decide)) hb, fun _ => unhide KP2 _ _ _ (J.r2 (by decide)) hb, fun _ => unhide KP3 _ _ _ (J.r3 (by decide)) hb, fun _ => ⟨m_, rfl, hm_⟩, fun h => absurd h (by decide), fun h => by
              obtain ⟨b, e1, e2, e3⟩ := J.al h
              exact ⟨b, e1, e2.keep hb, e3⟩⟩
          | 4, _, J =>
            refine wpOp_step rfl (fun K hK => ?_)
            (try simp only [Act.put, List.setIfInBounds_toArray, List.set_cons_zero, List.set_cons_succ] at hK ⊢)
            (try simp only [List.getElem_toArray, List.getElem_cons_succ, List.getElem_cons_zero])
            go_simp
            refine (unhide HOT _ _ _ _ (J.r4 (by decide)) (J.r1 (by decide)) (J.r2 (by decide)) (unhide HL5 _ (below_step bd0 J.bl))).mono ?_
            rintro e wz ⟨m_, v_, rfl, hm_, hv, hb⟩
            exact hK _ _ ⟨unhide HC5 _ (below_step bd0 (below_step J.bl hb)), s1, s2, s3, s4, .tuple #[v_, .nilIface], s6, rfl, below_step J.bl hb, fun _ => unhide KP1 _ _ _ (J.r1 (by decide)) hb, fun _ => unhide KP2 _ _ _ (J.r2 (by decide)) hb, fun _ => unhide KP3 _ _ _ (J.r3 (by decide)) hb, fun _ => unhide KP4 _ _ _ (J.r4 (by decide)) hb, fun _ => ⟨m_, v_, hm_, rfl, hv⟩, fun h => by
              obtain ⟨b, e1, e2, e3⟩ := J.al h
              exact ⟨b, e1, e2.keep hb, e3⟩⟩
        · rintro nc na wv hnc ⟨s1, s2, s3, s4, s5, s6, rfl, J⟩
          subst ha0
          refine wpOp_step rfl (fun K hK => ?_)
          (try simp only [Act.put, List.setIfInBounds_toArray, List.set_cons_zero, List.set_cons_succ] at hK ⊢)
          (try simp only [List.getElem_toArray, List.getElem_cons_succ, List.getElem_cons_zero])
          go_simp
          have hb := alloc_below wv (.cells #[.bool false, .slice none 0 0, .slice none 0 0] 31)
          exact hK _ _ ⟨unhide HC5 _ (below_step bd0 (below_step J.bl hb)), s1, s2, s3, s4, s5, .pointer (some ⟨wv.heap.size, 0, none⟩), rfl, below_step J.bl hb, fun h => unhide KP1 _ _ _ (J.r1 h) hb, fun h => unhide KP2 _ _ _ (J.r2 h) hb, fun h => unhide KP3 _ _ _ (J.r3 h) hb, fun h => unhide KP4 _ _ _ (J.r4 h) hb, fun h => unhide KP5 _ _ _ (J.r5 h) hb, fun _ => ⟨wv.heap.size, rfl, BoxIs.new (t := zTri) (rat_zero _), J.bl.size⟩⟩
        · rintro nl na wv ⟨s1, s2, s3, s4, s5, s6, rfl, J⟩
          subst ha0
          obtain ⟨m', v_, hm', rfl, hv_⟩ := J.r5 (by decide)
          obtain ⟨td, rfl, r0⟩ := tri_of hv_
          have HMD := hide hm'
          clear hm' hv_
          simp only [Tri.val]
          (try simp only [Act.put, List.setIfInBounds_toArray, List.set_cons_zero, List.set_cons_succ])
          have hCv : (fun w' : World => (w'.cell? ⟨w.heap.size, 0, none⟩ = some (.int .i64 x) ∧ w'.cell? ⟨w.heap.size, 1, none⟩ = some (.int .i64 y)) ∧ w'.cell? ⟨g1, 0, none⟩ = some (.int .i64 z) ∧ w'.cell? ⟨g1, 1, none⟩ = some (.int .i64 u)) wv := unhide HC5 _ (below_step bd0 J.bl)
          clear hC0
          cases nl with
          | true =>
            obtain ⟨bd, rfl, B10, e10⟩ := J.al rfl
            refine wpHold_take (i := 9) (v := ?_) rfl (by kernel_rfl) (by kernel_rfl) (by kernel_rfl) (fun _ _ _ h => h) (Or.inl ⟨by rfl, ?_⟩) hCv ?_
            rotate_left
            · intro w hSw; clear hSw; go_simp; (try with_reducible rfl)
            (try simp only [List.getElem_toArray, List.getElem_cons_succ, List.getElem_cons_zero])
            (try simp only [Act.put, List.setIfInBounds_toArray, List.set_cons_zero, List.set_cons_succ])
            refine wpHold_take (i := 10) (v := ?_) rfl (by kernel_rfl) (by kernel_rfl) (by kernel_rfl) (fun _ _ _ h => h) (Or.inl ⟨by rfl, ?_⟩) hCv ?_
            rotate_left
            · intro w hSw; clear hSw; go_simp; (try with_reducible rfl)
            (try simp only [List.getElem_toArray, List.getElem_cons_succ, List.getElem_cons_zero])
            (try simp only [Act.put, List.setIfInBounds_toArray, List.set_cons_zero, List.set_cons_succ])
            refine wpHold_take (i := 11) (v := ?_) rfl (by kernel_rfl) (by kernel_rfl) (by kernel_rfl) (fun _ _ _ h => h) (Or.inl ⟨by rfl, ?_⟩) hCv ?_
            rotate_left
            · intro w hSw; clear hSw; go_simp; (try with_reducible rfl)
            (try simp only [List.getElem_toArray, List.getElem_cons_succ, List.getElem_cons_zero])
            (try simp only [Act.put, List.setIfInBounds_toArray, List.set_cons_zero, List.set_cons_succ])
            have ⟨l0, l1, l2⟩ := B10.free
            have ⟨k0, k1, k2⟩ := B10.cells _ (Below.refl _ _)
            have HJB := hide (below_step bd0 J.bl)
            have NB := B10.set r0
            have e10' : w5.heap.size ≤ bd := Nat.le_trans bd0.size e10
            have YB := (((below_step bd0 J.bl).setCell (p := ⟨bd, 0, none⟩) e10' (.bool td.s)).setCell (p := ⟨bd, 1, none⟩) e10' (.slice td.a1 td.n1 td.c1)).setCell (p := ⟨bd, 2, none⟩) e10' (.slice td.a2 td.n2 td.c2)
            have HG_bd := hide e10'
            have hCn : (fun w' : World => (w'.cell? ⟨w.heap.size, 0, none⟩ = some (.int .i64 x) ∧ w'.cell? ⟨w.heap.size, 1, none⟩ = some (.int .i64 y)) ∧ w'.cell? ⟨g1, 0, none⟩ = some (.int .i64 z) ∧ w'.cell? ⟨g1, 1, none⟩ = some (.int .i64 u)) _ := unhide HC5 _ YB
            obtain ⟨Wbd, hWy⟩ : ∃ W, ((wv.setCell ⟨bd, 0, none⟩ (.bool td.s)).setCell ⟨bd, 1, none⟩ (.slice td.a1 td.n1 td.c1)).setCell ⟨bd, 2, none⟩ (.slice td.a2 td.n2 td.c2) = W := ⟨_, rfl⟩
            rw [hWy] at NB YB hCn
            have HX_bd := hide NB
            have HY_bd := hide YB
            clear J B10 YB NB e10' hCv
            refine wpHold_one (k := 13) (by kernel_rfl) rfl (fun K hK => ?_)
            (try simp only [List.getElem_toArray, List.getElem_cons_succ, List.getElem_cons_zero])
            go_simp
            refine hK.out _ _ hCn ?_
            clear hK K
            (try simp only [Act.put, List.setIfInBounds_toArray, List.set_cons_zero, List.set_cons_succ])
            refine wpHold_one (k := 14) (by kernel_rfl) rfl (fun K hK => ?_)
            (try simp only [List.getElem_toArray, List.getElem_cons_succ, List.getElem_cons_zero])
            go_simp
            refine hK.out _ _ hCn ?_
            clear hK K
            (try simp only [Act.put, List.setIfInBounds_toArray, List.set_cons_zero, List.set_cons_succ])
            refine wpHold_done (by kernel_rfl) ?_ _
            clear hCn l0 l1 l2 k0 k1 k2 hWy e10 bd0 hWx r0 HJB KP1 KP2 KP3 KP4 KP5
            have HCD : Hid (∀ W, Below Wbd.heap.size Wbd W → (fun w' : World => (w'.cell? ⟨w.heap.size, 0, none⟩ = some (.int .i64 x) ∧ w'.cell? ⟨w.heap.size, 1, none⟩ = some (.int .i64 y)) ∧ w'.cell? ⟨g1, 0, none⟩ = some (.int .i64 z) ∧ w'.cell? ⟨g1, 1, none⟩ = some (.int .i64 u)) W) := fun W hW => unhide HC5 W (below_step (unhide HY_bd) hW)
            have HLD : Hid (∀ W, Below Wbd.heap.size Wbd W → LawIs W (.slice a1 n cp1) qs) := fun W hW => unhide HL5 W (below_step (unhide HY_bd) hW)
            clear HC5
            go_wp2_with fail
            refine wp_region_hold (fun w' : World => (w'.cell? ⟨w.heap.size, 0, none⟩ = some (.int .i64 x) ∧ w'.cell? ⟨w.heap.size, 1, none⟩ = some (.int .i64 y)) ∧ w'.cell? ⟨g1, 0, none⟩ = some (.int .i64 z) ∧ w'.cell? ⟨g1, 1, none⟩ = some (.int .i64 u)) (by kernel_rfl) ?_
            have bd0 : Below Wbd.heap.size Wbd Wbd.drew := (Below.refl _ _).drew
            obtain ⟨Wx, hWx⟩ : ∃ W, Wbd.drew = W := ⟨_, rfl⟩
            rw [hWx] at bd0 ⊢
            have hC0 : (fun w' : World => (w'.cell? ⟨w.heap.size, 0, none⟩ = some (.int .i64 x) ∧ w'.cell? ⟨w.heap.size, 1, none⟩ = some (.int .i64 y)) ∧ w'.cell? ⟨g1, 0, none⟩ = some (.int .i64 z) ∧ w'.cell? ⟨g1, 1, none⟩ = some (.int .i64 u)) Wx := unhide HCD _ bd0
            have KP1 : Hid (∀ (w w' : World) (s : Value), (fun (w : World) (s : Value) => RatIs w s (pq (x, y))) w s → Below w.heap.size w w' → (fun (w : World) (s : Value) => RatIs w s (pq (x, y))) w' s) := fun _ _ _ h hb => RatIs.below h hb
            have KP2 : Hid (∀ (w w' : World) (s : Value), (fun (w : World) (s : Value) => RatIs w s (pq (z, u))) w s → Below w.heap.size w w' → (fun (w : World) (s : Value) => RatIs w s (pq (z, u))) w' s) := fun _ _ _ h hb => RatIs.below h hb
            have KP3 : Hid (∀ (w w' : World) (s : Value), (fun (w : World) (s : Value) => ∃ (v : Value), s = .tuple #[v, .nilIface] ∧ RatIs w v (f bm)) w s → Below w.heap.size w w' → (fun (w : World) (s : Value) => ∃ (v : Value), s = .tuple #[v, .nilIface] ∧ RatIs w v (f bm)) w' s) := fun _ _ _ h hb => by obtain ⟨v, h2, h3⟩ := h; exact ⟨v, h2, h3.below hb⟩
            refine wpHold_take (i := 0) (v := ?_) rfl (by kernel_rfl) (by kernel_rfl) (by kernel_rfl) (fun _ _ _ h => h) (Or.inl ⟨by rfl, ?_⟩) hC0 ?_
            rotate_left
            · intro w hSw; clear hSw; go_simp; (try with_reducible rfl)
            (try simp only [List.getElem_toArray, List.getElem_cons_succ, List.getElem_cons_zero])
            (try simp only [Act.put, List.setIfInBounds_toArray, List.set_cons_zero, List.set_cons_succ])
            refine wpHold_take (i := 1) (v := ?_) rfl (by kernel_rfl) (by kernel_rfl) (by kernel_rfl) (fun _ _ _ h => h) (Or.inl ⟨by rfl, ?_⟩) hC0 ?_
            rotate_left
            · intro w hSw; (try dsimp only at hSw); obtain ⟨⟨z0, z1⟩, z2, z3⟩ := hSw; go_simp; (try with_reducible rfl)
            (try simp only [List.getElem_toArray, List.getElem_cons_succ, List.getElem_cons_zero])
            (try simp only [Act.put, List.setIfInBounds_toArray, List.set_cons_zero, List.set_cons_succ])
            refine wpHold_take (i := 3) (v := ?_) rfl (by kernel_rfl) (by kernel_rfl) (by kernel_rfl) (fun _ _ _ h => h) (Or.inl ⟨by rfl, ?_⟩) hC0 ?_
            rotate_left
            · intro w hSw; (try dsimp only at hSw); obtain ⟨⟨z0, z1⟩, z2, z3⟩ := hSw; go_simp; (try with_reducible rfl)
            (try simp only [List.getElem_toArray, List.getElem_cons_succ, List.getElem_cons_zero])
            (try simp only [Act.put, List.setIfInBounds_toArray, List.set_cons_zero, List.set_cons_succ])
            refine wpHold_take (i := 5) (v := ?_) rfl (by kernel_rfl) (by kernel_rfl) (by kernel_rfl) (fun _ _ _ h => h) (Or.inl ⟨by rfl, ?_⟩) hC0 ?_
            rotate_left
            · intro w hSw; clear hSw; go_simp; (try with_reducible rfl)
            (try simp only [List.getElem_toArray, List.getElem_cons_succ, List.getElem_cons_zero])
            (try simp only [Act.put, List.setIfInBounds_toArray, List.set_cons_zero, List.set_cons_succ])
            refine wpHold_listed (n := 9) (L' := (fun nc nl => #[true, true, decide (1 ≤ nc), true, decide (2 ≤ nc), true, decide (3 ≤ nc), false, false, false, nl, false, false]) 0 false) (by kernel_rfl) (by kernel_rfl) ?_
            refine wpHold_name (fun a0 ha0 => ?_)
            refine chain_fin 3 (fun nc nl => #[true, true, decide (1 ≤ nc), true, decide (2 ≤ nc), true, decide (3 ≤ nc), false, false, false, nl, false, false]) (fun nc => match nc with | 0 => 2 | 1 => 4 | _ => 6) 10 5 (fun nc nl na W => ∃ s1 s2 s3 s4, na = (((a0.put (some 63) s1).put (some 65) s2).put (some 67) s3).put (some 15) s4 ∧ Nj3 (fun (w : World) (s : Value) => RatIs w s (pq (x, y))) (fun (w : World) (s : Value) => RatIs w s (pq (z, u))) (fun (w : World) (s : Value) => ∃ (v : Value), s = .tuple #[v, .nilIface] ∧ RatIs w v (f bm)) Wx nc nl W s1 s2 s3 s4) ?_ ?_ ?_ ?_ ?_ ?_ ?_ 4 0 false (by omega) (by rfl) _ _ ⟨undef, undef, undef, undef, by subst ha0; rfl, Below.refl _ _, fun h => absurd h (by decide), fun h => absurd h (by decide), fun h => absurd h (by decide), fun h => by cases h⟩
            · clear ha0
              intro nc nl hnc
              match nc, hnc with
              | 0, _ => cases nl <;> (show (_ : Bool) = _; kernel_rfl)
              | 1, _ => cases nl <;> (show (_ : Bool) = _; kernel_rfl)
              | 2, _ => cases nl <;> (show (_ : Bool) = _; kernel_rfl)
            · clear ha0
              intro nc nl hnc
              match nc, hnc with
              | 0, _ => cases nl <;> (show (_ : Bool) = _; kernel_rfl)
              | 1, _ => cases nl <;> (show (_ : Bool) = _; kernel_rfl)
              | 2, _ => cases nl <;> (show (_ : Bool) = _; kernel_rfl)
            · clear ha0
              intro nc nl hnc
              match nc, hnc with
              | 0, _ => rfl
              | 1, _ => rfl
              | 2, _ => rfl
            · clear ha0
              intro nc hnc
              match nc, hnc with
              | 0, _ => rfl
              | 1, _ => rfl
              | 2, _ => rfl
            · rintro nc nl na wv hnc ⟨s1, s2, s3, s4, rfl, J⟩
              subst ha0
              match nc, hnc, J with
              | 0, _, J =>
                refine wpOp_step rfl (fun K hK => ?_)
                (try simp only [Act.put, List.setIfInBounds_toArray, List.set_cons_zero, List.set_cons_succ] at hK ⊢)
                (try simp only [List.getElem_toArray, List.getElem_cons_succ, List.getElem_cons_zero])
                go_simp
                refine (unhide HFA _).mono ?_
                rintro e wz ⟨v_, rfl, hv, hb⟩
                exact hK _ _ ⟨unhide HCD _ (below_step bd0 (below_step J.bl hb)), v_, s2, s3, s4, rfl, below_step J.bl hb, fun _ => hv, fun h => absurd h (by decide), fun h => absurd h (by decide), fun h => by
                  obtain ⟨b, e1, e2, e3⟩ := J.al h
                  exact ⟨b, e1, e2.keep hb, e3⟩⟩
              | 1, _, J =>
                refine wpOp_step rfl (fun K hK => ?_)
                (try simp only [Act.put, List.setIfInBounds_toArray, List.set_cons_zero, List.set_cons_succ] at hK ⊢)
                (try simp only [List.getElem_toArray, List.getElem_cons_succ, List.getElem_cons_zero])
                go_simp
                refine (unhide HFB _).mono ?_
                rintro e wz ⟨v_, rfl, hv, hb⟩
                exact hK _ _ ⟨unhide HCD _ (below_step bd0 (below_step J.bl hb)), s1, v_, s3, s4, rfl, below_step J.bl hb, fun _ => unhide KP1 _ _ _ (J.r1 (by decide)) hb, fun _ => hv, fun h => absurd h (by decide), fun h => by
                  obtain ⟨b, e1, e2, e3⟩ := J.al h
                  exact ⟨b, e1, e2.keep hb, e3⟩⟩
              | 2, _, J =>
                refine wpOp_step rfl (fun K hK => ?_)
                (try simp only [Act.put, List.setIfInBounds_toArray, List.set_cons_zero, List.set_cons_succ] at hK ⊢)
                (try simp only [List.getElem_toArray, List.getElem_cons_succ, List.getElem_cons_zero])
                go_simp
                refine (unhide HOW _ _ _ (J.r1 (by decide)) (J.r2 (by decide)) (unhide HLD _ (below_step bd0 J.bl))).mono ?_
                rintro e wz ⟨v_, rfl, hv, hb⟩
                exact hK _ _ ⟨unhide HCD _ (below_step bd0 (below_step J.bl hb)), s1, s2, .tuple #[v_, .nilIface], s4, rfl, below_step J.bl hb, fun _ => unhide KP1 _ _ _ (J.r1 (by decide)) hb, fun _ => unhide KP2 _ _ _ (J.r2 (by decide)) hb, fun _ => ⟨v_, rfl, hv⟩, fun h => by
                  obtain ⟨b, e1, e2, e3⟩ := J.al h
                  exact ⟨b, e1, e2.keep hb, e3⟩⟩
            · rintro nc na wv hnc ⟨s1, s2, s3, s4, rfl, J⟩
              subst ha0
              refine wpOp_step rfl (fun K hK => ?_)
              (try simp only [Act.put, List.setIfInBounds_toArray, List.set_cons_zero, List.set_cons_succ] at hK ⊢)
              (try simp only [List.getElem_toArray, List.getElem_cons_succ, List.getElem_cons_zero])
              go_simp
              have hb := alloc_below wv (.cells #[.bool false, .slice none 0 0, .slice none 0 0] 31)
              exact hK _ _ ⟨unhide HCD _ (below_step bd0 (below_step J.bl hb)), s1, s2, s3, .pointer (some ⟨wv.heap.size, 0, none⟩), rfl, below_step J.bl hb, fun h => unhide KP1 _ _ _ (J.r1 h) hb, fun h => unhide KP2 _ _ _ (J.r2 h) hb, fun h => unhide KP3 _ _ _ (J.r3 h) hb, fun _ => ⟨wv.heap.size, rfl, BoxIs.new (t := zTri) (rat_zero _), J.bl.size⟩⟩
            · rintro nl na wv ⟨s1, s2, s3, s4, rfl, J⟩
              subst ha0
              obtain ⟨v_, rfl, hv_⟩ := J.r3 (by decide)
              obtain ⟨te, rfl, r0⟩ := tri_of hv_
              clear hv_
              simp only [Tri.val]
              (try simp only [Act.put, List.setIfInBounds_toArray, List.set_cons_zero, List.set_cons_succ])
              have hCv : (fun w' : World => (w'.cell? ⟨w.heap.size, 0, none⟩ = some (.int .i64 x) ∧ w'.cell? ⟨w.heap.size, 1, none⟩ = some (.int .i64 y)) ∧ w'.cell? ⟨g1, 0, none⟩ = some (.int .i64 z) ∧ w'.cell? ⟨g1, 1, none⟩ = some (.int .i64 u)) wv := unhide HCD _ (below_step bd0 J.bl)
              clear hC0
              cases nl with
              | true =>
                obtain ⟨be, rfl, B10, e10⟩ := J.al rfl
                refine wpHold_take (i := 7) (v := ?_) rfl (by kernel_rfl) (by kernel_rfl) (by kernel_rfl) (fun _ _ _ h => h) (Or.inl ⟨by rfl, ?_⟩) hCv ?_
                rotate_left
                · intro w hSw; clear hSw; go_simp; (try with_reducible rfl)
                (try simp only [List.getElem_toArray, List.getElem_cons_succ, List.getElem_cons_zero])
                (try simp only [Act.put, List.setIfInBounds_toArray, List.set_cons_zero, List.set_cons_succ])
                refine wpHold_take (i := 8) (v := ?_) rfl (by kernel_rfl) (by kernel_rfl) (by kernel_rfl) (fun _ _ _ h => h) (Or.inl ⟨by rfl, ?_⟩) hCv ?_
                rotate_left
                · intro w hSw; clear hSw; go_simp; (try with_reducible rfl)
                (try simp only [List.getElem_toArray, List.getElem_cons_succ, List.getElem_cons_zero])
                (try simp only [Act.put, List.setIfInBounds_toArray, List.set_cons_zero, List.set_cons_succ])
                refine wpHold_take (i := 9) (v := ?_) rfl (by kernel_rfl) (by kernel_rfl) (by kernel_rfl) (fun _ _ _ h => h) (Or.inl ⟨by rfl, ?_⟩) hCv ?_
                rotate_left
                · intro w hSw; clear hSw; go_simp; (try with_reducible rfl)
                (try simp only [List.getElem_toArray, List.getElem_cons_succ, List.getElem_cons_zero])
                (try simp only [Act.put, List.setIfInBounds_toArray, List.set_cons_zero, List.set_cons_succ])
                have ⟨l0, l1, l2⟩ := B10.free
                have ⟨k0, k1, k2⟩ := B10.cells _ (Below.refl _ _)
                have HJB := hide (below_step bd0 J.bl)
                have NB := B10.set r0
                have e10' : Wbd.heap.size ≤ be := Nat.le_trans bd0.size e10
                have YB := (((below_step bd0 J.bl).setCell (p := ⟨be, 0, none⟩) e10' (.bool te.s)).setCell (p := ⟨be, 1, none⟩) e10' (.slice te.a1 te.n1 te.c1)).setCell (p := ⟨be, 2, none⟩) e10' (.slice te.a2 te.n2 te.c2)
                have HG_be := hide e10'
                have hCn : (fun w' : World => (w'.cell? ⟨w.heap.size, 0, none⟩ = some (.int .i64 x) ∧ w'.cell? ⟨w.heap.size, 1, none⟩ = some (.int .i64 y)) ∧ w'.cell? ⟨g1, 0, none⟩ = some (.int .i64 z) ∧ w'.cell? ⟨g1, 1, none⟩ = some (.int .i64 u)) _ := unhide HCD _ YB
                obtain ⟨Wbe, hWy⟩ : ∃ W, ((wv.setCell ⟨be, 0, none⟩ (.bool te.s)).setCell ⟨be, 1, none⟩ (.slice te.a1 te.n1 te.c1)).setCell ⟨be, 2, none⟩ (.slice te.a2 te.n2 te.c2) = W := ⟨_, rfl⟩
                rw [hWy] at NB YB hCn
                have HX_be := hide NB
                have HY_be := hide YB
                clear J B10 YB NB e10' hCv
                refine wpHold_one (k := 11) (by kernel_rfl) rfl (fun K hK => ?_)
                (try simp only [List.getElem_toArray, List.getElem_cons_succ, List.getElem_cons_zero])
                go_simp
                refine hK.out _ _ hCn ?_
                clear hK K
                (try simp only [Act.put, List.setIfInBounds_toArray, List.set_cons_zero, List.set_cons_succ])
                refine wpHold_one (k := 12) (by kernel_rfl) rfl (fun K hK => ?_)
                (try simp only [List.getElem_toArray, List.getElem_cons_succ, List.getElem_cons_zero])
                go_simp
                refine hK.out _ _ hCn ?_
                clear hK K
                (try simp only [Act.put, List.setIfInBounds_toArray, List.set_cons_zero, List.set_cons_succ])
                refine wpHold_done (by kernel_rfl) ?_ _
                clear hCn l0 l1 l2 k0 k1 k2 hWy e10 bd0 hWx r0 HJB KP1 KP2 KP3
                have hb0 := unhide HY_be
                have X1 := unhide HX_be
                have X2 := (unhide HX_bd).keep hb0
                have X0 := unhide HXC _ (below_step (unhide HY_bd) hb0)
                have HLI := hide (like_any tc.val te.val (f bm) Wbe X0.2 X1.2 140000 (unhide HRC bm (unhide HM1) (unhide HM2)) (by rw [unhide HKE]; omega) (tab_below (unhide HTB5) (below_step (unhide HY_bd) hb0)))
                have HCM0 : Hid (∀ W, Below Wbe.heap.size Wbe W → Calls Tryd.prog 20 #[tc.val, td.val] W fun e w' => e = .returned (.int .i64 (cmpv (f bm) (f m'))) ∧ Below W.heap.size W w') := fun W hW => cmpR_all tc.val td.val (f bm) (f m') W (X0.keep hW).2 (X2.keep hW).2 140000 (unhide HRC bm (unhide HM1) (unhide HM2)) (unhide HRC m' (unhide HMD).1 (unhide HMD).2) (by rw [unhide HKE]; omega)
                have ⟨s0, s1⟩ := cmpv_le (unhide HLE m' (unhide HMD).1)
                obtain ⟨sg, hsg⟩ : ∃ s, cmpv (f bm) (f m') = s := ⟨_, rfl⟩
                rw [hsg] at HCM0 s0 s1
                obtain ⟨c0, c1, c2⟩ := X0.cells _ (Below.refl _ _)
                obtain ⟨d0, d1, d2⟩ := X1.cells _ (Below.refl _ _)
                have HXD := hide X2
                have HXC9 := hide X0
                have HYY := hide (unhide HBX _ (below_step (unhide HY_bd) hb0))
                simp only [Tri.val] at HLI HCM0
                clear hb0 X0 X1 X2 HX_be HY_be HG_be HX_bd HY_bd HG_bd hsg
                go_wp2_with fail
                refine (unhide HLI).mono ?_
                rintro e w9 ⟨rfl, hb9⟩
                have HCM := hide (unhide HCM0 _ hb9)
                obtain ⟨k0, k1, k2⟩ := (unhide HXC9).cells _ hb9
                obtain ⟨l0, l1, l2⟩ := (unhide HXD).cells _ hb9
                have HB9 := hide (below_step (unhide HYY) hb9)
                clear hb9 HLI HCM0 c0 c1 c2 d0 d1 d2 HXC9 HXD HYY
                go_wp2_with fail
                refine (unhide HCM).mono ?_
                rintro e w10 ⟨rfl, hb10⟩
                have HB10 := hide (below_step (unhide HB9) hb10)
                clear hb10 HCM k0 k1 k2 l0 l1 l2 HB9
                go_wp2
                go_ret
                exact ⟨rfl, unhide HB10⟩
              | false =>
                refine wpHold_take (i := 7) (v := ?_) rfl (by kernel_rfl) (by kernel_rfl) (by kernel_rfl) (fun _ _ _ h => h) (Or.inl ⟨by rfl, ?_⟩) hCv ?_
                rotate_left
                · intro w hSw; clear hSw; go_simp; (try with_reducible rfl)
                (try simp only [List.getElem_toArray, List.getElem_cons_succ, List.getElem_cons_zero])
                (try simp only [Act.put, List.setIfInBounds_toArray, List.set_cons_zero, List.set_cons_succ])
                refine wpHold_take (i := 8) (v := ?_) rfl (by kernel_rfl) (by kernel_rfl) (by kernel_rfl) (fun _ _ _ h => h) (Or.inl ⟨by rfl, ?_⟩) hCv ?_
                rotate_left
                · intro w hSw; clear hSw; go_simp; (try with_reducible rfl)
                (try simp only [List.getElem_toArray, List.getElem_cons_succ, List.getElem_cons_zero])
                (try simp only [Act.put, List.setIfInBounds_toArray, List.set_cons_zero, List.set_cons_succ])
                refine wpHold_take (i := 9) (v := ?_) rfl (by kernel_rfl) (by kernel_rfl) (by kernel_rfl) (fun _ _ _ h => h) (Or.inl ⟨by rfl, ?_⟩) hCv ?_
                rotate_left
                · intro w hSw; clear hSw; go_simp; (try with_reducible rfl)
                (try simp only [List.getElem_toArray, List.getElem_cons_succ, List.getElem_cons_zero])
                (try simp only [Act.put, List.setIfInBounds_toArray, List.set_cons_zero, List.set_cons_succ])
                have hbA := alloc_below wv (.cells #[.bool false, .slice none 0 0, .slice none 0 0] 31)
                have B10 := BoxIs.new (w := wv) (t := zTri) (q := 0) (rat_zero _)
                have B10' : BoxIs (wv.alloc (.cells #[.bool false, .slice none 0 0, .slice none 0 0] 31)) wv.heap.size zTri 0 := B10
                have rA := r0.below hbA
                have blA := below_step J.bl hbA
                have hCA : (fun w' : World => (w'.cell? ⟨w.heap.size, 0, none⟩ = some (.int .i64 x) ∧ w'.cell? ⟨w.heap.size, 1, none⟩ = some (.int .i64 y)) ∧ w'.cell? ⟨g1, 0, none⟩ = some (.int .i64 z) ∧ w'.cell? ⟨g1, 1, none⟩ = some (.int .i64 u)) _ := unhide HCD _ (below_step bd0 blA)
                have e10 : Wx.heap.size ≤ wv.heap.size := J.bl.size
                refine wpHold_one (k := 10) (by kernel_rfl) rfl (fun K hK => ?_)
                (try simp only [List.getElem_toArray, List.getElem_cons_succ, List.getElem_cons_zero])
                go_simp
                refine hK.out _ _ hCA ?_
                clear hK K
                (try simp only [Act.put, List.setIfInBounds_toArray, List.set_cons_zero, List.set_cons_succ])
                obtain ⟨wA, hwA⟩ : ∃ W, wv.alloc (.cells #[.bool false, .slice none 0 0, .slice none 0 0] 31) = W := ⟨_, rfl⟩
                obtain ⟨be, hbn⟩ : ∃ b, wv.heap.size = b := ⟨_, rfl⟩
                rw [hwA] at B10' rA blA hCA
                rw [hbn] at B10' e10
                simp only [hwA, hbn]
                clear B10 hbA hwA hbn
                replace B10 := B10'
                clear B10'
                have ⟨l0, l1, l2⟩ := B10.free
                have ⟨k0, k1, k2⟩ := B10.cells _ (Below.refl _ _)
                have HJB := hide (below_step bd0 blA)
                have NB := B10.set rA
                have e10' : Wbd.heap.size ≤ be := Nat.le_trans bd0.size e10
                have YB := (((below_step bd0 blA).setCell (p := ⟨be, 0, none⟩) e10' (.bool te.s)).setCell (p := ⟨be, 1, none⟩) e10' (.slice te.a1 te.n1 te.c1)).setCell (p := ⟨be, 2, none⟩) e10' (.slice te.a2 te.n2 te.c2)
                have HG_be := hide e10'
                have hCn : (fun w' : World => (w'.cell? ⟨w.heap.size, 0, none⟩ = some (.int .i64 x) ∧ w'.cell? ⟨w.heap.size, 1, none⟩ = some (.int .i64 y)) ∧ w'.cell? ⟨g1, 0, none⟩ = some (.int .i64 z) ∧ w'.cell? ⟨g1, 1, none⟩ = some (.int .i64 u)) _ := unhide HCD _ YB
                obtain ⟨Wbe, hWy⟩ : ∃ W, ((wA.setCell ⟨be, 0, none⟩ (.bool te.s)).setCell ⟨be, 1, none⟩ (.slice te.a1 te.n1 te.c1)).setCell ⟨be, 2, none⟩ (.slice te.a2 te.n2 te.c2) = W := ⟨_, rfl⟩
                rw [hWy] at NB YB hCn
                have HX_be := hide NB
                have HY_be := hide YB
                clear J B10 YB NB e10' hCv
                refine wpHold_one (k := 11) (by kernel_rfl) rfl (fun K hK => ?_)
                (try simp only [List.getElem_toArray, List.getElem_cons_succ, List.getElem_cons_zero])
                go_simp
                refine hK.out _ _ hCn ?_
                clear hK K
                (try simp only [Act.put, List.setIfInBounds_toArray, List.set_cons_zero, List.set_cons_succ])
                refine wpHold_one (k := 12) (by kernel_rfl) rfl (fun K hK => ?_)
                (try simp only [List.getElem_toArray, List.getElem_cons_succ, List.getElem_cons_zero])
                go_simp
                refine hK.out _ _ hCn ?_
                clear hK K
                (try simp only [Act.put, List.setIfInBounds_toArray, List.set_cons_zero, List.set_cons_succ])
                refine wpHold_done (by kernel_rfl) ?_ _
                clear hCn l0 l1 l2 k0 k1 k2 hWy e10 bd0 hWx r0 HJB KP1 KP2 KP3 hCA rA blA
                have hb0 := unhide HY_be
                have X1 := unhide HX_be
                have X2 := (unhide HX_bd).keep hb0
                have X0 := unhide HXC _ (below_step (unhide HY_bd) hb0)
                have HLI := hide (like_any tc.val te.val (f bm) Wbe X0.2 X1.2 140000 (unhide HRC bm (unhide HM1) (unhide HM2)) (by rw [unhide HKE]; omega) (tab_below (unhide HTB5) (below_step (unhide HY_bd) hb0)))
                have HCM0 : Hid (∀ W, Below Wbe.heap.size Wbe W → Calls Tryd.prog 20 #[tc.val, td.val] W fun e w' => e = .returned (.int .i64 (cmpv (f bm) (f m'))) ∧ Below W.heap.size W w') := fun W hW => cmpR_all tc.val td.val (f bm) (f m') W (X0.keep hW).2 (X2.keep hW).2 140000 (unhide HRC bm (unhide HM1) (unhide HM2)) (unhide HRC m' (unhide HMD).1 (unhide HMD).2) (by rw [unhide HKE]; omega)
                have ⟨s0, s1⟩ := cmpv_le (unhide HLE m' (unhide HMD).1)
                obtain ⟨sg, hsg⟩ : ∃ s, cmpv (f bm) (f m') = s := ⟨_, rfl⟩
                rw [hsg] at HCM0 s0 s1
                obtain ⟨c0, c1, c2⟩ := X0.cells _ (Below.refl _ _)
                obtain ⟨d0, d1, d2⟩ := X1.cells _ (Below.refl _ _)
                have HXD := hide X2
                have HXC9 := hide X0
                have HYY := hide (unhide HBX _ (below_step (unhide HY_bd) hb0))
                simp only [Tri.val] at HLI HCM0
                clear hb0 X0 X1 X2 HX_be HY_be HG_be HX_bd HY_bd HG_bd hsg
                go_wp2_with fail
                refine (unhide HLI).mono ?_
                rintro e w9 ⟨rfl, hb9⟩
                have HCM := hide (unhide HCM0 _ hb9)
                obtain ⟨k0, k1, k2⟩ := (unhide HXC9).cells _ hb9
                obtain ⟨l0, l1, l2⟩ := (unhide HXD).cells _ hb9
                have HB9 := hide (below_step (unhide HYY) hb9)
                clear hb9 HLI HCM0 c0 c1 c2 d0 d1 d2 HXC9 HXD HYY
                go_wp2_with fail
                refine (unhide HCM).mono ?_
                rintro e w10 ⟨rfl, hb10⟩
                have HB10 := hide (below_step (unhide HB9) hb10)
                clear hb10 HCM k0 k1 k2 l0 l1 l2 HB9
                go_wp2
                go_ret
                exact ⟨rfl, unhide HB10⟩
          | false =>
            refine wpHold_take (i := 9) (v := ?_) rfl (by kernel_rfl) (by kernel_rfl) (by kernel_rfl) (fun _ _ _ h => h) (Or.inl ⟨by rfl, ?_⟩) hCv ?_
            rotate_left
            · intro w hSw; clear hSw; go_simp; (try with_reducible rfl)
            (try simp only [List.getElem_toArray, List.getElem_cons_succ, List.getElem_cons_zero])
            (try simp only [Act.put, List.setIfInBounds_toArray, List.set_cons_zero, List.set_cons_succ])
            refine wpHold_take (i := 10) (v := ?_) rfl (by kernel_rfl) (by kernel_rfl) (by kernel_rfl) (fun _ _ _ h => h) (Or.inl ⟨by rfl, ?_⟩) hCv ?_
            rotate_left
            · intro w hSw; clear hSw; go_simp; (try with_reducible rfl)
            (try simp only [List.getElem_toArray, List.getElem_cons_succ, List.getElem_cons_zero])
            (try simp only [Act.put, List.setIfInBounds_toArray, List.set_cons_zero, List.set_cons_succ])
            refine wpHold_take (i := 11) (v := ?_) rfl (by kernel_rfl) (by kernel_rfl) (by kernel_rfl) (fun _ _ _ h => h) (Or.inl ⟨by rfl, ?_⟩) hCv ?_
            rotate_left
            · intro w hSw; clear hSw; go_simp; (try with_reducible rfl)
            (try simp only [List.getElem_toArray, List.getElem_cons_succ, List.getElem_cons_zero])
            (try simp only [Act.put, List.setIfInBounds_toArray, List.set_cons_zero, List.set_cons_succ])
            have hbA := alloc_below wv (.cells #[.bool false, .slice none 0 0, .slice none 0 0] 31)
            have B10 := BoxIs.new (w := wv) (t := zTri) (q := 0) (rat_zero _)
            have B10' : BoxIs (wv.alloc (.cells #[.bool false, .slice none 0 0, .slice none 0 0] 31)) wv.heap.size zTri 0 := B10
            have rA := r0.below hbA
            have blA := below_step J.bl hbA
            have hCA : (fun w' : World => (w'.cell? ⟨w.heap.size, 0, none⟩ = some (.int .i64 x) ∧ w'.cell? ⟨w.heap.size, 1, none⟩ = some (.int .i64 y)) ∧ w'.cell? ⟨g1, 0, none⟩ = some (.int .i64 z) ∧ w'.cell? ⟨g1, 1, none⟩ = some (.int .i64 u)) _ := unhide HC5 _ (below_step bd0 blA)
            have e10 : Wx.heap.size ≤ wv.heap.size := J.bl.size
            refine wpHold_one (k := 12) (by kernel_rfl) rfl (fun K hK => ?_)
            (try simp only [List.getElem_toArray, List.getElem_cons_succ, List.getElem_cons_zero])
            go_simp
            refine hK.out _ _ hCA ?_
            clear hK K
            (try simp only [Act.put, List.setIfInBounds_toArray, List.set_cons_zero, List.set_cons_succ])
            obtain ⟨wA, hwA⟩ : ∃ W, wv.alloc (.cells #[.bool false, .slice none 0 0, .slice none 0 0] 31) = W := ⟨_, rfl⟩
            obtain ⟨bd, hbn⟩ : ∃ b, wv.heap.size = b := ⟨_, rfl⟩
            rw [hwA] at B10' rA blA hCA
            rw [hbn] at B10' e10
            simp only [hwA, hbn]
            clear B10 hbA hwA hbn
            replace B10 := B10'
            clear B10'
            have ⟨l0, l1, l2⟩ := B10.free
            have ⟨k0, k1, k2⟩ := B10.cells _ (Below.refl _ _)
            have HJB := hide (below_step bd0 blA)
            have NB := B10.set rA
            have e10' : w5.heap.size ≤ bd := Nat.le_trans bd0.size e10
            have YB := (((below_step bd0 blA).setCell (p := ⟨bd, 0, none⟩) e10' (.bool td.s)).setCell (p := ⟨bd, 1, none⟩) e10' (.slice td.a1 td.n1 td.c1)).setCell (p := ⟨bd, 2, none⟩) e10' (.slice td.a2 td.n2 td.c2)
            have HG_bd := hide e10'
            have hCn : (fun w' : World => (w'.cell? ⟨w.heap.size, 0, none⟩ = some (.int .i64 x) ∧ w'.cell? ⟨w.heap.size, 1, none⟩ = some (.int .i64 y)) ∧ w'.cell? ⟨g1, 0, none⟩ = some (.int .i64 z) ∧ w'.cell? ⟨g1, 1, none⟩ = some (.int .i64 u)) _ := unhide HC5 _ YB
            obtain ⟨Wbd, hWy⟩ : ∃ W, ((wA.setCell ⟨bd, 0, none⟩ (.bool td.s)).setCell ⟨bd, 1, none⟩ (.slice td.a1 td.n1 td.c1)).setCell ⟨bd, 2, none⟩ (.slice td.a2 td.n2 td.c2) = W := ⟨_, rfl⟩
            rw [hWy] at NB YB hCn
            have HX_bd := hide NB
            have HY_bd := hide YB
            clear J B10 YB NB e10' hCv
            refine wpHold_one (k := 13) (by kernel_rfl) rfl (fun K hK => ?_)
            (try simp only [List.getElem_toArray, List.getElem_cons_succ, List.getElem_cons_zero])
            go_simp
            refine hK.out _ _ hCn ?_
            clear hK K
            (try simp only [Act.put, List.setIfInBounds_toArray, List.set_cons_zero, List.set_cons_succ])
            refine wpHold_one (k := 14) (by kernel_rfl) rfl (fun K hK => ?_)
            (try simp only [List.getElem_toArray, List.getElem_cons_succ, List.getElem_cons_zero])
            go_simp
            refine hK.out _ _ hCn ?_
            clear hK K
            (try simp only [Act.put, List.setIfInBounds_toArray, List.set_cons_zero, List.set_cons_succ])
            refine wpHold_done (by kernel_rfl) ?_ _
            clear hCn l0 l1 l2 k0 k1 k2 hWy e10 bd0 hWx r0 HJB KP1 KP2 KP3 KP4 KP5 hCA rA blA
            have HCD : Hid (∀ W, Below Wbd.heap.size Wbd W → (fun w' : World => (w'.cell? ⟨w.heap.size, 0, none⟩ = some (.int .i64 x) ∧ w'.cell? ⟨w.heap.size, 1, none⟩ = some (.int .i64 y)) ∧ w'.cell? ⟨g1, 0, none⟩ = some (.int .i64 z) ∧ w'.cell? ⟨g1, 1, none⟩ = some (.int .i64 u)) W) := fun W hW => unhide HC5 W (below_step (unhide HY_bd) hW)
            have HLD : Hid (∀ W, Below Wbd.heap.size Wbd W → LawIs W (.slice a1 n cp1) qs) := fun W hW => unhide HL5 W (below_step (unhide HY_bd) hW)
            clear HC5
            go_wp2_with fail
            refine wp_region_hold (fun w' : World => (w'.cell? ⟨w.heap.size, 0, none⟩ = some (.int .i64 x) ∧ w'.cell? ⟨w.heap.size, 1, none⟩ = some (.int .i64 y)) ∧ w'.cell? ⟨g1, 0, none⟩ = some (.int .i64 z) ∧ w'.cell? ⟨g1, 1, none⟩ = some (.int .i64 u)) (by kernel_rfl) ?_
            have bd0 : Below Wbd.heap.size Wbd Wbd.drew := (Below.refl _ _).drew
            obtain ⟨Wx, hWx⟩ : ∃ W, Wbd.drew = W := ⟨_, rfl⟩
            rw [hWx] at bd0 ⊢
            have hC0 : (fun w' : World => (w'.cell? ⟨w.heap.size, 0, none⟩ = some (.int .i64 x) ∧ w'.cell? ⟨w.heap.size, 1, none⟩ = some (.int .i64 y)) ∧ w'.cell? ⟨g1, 0, none⟩ = some (.int .i64 z) ∧ w'.cell? ⟨g1, 1, none⟩ = some (.int .i64 u)) Wx := unhide HCD _ bd0
            have KP1 : Hid (∀ (w w' : World) (s : Value), (fun (w : World) (s : Value) => RatIs w s (pq (x, y))) w s → Below w.heap.size w w' → (fun (w : World) (s : Value) => RatIs w s (pq (x, y))) w' s) := fun _ _ _ h hb => RatIs.below h hb
            have KP2 : Hid (∀ (w w' : World) (s : Value), (fun (w : World) (s : Value) => RatIs w s (pq (z, u))) w s → Below w.heap.size w w' → (fun (w : World) (s : Value) => RatIs w s (pq (z, u))) w' s) := fun _ _ _ h hb => RatIs.below h hb
            have KP3 : Hid (∀ (w w' : World) (s : Value), (fun (w : World) (s : Value) => ∃ (v : Value), s = .tuple #[v, .nilIface] ∧ RatIs w v (f bm)) w s → Below w.heap.size w w' → (fun (w : World) (s : Value) => ∃ (v : Value), s = .tuple #[v, .nilIface] ∧ RatIs w v (f bm)) w' s) := fun _ _ _ h hb => by obtain ⟨v, h2, h3⟩ := h; exact ⟨v, h2, h3.below hb⟩
            refine wpHold_take (i := 0) (v := ?_) rfl (by kernel_rfl) (by kernel_rfl) (by kernel_rfl) (fun _ _ _ h => h) (Or.inl ⟨by rfl, ?_⟩) hC0 ?_
            rotate_left
            · intro w hSw; clear hSw; go_simp; (try with_reducible rfl)
            (try simp only [List.getElem_toArray, List.getElem_cons_succ, List.getElem_cons_zero])
            (try simp only [Act.put, List.setIfInBounds_toArray, List.set_cons_zero, List.set_cons_succ])
            refine wpHold_take (i := 1) (v := ?_) rfl (by kernel_rfl) (by kernel_rfl) (by kernel_rfl) (fun _ _ _ h => h) (Or.inl ⟨by rfl, ?_⟩) hC0 ?_
            rotate_left
            · intro w hSw; (try dsimp only at hSw); obtain ⟨⟨z0, z1⟩, z2, z3⟩ := hSw; go_simp; (try with_reducible rfl)
            (try simp only [List.getElem_toArray, List.getElem_cons_succ, List.getElem_cons_zero])
            (try simp only [Act.put, List.setIfInBounds_toArray, List.set_cons_zero, List.set_cons_succ])
            refine wpHold_take (i := 3) (v := ?_) rfl (by kernel_rfl) (by kernel_rfl) (by kernel_rfl) (fun _ _ _ h => h) (Or.inl ⟨by rfl, ?_⟩) hC0 ?_
            rotate_left
            · intro w hSw; (try dsimp only at hSw); obtain ⟨⟨z0, z1⟩, z2, z3⟩ := hSw; go_simp; (try with_reducible rfl)
            (try simp only [List.getElem_toArray, List.getElem_cons_succ, List.getElem_cons_zero])
            (try simp only [Act.put, List.setIfInBounds_toArray, List.set_cons_zero, List.set_cons_succ])
            refine wpHold_take (i := 5) (v := ?_) rfl (by kernel_rfl) (by kernel_rfl) (by kernel_rfl) (fun _ _ _ h => h) (Or.inl ⟨by rfl, ?_⟩) hC0 ?_
            rotate_left
            · intro w hSw; clear hSw; go_simp; (try with_reducible rfl)
            (try simp only [List.getElem_toArray, List.getElem_cons_succ, List.getElem_cons_zero])
            (try simp only [Act.put, List.setIfInBounds_toArray, List.set_cons_zero, List.set_cons_succ])
            refine wpHold_listed (n := 9) (L' := (fun nc nl => #[true, true, decide (1 ≤ nc), true, decide (2 ≤ nc), true, decide (3 ≤ nc), false, false, false, nl, false, false]) 0 false) (by kernel_rfl) (by kernel_rfl) ?_
            refine wpHold_name (fun a0 ha0 => ?_)
            refine chain_fin 3 (fun nc nl => #[true, true, decide (1 ≤ nc), true, decide (2 ≤ nc), true, decide (3 ≤ nc), false, false, false, nl, false, false]) (fun nc => match nc with | 0 => 2 | 1 => 4 | _ => 6) 10 5 (fun nc nl na W => ∃ s1 s2 s3 s4, na = (((a0.put (some 63) s1).put (some 65) s2).put (some 67) s3).put (some 15) s4 ∧ Nj3 (fun (w : World) (s : Value) => RatIs w s (pq (x, y))) (fun (w : World) (s : Value) => RatIs w s (pq (z, u))) (fun (w : World) (s : Value) => ∃ (v : Value), s = .tuple #[v, .nilIface] ∧ RatIs w v (f bm)) Wx nc nl W s1 s2 s3 s4) ?_ ?_ ?_ ?_ ?_ ?_ ?_ 4 0 false (by omega) (by rfl) _ _ ⟨undef, undef, undef, undef, by subst ha0; rfl, Below.refl _ _, fun h => absurd h (by decide), fun h => absurd h (by decide), fun h => absurd h (by decide), fun h => by cases h⟩
            · clear ha0
              intro nc nl hnc
              match nc, hnc with
              | 0, _ => cases nl <;> (show (_ : Bool) = _; kernel_rfl)
              | 1, _ => cases nl <;> (show (_ : Bool) = _; kernel_rfl)
              | 2, _ => cases nl <;> (show (_ : Bool) = _; kernel_rfl)
            · clear ha0
              intro nc nl hnc
              match nc, hnc with
              | 0, _ => cases nl <;> (show (_ : Bool) = _; kernel_rfl)
              | 1, _ => cases nl <;> (show (_ : Bool) = _; kernel_rfl)
              | 2, _ => cases nl <;> (show (_ : Bool) = _; kernel_rfl)
            · clear ha0
              intro nc nl hnc
              match nc, hnc with
              | 0, _ => rfl
              | 1, _ => rfl
              | 2, _ => rfl
            · clear ha0
              intro nc hnc
              match nc, hnc with
              | 0, _ => rfl
              | 1, _ => rfl
              | 2, _ => rfl
            · rintro nc nl na wv hnc ⟨s1, s2, s3, s4, rfl, J⟩
              subst ha0
              match nc, hnc, J with
              | 0, _, J =>
                refine wpOp_step rfl (fun K hK => ?_)
                (try simp only [Act.put, List.setIfInBounds_toArray, List.set_cons_zero, List.set_cons_succ] at hK ⊢)
                (try simp only [List.getElem_toArray, List.getElem_cons_succ, List.getElem_cons_zero])
                go_simp
                refine (unhide HFA _).mono ?_
                rintro e wz ⟨v_, rfl, hv, hb⟩
                exact hK _ _ ⟨unhide HCD _ (below_step bd0 (below_step J.bl hb)), v_, s2, s3, s4, rfl, below_step J.bl hb, fun _ => hv, fun h => absurd h (by decide), fun h => absurd h (by decide), fun h => by
                  obtain ⟨b, e1, e2, e3⟩ := J.al h
                  exact ⟨b, e1, e2.keep hb, e3⟩⟩
              | 1, _, J =>
                refine wpOp_step rfl (fun K hK => ?_)
                (try simp only [Act.put, List.setIfInBounds_toArray, List.set_cons_zero, List.set_cons_succ] at hK ⊢)
                (try simp only [List.getElem_toArray, List.getElem_cons_succ, List.getElem_cons_zero])
                go_simp
                refine (unhide HFB _).mono ?_
                rintro e wz ⟨v_, rfl, hv, hb⟩
                exact hK _ _ ⟨unhide HCD _ (below_step bd0 (below_step J.bl hb)), s1, v_, s3, s4, rfl, below_step J.bl hb, fun _ => unhide KP1 _ _ _ (J.r1 (by decide)) hb, fun _ => hv, fun h => absurd h (by decide), fun h => by
                  obtain ⟨b, e1, e2, e3⟩ := J.al h
                  exact ⟨b, e1, e2.keep hb, e3⟩⟩
              | 2, _, J =>
                refine wpOp_step rfl (fun K hK => ?_)
                (try simp only [Act.put, List.setIfInBounds_toArray, List.set_cons_zero, List.set_cons_succ] at hK ⊢)
                (try simp only [List.getElem_toArray, List.getElem_cons_succ, List.getElem_cons_zero])
                go_simp
                refine (unhide HOW _ _ _ (J.r1 (by decide)) (J.r2 (by decide)) (unhide HLD _ (below_step bd0 J.bl))).mono ?_
                rintro e wz ⟨v_, rfl, hv, hb⟩
                exact hK _ _ ⟨unhide HCD _ (below_step bd0 (below_step J.bl hb)), s1, s2, .tuple #[v_, .nilIface], s4, rfl, below_step J.bl hb, fun _ => unhide KP1 _ _ _ (J.r1 (by decide)) hb, fun _ => unhide KP2 _ _ _ (J.r2 (by decide)) hb, fun _ => ⟨v_, rfl, hv⟩, fun h => by
                  obtain ⟨b, e1, e2, e3⟩ := J.al h
                  exact ⟨b, e1, e2.keep hb, e3⟩⟩
            · rintro nc na wv hnc ⟨s1, s2, s3, s4, rfl, J⟩
              subst ha0
              refine wpOp_step rfl (fun K hK => ?_)
              (try simp only [Act.put, List.setIfInBounds_toArray, List.set_cons_zero, List.set_cons_succ] at hK ⊢)
              (try simp only [List.getElem_toArray, List.getElem_cons_succ, List.getElem_cons_zero])
              go_simp
              have hb := alloc_below wv (.cells #[.bool false, .slice none 0 0, .slice none 0 0] 31)
              exact hK _ _ ⟨unhide HCD _ (below_step bd0 (below_step J.bl hb)), s1, s2, s3, .pointer (some ⟨wv.heap.size, 0, none⟩), rfl, below_step J.bl hb, fun h => unhide KP1 _ _ _ (J.r1 h) hb, fun h => unhide KP2 _ _ _ (J.r2 h) hb, fun h => unhide KP3 _ _ _ (J.r3 h) hb, fun _ => ⟨wv.heap.size, rfl, BoxIs.new (t := zTri) (rat_zero _), J.bl.size⟩⟩
            · rintro nl na wv ⟨s1, s2, s3, s4, rfl, J⟩
              subst ha0
              obtain ⟨v_, rfl, hv_⟩ := J.r3 (by decide)
              obtain ⟨te, rfl, r0⟩ := tri_of hv_
              clear hv_
              simp only [Tri.val]
              (try simp only [Act.put, List.setIfInBounds_toArray, List.set_cons_zero, List.set_cons_succ])
              have hCv : (fun w' : World => (w'.cell? ⟨w.heap.size, 0, none⟩ = some (.int .i64 x) ∧ w'.cell? ⟨w.heap.size, 1, none⟩ = some (.int .i64 y)) ∧ w'.cell? ⟨g1, 0, none⟩ = some (.int .i64 z) ∧ w'.cell? ⟨g1, 1, none⟩ = some (.int .i64 u)) wv := unhide HCD _ (below_step bd0 J.bl)
              clear hC0
              cases nl with
              | true =>
                obtain ⟨be, rfl, B10, e10⟩ := J.al rfl
                refine wpHold_take (i := 7) (v := ?_) rfl (by kernel_rfl) (by kernel_rfl) (by kernel_rfl) (fun _ _ _ h => h) (Or.inl ⟨by rfl, ?_⟩) hCv ?_
                rotate_left
                · intro w hSw; clear hSw; go_simp; (try with_reducible rfl)
                (try simp only [List.getElem_toArray, List.getElem_cons_succ, List.getElem_cons_zero])
                (try simp only [Act.put, List.setIfInBounds_toArray, List.set_cons_zero, List.set_cons_succ])
                refine wpHold_take (i := 8) (v := ?_) rfl (by kernel_rfl) (by kernel_rfl) (by kernel_rfl) (fun _ _ _ h => h) (Or.inl ⟨by rfl, ?_⟩) hCv ?_
                rotate_left
                · intro w hSw; clear hSw; go_simp; (try with_reducible rfl)
                (try simp only [List.getElem_toArray, List.getElem_cons_succ, List.getElem_cons_zero])
                (try simp only [Act.put, List.setIfInBounds_toArray, List.set_cons_zero, List.set_cons_succ])
                refine wpHold_take (i := 9) (v := ?_) rfl (by kernel_rfl) (by kernel_rfl) (by kernel_rfl) (fun _ _ _ h => h) (Or.inl ⟨by rfl, ?_⟩) hCv ?_
                rotate_left
                · intro w hSw; clear hSw; go_simp; (try with_reducible rfl)
                (try simp only [List.getElem_toArray, List.getElem_cons_succ, List.getElem_cons_zero])
                (try simp only [Act.put, List.setIfInBounds_toArray, List.set_cons_zero, List.set_cons_succ])
                have ⟨l0, l1, l2⟩ := B10.free
                have ⟨k0, k1, k2⟩ := B10.cells _ (Below.refl _ _)
                have HJB := hide (below_step bd0 J.bl)
                have NB := B10.set r0
                have e10' : Wbd.heap.size ≤ be := Nat.le_trans bd0.size e10
                have YB := (((below_step bd0 J.bl).setCell (p := ⟨be, 0, none⟩) e10' (.bool te.s)).setCell (p := ⟨be, 1, none⟩) e10' (.slice te.a1 te.n1 te.c1)).setCell (p := ⟨be, 2, none⟩) e10' (.slice te.a2 te.n2 te.c2)
                have HG_be := hide e10'
                have hCn : (fun w' : World => (w'.cell? ⟨w.heap.size, 0, none⟩ = some (.int .i64 x) ∧ w'.cell? ⟨w.heap.size, 1, none⟩ = some (.int .i64 y)) ∧ w'.cell? ⟨g1, 0, none⟩ = some (.int .i64 z) ∧ w'.cell? ⟨g1, 1, none⟩ = some (.int .i64 u)) _ := unhide HCD _ YB
                obtain ⟨Wbe, hWy⟩ : ∃ W, ((wv.setCell ⟨be, 0, none⟩ (.bool te.s)).setCell ⟨be, 1, none⟩ (.slice te.a1 te.n1 te.c1)).setCell ⟨be, 2, none⟩ (.slice te.a2 te.n2 te.c2) = W := ⟨_, rfl⟩
                rw [hWy] at NB YB hCn
                have HX_be := hide NB
                have HY_be := hide YB
                clear J B10 YB NB e10' hCv
                refine wpHold_one (k := 11) (by kernel_rfl) rfl (fun K hK => ?_)
                (try simp only [List.getElem_toArray, List.getElem_cons_succ, List.getElem_cons_zero])
                go_simp
                refine hK.out _ _ hCn ?_
                clear hK K
                (try simp only [Act.put, List.setIfInBounds_toArray, List.set_cons_zero, List.set_cons_succ])
                refine wpHold_one (k := 12) (by kernel_rfl) rfl (fun K hK => ?_)
                (try simp only [List.getElem_toArray, List.getElem_cons_succ, List.getElem_cons_zero])
                go_simp
                refine hK.out _ _ hCn ?_
                clear hK K
                (try simp only [Act.put, List.setIfInBounds_toArray, List.set_cons_zero, List.set_cons_succ])
                refine wpHold_done (by kernel_rfl) ?_ _
                clear hCn l0 l1 l2 k0 k1 k2 hWy e10 bd0 hWx r0 HJB KP1 KP2 KP3
                have hb0 := unhide HY_be
                have X1 := unhide HX_be
                have X2 := (unhide HX_bd).keep hb0
                have X0 := unhide HXC _ (below_step (unhide HY_bd) hb0)
                have HLI := hide (like_any tc.val te.val (f bm) Wbe X0.2 X1.2 140000 (unhide HRC bm (unhide HM1) (unhide HM2)) (by rw [unhide HKE]; omega) (tab_below (unhide HTB5) (below_step (unhide HY_bd) hb0)))
                have HCM0 : Hid (∀ W, Below Wbe.heap.size Wbe W → Calls Tryd.prog 20 #[tc.val, td.val] W fun e w' => e = .returned (.int .i64 (cmpv (f bm) (f m'))) ∧ Below W.heap.size W w') := fun W hW => cmpR_all tc.val td.val (f bm) (f m') W (X0.keep hW).2 (X2.keep hW).2 140000 (unhide HRC bm (unhide HM1) (unhide HM2)) (unhide HRC m' (unhide HMD).1 (unhide HMD).2) (by rw [unhide HKE]; omega)
                have ⟨s0, s1⟩ := cmpv_le (unhide HLE m' (unhide HMD).1)
                obtain ⟨sg, hsg⟩ : ∃ s, cmpv (f bm) (f m') = s := ⟨_, rfl⟩
                rw [hsg] at HCM0 s0 s1
                obtain ⟨c0, c1, c2⟩ := X0.cells _ (Below.refl _ _)
                obtain ⟨d0, d1, d2⟩ := X1.cells _ (Below.refl _ _)
                have HXD := hide X2
                have HXC9 := hide X0
                have HYY := hide (unhide HBX _ (below_step (unhide HY_bd) hb0))
                simp only [Tri.val] at HLI HCM0
                clear hb0 X0 X1 X2 HX_be HY_be HG_be HX_bd HY_bd HG_bd hsg
                go_wp2_with fail
                refine (unhide HLI).mono ?_
                rintro e w9 ⟨rfl, hb9⟩
                have HCM := hide (unhide HCM0 _ hb9)
                obtain ⟨k0, k1, k2⟩ := (unhide HXC9).cells _ hb9
                obtain ⟨l0, l1, l2⟩ := (unhide HXD).cells _ hb9
                have HB9 := hide (below_step (unhide HYY) hb9)
                clear hb9 HLI HCM0 c0 c1 c2 d0 d1 d2 HXC9 HXD HYY
                go_wp2_with fail
                refine (unhide HCM).mono ?_
                rintro e w10 ⟨rfl, hb10⟩
                have HB10 := hide (below_step (unhide HB9) hb10)
                clear hb10 HCM k0 k1 k2 l0 l1 l2 HB9
                go_wp2
                go_ret
                exact ⟨rfl, unhide HB10⟩
              | false =>
                refine wpHold_take (i := 7) (v := ?_) rfl (by kernel_rfl) (by kernel_rfl) (by kernel_rfl) (fun _ _ _ h => h) (Or.inl ⟨by rfl, ?_⟩) hCv ?_
                rotate_left
                · intro w hSw; clear hSw; go_simp; (try with_reducible rfl)
                (try simp only [List.getElem_toArray, List.getElem_cons_succ, List.getElem_cons_zero])
                (try simp only [Act.put, List.setIfInBounds_toArray, List.set_cons_zero, List.set_cons_succ])
                refine wpHold_take (i := 8) (v := ?_) rfl (by kernel_rfl) (by kernel_rfl) (by kernel_rfl) (fun _ _ _ h => h) (Or.inl ⟨by rfl, ?_⟩) hCv ?_
                rotate_left
                · intro w hSw; clear hSw; go_simp; (try with_reducible rfl)
                (try simp only [List.getElem_toArray, List.getElem_cons_succ, List.getElem_cons_zero])
                (try simp only [Act.put, List.setIfInBounds_toArray, List.set_cons_zero, List.set_cons_succ])
                refine wpHold_take (i := 9) (v := ?_) rfl (by kernel_rfl) (by kernel_rfl) (by kernel_rfl) (fun _ _ _ h => h) (Or.inl ⟨by rfl, ?_⟩) hCv ?_
                rotate_left
                · intro w hSw; clear hSw; go_simp; (try with_reducible rfl)
                (try simp only [List.getElem_toArray, List.getElem_cons_succ, List.getElem_cons_zero])
                (try simp only [Act.put, List.setIfInBounds_toArray, List.set_cons_zero, List.set_cons_succ])
                have hbA := alloc_below wv (.cells #[.bool false, .slice none 0 0, .slice none 0 0] 31)
                have B10 := BoxIs.new (w := wv) (t := zTri) (q := 0) (rat_zero _)
                have B10' : BoxIs (wv.alloc (.cells #[.bool false, .slice none 0 0, .slice none 0 0] 31)) wv.heap.size zTri 0 := B10
                have rA := r0.below hbA
                have blA := below_step J.bl hbA
                have hCA : (fun w' : World => (w'.cell? ⟨w.heap.size, 0, none⟩ = some (.int .i64 x) ∧ w'.cell? ⟨w.heap.size, 1, none⟩ = some (.int .i64 y)) ∧ w'.cell? ⟨g1, 0, none⟩ = some (.int .i64 z) ∧ w'.cell? ⟨g1, 1, none⟩ = some (.int .i64 u)) _ := unhide HCD _ (below_step bd0 blA)
                have e10 : Wx.heap.size ≤ wv.heap.size := J.bl.size
                refine wpHold_one (k := 10) (by kernel_rfl) rfl (fun K hK => ?_)
                (try simp only [List.getElem_toArray, List.getElem_cons_succ, List.getElem_cons_zero])
                go_simp
                refine hK.out _ _ hCA ?_
                clear hK K
                (try simp only [Act.put, List.setIfInBounds_toArray, List.set_cons_zero, List.set_cons_succ])
                obtain ⟨wA, hwA⟩ : ∃ W, wv.alloc (.cells #[.bool false, .slice none 0 0, .slice none 0 0] 31) = W := ⟨_, rfl⟩
                obtain ⟨be, hbn⟩ : ∃ b, wv.heap.size = b := ⟨_, rfl⟩
                rw [hwA] at B10' rA blA hCA
                rw [hbn] at B10' e10
                simp only [hwA, hbn]
                clear B10 hbA hwA hbn
                replace B10 := B10'
                clear B10'
                have ⟨l0, l1, l2⟩ := B10.free
                have ⟨k0, k1, k2⟩ := B10.cells _ (Below.refl _ _)
                have HJB := hide (below_step bd0 blA)
                have NB := B10.set rA
                have e10' : Wbd.heap.size ≤ be := Nat.le_trans bd0.size e10
                have YB := (((below_step bd0 blA).setCell (p := ⟨be, 0, none⟩) e10' (.bool te.s)).setCell (p := ⟨be, 1, none⟩) e10' (.slice te.a1 te.n1 te.c1)).setCell (p := ⟨be, 2, none⟩) e10' (.slice te.a2 te.n2 te.c2)
                have HG_be := hide e10'
                have hCn : (fun w' : World => (w'.cell? ⟨w.heap.size, 0, none⟩ = some (.int .i64 x) ∧ w'.cell? ⟨w.heap.size, 1, none⟩ = some (.int .i64 y)) ∧ w'.cell? ⟨g1, 0, none⟩ = some (.int .i64 z) ∧ w'.cell? ⟨g1, 1, none⟩ = some (.int .i64 u)) _ := unhide HCD _ YB
                obtain ⟨Wbe, hWy⟩ : ∃ W, ((wA.setCell ⟨be, 0, none⟩ (.bool te.s)).setCell ⟨be, 1, none⟩ (.slice te.a1 te.n1 te.c1)).setCell ⟨be, 2, none⟩ (.slice te.a2 te.n2 te.c2) = W := ⟨_, rfl⟩
                rw [hWy] at NB YB hCn
                have HX_be := hide NB
                have HY_be := hide YB
                clear J B10 YB NB e10' hCv
                refine wpHold_one (k := 11) (by kernel_rfl) rfl (fun K hK => ?_)
                (try simp only [List.getElem_toArray, List.getElem_cons_succ, List.getElem_cons_zero])
                go_simp
                refine hK.out _ _ hCn ?_
                clear hK K
                (try simp only [Act.put, List.setIfInBounds_toArray, List.set_cons_zero, List.set_cons_succ])
                refine wpHold_one (k := 12) (by kernel_rfl) rfl (fun K hK => ?_)
                (try simp only [List.getElem_toArray, List.getElem_cons_succ, List.getElem_cons_zero])
                go_simp
                refine hK.out _ _ hCn ?_
                clear hK K
                (try simp only [Act.put, List.setIfInBounds_toArray, List.set_cons_zero, List.set_cons_succ])
                refine wpHold_done (by kernel_rfl) ?_ _
                clear hCn l0 l1 l2 k0 k1 k2 hWy e10 bd0 hWx r0 HJB KP1 KP2 KP3 hCA rA blA
                have hb0 := unhide HY_be
                have X1 := unhide HX_be
                have X2 := (unhide HX_bd).keep hb0
                have X0 := unhide HXC _ (below_step (unhide HY_bd) hb0)
                have HLI := hide (like_any tc.val te.val (f bm) Wbe X0.2 X1.2 140000 (unhide HRC bm (unhide HM1) (unhide HM2)) (by rw [unhide HKE]; omega) (tab_below (unhide HTB5) (below_step (unhide HY_bd) hb0)))
                have HCM0 : Hid (∀ W, Below Wbe.heap.size Wbe W → Calls Tryd.prog 20 #[tc.val, td.val] W fun e w' => e = .returned (.int .i64 (cmpv (f bm) (f m'))) ∧ Below W.heap.size W w') := fun W hW => cmpR_all tc.val td.val (f bm) (f m') W (X0.keep hW).2 (X2.keep hW).2 140000 (unhide HRC bm (unhide HM1) (unhide HM2)) (unhide HRC m' (unhide HMD).1 (unhide HMD).2) (by rw [unhide HKE]; omega)
                have ⟨s0, s1⟩ := cmpv_le (unhide HLE m' (unhide HMD).1)
                obtain ⟨sg, hsg⟩ : ∃ s, cmpv (f bm) (f m') = s := ⟨_, rfl⟩
                rw [hsg] at HCM0 s0 s1
                obtain ⟨c0, c1, c2⟩ := X0.cells _ (Below.refl _ _)
                obtain ⟨d0, d1, d2⟩ := X1.cells _ (Below.refl _ _)
                have HXD := hide X2
                have HXC9 := hide X0
                have HYY := hide (unhide HBX _ (below_step (unhide HY_bd) hb0))
                simp only [Tri.val] at HLI HCM0
                clear hb0 X0 X1 X2 HX_be HY_be HG_be HX_bd HY_bd HG_bd hsg
                go_wp2_with fail
                refine (unhide HLI).mono ?_
                rintro e w9 ⟨rfl, hb9⟩
                have HCM := hide (unhide HCM0 _ hb9)
                obtain ⟨k0, k1, k2⟩ := (unhide HXC9).cells _ hb9
                obtain ⟨l0, l1, l2⟩ := (unhide HXD).cells _ hb9
                have HB9 := hide (below_step (unhide HYY) hb9)
                clear hb9 HLI HCM0 c0 c1 c2 d0 d1 d2 HXC9 HXD HYY
                go_wp2_with fail
                refine (unhide HCM).mono ?_
                rintro e w10 ⟨rfl, hb10⟩
                have HB10 := hide (below_step (unhide HB9) hb10)
                clear hb10 HCM k0 k1 k2 l0 l1 l2 HB9
                go_wp2
                go_ret
                exact ⟨rfl, unhide HB10⟩
    | false =>
      refine wpHold_take (i := 6) (v := ?_) rfl (by kernel_rfl) (by kernel_rfl) (by kernel_rfl) (fun _ _ _ h => h) (Or.inl ⟨by rfl, ?_⟩) hCv ?_
      rotate_left
      · intro w hSw; clear hSw; go_simp; (try with_reducible rfl)
      (try simp only [List.getElem_toArray, List.getElem_cons_succ, List.getElem_cons_zero])
      (try simp only [Act.put, List.setIfInBounds_toArray, List.set_cons_zero, List.set_cons_succ])
      refine wpHold_take (i := 7) (v := ?_) rfl (by kernel_rfl) (by kernel_rfl) (by kernel_rfl) (fun _ _ _ h => h) (Or.inl ⟨by rfl, ?_⟩) hCv ?_
      rotate_left
      · intro w hSw; clear hSw; go_simp; (try with_reducible rfl)
      (try simp only [List.getElem_toArray, List.getElem_cons_succ, List.getElem_cons_zero])
      (try simp only [Act.put, List.setIfInBounds_toArray, List.set_cons_zero, List.set_cons_succ])
      refine wpHold_take (i := 8) (v := ?_) rfl (by kernel_rfl) (by kernel_rfl) (by kernel_rfl) (fun _ _ _ h => h) (Or.inl ⟨by rfl, ?_⟩) hCv ?_
      rotate_left
      · intro w hSw; clear hSw; go_simp; (try with_reducible rfl)
      (try simp only [List.getElem_toArray, List.getElem_cons_succ, List.getElem_cons_zero])
      (try simp only [Act.put, List.setIfInBounds_toArray, List.set_cons_zero, List.set_cons_succ])
      refine wpHold_take (i := 9) (v := ?_) rfl (by kernel_rfl) (by kernel_rfl) (by kernel_rfl) (fun _ _ _ h => h) (Or.inl ⟨by rfl, ?_⟩) hCv ?_
      rotate_left
      · intro w hSw; clear hSw; go_simp; (try with_reducible rfl)
      (try simp only [List.getElem_toArray, List.getElem_cons_succ, List.getElem_cons_zero])
      (try simp only [Act.put, List.setIfInBounds_toArray, List.set_cons_zero, List.set_cons_succ])
      have hbA := alloc_below wv (.cells #[.bool false, .slice none 0 0, .slice none 0 0] 31)
      have B10 := BoxIs.new (w := wv) (t := zTri) (q := 0) (rat_zero _)
      have B10' : BoxIs (wv.alloc (.cells #[.bool false, .slice none 0 0, .slice none 0 0] 31)) wv.heap.size zTri 0 := B10
      have rA := r0.below hbA
      have blA := below_step J.bl hbA
      have hCA : (fun w' : World => (w'.cell? ⟨w.heap.size, 0, none⟩ = some (.int .i64 x) ∧ w'.cell? ⟨w.heap.size, 1, none⟩ = some (.int .i64 y)) ∧ w'.cell? ⟨g1, 0, none⟩ = some (.int .i64 z) ∧ w'.cell? ⟨g1, 1, none⟩ = some (.int .i64 u)) _ := unhide HC1 _ (below_step bd0 blA)
      have e10 : Wx.heap.size ≤ wv.heap.size := J.bl.size
      refine wpHold_one (k := 10) (by kernel_rfl) rfl (fun K hK => ?_)
      (try simp only [List.getElem_toArray, List.getElem_cons_succ, List.getElem_cons_zero])
      go_simp
      refine hK.out _ _ hCA ?_
      clear hK K
      (try simp only [Act.put, List.setIfInBounds_toArray, List.set_cons_zero, List.set_cons_succ])
      obtain ⟨wA, hwA⟩ : ∃ W, wv.alloc (.cells #[.bool false, .slice none 0 0, .slice none 0 0] 31) = W := ⟨_, rfl⟩
      obtain ⟨bc, hbn⟩ : ∃ b, wv.heap.size = b := ⟨_, rfl⟩
      rw [hwA] at B10' rA blA hCA
      rw [hbn] at B10' e10
      simp only [hwA, hbn]
      clear B10 hbA hwA hbn
      replace B10 := B10'
      clear B10'
      have ⟨l0, l1, l2⟩ := B10.free
      have ⟨k0, k1, k2⟩ := B10.cells _ (Below.refl _ _)
      have HJB := hide (below_step bd0 blA)
      have NB := B10.set rA
      have e10' : w1.heap.size ≤ bc := Nat.le_trans bd0.size e10
      have YB := (((below_step bd0 blA).setCell (p := ⟨bc, 0, none⟩) e10' (.bool tc.s)).setCell (p := ⟨bc, 1, none⟩) e10' (.slice tc.a1 tc.n1 tc.c1)).setCell (p := ⟨bc, 2, none⟩) e10' (.slice tc.a2 tc.n2 tc.c2)
      have HG_bc := hide e10'
      have hCn : (fun w' : World => (w'.cell? ⟨w.heap.size, 0, none⟩ = some (.int .i64 x) ∧ w'.cell? ⟨w.heap.size, 1, none⟩ = some (.int .i64 y)) ∧ w'.cell? ⟨g1, 0, none⟩ = some (.int .i64 z) ∧ w'.cell? ⟨g1, 1, none⟩ = some (.int .i64 u)) _ := unhide HC1 _ YB
      obtain ⟨Wbc, hWy⟩ : ∃ W, ((wA.setCell ⟨bc, 0, none⟩ (.bool tc.s)).setCell ⟨bc, 1, none⟩ (.slice tc.a1 tc.n1 tc.c1)).setCell ⟨bc, 2, none⟩ (.slice tc.a2 tc.n2 tc.c2) = W := ⟨_, rfl⟩
      rw [hWy] at NB YB hCn
      have HX_bc := hide NB
      have HY_bc := hide YB
      clear J B10 YB NB e10' hCv
      refine wpHold_one (k := 11) (by kernel_rfl) rfl (fun K hK => ?_)
      (try simp only [List.getElem_toArray, List.getElem_cons_succ, List.getElem_cons_zero])
      go_simp
      refine hK.out _ _ (unhide HC1 _ (unhide HJB)) ?_
      clear hK K
      (try simp only [Act.put, List.setIfInBounds_toArray, List.set_cons_zero, List.set_cons_succ])
      refine wpHold_one (k := 12) (by kernel_rfl) rfl (fun K hK => ?_)
      (try simp only [List.getElem_toArray, List.getElem_cons_succ, List.getElem_cons_zero])
      go_simp
      refine hK.out _ _ hCn ?_
      clear hK K
      (try simp only [Act.put, List.setIfInBounds_toArray, List.set_cons_zero, List.set_cons_succ])
      refine wpHold_one (k := 13) (by kernel_rfl) rfl (fun K hK => ?_)
      (try simp only [List.getElem_toArray, List.getElem_cons_succ, List.getElem_cons_zero])
      go_simp
      refine hK.out _ _ hCn ?_
      clear hK K
      (try simp only [Act.put, List.setIfInBounds_toArray, List.set_cons_zero, List.set_cons_succ])
      refine wpHold_done (by kernel_rfl) ?_ _
      clear hCn l0 l1 l2 k0 k1 k2 hWy e10 bd0 hWx r0 HJB KP1 KP2 KP3 hCA rA blA
      have hb0 := unhide HY_bc
      have HT3 := hide (tab_below (unhide HTB1) hb0)
      have C1 := hide (lasting_any Wbc (unhide HT3))
      have HX1 := hide (unhide HX_bc)
      have HB1 := hide (below_step (unhide HBW1) hb0)
      have HQ1 : Hid (∀ W, Below Wbc.heap.size Wbc W → (fun w' : World => (w'.cell? ⟨w.heap.size, 0, none⟩ = some (.int .i64 x) ∧ w'.cell? ⟨w.heap.size, 1, none⟩ = some (.int .i64 y)) ∧ w'.cell? ⟨g1, 0, none⟩ = some (.int .i64 z) ∧ w'.cell? ⟨g1, 1, none⟩ = some (.int .i64 u)) W ∧ LawIs W (.slice a1 n cp1) qs ∧ Tab W) := fun W hW => ⟨unhide HC1 W (below_step hb0 hW), unhide HL1 W (below_step hb0 hW), tab_below (unhide HT3) hW⟩
      clear hb0 HX_bc HY_bc HG_bc
      go_wp2_with fail
      refine (unhide C1).mono ?_
      rintro e w5 ⟨rfl, hb5⟩
      clear C1
      rcases hrel with ⟨hc, rfl, rfl, hq0⟩ | ⟨hc, rfl, rfl, hql⟩
      · have C2 := hide (lasting_any w5 (unhide HQ1 _ hb5).2.2)
        have q5 : (kc == 0) = false := by simpa using hc
        have HB5 := hide hb5
        rw [hq0] at HX1
        clear hb5 hc
        go_wp2_with fail
        refine (unhide C2).mono ?_
        rintro e w6 ⟨rfl, hb6⟩
        have hb56 := below_step (unhide HB5) hb6
        have C3 := hide (sign_any _ _ w6 ((unhide HX1).keep hb56).2)
        obtain ⟨c0, c1, c2⟩ := (unhide HX1).cells _ hb56
        have HB6 := hide (below_step (unhide HB1) hb56)
        simp only [Tri.val] at C3
        rw [show (0 : Rat).num.sign = 0 from rfl] at C3
        clear C2 hb6 hb56
        go_wp2_with fail
        refine (unhide C3).mono ?_
        rintro e w7 ⟨rfl, hb7⟩
        have HB7 := hide (below_step (unhide HB6) hb7)
        clear hb7 C3 c0 c1 c2
        go_wp2
        go_ret
        exact ⟨rfl, unhide HB7⟩
      · rw [hql] at HX1
        have HM := unhide HGOOD hc
        have HM1 := hide HM.1
        have HM2 := hide HM.2.1
        have HLE := hide HM.2.2.1
        have HRC := hide HM.2.2.2.1
        have HOT := hide HM.2.2.2.2.1
        have HOW := hide HM.2.2.2.2.2
        have HXC : Hid (∀ W, Below w5.heap.size w5 W → BoxIs W bc tc (f bm)) := fun W hW => (unhide HX1).keep (below_step hb5 hW)
        have HBX : Hid (∀ W, Below w5.heap.size w5 W → Below w.heap.size w W) := fun W hW => below_step (unhide HB1) (below_step hb5 hW)
        have HC5 : Hid (∀ W, Below w5.heap.size w5 W → (fun w' : World => (w'.cell? ⟨w.heap.size, 0, none⟩ = some (.int .i64 x) ∧ w'.cell? ⟨w.heap.size, 1, none⟩ = some (.int .i64 y)) ∧ w'.cell? ⟨g1, 0, none⟩ = some (.int .i64 z) ∧ w'.cell? ⟨g1, 1, none⟩ = some (.int .i64 u)) W) := fun W hW => (unhide HQ1 W (below_step hb5 hW)).1
        have HL5 : Hid (∀ W, Below w5.heap.size w5 W → LawIs W (.slice a1 n cp1) qs) := fun W hW => (unhide HQ1 W (below_step hb5 hW)).2.1
        have HTB5 := hide (unhide HQ1 _ hb5).2.2
        clear hb5 hc HB1 HQ1 HX1 hql HM HGOOD
        go_wp2_with fail
        refine wp_region_hold (fun w' : World => (w'.cell? ⟨w.heap.size, 0, none⟩ = some (.int .i64 x) ∧ w'.cell? ⟨w.heap.size, 1, none⟩ = some (.int .i64 y)) ∧ w'.cell? ⟨g1, 0, none⟩ = some (.int .i64 z) ∧ w'.cell? ⟨g1, 1, none⟩ = some (.int .i64 u)) (by kernel_rfl) ?_
        have bd0 : Below w5.heap.size w5 w5.drew := (Below.refl _ _).drew
        obtain ⟨Wx, hWx⟩ : ∃ W, w5.drew = W := ⟨_, rfl⟩
        rw [hWx] at bd0 ⊢
        have hC0 : (fun w' : World => (w'.cell? ⟨w.heap.size, 0, none⟩ = some (.int .i64 x) ∧ w'.cell? ⟨w.heap.size, 1, none⟩ = some (.int .i64 y)) ∧ w'.cell? ⟨g1, 0, none⟩ = some (.int .i64 z) ∧ w'.cell? ⟨g1, 1, none⟩ = some (.int .i64 u)) Wx := unhide HC5 _ bd0
        have KP1 : Hid (∀ (w w' : World) (s : Value), (fun (w : World) (s : Value) => RatIs w s (pq (x, y))) w s → Below w.heap.size w w' → (fun (w : World) (s : Value) => RatIs w s (pq (x, y))) w' s) := fun _ _ _ h hb => RatIs.below h hb
        have KP2 : Hid (∀ (w w' : World) (s : Value), (fun (w : World) (s : Value) => RatIs w s (pq (z, u))) w s → Below w.heap.size w w' → (fun (w : World) (s : Value) => RatIs w s (pq (z, u))) w' s) := fun _ _ _ h hb => RatIs.below h hb
        have KP3 : Hid (∀ (w w' : World) (s : Value), (fun (_ : World) (s : Value) => ∃ m : Nat, s = .int .i64 (m : Int) ∧ m < 100) w s → Below w.heap.size w w' → (fun (_ : World) (s : Value) => ∃ m : Nat, s = .int .i64 (m : Int) ∧ m < 100) w' s) := fun _ _ _ h _ => h
        have KP4 : Hid (∀ (w w' : World) (s : Value), (fun (_ : World) (s : Value) => ∃ m : Nat, s = .int .i64 (1 + (m : Int)) ∧ m < 100) w s → Below w.heap.size w w' → (fun (_ : World) (s : Value) => ∃ m : Nat, s = .int .i64 (1 + (m : Int)) ∧ m < 100) w' s) := fun _ _ _ h _ => h
        have KP5 : Hid (∀ (w w' : World) (s : Value), (fun (w : World) (s : Value) => ∃ (m : Nat) (v : Value), (1 ≤ m ∧ m ≤ 100) ∧ s = .tuple #[v, .nilIface] ∧ RatIs w v (f m)) w s → Below w.heap.size w w' → (fun (w : World) (s : Value) => ∃ (m : Nat) (v : Value), (1 ≤ m ∧ m ≤ 100) ∧ s = .tuple #[v, .nilIface] ∧ RatIs w v (f m)) w' s) := fun _ _ _ h hb => by obtain ⟨m, v, h1, h2, h3⟩ := h; exact ⟨m, v, h1, h2, h3.below hb⟩
        refine wpHold_take (i := 0) (v := ?_) rfl (by kernel_rfl) (by kernel_rfl) (by kernel_rfl) (fun _ _ _ h => h) (Or.inl ⟨by rfl, ?_⟩) hC0 ?_
        rotate_left
        · intro w hSw; clear hSw; go_simp; (try with_reducible rfl)
        (try simp only [List.getElem_toArray, List.getElem_cons_succ, List.getElem_cons_zero])
        (try simp only [Act.put, List.setIfInBounds_toArray, List.set_cons_zero, List.set_cons_succ])
        refine wpHold_take (i := 1) (v := ?_) rfl (by kernel_rfl) (by kernel_rfl) (by kernel_rfl) (fun _ _ _ h => h) (Or.inl ⟨by rfl, ?_⟩) hC0 ?_
        rotate_left
        · intro w hSw; (try dsimp only at hSw); obtain ⟨⟨z0, z1⟩, z2, z3⟩ := hSw; go_simp; (try with_reducible rfl)
        (try simp only [List.getElem_toArray, List.getElem_cons_succ, List.getElem_cons_zero])
        (try simp only [Act.put, List.setIfInBounds_toArray, List.set_cons_zero, List.set_cons_succ])
        refine wpHold_take (i := 3) (v := ?_) rfl (by kernel_rfl) (by kernel_rfl) (by kernel_rfl) (fun _ _ _ h => h) (Or.inl ⟨by rfl, ?_⟩) hC0 ?_
        rotate_left
        · intro w hSw; (try dsimp only at hSw); obtain ⟨⟨z0, z1⟩, z2, z3⟩ := hSw; go_simp; (try with_reducible rfl)
        (try simp only [List.getElem_toArray, List.getElem_cons_succ, List.getElem_cons_zero])
        (try simp only [Act.put, List.setIfInBounds_toArray, List.set_cons_zero, List.set_cons_succ])
        refine wpHold_take (i := 5) (v := ?_) rfl (by kernel_rfl) (by kernel_rfl) (by kernel_rfl) (fun _ _ _ h => h) (Or.inl ⟨by rfl, ?_⟩) hC0 ?_
        rotate_left
        · intro w hSw; clear hSw; go_simp; (try with_reducible rfl)
        (try simp only [List.getElem_toArray, List.getElem_cons_succ, List.getElem_cons_zero])
        (try simp only [Act.put, List.setIfInBounds_toArray, List.set_cons_zero, List.set_cons_succ])
        refine wpHold_listed (n := 11) (L' := (fun nc nl => #[true, true, decide (1 ≤ nc), true, decide (2 ≤ nc), true, decide (3 ≤ nc), decide (4 ≤ nc), decide (5 ≤ nc), false, false, false, nl, false, false]) 0 false) (by kernel_rfl) (by kernel_rfl) ?_
        refine wpHold_name (fun a0 ha0 => ?_)
        refine chain_fin 5 (fun nc nl => #[true, true, decide (1 ≤ nc), true, decide (2 ≤ nc), true, decide (3 ≤ nc), decide (4 ≤ nc), decide (5 ≤ nc), false, false, false, nl, false, false]) (fun nc => match nc with | 0 => 2 | 1 => 4 | 2 => 6 | 3 => 7 | _ => 8) 12 5 (fun nc nl na W => ∃ s1 s2 s3 s4 s5 s6, na = (((((a0.put (some 51) s1).put (some 53) s2).put (some 55) s3).put (some 56) s4).put (some 57) s5).put (some 13) s6 ∧ Nj5 (fun (w : World) (s : Value) => RatIs w s (pq (x, y))) (fun (w : World) (s : Value) => RatIs w s (pq (z, u))) (fun (_ : World) (s : Value) => ∃ m : Nat, s = .int .i64 (m : Int) ∧ m < 100) (fun (_ : World) (s : Value) => ∃ m : Nat, s = .int .i64 (1 + (m : Int)) ∧ m < 100) (fun (w : World) (s : Value) => ∃ (m : Nat) (v : Value), (1 ≤ m ∧ m ≤ 100) ∧ s = .tuple #[v, .nilIface] ∧ RatIs w v (f m)) Wx nc nl W s1 s2 s3 s4 s5 s6) ?_ ?_ ?_ ?_ ?_ ?_ ?_ 6 0 false (by omega) (by rfl) _ _ ⟨undef, undef, undef, undef, undef, undef, by subst ha0; rfl, Below.refl _ _, fun h => absurd h (by decide), fun h => absurd h (by decide), fun h => absurd h (by decide), fun h => absurd h (by decide), fun h => absurd h (by decide), fun h => by cases h⟩
        · clear ha0
          intro nc nl hnc
          match nc, hnc with
          | 0, _ => cases nl <;> (show (_ : Bool) = _; kernel_rfl)
          | 1, _ => cases nl <;> (show (_ : Bool) = _; kernel_rfl)
          | 2, _ => cases nl <;> (show (_ : Bool) = _; kernel_rfl)
          | 3, _ => cases nl <;> (show (_ : Bool) = _; kernel_rfl)
          | 4, _ => cases nl <;> (show (_ : Bool) = _; kernel_rfl)
        · clear ha0
          intro nc nl hnc
          match nc, hnc with
          | 0, _ => cases nl <;> (show (_ : Bool) = _; kernel_rfl)
          | 1, _ => cases nl <;> (show (_ : Bool) = _; kernel_rfl)
          | 2, _ => cases nl <;> (show (_ : Bool) = _; kernel_rfl)
          | 3, _ => cases nl <;> (show (_ : Bool) = _; kernel_rfl)
          | 4, _ => cases nl <;> (show (_ : Bool) = _; kernel_rfl)
        · clear ha0
          intro nc nl hnc
          match nc, hnc with
          | 0, _ => rfl
          | 1, _ => rfl
          | 2, _ => rfl
          | 3, _ => rfl
          | 4, _ => rfl
        · clear ha0
          intro nc hnc
          match nc, hnc with
          | 0, _ => rfl
          | 1, _ => rfl
          | 2, _ => rfl
          | 3, _ => rfl
          | 4, _ => rfl
        · rintro nc nl na wv hnc ⟨s1, s2, s3, s4, s5, s6, rfl, J⟩
          subst ha0
          match nc, hnc, J with
          | 0, _, J =>
            refine wpOp_step rfl (fun K hK => ?_)
            (try simp only [Act.put, List.setIfInBounds_toArray, List.set_cons_zero, List.set_cons_succ] at hK ⊢)
            (try simp only [List.getElem_toArray, List.getElem_cons_succ, List.getElem_cons_zero])
            go_simp
            refine (unhide HFA _).mono ?_
            rintro e wz ⟨v_, rfl, hv, hb⟩
            exact hK _ _ ⟨unhide HC5 _ (below_step bd0 (below_step J.bl hb)), v_, s2, s3, s4, s5, s6, rfl, below_step J.bl hb, fun _ => hv, fun h => absurd h (by decide), fun h => absurd h (by decide), fun h => absurd h (by decide), fun h => absurd h (by decide), fun h => by
              obtain ⟨b, e1, e2, e3⟩ := J.al h
              exact ⟨b, e1, e2.keep hb, e3⟩⟩
          | 1, _, J =>
            refine wpOp_step rfl (fun K hK => ?_)
            (try simp only [Act.put, List.setIfInBounds_toArray, List.set_cons_zero, List.set_cons_succ] at hK ⊢)
            (try simp only [List.getElem_toArray, List.getElem_cons_succ, List.getElem_cons_zero])
            go_simp
            refine (unhide HFB _).mono ?_
            rintro e wz ⟨v_, rfl, hv, hb⟩
            exact hK _ _ ⟨unhide HC5 _ (below_step bd0 (below_step J.bl hb)), s1, v_, s3, s4, s5, s6, rfl, below_step J.bl hb, fun _ => unhide KP1 _ _ _ (J.r1 (by decide)) hb, fun _ => hv, fun h => absurd h (by decide), fun h => absurd h (by decide), fun h => absurd h (by decide), fun h => by
              obtain ⟨b, e1, e2, e3⟩ := J.al h
              exact ⟨b, e1, e2.keep hb, e3⟩⟩
          | 2, _, J =>
            refine wpOp_step rfl (fun K hK => ?_)
            (try simp only [Act.put, List.setIfInBounds_toArray, List.set_cons_zero, List.set_cons_succ] at hK ⊢)
            (try simp only [List.getElem_toArray, List.getElem_cons_succ, List.getElem_cons_zero])
            go_simp
            refine (unhide HPI _).mono ?_
            rintro e wz ⟨m_, rfl, hm_, hb⟩
            exact hK _ _ ⟨unhide HC5 _ (below_step bd0 (below_step J.bl hb)), s1, s2, .int .i64 (m_ : Int), s4, s5, s6, rfl, below_step J.bl hb, fun _ => unhide KP1 _ _ _ (J.r1 (by decide)) hb, fun _ => unhide KP2 _ _ _ (J.r2 (by decide)) hb, fun _ => ⟨m_, rfl, hm_⟩, fun h => absurd h (by decide), fun h => absurd h (by decide), fun h => by
              obtain ⟨b, e1, e2, e3⟩ := J.al h
              exact ⟨b, e1, e2.keep hb, e3⟩⟩
          | 3, _, J =>
            obtain ⟨m_, rfl, hm_⟩ := J.r3 (by decide)
            have jw : IntKind.i64.wrap (1 + (m_ : Int)) = 1 + (m_ : Int) := by rw [IntKind.wrap_i64]; omega
            refine wpOp_step rfl (fun K hK => ?_)
            (try simp only [Act.put, List.setIfInBounds_toArray, List.set_cons_zero, List.set_cons_succ] at hK ⊢)
            (try simp only [List.getElem_toArray, List.getElem_cons_succ, List.getElem_cons_zero])
            go_simp
            have hb := Below.refl wv.heap.size wv
            exact hK _ _ ⟨unhide HC5 _ (below_step bd0 (below_step J.bl hb)), s1, s2, _, .int .i64 (1 + (m_ : Int)), s5, s6, rfl, below_step J.bl hb, fun _ => unhide KP1 _ _ _ (J.r1 (by decide)) hb, fun _ => unhide KP2 _ _ _ (J.r2 (by decide)) hb, fun _ => unhide KP3 _ _ _ (J.r3 (by decide)) hb, fun _ => ⟨m_, rfl, hm_⟩, fun h => absurd h (by decide), fun h => by
              obtain ⟨b, e1, e2, e3⟩ := J.al h
              exact ⟨b, e1, e2.keep hb, e3⟩⟩
          | 4, _, J =>
            refine wpOp_step rfl (fun K hK => ?_)
            (try simp only [Act.put, List.setIfInBounds_toArray, List.set_cons_zero, List.set_cons_succ] at hK ⊢)
            (try simp only [List.getElem_toArray, List.getElem_cons_succ, List.getElem_cons_zero])
            go_simp
            refine (unhide HOT _ _ _ _ (J.r4 (by decide)) (J.r1 (by decide)) (J.r2 (by decide)) (unhide HL5 _ (below_step bd0 J.bl))).mono ?_
            rintro e wz ⟨m_, v_, rfl, hm_, hv, hb⟩
            exact hK _ _ ⟨unhide HC5 _ (below_step bd0 (below_step J.bl hb)), s1, s2, s3, s4, .tuple #[v_, .nilIface], s6, rfl, below_step J.bl hb, fun _ => unhide KP1 _ _ _ (J.r1 (by decide)) hb, fun _ => unhide KP2 _ _ _ (J.r2 (by decide)) hb, fun _ => unhide KP3 _ _ _ (J.r3 (by decide)) hb, fun _ => unhide KP4 _ _ _ (J.r4 (by decide)) hb, fun _ => ⟨m_, v_, hm_, rfl, hv⟩, fun h => by
              obtain ⟨b, e1, e2, e3⟩ := J.al h
              exact ⟨b, e1, e2.keep hb, e3⟩⟩
        · rintro nc na wv hnc ⟨s1, s2, s3, s4, s5, s6, rfl, J⟩
          subst ha0
          refine wpOp_step rfl (fun K hK => ?_)
          (try simp only [Act.put, List.setIfInBounds_toArray, List.set_cons_zero, List.set_cons_succ] at hK ⊢)
          (try simp only [List.getElem_toArray, List.getElem_cons_succ, List.getElem_cons_zero])
          go_simp
          have hb := alloc_below wv (.cells #[.bool false, .slice none 0 0, .slice none 0 0] 31)
          exact hK _ _ ⟨unhide HC5 _ (below_step bd0 (below_step J.bl hb)), s1, s2, s3, s4, s5, .pointer (some ⟨wv.heap.size, 0, none⟩), rfl, below_step J.bl hb, fun h => unhide KP1 _ _ _ (J.r1 h) hb, fun h => unhide KP2 _ _ _ (J.r2 h) hb, fun h => unhide KP3 _ _ _ (J.r3 h) hb, fun h => unhide KP4 _ _ _ (J.r4 h) hb, fun h => unhide KP5 _ _ _ (J.r5 h) hb, fun _ => ⟨wv.heap.size, rfl, BoxIs.new (t := zTri) (rat_zero _), J.bl.size⟩⟩
        · rintro nl na wv ⟨s1, s2, s3, s4, s5, s6, rfl, J⟩
          subst ha0
          obtain ⟨m', v_, hm', rfl, hv_⟩ := J.r5 (by decide)
          obtain ⟨td, rfl, r0⟩ := tri_of hv_
          have HMD := hide hm'
          clear hm' hv_
          simp only [Tri.val]
          (try simp only [Act.put, List.setIfInBounds_toArray, List.set_cons_zero, List.set_cons_succ])
          have hCv : (fun w' : World => (w'.cell? ⟨w.heap.size, 0, none⟩ = some (.int .i64 x) ∧ w'.cell? ⟨w.heap.size, 1, none⟩ = some (.int .i64 y)) ∧ w'.cell? ⟨g1, 0, none⟩ = some (.int .i64 z) ∧ w'.cell? ⟨g1, 1, none⟩ = some (.int .i64 u)) wv := unhide HC5 _ (below_step bd0 J.bl)
          clear hC0
          cases nl with
          | true =>
            obtain ⟨bd, rfl, B10, e10⟩ := J.al rfl
            refine wpHold_take (i := 9) (v := ?_) rfl (by kernel_rfl) (by kernel_rfl) (by kernel_rfl) (fun _ _ _ h => h) (Or.inl ⟨by rfl, ?_⟩) hCv ?_
            rotate_left
            · intro w hSw; clear hSw; go_simp; (try with_reducible rfl)
            (try simp only [List.getElem_toArray, List.getElem_cons_succ, List.getElem_cons_zero])
            (try simp only [Act.put, List.setIfInBounds_toArray, List.set_cons_zero, List.set_cons_succ])
            refine wpHold_take (i := 10) (v := ?_) rfl (by kernel_rfl) (by kernel_rfl) (by kernel_rfl) (fun _ _ _ h => h) (Or.inl ⟨by rfl, ?_⟩) hCv ?_
            rotate_left
            · intro w hSw; clear hSw; go_simp; (try with_reducible rfl)
            (try simp only [List.getElem_toArray, List.getElem_cons_succ, List.getElem_cons_zero])
            (try simp only [Act.put, List.setIfInBounds_toArray, List.set_cons_zero, List.set_cons_succ])
            refine wpHold_take (i := 11) (v := ?_) rfl (by kernel_rfl) (by kernel_rfl) (by kernel_rfl) (fun _ _ _ h => h) (Or.inl ⟨by rfl, ?_⟩) hCv ?_
            rotate_left
            · intro w hSw; clear hSw; go_simp; (try with_reducible rfl)
            (try simp only [List.getElem_toArray, List.getElem_cons_succ, List.getElem_cons_zero])
            (try simp only [Act.put, List.setIfInBounds_toArray, List.set_cons_zero, List.set_cons_succ])
            have ⟨l0, l1, l2⟩ := B10.free
            have ⟨k0, k1, k2⟩ := B10.cells _ (Below.refl _ _)
            have HJB := hide (below_step bd0 J.bl)
            have NB := B10.set r0
            have e10' : w5.heap.size ≤ bd := Nat.le_trans bd0.size e10
            have YB := (((below_step bd0 J.bl).setCell (p := ⟨bd, 0, none⟩) e10' (.bool td.s)).setCell (p := ⟨bd, 1, none⟩) e10' (.slice td.a1 td.n1 td.c1)).setCell (p := ⟨bd, 2, none⟩) e10' (.slice td.a2 td.n2 td.c2)
            have HG_bd := hide e10'
            have hCn : (fun w' : World => (w'.cell? ⟨w.heap.size, 0, none⟩ = some (.int .i64 x) ∧ w'.cell? ⟨w.heap.size, 1, none⟩ = some (.int .i64 y)) ∧ w'.cell? ⟨g1, 0, none⟩ = some (.int .i64 z) ∧ w'.cell? ⟨g1, 1, none⟩ = some (.int .i64 u)) _ := unhide HC5 _ YB
            obtain ⟨Wbd, hWy⟩ : ∃ W, ((wv.setCell ⟨bd, 0, none⟩ (.bool td.s)).setCell ⟨bd, 1, none⟩ (.slice td.a1 td.n1 td.c1)).setCell ⟨bd, 2, none⟩ (.slice td.a2 td.n2 td.c2) = W := ⟨_, rfl⟩
            rw [hWy] at NB YB hCn
            have HX_bd := hide NB
            have HY_bd := hide YB
            clear J B10 YB NB e10' hCv
            refine wpHold_one (k := 13) (by kernel_rfl) rfl (fun K hK => ?_)
            (try simp only [List.getElem_toArray, List.getElem_cons_succ, List.getElem_cons_zero])
            go_simp
            refine hK.out _ _ hCn ?_
            clear hK K
            (try simp only [Act.put, List.setIfInBounds_toArray, List.set_cons_zero, List.set_cons_succ])
            refine wpHold_one (k := 14) (by kernel_rfl) rfl (fun K hK => ?_)
            (try simp only [List.getElem_toArray, List.getElem_cons_succ, List.getElem_cons_zero])
            go_simp
            refine hK.out _ _ hCn ?_
            clear hK K
            (try simp only [Act.put, List.setIfInBounds_toArray, List.set_cons_zero, List.set_cons_succ])
            refine wpHold_done (by kernel_rfl) ?_ _
            clear hCn l0 l1 l2 k0 k1 k2 hWy e10 bd0 hWx r0 HJB KP1 KP2 KP3 KP4 KP5
            have HCD : Hid (∀ W, Below Wbd.heap.size Wbd W → (fun w' : World => (w'.cell? ⟨w.heap.size, 0, none⟩ = some (.int .i64 x) ∧ w'.cell? ⟨w.heap.size, 1, none⟩ = some (.int .i64 y)) ∧ w'.cell? ⟨g1, 0, none⟩ = some (.int .i64 z) ∧ w'.cell? ⟨g1, 1, none⟩ = some (.int .i64 u)) W) := fun W hW => unhide HC5 W (below_step (unhide HY_bd) hW)
            have HLD : Hid (∀ W, Below Wbd.heap.size Wbd W → LawIs W (.slice a1 n cp1) qs) := fun W hW => unhide HL5 W (below_step (unhide HY_bd) hW)
            clear HC5
            go_wp2_with fail
            refine wp_region_hold (fun w' : World => (w'.cell? ⟨w.heap.size, 0, none⟩ = some (.int .i64 x) ∧ w'.cell? ⟨w.heap.size, 1, none⟩ = some (.int .i64 y)) ∧ w'.cell? ⟨g1, 0, none⟩ = some (.int .i64 z) ∧ w'.cell? ⟨g1, 1, none⟩ = some (.int .i64 u)) (by kernel_rfl) ?_
            have bd0 : Below Wbd.heap.size Wbd Wbd.drew := (Below.refl _ _).drew
            obtain ⟨Wx, hWx⟩ : ∃ W, Wbd.drew = W := ⟨_, rfl⟩
            rw [hWx] at bd0 ⊢
            have hC0 : (fun w' : World => (w'.cell? ⟨w.heap.size, 0, none⟩ = some (.int .i64 x) ∧ w'.cell? ⟨w.heap.size, 1, none⟩ = some (.int .i64 y)) ∧ w'.cell? ⟨g1, 0, none⟩ = some (.int .i64 z) ∧ w'.cell? ⟨g1, 1, none⟩ = some (.int .i64 u)) Wx := unhide HCD _ bd0
            have KP1 : Hid (∀ (w w' : World) (s : Value), (fun (w : World) (s : Value) => RatIs w s (pq (x, y))) w s → Below w.heap.size w w' → (fun (w : World) (s : Value) => RatIs w s (pq (x, y))) w' s) := fun _ _ _ h hb => RatIs.below h hb
            have KP2 : Hid (∀ (w w' : World) (s : Value), (fun (w : World) (s : Value) => RatIs w s (pq (z, u))) w s → Below w.heap.size w w' → (fun (w : World) (s : Value) => RatIs w s (pq (z, u))) w' s) := fun _ _ _ h hb => RatIs.below h hb
            have KP3 : Hid (∀ (w w' : World) (s : Value), (fun (w : World) (s : Value) => ∃ (v : Value), s = .tuple #[v, .nilIface] ∧ RatIs w v (f bm)) w s → Below w.heap.size w w' → (fun (w : World) (s : Value) => ∃ (v : Value), s = .tuple #[v, .nilIface] ∧ RatIs w v (f bm)) w' s) := fun _ _ _ h hb => by obtain ⟨v, h2, h3⟩ := h; exact ⟨v, h2, h3.below hb⟩
            refine wpHold_take (i := 0) (v := ?_) rfl (by kernel_rfl) (by kernel_rfl) (by kernel_rfl) (fun _ _ _ h => h) (Or.inl ⟨by rfl, ?_⟩) hC0 ?_
            rotate_left
            · intro w hSw; clear hSw; go_simp; (try with_reducible rfl)
            (try simp only [List.getElem_toArray, List.getElem_cons_succ, List.getElem_cons_zero])
            (try simp only [Act.put, List.setIfInBounds_toArray, List.set_cons_zero, List.set_cons_succ])
            refine wpHold_take (i := 1) (v := ?_) rfl (by kernel_rfl) (by kernel_rfl) (by kernel_rfl) (fun _ _ _ h => h) (Or.inl ⟨by rfl, ?_⟩) hC0 ?_
            rotate_left
            · intro w hSw; (try dsimp only at hSw); obtain ⟨⟨z0, z1⟩, z2, z3⟩ := hSw; go_simp; (try with_reducible rfl)
            (try simp only [List.getElem_toArray, List.getElem_cons_succ, List.getElem_cons_zero])
            (try simp only [Act.put, List.setIfInBounds_toArray, List.set_cons_zero, List.set_cons_succ])
            refine wpHold_take (i := 3) (v := ?_) rfl (by kernel_rfl) (by kernel_rfl) (by kernel_rfl) (fun _ _ _ h => h) (Or.inl ⟨by rfl, ?_⟩) hC0 ?_
            rotate_left
            · intro w hSw; (try dsimp only at hSw); obtain ⟨⟨z0, z1⟩, z2, z3⟩ := hSw; go_simp; (try with_reducible rfl)
            (try simp only [List.getElem_toArray, List.getElem_cons_succ, List.getElem_cons_zero])
            (try simp only [Act.put, List.setIfInBounds_toArray, List.set_cons_zero, List.set_cons_succ])
            refine wpHold_take (i := 5) (v := ?_) rfl (by kernel_rfl) (by kernel_rfl) (by kernel_rfl) (fun _ _ _ h => h) (Or.inl ⟨by rfl, ?_⟩) hC0 ?_
            rotate_left
            · intro w hSw; clear hSw; go_simp; (try with_reducible rfl)
            (try simp only [List.getElem_toArray, List.getElem_cons_succ, List.getElem_cons_zero])
            (try simp only [Act.put, List.setIfInBounds_toArray, List.set_cons_zero, List.set_cons_succ])
            refine wpHold_listed (n := 9) (L' := (fun nc nl => #[true, true, decide (1 ≤ nc), true, decide (2 ≤ nc), true, decide (3 ≤ nc), false, false, false, nl, false, false]) 0 false) (by kernel_rfl) (by kernel_rfl) ?_
            refine wpHold_name (fun a0 ha0 => ?_)
            refine chain_fin 3 (fun nc nl => #[true, true, decide (1 ≤ nc), true, decide (2 ≤ nc), true, decide (3 ≤ nc), false, false, false, nl, false, false]) (fun nc => match nc with | 0 => 2 | 1 => 4 | _ => 6) 10 5 (fun nc nl na W => ∃ s1 s2 s3 s4, na = (((a0.put (some 63) s1).put (some 65) s2).put (some 67) s3).put (some 15) s4 ∧ Nj3 (fun (w : World) (s : Value) => RatIs w s (pq (x, y))) (fun (w : World) (s : Value) => RatIs w s (pq (z, u))) (fun (w : World) (s : Value) => ∃ (v : Value), s = .tuple #[v, .nilIface] ∧ RatIs w v (f bm)) Wx nc nl W s1 s2 s3 s4) ?_ ?_ ?_ ?_ ?_ ?_ ?_ 4 0 false (by omega) (by rfl) _ _ ⟨undef, undef, undef, undef, by subst ha0; rfl, Below.refl _ _, fun h => absurd h (by decide), fun h => absurd h (by decide), fun h => absurd h (by decide), fun h => by cases h⟩
            · clear ha0
              intro nc nl hnc
              match nc, hnc with
              | 0, _ => cases nl <;> (show (_ : Bool) = _; kernel_rfl)
              | 1, _ => cases nl <;> (show (_ : Bool) = _; kernel_rfl)
              | 2, _ => cases nl <;> (show (_ : Bool) = _; kernel_rfl)
            · clear ha0
              intro nc nl hnc
              match nc, hnc with
              | 0, _ => cases nl <;> (show (_ : Bool) = _; kernel_rfl)
              | 1, _ => cases nl <;> (show (_ : Bool) = _; kernel_rfl)
              | 2, _ => cases nl <;> (show (_ : Bool) = _; kernel_rfl)
            · clear ha0
              intro nc nl hnc
              match nc, hnc with
              | 0, _ => rfl
              | 1, _ => rfl
              | 2, _ => rfl
            · clear ha0
              intro nc hnc
              match nc, hnc with
              | 0, _ => rfl
              | 1, _ => rfl
              | 2, _ => rfl
            · rintro nc nl na wv hnc ⟨s1, s2, s3, s4, rfl, J⟩
              subst ha0
              match nc, hnc, J with
              | 0, _, J =>
                refine wpOp_step rfl (fun K hK => ?_)
                (try simp only [Act.put, List.setIfInBounds_toArray, List.set_cons_zero, List.set_cons_succ] at hK ⊢)
                (try simp only [List.getElem_toArray, List.getElem_cons_succ, List.getElem_cons_zero])
                go_simp
                refine (unhide HFA _).mono ?_
                rintro e wz ⟨v_, rfl, hv, hb⟩
                exact hK _ _ ⟨unhide HCD _ (below_step bd0 (below_step J.bl hb)), v_, s2, s3, s4, rfl, below_step J.bl hb, fun _ => hv, fun h => absurd h (by decide), fun h => absurd h (by decide), fun h => by
                  obtain ⟨b, e1, e2, e3⟩ := J.al h
                  exact ⟨b, e1, e2.keep hb, e3⟩⟩
              | 1, _, J =>
                refine wpOp_step rfl (fun K hK => ?_)
                (try simp only [Act.put, List.setIfInBounds_toArray, List.set_cons_zero, List.set_cons_succ] at hK ⊢)
                (try simp only [List.getElem_toArray, List.getElem_cons_succ, List.getElem_cons_zero])
                go_simp
                refine (unhide HFB _).mono ?_
                rintro e wz ⟨v_, rfl, hv, hb⟩
                exact hK _ _ ⟨unhide HCD _ (below_step bd0 (below_step J.bl hb)), s1, v_, s3, s4, rfl, below_step J.bl hb, fun _ => unhide KP1 _ _ _ (J.r1 (by decide)) hb, fun _ => hv, fun h => absurd h (by decide), fun h => by
                  obtain ⟨b, e1, e2, e3⟩ := J.al h
                  exact ⟨b, e1, e2.keep hb, e3⟩⟩
              | 2, _, J =>
                refine wpOp_step rfl (fun K hK => ?_)
                (try simp only [Act.put, List.setIfInBounds_toArray, List.set_cons_zero, List.set_cons_succ] at hK ⊢)
                (try simp only [List.getElem_toArray, List.getElem_cons_succ, List.getElem_cons_zero])
                go_simp
                refine (unhide HOW _ _ _ (J.r1 (by decide)) (J.r2 (by decide)) (unhide HLD _ (below_step bd0 J.bl))).mono ?_
                rintro e wz ⟨v_, rfl, hv, hb⟩
                exact hK _ _ ⟨unhide HCD _ (below_step bd0 (below_step J.bl hb)), s1, s2, .tuple #[v_, .nilIface], s4, rfl, below_step J.bl hb, fun _ => unhide KP1 _ _ _ (J.r1 (by decide)) hb, fun _ => unhide KP2 _ _ _ (J.r2 (by decide)) hb, fun _ => ⟨v_, rfl, hv⟩, fun h => by
                  obtain ⟨b, e1, e2, e3⟩ := J.al h
                  exact ⟨b, e1, e2.keep hb, e3⟩⟩
            · rintro nc na wv hnc ⟨s1, s2, s3, s4, rfl, J⟩
              subst ha0
              refine wpOp_step rfl (fun K hK => ?_)
              (try simp only [Act.put, List.setIfInBounds_toArray, List.set_cons_zero, List.set_cons_succ] at hK ⊢)
              (try simp only [List.getElem_toArray, List.getElem_cons_succ, List.getElem_cons_zero])
              go_simp
              have hb := alloc_below wv (.cells #[.bool false, .slice none 0 0, .slice none 0 0] 31)
              exact hK _ _ ⟨unhide HCD _ (below_step bd0 (below_step J.bl hb)), s1, s2, s3, .pointer (some ⟨wv.heap.size, 0, none⟩), rfl, below_step J.bl hb, fun h => unhide KP1 _ _ _ (J.r1 h) hb, fun h => unhide KP2 _ _ _ (J.r2 h) hb, fun h => unhide KP3 _ _ _ (J.r3 h) hb, fun _ => ⟨wv.heap.size, rfl, BoxIs.new (t := zTri) (rat_zero _), J.bl.size⟩⟩
            · rintro nl na wv ⟨s1, s2, s3, s4, rfl, J⟩
              subst ha0
              obtain ⟨v_, rfl, hv_⟩ := J.r3 (by decide)
              obtain ⟨te, rfl, r0⟩ := tri_of hv_
              clear hv_
              simp only [Tri.val]
              (try simp only [Act.put, List.setIfInBounds_toArray, List.set_cons_zero, List.set_cons_succ])
              have hCv : (fun w' : World => (w'.cell? ⟨w.heap.size, 0, none⟩ = some (.int .i64 x) ∧ w'.cell? ⟨w.heap.size, 1, none⟩ = some (.int .i64 y)) ∧ w'.cell? ⟨g1, 0, none⟩ = some (.int .i64 z) ∧ w'.cell? ⟨g1, 1, none⟩ = some (.int .i64 u)) wv := unhide HCD _ (below_step bd0 J.bl)
              clear hC0
              cases nl with
              | true =>
                obtain ⟨be, rfl, B10, e10⟩ := J.al rfl
                refine wpHold_take (i := 7) (v := ?_) rfl (by kernel_rfl) (by kernel_rfl) (by kernel_rfl) (fun _ _ _ h => h) (Or.inl ⟨by rfl, ?_⟩) hCv ?_
                rotate_left
                · intro w hSw; clear hSw; go_simp; (try with_reducible rfl)
                (try simp only [List.getElem_toArray, List.getElem_cons_succ, List.getElem_cons_zero])
                (try simp only [Act.put, List.setIfInBounds_toArray, List.set_cons_zero, List.set_cons_succ])
                refine wpHold_take (i := 8) (v := ?_) rfl (by kernel_rfl) (by kernel_rfl) (by kernel_rfl) (fun _ _ _ h => h) (Or.inl ⟨by rfl, ?_⟩) hCv ?_
                rotate_left
                · intro w hSw; clear hSw; go_simp; (try with_reducible rfl)
                (try simp only [List.getElem_toArray, List.getElem_cons_succ, List.getElem_cons_zero])
                (try simp only [Act.put, List.setIfInBounds_toArray, List.set_cons_zero, List.set_cons_succ])
                refine wpHold_take (i := 9) (v := ?_) rfl (by kernel_rfl) (by kernel_rfl) (by kernel_rfl) (fun _ _ _ h => h) (Or.inl ⟨by rfl, ?_⟩) hCv ?_
                rotate_left
                · intro w hSw; clear hSw; go_simp; (try with_reducible rfl)
                (try simp only [List.getElem_toArray, List.getElem_cons_succ, List.getElem_cons_zero])
                (try simp only [Act.put, List.setIfInBounds_toArray, List.set_cons_zero, List.set_cons_succ])
                have ⟨l0, l1, l2⟩ := B10.free
                have ⟨k0, k1, k2⟩ := B10.cells _ (Below.refl _ _)
                have HJB := hide (below_step bd0 J.bl)
                have NB := B10.set r0
                have e10' : Wbd.heap.size ≤ be := Nat.le_trans bd0.size e10
                have YB := (((below_step bd0 J.bl).setCell (p := ⟨be, 0, none⟩) e10' (.bool te.s)).setCell (p := ⟨be, 1, none⟩) e10' (.slice te.a1 te.n1 te.c1)).setCell (p := ⟨be, 2, none⟩) e10' (.slice te.a2 te.n2 te.c2)
                have HG_be := hide e10'
                have hCn : (fun w' : World => (w'.cell? ⟨w.heap.size, 0, none⟩ = some (.int .i64 x) ∧ w'.cell? ⟨w.heap.size, 1, none⟩ = some (.int .i64 y)) ∧ w'.cell? ⟨g1, 0, none⟩ = some (.int .i64 z) ∧ w'.cell? ⟨g1, 1, none⟩ = some (.int .i64 u)) _ := unhide HCD _ YB
                obtain ⟨Wbe, hWy⟩ : ∃ W, ((wv.setCell ⟨be, 0, none⟩ (.bool te.s)).setCell ⟨be, 1, none⟩ (.slice te.a1 te.n1 te.c1)).setCell ⟨be, 2, none⟩ (.slice te.a2 te.n2 te.c2) = W := ⟨_, rfl⟩
                rw [hWy] at NB YB hCn
                have HX_be := hide NB
                have HY_be := hide YB
                clear J B10 YB NB e10' hCv
                refine wpHold_one (k := 11) (by kernel_rfl) rfl (fun K hK => ?_)
                (try simp only [List.getElem_toArray, List.getElem_cons_succ, List.getElem_cons_zero])
                go_simp
                refine hK.out _ _ hCn ?_
                clear hK K
                (try simp only [Act.put, List.setIfInBounds_toArray, List.set_cons_zero, List.set_cons_succ])
                refine wpHold_one (k := 12) (by kernel_rfl) rfl (fun K hK => ?_)
                (try simp only [List.getElem_toArray, List.getElem_cons_succ, List.getElem_cons_zero])
                go_simp
                refine hK.out _ _ hCn ?_
                clear hK K
                (try simp only [Act.put, List.setIfInBounds_toArray, List.set_cons_zero, List.set_cons_succ])
                refine wpHold_done (by kernel_rfl) ?_ _
                clear hCn l0 l1 l2 k0 k1 k2 hWy e10 bd0 hWx r0 HJB KP1 KP2 KP3
                have hb0 := unhide HY_be
                have X1 := unhide HX_be
                have X2 := (unhide HX_bd).keep hb0
                have X0 := unhide HXC _ (below_step (unhide HY_bd) hb0)
                have HLI := hide (like_any tc.val te.val (f bm) Wbe X0.2 X1.2 140000 (unhide HRC bm (unhide HM1) (unhide HM2)) (by rw [unhide HKE]; omega) (tab_below (unhide HTB5) (below_step (unhide HY_bd) hb0)))
                have HCM0 : Hid (∀ W, Below Wbe.heap.size Wbe W → Calls Tryd.prog 20 #[tc.val, td.val] W fun e w' => e = .returned (.int .i64 (cmpv (f bm) (f m'))) ∧ Below W.heap.size W w') := fun W hW => cmpR_all tc.val td.val (f bm) (f m') W (X0.keep hW).2 (X2.keep hW).2 140000 (unhide HRC bm (unhide HM1) (unhide HM2)) (unhide HRC m' (unhide HMD).1 (unhide HMD).2) (by rw [unhide HKE]; omega)
                have ⟨s0, s1⟩ := cmpv_le (unhide HLE m' (unhide HMD).1)
                obtain ⟨sg, hsg⟩ : ∃ s, cmpv (f bm) (f m') = s := ⟨_, rfl⟩
                rw [hsg] at HCM0 s0 s1
                obtain ⟨c0, c1, c2⟩ := X0.cells _ (Below.refl _ _)
                obtain ⟨d0, d1, d2⟩ := X1.cells _ (Below.refl _ _)
                have HXD := hide X2
                have HXC9 := hide X0
                have HYY := hide (unhide HBX _ (below_step (unhide HY_bd) hb0))
                simp only [Tri.val] at HLI HCM0
                clear hb0 X0 X1 X2 HX_be HY_be HG_be HX_bd HY_bd HG_bd hsg
                go_wp2_with fail
                refine (unhide HLI).mono ?_
                rintro e w9 ⟨rfl, hb9⟩
                have HCM := hide (unhide HCM0 _ hb9)
                obtain ⟨k0, k1, k2⟩ := (unhide HXC9).cells _ hb9
                obtain ⟨l0, l1, l2⟩ := (unhide HXD).cells _ hb9
                have HB9 := hide (below_step (unhide HYY) hb9)
                clear hb9 HLI HCM0 c0 c1 c2 d0 d1 d2 HXC9 HXD HYY
                go_wp2_with fail
                refine (unhide HCM).mono ?_
                rintro e w10 ⟨rfl, hb10⟩
                have HB10 := hide (below_step (unhide HB9) hb10)
                clear hb10 HCM k0 k1 k2 l0 l1 l2 HB9
                go_wp2
                go_ret
                exact ⟨rfl, unhide HB10⟩
              | false =>
                refine wpHold_take (i := 7) (v := ?_) rfl (by kernel_rfl) (by kernel_rfl) (by kernel_rfl) (fun _ _ _ h => h) (Or.inl ⟨by rfl, ?_⟩) hCv ?_
                rotate_left
                · intro w hSw; clear hSw; go_simp; (try with_reducible rfl)
                (try simp only [List.getElem_toArray, List.getElem_cons_succ, List.getElem_cons_zero])
                (try simp only [Act.put, List.setIfInBounds_toArray, List.set_cons_zero, List.set_cons_succ])
                refine wpHold_take (i := 8) (v := ?_) rfl (by kernel_rfl) (by kernel_rfl) (by kernel_rfl) (fun _ _ _ h => h) (Or.inl ⟨by rfl, ?_⟩) hCv ?_
                rotate_left
                · intro w hSw; clear hSw; go_simp; (try with_reducible rfl)
                (try simp only [List.getElem_toArray, List.getElem_cons_succ, List.getElem_cons_zero])
                (try simp only [Act.put, List.setIfInBounds_toArray, List.set_cons_zero, List.set_cons_succ])
                refine wpHold_take (i := 9) (v := ?_) rfl (by kernel_rfl) (by kernel_rfl) (by kernel_rfl) (fun _ _ _ h => h) (Or.inl ⟨by rfl, ?_⟩) hCv ?_
                rotate_left
                · intro w hSw; clear hSw; go_simp; (try with_reducible rfl)
                (try simp only [List.getElem_toArray, List.getElem_cons_succ, List.getElem_cons_zero])
                (try simp only [Act.put, List.setIfInBounds_toArray, List.set_cons_zero, List.set_cons_succ])
                have hbA := alloc_below wv (.cells #[.bool false, .slice none 0 0, .slice none 0 0] 31)
                have B10 := BoxIs.new (w := wv) (t := zTri) (q := 0) (rat_zero _)
                have B10' : BoxIs (wv.alloc (.cells #[.bool false, .slice none 0 0, .slice none 0 0] 31)) wv.heap.size zTri 0 := B10
                have rA := r0.below hbA
                have blA := below_step J.bl hbA
                have hCA : (fun w' : World => (w'.cell? ⟨w.heap.size, 0, none⟩ = some (.int .i64 x) ∧ w'.cell? ⟨w.heap.size, 1, none⟩ = some (.int .i64 y)) ∧ w'.cell? ⟨g1, 0, none⟩ = some (.int .i64 z) ∧ w'.cell? ⟨g1, 1, none⟩ = some (.int .i64 u)) _ := unhide HCD _ (below_step bd0 blA)
                have e10 : Wx.heap.size ≤ wv.heap.size := J.bl.size
                refine wpHold_one (k := 10) (by kernel_rfl) rfl (fun K hK => ?_)
                (try simp only [List.getElem_toArray, List.getElem_cons_succ, List.getElem_cons_zero])
                go_simp
                refine hK.out _ _ hCA ?_
                clear hK K
                (try simp only [Act.put, List.setIfInBounds_toArray, List.set_cons_zero, List.set_cons_succ])
                obtain ⟨wA, hwA⟩ : ∃ W, wv.alloc (.cells #[.bool false, .slice none 0 0, .slice none 0 0] 31) = W := ⟨_, rfl⟩
                obtain ⟨be, hbn⟩ : ∃ b, wv.heap.size = b := ⟨_, rfl⟩
                rw [hwA] at B10' rA blA hCA
                rw [hbn] at B10' e10
                simp only [hwA, hbn]
                clear B10 hbA hwA hbn
                replace B10 := B10'
                clear B10'
                have ⟨l0, l1, l2⟩ := B10.free
                have ⟨k0, k1, k2⟩ := B10.cells _ (Below.refl _ _)
                have HJB := hide (below_step bd0 blA)
                have NB := B10.set rA
                have e10' : Wbd.heap.size ≤ be := Nat.le_trans bd0.size e10
                have YB := (((below_step bd0 blA).setCell (p := ⟨be, 0, none⟩) e10' (.bool te.s)).setCell (p := ⟨be, 1, none⟩) e10' (.slice te.a1 te.n1 te.c1)).setCell (p := ⟨be, 2, none⟩) e10' (.slice te.a2 te.n2 te.c2)
                have HG_be := hide e10'
                have hCn : (fun w' : World => (w'.cell? ⟨w.heap.size, 0, none⟩ = some (.int .i64 x) ∧ w'.cell? ⟨w.heap.size, 1, none⟩ = some (.int .i64 y)) ∧ w'.cell? ⟨g1, 0, none⟩ = some (.int .i64 z) ∧ w'.cell? ⟨g1, 1, none⟩ = some (.int .i64 u)) _ := unhide HCD _ YB
                obtain ⟨Wbe, hWy⟩ : ∃ W, ((wA.setCell ⟨be, 0, none⟩ (.bool te.s)).setCell ⟨be, 1, none⟩ (.slice te.a1 te.n1 te.c1)).setCell ⟨be, 2, none⟩ (.slice te.a2 te.n2 te.c2) = W := ⟨_, rfl⟩
                rw [hWy] at NB YB hCn
                have HX_be := hide NB
                have HY_be := hide YB
                clear J B10 YB NB e10' hCv
                refine wpHold_one (k := 11) (by kernel_rfl) rfl (fun K hK => ?_)
                (try simp only [List.getElem_toArray, List.getElem_cons_succ, List.getElem_cons_zero])
                go_simp
                refine hK.out _ _ hCn ?_
                clear hK K
                (try simp only [Act.put, List.setIfInBounds_toArray, List.set_cons_zero, List.set_cons_succ])
                refine wpHold_one (k := 12) (by kernel_rfl) rfl (fun K hK => ?_)
                (try simp only [List.getElem_toArray, List.getElem_cons_succ, List.getElem_cons_zero])
                go_simp
                refine hK.out _ _ hCn ?_
                clear hK K
                (try simp only [Act.put, List.setIfInBounds_toArray, List.set_cons_zero, List.set_cons_succ])
                refine wpHold_done (by kernel_rfl) ?_ _
                clear hCn l0 l1 l2 k0 k1 k2 hWy e10 bd0 hWx r0 HJB KP1 KP2 KP3 hCA rA blA
                have hb0 := unhide HY_be
                have X1 := unhide HX_be
                have X2 := (unhide HX_bd).keep hb0
                have X0 := unhide HXC _ (below_step (unhide HY_bd) hb0)
                have HLI := hide (like_any tc.val te.val (f bm) Wbe X0.2 X1.2 140000 (unhide HRC bm (unhide HM1) (unhide HM2)) (by rw [unhide HKE]; omega) (tab_below (unhide HTB5) (below_step (unhide HY_bd) hb0)))
                have HCM0 : Hid (∀ W, Below Wbe.heap.size Wbe W → Calls Tryd.prog 20 #[tc.val, td.val] W fun e w' => e = .returned (.int .i64 (cmpv (f bm) (f m'))) ∧ Below W.heap.size W w') := fun W hW => cmpR_all tc.val td.val (f bm) (f m') W (X0.keep hW).2 (X2.keep hW).2 140000 (unhide HRC bm (unhide HM1) (unhide HM2)) (unhide HRC m' (unhide HMD).1 (unhide HMD).2) (by rw [unhide HKE]; omega)
                have ⟨s0, s1⟩ := cmpv_le (unhide HLE m' (unhide HMD).1)
                obtain ⟨sg, hsg⟩ : ∃ s, cmpv (f bm) (f m') = s := ⟨_, rfl⟩
                rw [hsg] at HCM0 s0 s1
                obtain ⟨c0, c1, c2⟩ := X0.cells _ (Below.refl _ _)
                obtain ⟨d0, d1, d2⟩ := X1.cells _ (Below.refl _ _)
                have HXD := hide X2
                have HXC9 := hide X0
                have HYY := hide (unhide HBX _ (below_step (unhide HY_bd) hb0))
                simp only [Tri.val] at HLI HCM0
                clear hb0 X0 X1 X2 HX_be HY_be HG_be HX_bd HY_bd HG_bd hsg
                go_wp2_with fail
                refine (unhide HLI).mono ?_
                rintro e w9 ⟨rfl, hb9⟩
                have HCM := hide (unhide HCM0 _ hb9)
                obtain ⟨k0, k1, k2⟩ := (unhide HXC9).cells _ hb9
                obtain ⟨l0, l1, l2⟩ := (unhide HXD).cells _ hb9
                have HB9 := hide (below_step (unhide HYY) hb9)
                clear hb9 HLI HCM0 c0 c1 c2 d0 d1 d2 HXC9 HXD HYY
                go_wp2_with fail
                refine (unhide HCM).mono ?_
                rintro e w10 ⟨rfl, hb10⟩
                have HB10 := hide (below_step (unhide HB9) hb10)
                clear hb10 HCM k0 k1 k2 l0 l1 l2 HB9
                go_wp2
                go_ret
                exact ⟨rfl, unhide HB10⟩
          | false =>
            refine wpHold_take (i := 9) (v := ?_) rfl (by kernel_rfl) (by kernel_rfl) (by kernel_rfl) (fun _ _ _ h => h) (Or.inl ⟨by rfl, ?_⟩) hCv ?_
            rotate_left
            · intro w hSw; clear hSw; go_simp; (try with_reducible rfl)
            (try simp only [List.getElem_toArray, List.getElem_cons_succ, List.getElem_cons_zero])
            (try simp only [Act.put, List.setIfInBounds_toArray, List.set_cons_zero, List.set_cons_succ])
            refine wpHold_take (i := 10) (v := ?_) rfl (by kernel_rfl) (by kernel_rfl) (by kernel_rfl) (fun _ _ _ h => h) (Or.inl ⟨by rfl, ?_⟩) hCv ?_
            rotate_left
            · intro w hSw; clear hSw; go_simp; (try with_reducible rfl)
            (try simp only [List.getElem_toArray, List.getElem_cons_succ, List.getElem_cons_zero])
            (try simp only [Act.put, List.setIfInBounds_toArray, List.set_cons_zero, List.set_cons_succ])
            refine wpHold_take (i := 11) (v := ?_) rfl (by kernel_rfl) (by kernel_rfl) (by kernel_rfl) (fun _ _ _ h => h) (Or.inl ⟨by rfl, ?_⟩) hCv ?_
            rotate_left
            · intro w hSw; clear hSw; go_simp; (try with_reducible rfl)
            (try simp only [List.getElem_toArray, List.getElem_cons_succ, List.getElem_cons_zero])
            (try simp only [Act.put, List.setIfInBounds_toArray, List.set_cons_zero, List.set_cons_succ])
            have hbA := alloc_below wv (.cells #[.bool false, .slice none 0 0, .slice none 0 0] 31)
            have B10 := BoxIs.new (w := wv) (t := zTri) (q := 0) (rat_zero _)
            have B10' : BoxIs (wv.alloc (.cells #[.bool false, .slice none 0 0, .slice none 0 0] 31)) wv.heap.size zTri 0 := B10
            have rA := r0.below hbA
            have blA := below_step J.bl hbA
            have hCA : (fun w' : World => (w'.cell? ⟨w.heap.size, 0, none⟩ = some (.int .i64 x) ∧ w'.cell? ⟨w.heap.size, 1, none⟩ = some (.int .i64 y)) ∧ w'.cell? ⟨g1, 0, none⟩ = some (.int .i64 z) ∧ w'.cell? ⟨g1, 1, none⟩ = some (.int .i64 u)) _ := unhide HC5 _ (below_step bd0 blA)
            have e10 : Wx.heap.size ≤ wv.heap.size := J.bl.size
            refine wpHold_one (k := 12) (by kernel_rfl) rfl (fun K hK => ?_)
            (try simp only [List.getElem_toArray, List.getElem_cons_succ, List.getElem_cons_zero])
            go_simp
            refine hK.out _ _ hCA ?_
            clear hK K
            (try simp only [Act.put, List.setIfInBounds_toArray, List.set_cons_zero, List.set_cons_succ])
            obtain ⟨wA, hwA⟩ : ∃ W, wv.alloc (.cells #[.bool false, .slice none 0 0, .slice none 0 0] 31) = W := ⟨_, rfl⟩
            obtain ⟨bd, hbn⟩ : ∃ b, wv.heap.size = b := ⟨_, rfl⟩
            rw [hwA] at B10' rA blA hCA
            rw [hbn] at B10' e10
            simp only [hwA, hbn]
            clear B10 hbA hwA hbn
            replace B10 := B10'
            clear B10'
            have ⟨l0, l1, l2⟩ := B10.free
            have ⟨k0, k1, k2⟩ := B10.cells _ (Below.refl _ _)
            have HJB := hide (below_step bd0 blA)
            have NB := B10.set rA
            have e10' : w5.heap.size ≤ bd := Nat.le_trans bd0.size e10
            have YB := (((below_step bd0 blA).setCell (p := ⟨bd, 0, none⟩) e10' (.bool td.s)).setCell (p := ⟨bd, 1, none⟩) e10' (.slice td.a1 td.n1 td.c1)).setCell (p := ⟨bd, 2, none⟩) e10' (.slice td.a2 td.n2 td.c2)
            have HG_bd := hide e10'
            have hCn : (fun w' : World => (w'.cell? ⟨w.heap.size, 0, none⟩ = some (.int .i64 x) ∧ w'.cell? ⟨w.heap.size, 1, none⟩ = some (.int .i64 y)) ∧ w'.cell? ⟨g1, 0, none⟩ = some (.int .i64 z) ∧ w'.cell? ⟨g1, 1, none⟩ = some (.int .i64 u)) _ := unhide HC5 _ YB
            obtain ⟨Wbd, hWy⟩ : ∃ W, ((wA.setCell ⟨bd, 0, none⟩ (.bool td.s)).setCell ⟨bd, 1, none⟩ (.slice td.a1 td.n1 td.c1)).setCell ⟨bd, 2, none⟩ (.slice td.a2 td.n2 td.c2) = W := ⟨_, rfl⟩
            rw [hWy] at NB YB hCn
            have HX_bd := hide NB
            have HY_bd := hide YB
            clear J B10 YB NB e10' hCv
            refine wpHold_one (k := 13) (by kernel_rfl) rfl (fun K hK => ?_)
            (try simp only [List.getElem_toArray, List.getElem_cons_succ, List.getElem_cons_zero])
            go_simp
            refine hK.out _ _ hCn ?_
            clear hK K
            (try simp only [Act.put, List.setIfInBounds_toArray, List.set_cons_zero, List.set_cons_succ])
            refine wpHold_one (k := 14) (by kernel_rfl) rfl (fun K hK => ?_)
            (try simp only [List.getElem_toArray, List.getElem_cons_succ, List.getElem_cons_zero])
            go_simp
            refine hK.out _ _ hCn ?_
            clear hK K
            (try simp only [Act.put, List.setIfInBounds_toArray, List.set_cons_zero, List.set_cons_succ])
            refine wpHold_done (by kernel_rfl) ?_ _
            clear hCn l0 l1 l2 k0 k1 k2 hWy e10 bd0 hWx r0 HJB KP1 KP2 KP3 KP4 KP5 hCA rA blA
            have HCD : Hid (∀ W, Below Wbd.heap.size Wbd W → (fun w' : World => (w'.cell? ⟨w.heap.size, 0, none⟩ = some (.int .i64 x) ∧ w'.cell? ⟨w.heap.size, 1, none⟩ = some (.int .i64 y)) ∧ w'.cell? ⟨g1, 0, none⟩ = some (.int .i64 z) ∧ w'.cell? ⟨g1, 1, none⟩ = some (.int .i64 u)) W) := fun W hW => unhide HC5 W (below_step (unhide HY_bd) hW)
            have HLD : Hid (∀ W, Below Wbd.heap.size Wbd W → LawIs W (.slice a1 n cp1) qs) := fun W hW => unhide HL5 W (below_step (unhide HY_bd) hW)
            clear HC5
            go_wp2_with fail
            refine wp_region_hold (fun w' : World => (w'.cell? ⟨w.heap.size, 0, none⟩ = some (.int .i64 x) ∧ w'.cell? ⟨w.heap.size, 1, none⟩ = some (.int .i64 y)) ∧ w'.cell? ⟨g1, 0, none⟩ = some (.int .i64 z) ∧ w'.cell? ⟨g1, 1, none⟩ = some (.int .i64 u)) (by kernel_rfl) ?_
            have bd0 : Below Wbd.heap.size Wbd Wbd.drew := (Below.refl _ _).drew
            obtain ⟨Wx, hWx⟩ : ∃ W, Wbd.drew = W := ⟨_, rfl⟩
            rw [hWx] at bd0 ⊢
            have hC0 : (fun w' : World => (w'.cell? ⟨w.heap.size, 0, none⟩ = some (.int .i64 x) ∧ w'.cell? ⟨w.heap.size, 1, none⟩ = some (.int .i64 y)) ∧ w'.cell? ⟨g1, 0, none⟩ = some (.int .i64 z) ∧ w'.cell? ⟨g1, 1, none⟩ = some (.int .i64 u)) Wx := unhide HCD _ bd0
            have KP1 : Hid (∀ (w w' : World) (s : Value), (fun (w : World) (s : Value) => RatIs w s (pq (x, y))) w s → Below w.heap.size w w' → (fun (w : World) (s : Value) => RatIs w s (pq (x, y))) w' s) := fun _ _ _ h hb => RatIs.below h hb
            have KP2 : Hid (∀ (w w' : World) (s : Value), (fun (w : World) (s : Value) => RatIs w s (pq (z, u))) w s → Below w.heap.size w w' → (fun (w : World) (s : Value) => RatIs w s (pq (z, u))) w' s) := fun _ _ _ h hb => RatIs.below h hb
            have KP3 : Hid (∀ (w w' : World) (s : Value), (fun (w : World) (s : Value) => ∃ (v : Value), s = .tuple #[v, .nilIface] ∧ RatIs w v (f bm)) w s → Below w.heap.size w w' → (fun (w : World) (s : Value) => ∃ (v : Value), s = .tuple #[v, .nilIface] ∧ RatIs w v (f bm)) w' s) := fun _ _ _ h hb => by obtain ⟨v, h2, h3⟩ := h; exact ⟨v, h2, h3.below hb⟩
            refine wpHold_take (i := 0) (v := ?_) rfl (by kernel_rfl) (by kernel_rfl) (by kernel_rfl) (fun _ _ _ h => h) (Or.inl ⟨by rfl, ?_⟩) hC0 ?_
            rotate_left
            · intro w hSw; clear hSw; go_simp; (try with_reducible rfl)
            (try simp only [List.getElem_toArray, List.getElem_cons_succ, List.getElem_cons_zero])
            (try simp only [Act.put, List.setIfInBounds_toArray, List.set_cons_zero, List.set_cons_succ])
            refine wpHold_take (i := 1) (v := ?_) rfl (by kernel_rfl) (by kernel_rfl) (by kernel_rfl) (fun _ _ _ h => h) (Or.inl ⟨by rfl, ?_⟩) hC0 ?_
            rotate_left
            · intro w hSw; (try dsimp only at hSw); obtain ⟨⟨z0, z1⟩, z2, z3⟩ := hSw; go_simp; (try with_reducible rfl)
            (try simp only [List.getElem_toArray, List.getElem_cons_succ, List.getElem_cons_zero])
            (try simp only [Act.put, List.setIfInBounds_toArray, List.set_cons_zero, List.set_cons_succ])
            refine wpHold_take (i := 3) (v := ?_) rfl (by kernel_rfl) (by kernel_rfl) (by kernel_rfl) (fun _ _ _ h => h) (Or.inl ⟨by rfl, ?_⟩) hC0 ?_
            rotate_left
            · intro w hSw; (try dsimp only at hSw); obtain ⟨⟨z0, z1⟩, z2, z3⟩ := hSw; go_simp; (try with_reducible rfl)
            (try simp only [List.getElem_toArray, List.getElem_cons_succ, List.getElem_cons_zero])
            (try simp only [Act.put, List.setIfInBounds_toArray, List.set_cons_zero, List.set_cons_succ])
            refine wpHold_take (i := 5) (v := ?_) rfl (by kernel_rfl) (by kernel_rfl) (by kernel_rfl) (fun _ _ _ h => h) (Or.inl ⟨by rfl, ?_⟩) hC0 ?_
            rotate_left
            · intro w hSw; clear hSw; go_simp; (try with_reducible rfl)
            (try simp only [List.getElem_toArray, List.getElem_cons_succ, List.getElem_cons_zero])
            (try simp only [Act.put, List.setIfInBounds_toArray, List.set_cons_zero, List.set_cons_succ])
            refine wpHold_listed (n := 9) (L' := (fun nc nl => #[true, true, decide (1 ≤ nc), true, decide (2 ≤ nc), true, decide (3 ≤ nc), false, false, false, nl, false, false]) 0 false) (by kernel_rfl) (by kernel_rfl) ?_
            refine wpHold_name (fun a0 ha0 => ?_)
            refine chain_fin 3 (fun nc nl => #[true, true, decide (1 ≤ nc), true, decide (2 ≤ nc), true, decide (3 ≤ nc), false, false, false, nl, false, false]) (fun nc => match nc with | 0 => 2 | 1 => 4 | _ => 6) 10 5 (fun nc nl na W => ∃ s1 s2 s3 s4, na = (((a0.put (some 63) s1).put (some 65) s2).put (some 67) s3).put (some 15) s4 ∧ Nj3 (fun (w : World) (s : Value) => RatIs w s (pq (x, y))) (fun (w : World) (s : Value) => RatIs w s (pq (z, u))) (fun (w : World) (s : Value) => ∃ (v : Value), s = .tuple #[v, .nilIface] ∧ RatIs w v (f bm)) Wx nc nl W s1 s2 s3 s4) ?_ ?_ ?_ ?_ ?_ ?_ ?_ 4 0 false (by omega) (by rfl) _ _ ⟨undef, undef, undef, undef, by subst ha0; rfl, Below.refl _ _, fun h => absurd h (by decide), fun h => absurd h (by decide), fun h => absurd h (by decide), fun h => by cases h⟩
            · clear ha0
              intro nc nl hnc
              match nc, hnc with
              | 0, _ => cases nl <;> (show (_ : Bool) = _; kernel_rfl)
              | 1, _ => cases nl <;> (show (_ : Bool) = _; kernel_rfl)
              | 2, _ => cases nl <;> (show (_ : Bool) = _; kernel_rfl)
            · clear ha0
              intro nc nl hnc
              match nc, hnc with
              | 0, _ => cases nl <;> (show (_ : Bool) = _; kernel_rfl)
              | 1, _ => cases nl <;> (show (_ : Bool) = _; kernel_rfl)
              | 2, _ => cases nl <;> (show (_ : Bool) = _; kernel_rfl)
            · clear ha0
              intro nc nl hnc
              match nc, hnc with
              | 0, _ => rfl
              | 1, _ => rfl
              | 2, _ => rfl
            · clear ha0
              intro nc hnc
              match nc, hnc with
              | 0, _ => rfl
              | 1, _ => rfl
              | 2, _ => rfl
            · rintro nc nl na wv hnc ⟨s1, s2, s3, s4, rfl, J⟩
              subst ha0
              match nc, hnc, J with
              | 0, _, J =>
                refine wpOp_step rfl (fun K hK => ?_)
                (try simp only [Act.put, List.setIfInBounds_toArray, List.set_cons_zero, List.set_cons_succ] at hK ⊢)
                (try simp only [List.getElem_toArray, List.getElem_cons_succ, List.getElem_cons_zero])
                go_simp
                refine (unhide HFA _).mono ?_
                rintro e wz ⟨v_, rfl, hv, hb⟩
                exact hK _ _ ⟨unhide HCD _ (below_step bd0 (below_step J.bl hb)), v_, s2, s3, s4, rfl, below_step J.bl hb, fun _ => hv, fun h => absurd h (by decide), fun h => absurd h (by decide), fun h => by
                  obtain ⟨b, e1, e2, e3⟩ := J.al h
                  exact ⟨b, e1, e2.keep hb, e3⟩⟩
              | 1, _, J =>
                refine wpOp_step rfl (fun K hK => ?_)
                (try simp only [Act.put, List.setIfInBounds_toArray, List.set_cons_zero, List.set_cons_succ] at hK ⊢)
                (try simp only [List.getElem_toArray, List.getElem_cons_succ, List.getElem_cons_zero])
                go_simp
                refine (unhide HFB _).mono ?_
                rintro e wz ⟨v_, rfl, hv, hb⟩
                exact hK _ _ ⟨unhide HCD _ (below_step bd0 (below_step J.bl hb)), s1, v_, s3, s4, rfl, below_step J.bl hb, fun _ => unhide KP1 _ _ _ (J.r1 (by decide)) hb, fun _ => hv, fun h => absurd h (by decide), fun h => by
                  obtain ⟨b, e1, e2, e3⟩ := J.al h
                  exact ⟨b, e1, e2.keep hb, e3⟩⟩
              | 2, _, J =>
                refine wpOp_step rfl (fun K hK => ?_)
                (try simp only [Act.put, List.setIfInBounds_toArray, List.set_cons_zero, List.set_cons_succ] at hK ⊢)
                (try simp only [List.getElem_toArray, List.getElem_cons_succ, List.getElem_cons_zero])
                go_simp
                refine (unhide HOW _ _ _ (J.r1 (by decide)) (J.r2 (by decide)) (unhide HLD _ (below_step bd0 J.bl))).mono ?_
                rintro e wz ⟨v_, rfl, hv, hb⟩
                exact hK _ _ ⟨unhide HCD _ (below_step bd0 (below_step J.bl hb)), s1, s2, .tuple #[v_, .nilIface], s4, rfl, below_step J.bl hb, fun _ => unhide KP1 _ _ _ (J.r1 (by decide)) hb, fun _ => unhide KP2 _ _ _ (J.r2 (by decide)) hb, fun _ => ⟨v_, rfl, hv⟩, fun h => by
                  obtain ⟨b, e1, e2, e3⟩ := J.al h
                  exact ⟨b, e1, e2.keep hb, e3⟩⟩
            · rintro nc na wv hnc ⟨s1, s2, s3, s4, rfl, J⟩
              subst ha0
              refine wpOp_step rfl (fun K hK => ?_)
              (try simp only [Act.put, List.setIfInBounds_toArray, List.set_cons_zero, List.set_cons_succ] at hK ⊢)
              (try simp only [List.getElem_toArray, List.getElem_cons_succ, List.getElem_cons_zero])
              go_simp
              have hb := alloc_below wv (.cells #[.bool false, .slice none 0 0, .slice none 0 0] 31)
              exact hK _ _ ⟨unhide HCD _ (below_step bd0 (below_step J.bl hb)), s1, s2, s3, .pointer (some ⟨wv.heap.size, 0, none⟩), rfl, below_step J.bl hb, fun h => unhide KP1 _ _ _ (J.r1 h) hb, fun h => unhide KP2 _ _ _ (J.r2 h) hb, fun h => unhide KP3 _ _ _ (J.r3 h) hb, fun _ => ⟨wv.heap.size, rfl, BoxIs.new (t := zTri) (rat_zero _), J.bl.size⟩⟩
            · rintro nl na wv ⟨s1, s2, s3, s4, rfl, J⟩
              subst ha0
              obtain ⟨v_, rfl, hv_⟩ := J.r3 (by decide)
              obtain ⟨te, rfl, r0⟩ := tri_of hv_
              clear hv_
              simp only [Tri.val]
              (try simp only [Act.put, List.setIfInBounds_toArray, List.set_cons_zero, List.set_cons_succ])
              have hCv : (fun w' : World => (w'.cell? ⟨w.heap.size, 0, none⟩ = some (.int .i64 x) ∧ w'.cell? ⟨w.heap.size, 1, none⟩ = some (.int .i64 y)) ∧ w'.cell? ⟨g1, 0, none⟩ = some (.int .i64 z) ∧ w'.cell? ⟨g1, 1, none⟩ = some (.int .i64 u)) wv := unhide HCD _ (below_step bd0 J.bl)
              clear hC0
              cases nl with
              | true =>
                obtain ⟨be, rfl, B10, e10⟩ := J.al rfl
                refine wpHold_take (i := 7) (v := ?_) rfl (by kernel_rfl) (by kernel_rfl) (by kernel_rfl) (fun _ _ _ h => h) (Or.inl ⟨by rfl, ?_⟩) hCv ?_
                rotate_left
                · intro w hSw; clear hSw; go_simp; (try with_reducible rfl)
                (try simp only [List.getElem_toArray, List.getElem_cons_succ, List.getElem_cons_zero])
                (try simp only [Act.put, List.setIfInBounds_toArray, List.set_cons_zero, List.set_cons_succ])
                refine wpHold_take (i := 8) (v := ?_) rfl (by kernel_rfl) (by kernel_rfl) (by kernel_rfl) (fun _ _ _ h => h) (Or.inl ⟨by rfl, ?_⟩) hCv ?_
                rotate_left
                · intro w hSw; clear hSw; go_simp; (try with_reducible rfl)
                (try simp only [List.getElem_toArray, List.getElem_cons_succ, List.getElem_cons_zero])
                (try simp only [Act.put, List.setIfInBounds_toArray, List.set_cons_zero, List.set_cons_succ])
                refine wpHold_take (i := 9) (v := ?_) rfl (by kernel_rfl) (by kernel_rfl) (by kernel_rfl) (fun _ _ _ h => h) (Or.inl ⟨by rfl, ?_⟩) hCv ?_
                rotate_left
                · intro w hSw; clear hSw; go_simp; (try with_reducible rfl)
                (try simp only [List.getElem_toArray, List.getElem_cons_succ, List.getElem_cons_zero])
                (try simp only [Act.put, List.setIfInBounds_toArray, List.set_cons_zero, List.set_cons_succ])
                have ⟨l0, l1, l2⟩ := B10.free
                have ⟨k0, k1, k2⟩ := B10.cells _ (Below.refl _ _)
                have HJB := hide (below_step bd0 J.bl)
                have NB := B10.set r0
                have e10' : Wbd.heap.size ≤ be := Nat.le_trans bd0.size e10
                have YB := (((below_step bd0 J.bl).setCell (p := ⟨be, 0, none⟩) e10' (.bool te.s)).setCell (p := ⟨be, 1, none⟩) e10' (.slice te.a1 te.n1 te.c1)).setCell (p := ⟨be, 2, none⟩) e10' (.slice te.a2 te.n2 te.c2)
                have HG_be := hide e10'
                have hCn : (fun w' : World => (w'.cell? ⟨w.heap.size, 0, none⟩ = some (.int .i64 x) ∧ w'.cell? ⟨w.heap.size, 1, none⟩ = some (.int .i64 y)) ∧ w'.cell? ⟨g1, 0, none⟩ = some (.int .i64 z) ∧ w'.cell? ⟨g1, 1, none⟩ = some (.int .i64 u)) _ := unhide HCD _ YB
                obtain ⟨Wbe, hWy⟩ : ∃ W, ((wv.setCell ⟨be, 0, none⟩ (.bool te.s)).setCell ⟨be, 1, none⟩ (.slice te.a1 te.n1 te.c1)).setCell ⟨be, 2, none⟩ (.slice te.a2 te.n2 te.c2) = W := ⟨_, rfl⟩
                rw [hWy] at NB YB hCn
                have HX_be := hide NB
                have HY_be := hide YB
                clear J B10 YB NB e10' hCv
                refine wpHold_one (k := 11) (by kernel_rfl) rfl (fun K hK => ?_)
                (try simp only [List.getElem_toArray, List.getElem_cons_succ, List.getElem_cons_zero])
                go_simp
                refine hK.out _ _ hCn ?_
                clear hK K
                (try simp only [Act.put, List.setIfInBounds_toArray, List.set_cons_zero, List.set_cons_succ])
                refine wpHold_one (k := 12) (by kernel_rfl) rfl (fun K hK => ?_)
                (try simp only [List.getElem_toArray, List.getElem_cons_succ, List.getElem_cons_zero])
                go_simp
                refine hK.out _ _ hCn ?_
                clear hK K
                (try simp only [Act.put, List.setIfInBounds_toArray, List.set_cons_zero, List.set_cons_succ])
                refine wpHold_done (by kernel_rfl) ?_ _
                clear hCn l0 l1 l2 k0 k1 k2 hWy e10 bd0 hWx r0 HJB KP1 KP2 KP3
                have hb0 := unhide HY_be
                have X1 := unhide HX_be
                have X2 := (unhide HX_bd).keep hb0
                have X0 := unhide HXC _ (below_step (unhide HY_bd) hb0)
                have HLI := hide (like_any tc.val te.val (f bm) Wbe X0.2 X1.2 140000 (unhide HRC bm (unhide HM1) (unhide HM2)) (by rw [unhide HKE]; omega) (tab_below (unhide HTB5) (below_step (unhide HY_bd) hb0)))
                have HCM0 : Hid (∀ W, Below Wbe.heap.size Wbe W → Calls Tryd.prog 20 #[tc.val, td.val] W fun e w' => e = .returned (.int .i64 (cmpv (f bm) (f m'))) ∧ Below W.heap.size W w') := fun W hW => cmpR_all tc.val td.val (f bm) (f m') W (X0.keep hW).2 (X2.keep hW).2 140000 (unhide HRC bm (unhide HM1) (unhide HM2)) (unhide HRC m' (unhide HMD).1 (unhide HMD).2) (by rw [unhide HKE]; omega)
                have ⟨s0, s1⟩ := cmpv_le (unhide HLE m' (unhide HMD).1)
                obtain ⟨sg, hsg⟩ : ∃ s, cmpv (f bm) (f m') = s := ⟨_, rfl⟩
                rw [hsg] at HCM0 s0 s1
                obtain ⟨c0, c1, c2⟩ := X0.cells _ (Below.refl _ _)
                obtain ⟨d0, d1, d2⟩ := X1.cells _ (Below.refl _ _)
                have HXD := hide X2
                have HXC9 := hide X0
                have HYY := hide (unhide HBX _ (below_step (unhide HY_bd) hb0))
                simp only [Tri.val] at HLI HCM0
                clear hb0 X0 X1 X2 HX_be HY_be HG_be HX_bd HY_bd HG_bd hsg
                go_wp2_with fail
                refine (unhide HLI).mono ?_
                rintro e w9 ⟨rfl, hb9⟩
                have HCM := hide (unhide HCM0 _ hb9)
                obtain ⟨k0, k1, k2⟩ := (unhide HXC9).cells _ hb9
                obtain ⟨l0, l1, l2⟩ := (unhide HXD).cells _ hb9
                have HB9 := hide (below_step (unhide HYY) hb9)
                clear hb9 HLI HCM0 c0 c1 c2 d0 d1 d2 HXC9 HXD HYY
                go_wp2_with fail
                refine (unhide HCM).mono ?_
                rintro e w10 ⟨rfl, hb10⟩
                have HB10 := hide (below_step (unhide HB9) hb10)
                clear hb10 HCM k0 k1 k2 l0 l1 l2 HB9
                go_wp2
                go_ret
                exact ⟨rfl, unhide HB10⟩
              | false =>
                refine wpHold_take (i := 7) (v := ?_) rfl (by kernel_rfl) (by kernel_rfl) (by kernel_rfl) (fun _ _ _ h => h) (Or.inl ⟨by rfl, ?_⟩) hCv ?_
                rotate_left
                · intro w hSw; clear hSw; go_simp; (try with_reducible rfl)
                (try simp only [List.getElem_toArray, List.getElem_cons_succ, List.getElem_cons_zero])
                (try simp only [Act.put, List.setIfInBounds_toArray, List.set_cons_zero, List.set_cons_succ])
                refine wpHold_take (i := 8) (v := ?_) rfl (by kernel_rfl) (by kernel_rfl) (by kernel_rfl) (fun _ _ _ h => h) (Or.inl ⟨by rfl, ?_⟩) hCv ?_
                rotate_left
                · intro w hSw; clear hSw; go_simp; (try with_reducible rfl)
                (try simp only [List.getElem_toArray, List.getElem_cons_succ, List.getElem_cons_zero])
                (try simp only [Act.put, List.setIfInBounds_toArray, List.set_cons_zero, List.set_cons_succ])
                refine wpHold_take (i := 9) (v := ?_) rfl (by kernel_rfl) (by kernel_rfl) (by kernel_rfl) (fun _ _ _ h => h) (Or.inl ⟨by rfl, ?_⟩) hCv ?_
                rotate_left
                · intro w hSw; clear hSw; go_simp; (try with_reducible rfl)
                (try simp only [List.getElem_toArray, List.getElem_cons_succ, List.getElem_cons_zero])
                (try simp only [Act.put, List.setIfInBounds_toArray, List.set_cons_zero, List.set_cons_succ])
                have hbA := alloc_below wv (.cells #[.bool false, .slice none 0 0, .slice none 0 0] 31)
                have B10 := BoxIs.new (w := wv) (t := zTri) (q := 0) (rat_zero _)
                have B10' : BoxIs (wv.alloc (.cells #[.bool false, .slice none 0 0, .slice none 0 0] 31)) wv.heap.size zTri 0 := B10
                have rA := r0.below hbA
                have blA := below_step J.bl hbA
                have hCA : (fun w' : World => (w'.cell? ⟨w.heap.size, 0, none⟩ = some (.int .i64 x) ∧ w'.cell? ⟨w.heap.size, 1, none⟩ = some (.int .i64 y)) ∧ w'.cell? ⟨g1, 0, none⟩ = some (.int .i64 z) ∧ w'.cell? ⟨g1, 1, none⟩ = some (.int .i64 u)) _ := unhide HCD _ (below_step bd0 blA)
                have e10 : Wx.heap.size ≤ wv.heap.size := J.bl.size
                refine wpHold_one (k := 10) (by kernel_rfl) rfl (fun K hK => ?_)
                (try simp only [List.getElem_toArray, List.getElem_cons_succ, List.getElem_cons_zero])
                go_simp
                refine hK.out _ _ hCA ?_
                clear hK K
                (try simp only [Act.put, List.setIfInBounds_toArray, List.set_cons_zero, List.set_cons_succ])
                obtain ⟨wA, hwA⟩ : ∃ W, wv.alloc (.cells #[.bool false, .slice none 0 0, .slice none 0 0] 31) = W := ⟨_, rfl⟩
                obtain ⟨be, hbn⟩ : ∃ b, wv.heap.size = b := ⟨_, rfl⟩
                rw [hwA] at B10' rA blA hCA
                rw [hbn] at B10' e10
                simp only [hwA, hbn]
                clear B10 hbA hwA hbn
                replace B10 := B10'
                clear B10'
                have ⟨l0, l1, l2⟩ := B10.free
                have ⟨k0, k1, k2⟩ := B10.cells _ (Below.refl _ _)
                have HJB := hide (below_step bd0 blA)
                have NB := B10.set rA
                have e10' : Wbd.heap.size ≤ be := Nat.le_trans bd0.size e10
                have YB := (((below_step bd0 blA).setCell (p := ⟨be, 0, none⟩) e10' (.bool te.s)).setCell (p := ⟨be, 1, none⟩) e10' (.slice te.a1 te.n1 te.c1)).setCell (p := ⟨be, 2, none⟩) e10' (.slice te.a2 te.n2 te.c2)
                have HG_be := hide e10'
                have hCn : (fun w' : World => (w'.cell? ⟨w.heap.size, 0, none⟩ = some (.int .i64 x) ∧ w'.cell? ⟨w.heap.size, 1, none⟩ = some (.int .i64 y)) ∧ w'.cell? ⟨g1, 0, none⟩ = some (.int .i64 z) ∧ w'.cell? ⟨g1, 1, none⟩ = some (.int .i64 u)) _ := unhide HCD _ YB
                obtain ⟨Wbe, hWy⟩ : ∃ W, ((wA.setCell ⟨be, 0, none⟩ (.bool te.s)).setCell ⟨be, 1, none⟩ (.slice te.a1 te.n1 te.c1)).setCell ⟨be, 2, none⟩ (.slice te.a2 te.n2 te.c2) = W := ⟨_, rfl⟩
                rw [hWy] at NB YB hCn
                have HX_be := hide NB
                have HY_be := hide YB
                clear J B10 YB NB e10' hCv
                refine wpHold_one (k := 11) (by kernel_rfl) rfl (fun K hK => ?_)
                (try simp only [List.getElem_toArray, List.getElem_cons_succ, List.getElem_cons_zero])
                go_simp
                refine hK.out _ _ hCn ?_
                clear hK K
                (try simp only [Act.put, List.setIfInBounds_toArray, List.set_cons_zero, List.set_cons_succ])
                refine wpHold_one (k := 12) (by kernel_rfl) rfl (fun K hK => ?_)
                (try simp only [List.getElem_toArray, List.getElem_cons_succ, List.getElem_cons_zero])
                go_simp
                refine hK.out _ _ hCn ?_
                clear hK K
                (try simp only [Act.put, List.setIfInBounds_toArray, List.set_cons_zero, List.set_cons_succ])
                refine wpHold_done (by kernel_rfl) ?_ _
                clear hCn l0 l1 l2 k0 k1 k2 hWy e10 bd0 hWx r0 HJB KP1 KP2 KP3 hCA rA blA
                have hb0 := unhide HY_be
                have X1 := unhide HX_be
                have X2 := (unhide HX_bd).keep hb0
                have X0 := unhide HXC _ (below_step (unhide HY_bd) hb0)
                have HLI := hide (like_any tc.val te.val (f bm) Wbe X0.2 X1.2 140000 (unhide HRC bm (unhide HM1) (unhide HM2)) (by rw [unhide HKE]; omega) (tab_below (unhide HTB5) (below_step (unhide HY_bd) hb0)))
                have HCM0 : Hid (∀ W, Below Wbe.heap.size Wbe W → Calls Tryd.prog 20 #[tc.val, td.val] W fun e w' => e = .returned (.int .i64 (cmpv (f bm) (f m'))) ∧ Below W.heap.size W w') := fun W hW => cmpR_all tc.val td.val (f bm) (f m') W (X0.keep hW).2 (X2.keep hW).2 140000 (unhide HRC bm (unhide HM1) (unhide HM2)) (unhide HRC m' (unhide HMD).1 (unhide HMD).2) (by rw [unhide HKE]; omega)
                have ⟨s0, s1⟩ := cmpv_le (unhide HLE m' (unhide HMD).1)
                obtain ⟨sg, hsg⟩ : ∃ s, cmpv (f bm) (f m') = s := ⟨_, rfl⟩
                rw [hsg] at HCM0 s0 s1
                obtain ⟨c0, c1, c2⟩ := X0.cells _ (Below.refl _ _)
                obtain ⟨d0, d1, d2⟩ := X1.cells _ (Below.refl _ _)
                have HXD := hide X2
                have HXC9 := hide X0
                have HYY := hide (unhide HBX _ (below_step (unhide HY_bd) hb0))
                simp only [Tri.val] at HLI HCM0
                clear hb0 X0 X1 X2 HX_be HY_be HG_be HX_bd HY_bd HG_bd hsg
                go_wp2_with fail
                refine (unhide HLI).mono ?_
                rintro e w9 ⟨rfl, hb9⟩
                have HCM := hide (unhide HCM0 _ hb9)
                obtain ⟨k0, k1, k2⟩ := (unhide HXC9).cells _ hb9
                obtain ⟨l0, l1, l2⟩ := (unhide HXD).cells _ hb9
                have HB9 := hide (below_step (unhide HYY) hb9)
                clear hb9 HLI HCM0 c0 c1 c2 d0 d1 d2 HXC9 HXD HYY
                go_wp2_with fail
                refine (unhide HCM).mono ?_
                rintro e w10 ⟨rfl, hb10⟩
                have HB10 := hide (below_step (unhide HB9) hb10)
                clear hb10 HCM k0 k1 k2 l0 l1 l2 HB9
                go_wp2
                go_ret
                exact ⟨rfl, unhide HB10⟩

end Go.Proofs.YtpopcfclpemlaaaDoor
