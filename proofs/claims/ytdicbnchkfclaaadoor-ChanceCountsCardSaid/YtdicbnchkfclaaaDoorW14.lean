/- Fractions added (of lower numbers of a word). -/
import Derived.Test.YtdicbnchkfclaaaDoorB4
namespace Go.Proofs.YtdicbnchkfclaaaDoor
open Go.RowKit Go.Sort Go.Shelf

theorem quotN (va vb : Value) (A B : Nat) (w : World) (ha : NatIs w va A) (hb : NatIs w vb B) (hA : Sm A) (hB0 : B ≠ 0) (hB : (B : Int) < 18446744073709551616) :
    Calls Tryd.prog 43 #[va, vb] w fun e w' => ∃ v, e = .returned v ∧ NatIs w' v ((A / B : Nat) : Int) ∧ Below w.heap.size w w' := by
  rw [Int.natCast_ediv]
  exact quotient_small va vb A B w ha hb hA (by omega) (Or.inr hB)
theorem gcdN (va vb : Value) (A B : Nat) (w : World) (ha : NatIs w va A) (hb : NatIs w vb B) (hA : Sm A) (hB : (B : Int) < 18446744073709551616) :
    Calls Tryd.prog 41 #[va, vb] w fun e w' => ∃ v, e = .returned v ∧ NatIs w' v ((Nat.gcd A B : Nat) : Int) ∧ Below w.heap.size w w' :=
  gcd_small va vb A B w ha hb hA (sm_word hB) (Or.inr hB)
theorem mulN (va vb : Value) (A B : Nat) (w : World) (ha : NatIs w va A) (hb : NatIs w vb B) (hA : Sm A) (hB : Sm B) :
    Calls Tryd.prog 44 #[va, vb] w fun e w' => ∃ v, e = .returned v ∧ NatIs w' v ((A * B : Nat) : Int) ∧ Below w.heap.size w w' := by
  rw [Int.natCast_mul]
  exact mul_any va vb A B w ha hb hA hB

/-- The upper number of a sum, over the least lower one that both have. -/
def upr (a b : Rat) : Int := a.num * (b.den / Nat.gcd a.den b.den : Nat) + b.num * (a.den / Nat.gcd a.den b.den : Nat)

theorem add_math (a b : Rat) (s : Bool) (hs : sn s ((upr a b).natAbs : Int) = upr a b) :
    (a.den / Nat.gcd a.den b.den) * (b.den / Nat.gcd (upr a b).natAbs (Nat.gcd a.den b.den)) ≠ 0 ∧
    (((upr a b).natAbs / Nat.gcd (upr a b).natAbs (Nat.gcd a.den b.den) : Nat) : Int).natAbs.gcd ((a.den / Nat.gcd a.den b.den) * (b.den / Nat.gcd (upr a b).natAbs (Nat.gcd a.den b.den))) = 1 ∧
    mkRat (sn s (((upr a b).natAbs / Nat.gcd (upr a b).natAbs (Nat.gcd a.den b.den) : Nat) : Int)) ((a.den / Nat.gcd a.den b.den) * (b.den / Nat.gcd (upr a b).natAbs (Nat.gcd a.den b.den))) = a + b := by
  have aux := Rat.add.aux a b (g := Nat.gcd a.den b.den) rfl rfl rfl
  simp only at aux
  change (upr a b).natAbs.gcd (Nat.gcd a.den b.den) = (upr a b).natAbs.gcd (a.den / Nat.gcd a.den b.den * b.den) at aux
  have hg : 0 < Nat.gcd a.den b.den := Nat.gcd_pos_of_pos_left _ a.den_pos
  have hg1 : 0 < Nat.gcd (upr a b).natAbs (Nat.gcd a.den b.den) := Nat.gcd_pos_of_pos_right _ hg
  have d1 := Nat.gcd_dvd_left a.den b.den
  have d2 := Nat.gcd_dvd_right a.den b.den
  have e1 := Nat.gcd_dvd_left (upr a b).natAbs (Nat.gcd a.den b.den)
  have e2 := Nat.dvd_trans (Nat.gcd_dvd_right (upr a b).natAbs (Nat.gcd a.den b.den)) d2
  have hden : a.den / Nat.gcd a.den b.den * (b.den / Nat.gcd (upr a b).natAbs (Nat.gcd a.den b.den)) = (a.den / Nat.gcd a.den b.den * b.den) / Nat.gcd (upr a b).natAbs (Nat.gcd a.den b.den) := (Nat.mul_div_assoc _ e2).symm
  have hD : a.den / Nat.gcd a.den b.den * b.den ≠ 0 := by
    have h1 := Nat.div_pos (Nat.le_of_dvd a.den_pos d1) hg
    exact Nat.mul_ne_zero (by omega) b.den_nz
  have hsum : a + b = mkRat (upr a b) (a.den / Nat.gcd a.den b.den * b.den) := by
    rw [Rat.add_def']
    have := Rat.mkRat_mul_right (n := upr a b) (d := a.den / Nat.gcd a.den b.den * b.den) (a := Nat.gcd a.den b.den) (by omega)
    rw [← this]
    congr 1
    · unfold upr
      rw [Int.add_mul, Int.mul_assoc, Int.mul_assoc, ← Int.natCast_mul, ← Int.natCast_mul, Nat.div_mul_cancel d2, Nat.div_mul_cancel d1]
    · rw [Nat.mul_right_comm, Nat.div_mul_cancel d1]
  rw [hden, hsum]
  generalize Nat.gcd (upr a b).natAbs (Nat.gcd a.den b.den) = g1 at *
  generalize a.den / Nat.gcd a.den b.den * b.den = D at *
  generalize upr a b = Z at *
  have hd : g1 ∣ D := by rw [aux]; exact Nat.gcd_dvd_right _ _
  refine ⟨?_, ?_, ?_⟩
  · have := Nat.div_pos (Nat.le_of_dvd (by omega) hd) hg1
    omega
  · rw [Int.natAbs_natCast, aux]
    exact Nat.coprime_div_gcd_div_gcd (by rw [← aux]; exact hg1)
  · have := Rat.mkRat_mul_left (n := sn s ((Z.natAbs / g1 : Nat) : Int)) (d := D / g1) (a := g1) (by omega)
    rw [← this, Nat.mul_div_cancel' hd]
    congr 1
    refine Eq.trans ?_ hs
    have e : (g1 : Int) * ((Z.natAbs / g1 : Nat) : Int) = Z.natAbs := by rw [← Int.natCast_mul, Nat.mul_div_cancel' e1]
    cases s
    · simpa [sn] using e
    · simp only [sn, if_true, Int.mul_neg, e]

theorem sn_dec (z : Int) (k : Nat) : sn (decide (z < 0)) ((z.natAbs * k : Nat) : Int) = z * k := by
  by_cases h : z < 0
  · simp only [h, decide_true, sn, if_true, Int.natCast_mul]
    rw [show (z.natAbs : Int) = -z by omega, Int.neg_mul, Int.neg_neg]
  · simp only [h, decide_false, sn, Int.natCast_mul]
    rw [show (z.natAbs : Int) = z by omega]; rfl

/-- Three boxes of a method with two fractions that answers a third. -/
theorem three_boxes {w w' : World} {x0 x1 x2 y0 y1 y2 z0 z1 z2 : Value} {T : TypeId}
    (h : Below (((w.alloc (.cells #[x0, x1, x2] T)).alloc (.cells #[y0, y1, y2] T)).alloc (.cells #[z0, z1, z2] T)).heap.size (((w.alloc (.cells #[x0, x1, x2] T)).alloc (.cells #[y0, y1, y2] T)).alloc (.cells #[z0, z1, z2] T)) w') :
    (w'.cell? ⟨w.heap.size, 0, none⟩ = some x0 ∧ w'.cell? ⟨w.heap.size, 1, none⟩ = some x1 ∧ w'.cell? ⟨w.heap.size, 2, none⟩ = some x2 ∧
    w'.cell? ⟨w.heap.size + 1, 0, none⟩ = some y0 ∧ w'.cell? ⟨w.heap.size + 1, 1, none⟩ = some y1 ∧ w'.cell? ⟨w.heap.size + 1, 2, none⟩ = some y2) ∧
    w'.heap[w.heap.size + 2]? = some (.cells #[z0, z1, z2] T) ∧ w.heap.size + 2 < w'.heap.size := by
  have h2 : Below ((w.alloc (.cells #[x0, x1, x2] T)).alloc (.cells #[y0, y1, y2] T)).heap.size ((w.alloc (.cells #[x0, x1, x2] T)).alloc (.cells #[y0, y1, y2] T)) w' := below_step (alloc_below _ (.cells #[z0, z1, z2] T)) h
  have h3 := box3 h
  refine ⟨two_boxes h2, ?_⟩
  simpa using h3

theorem six_store {w w' : World} {x0 x1 x2 y0 y1 y2 : Value} (h : w'.cell? ⟨w.heap.size, 0, none⟩ = some x0 ∧ w'.cell? ⟨w.heap.size, 1, none⟩ = some x1 ∧ w'.cell? ⟨w.heap.size, 2, none⟩ = some x2 ∧
    w'.cell? ⟨w.heap.size + 1, 0, none⟩ = some y0 ∧ w'.cell? ⟨w.heap.size + 1, 1, none⟩ = some y1 ∧ w'.cell? ⟨w.heap.size + 1, 2, none⟩ = some y2) (z0 z1 z2 : Value) :
    (((w'.setCell ⟨w.heap.size + 2, 0, none⟩ z0).setCell ⟨w.heap.size + 2, 1, none⟩ z1).setCell ⟨w.heap.size + 2, 2, none⟩ z2).cell? ⟨w.heap.size, 0, none⟩ = some x0 ∧
    (((w'.setCell ⟨w.heap.size + 2, 0, none⟩ z0).setCell ⟨w.heap.size + 2, 1, none⟩ z1).setCell ⟨w.heap.size + 2, 2, none⟩ z2).cell? ⟨w.heap.size, 1, none⟩ = some x1 ∧
    (((w'.setCell ⟨w.heap.size + 2, 0, none⟩ z0).setCell ⟨w.heap.size + 2, 1, none⟩ z1).setCell ⟨w.heap.size + 2, 2, none⟩ z2).cell? ⟨w.heap.size, 2, none⟩ = some x2 ∧
    (((w'.setCell ⟨w.heap.size + 2, 0, none⟩ z0).setCell ⟨w.heap.size + 2, 1, none⟩ z1).setCell ⟨w.heap.size + 2, 2, none⟩ z2).cell? ⟨w.heap.size + 1, 0, none⟩ = some y0 ∧
    (((w'.setCell ⟨w.heap.size + 2, 0, none⟩ z0).setCell ⟨w.heap.size + 2, 1, none⟩ z1).setCell ⟨w.heap.size + 2, 2, none⟩ z2).cell? ⟨w.heap.size + 1, 1, none⟩ = some y1 ∧
    (((w'.setCell ⟨w.heap.size + 2, 0, none⟩ z0).setCell ⟨w.heap.size + 2, 1, none⟩ z1).setCell ⟨w.heap.size + 2, 2, none⟩ z2).cell? ⟨w.heap.size + 1, 2, none⟩ = some y2 := by
  have e : ∀ (k o : Nat), k ≠ w.heap.size + 2 → (((w'.setCell ⟨w.heap.size + 2, 0, none⟩ z0).setCell ⟨w.heap.size + 2, 1, none⟩ z1).setCell ⟨w.heap.size + 2, 2, none⟩ z2).cell? ⟨k, o, none⟩ = w'.cell? ⟨k, o, none⟩ := fun k o hk =>
    World.cell?_of_block (w := w') (a := ⟨k, o, none⟩) (by rw [Below.heap_setCell _ _ _ _ hk, Below.heap_setCell _ _ _ _ hk, Below.heap_setCell _ _ _ _ hk])
  obtain ⟨h1, h2, h3, h4, h5, h6⟩ := h
  exact ⟨by rw [e _ _ (by omega)]; exact h1, by rw [e _ _ (by omega)]; exact h2, by rw [e _ _ (by omega)]; exact h3, by rw [e _ _ (by omega)]; exact h4, by rw [e _ _ (by omega)]; exact h5, by rw [e _ _ (by omega)]; exact h6⟩

theorem below_drew_ge (w : World) (B : Nat) : Below B w w.drew := (Below.refl _ _).drew

set_option maxHeartbeats 8000000 in
set_option maxRecDepth 100000 in
theorem addR_small (va vb : Value) (qa qb : Rat) (w : World) (ha : RatIs w va qa) (hb : RatIs w vb qb) (hn1 : (qa.num.natAbs : Int) < Wd.pw 8) (hn2 : (qb.num.natAbs : Int) < Wd.pw 8) (hd1 : (qa.den : Int) < 18446744073709551616) (hd2 : (qb.den : Int) < 18446744073709551616) :
    Calls Tryd.prog 15 #[va, vb] w fun e w' => ∃ v, e = .returned v ∧ RatIs w' v (qa + qb) ∧ Below w.heap.size w w' := by
  have HA := hide ha
  have HB := hide hb
  obtain ⟨ov, un, rfl, h1, h2⟩ := ha
  obtain ⟨ov', un', rfl, h1', h2'⟩ := hb
  have HNa := hide h1
  have HNb := hide h1'
  obtain ⟨a, n, c, rfl, _, _⟩ := h1
  obtain ⟨a2, n2, c2, rfl, _, _⟩ := h2
  obtain ⟨b, m, d, rfl, _, _⟩ := h1'
  obtain ⟨b2, m2, d2, rfl, _, _⟩ := h2'
  obtain ⟨sa, hsa⟩ : ∃ s, decide (qa.num < 0) = s := ⟨_, rfl⟩
  obtain ⟨sb, hsb⟩ : ∃ s, decide (qb.num < 0) = s := ⟨_, rfl⟩
  rw [hsa] at HA
  rw [hsb] at HB
  rw [hsa, hsb]
  obtain ⟨W, hW⟩ : ∃ W, ((w.alloc (.cells #[.bool sa, .slice a n c, .slice a2 n2 c2] 36)).alloc (.cells #[.bool sb, .slice b m d, .slice b2 m2 d2] 36)).alloc (.cells #[.bool false, .slice none 0 0, .slice none 0 0] 36) = W := ⟨_, rfl⟩
  have hbW : Below w.heap.size w W := by rw [← hW]; exact (((Below.refl _ _).alloc (Nat.le_refl _) _).alloc (by simp) _).alloc (by simp; omega) _
  have S0 : ∀ w', Below W.heap.size W w' → (w'.cell? ⟨w.heap.size, 0, none⟩ = some (.bool sa) ∧ w'.cell? ⟨w.heap.size, 1, none⟩ = some (.slice a n c) ∧ w'.cell? ⟨w.heap.size, 2, none⟩ = some (.slice a2 n2 c2) ∧
    w'.cell? ⟨w.heap.size + 1, 0, none⟩ = some (.bool sb) ∧ w'.cell? ⟨w.heap.size + 1, 1, none⟩ = some (.slice b m d) ∧ w'.cell? ⟨w.heap.size + 1, 2, none⟩ = some (.slice b2 m2 d2)) ∧
    w'.heap[w.heap.size + 2]? = some (.cells #[.bool false, .slice none 0 0, .slice none 0 0] 36) ∧ w.heap.size + 2 < w'.heap.size := fun w' h => by
    rw [← hW] at h
    exact three_boxes h
  have CA : ∀ w1, Below W.heap.size W w1 → Calls Tryd.prog 16 #[.agg #[.bool sa, .slice a n c, .slice a2 n2 c2]] w1 fun e w' => e = .returned (.int .i64 qa.num.sign) ∧ Below W.heap.size W w' := fun w1 h1 =>
    (sign_any _ qa w1 (((unhide HA).below hbW).below h1)).mono (by rintro e w' ⟨rfl, h⟩; exact ⟨rfl, below_step h1 h⟩)
  have CB : ∀ w1, Below W.heap.size W w1 → Calls Tryd.prog 16 #[.agg #[.bool sb, .slice b m d, .slice b2 m2 d2]] w1 fun e w' => e = .returned (.int .i64 qb.num.sign) ∧ Below W.heap.size W w' := fun w1 h1 =>
    (sign_any _ qb w1 (((unhide HB).below hbW).below h1)).mono (by rintro e w' ⟨rfl, h⟩; exact ⟨rfl, below_step h1 h⟩)
  have LA : ∀ w1, Below W.heap.size W w1 → Calls Tryd.prog 42 #[.agg #[.bool sa, .slice a n c, .slice a2 n2 c2]] w1 fun e w' => ∃ v, e = .returned v ∧ NatIs w' v qa.den ∧ Below w1.heap.size w1 w' ∧ Below W.heap.size W w' := fun w1 h1 =>
    (lower_any _ qa w1 (((unhide HA).below hbW).below h1)).mono (by rintro e w' ⟨v, rfl, hv, h⟩; exact ⟨v, rfl, hv, h, below_step h1 h⟩)
  have LB : ∀ w1, Below W.heap.size W w1 → Calls Tryd.prog 42 #[.agg #[.bool sb, .slice b m d, .slice b2 m2 d2]] w1 fun e w' => ∃ v, e = .returned v ∧ NatIs w' v qb.den ∧ Below w1.heap.size w1 w' ∧ Below W.heap.size W w' := fun w1 h1 =>
    (lower_any _ qb w1 (((unhide HB).below hbW).below h1)).mono (by rintro e w' ⟨v, rfl, hv, h⟩; exact ⟨v, rfl, hv, h, below_step h1 h⟩)
  have HS0 := hide S0
  have HCA := hide CA
  have HCB := hide CB
  have HLA := hide LA
  have HLB := hide LB
  have HWE := hide hW
  have HBW := hide hbW
  have hR := hide (Below.refl W.heap.size W)
  clear hW hbW S0 CA CB LA LB
  by_cases hz1 : qa.num = 0
  · have hsn : qa.num.sign = 0 := by rw [hz1]; rfl
    have hq : qa + qb = qb := by rw [Rat.num_eq_zero.1 hz1, Rat.zero_add]
    rw [hq]
    rw [hsn] at HCA
    clear hsn hq hz1 hsa hsb
    go_enter Tryd.func15, Tryd.ntmps15
    go_wp2_with fail
    rw [unhide HWE]
    refine (unhide HCA _ (unhide hR)).mono ?_
    rintro e w1 ⟨rfl, hb1⟩
    have ⟨⟨k0, k1, k2, k3, k4, k5⟩, hbx, hsz⟩ := unhide HS0 _ hb1
    have ⟨g0, g1, g2, f0, f1, f2⟩ := box_cell hbx
    have HB1 := hide hb1
    have HBX := hide hbx
    clear hb1 hbx
    go_wp2
    have ⟨r1, r2⟩ := rat_boxed (w0 := w) (((unhide HB).below (unhide HBW)).below (unhide HB1)) (unhide HBX) (below_step (unhide HBW) (unhide HB1)) (by omega) (Value.bool sb) (Value.slice b m d) (Value.slice b2 m2 d2)
    exact bodyPost_ret (v := .agg #[.bool sb, .slice b m d, .slice b2 m2 d2]) (by simp [results, Tryd.results15, go_sem, g0, g1, g2]) rfl ⟨_, rfl, r1, r2⟩
  have sz1 : (qa.num.sign == 0) = false := by rw [beq_eq_false_iff_ne]; intro h; exact hz1 (Int.sign_eq_zero_iff_zero.1 h)
  by_cases hz2 : qb.num = 0
  · have hsn : qb.num.sign = 0 := by rw [hz2]; rfl
    have hq : qa + qb = qa := by rw [Rat.num_eq_zero.1 hz2, Rat.add_zero]
    rw [hq]
    rw [hsn] at HCB
    have bd := sign_bd qa.num
    generalize qa.num.sign = x at *
    clear hsn hq hz1 hz2 hsa hsb
    obtain ⟨bd1, bd2⟩ := bd
    go_enter Tryd.func15, Tryd.ntmps15
    go_wp2_with fail
    rw [unhide HWE]
    refine (unhide HCA _ (unhide hR)).mono ?_
    rintro e w1 ⟨rfl, hb1⟩
    have ⟨⟨k0, k1, k2, k3, k4, k5⟩, hbx, hsz⟩ := unhide HS0 _ hb1
    go_wp2_with fail
    refine (unhide HCB _ hb1).mono ?_
    rintro e w2 ⟨rfl, hb2⟩
    clear k0 k1 k2 k3 k4 k5 hbx hsz
    have ⟨⟨k0, k1, k2, k3, k4, k5⟩, hbx, hsz⟩ := unhide HS0 _ hb2
    have ⟨g0, g1, g2, f0, f1, f2⟩ := box_cell hbx
    have HB1 := hide hb2
    have HBX := hide hbx
    clear hb1 hb2 hbx
    go_wp2
    have ⟨r1, r2⟩ := rat_boxed (w0 := w) (((unhide HA).below (unhide HBW)).below (unhide HB1)) (unhide HBX) (below_step (unhide HBW) (unhide HB1)) (by omega) (Value.bool sa) (Value.slice a n c) (Value.slice a2 n2 c2)
    exact bodyPost_ret (v := .agg #[.bool sa, .slice a n c, .slice a2 n2 c2]) (by simp [results, Tryd.results15, go_sem, g0, g1, g2]) rfl ⟨_, rfl, r1, r2⟩
  have sz2 : (qb.num.sign == 0) = false := by rw [beq_eq_false_iff_ne]; intro h; exact hz2 (Int.sign_eq_zero_iff_zero.1 h)
  obtain ⟨G, hG⟩ : ∃ G, Nat.gcd qa.den qb.den = G := ⟨_, rfl⟩
  have hGp : 0 < G := by rw [← hG]; exact Nat.gcd_pos_of_pos_left _ qa.den_pos
  have hGl : G ≤ qb.den := by rw [← hG]; exact Nat.le_of_dvd qb.den_pos (Nat.gcd_dvd_right _ _)
  obtain ⟨L, hL⟩ : ∃ L, qa.den / G = L := ⟨_, rfl⟩
  obtain ⟨R, hR'⟩ : ∃ R, qb.den / G = R := ⟨_, rfl⟩
  have hLl : L ≤ qa.den := by rw [← hL]; exact Nat.div_le_self _ _
  have hRl : R ≤ qb.den := by rw [← hR']; exact Nat.div_le_self _ _
  obtain ⟨Z, hZ⟩ : ∃ Z, upr qa qb = Z := ⟨_, rfl⟩
  obtain ⟨G1, hG1⟩ : ∃ G1, Nat.gcd Z.natAbs G = G1 := ⟨_, rfl⟩
  have hG1p : 0 < G1 := by rw [← hG1]; exact Nat.gcd_pos_of_pos_right _ hGp
  have hG1l : G1 ≤ G := by rw [← hG1]; exact Nat.le_of_dvd hGp (Nat.gcd_dvd_right _ _)
  have hZs : sn sa ((qa.num.natAbs * R : Nat) : Int) + sn sb ((qb.num.natAbs * L : Nat) : Int) = Z := by
    rw [← hsa, ← hsb, sn_dec, sn_dec, ← hZ, ← hR', ← hL, ← hG]; rfl
  have hM : ∀ s, sn s (Z.natAbs : Int) = Z → L * (qb.den / G1) ≠ 0 ∧ ((Z.natAbs / G1 : Nat) : Int).natAbs.gcd (L * (qb.den / G1)) = 1 ∧ mkRat (sn s ((Z.natAbs / G1 : Nat) : Int)) (L * (qb.den / G1)) = qa + qb := by
    intro s hs
    have := add_math qa qb s (by rw [hZ]; exact hs)
    rw [hZ, hG, hL, hG1] at this
    exact this
  have p1 : ((qa.num.natAbs * R : Nat) : Int) < Wd.pw 9 := by rw [Int.natCast_mul]; exact mul_small (j := 8) (k := 1) (by omega) hn1 (by rw [Wd.pw_one]; omega)
  have p2 : ((qb.num.natAbs * L : Nat) : Int) < Wd.pw 9 := by rw [Int.natCast_mul]; exact mul_small (j := 8) (k := 1) (by omega) hn2 (by rw [Wd.pw_one]; omega)
  have p3 : (Z.natAbs : Int) < Wd.pw 10 := by
    have t10 : ((qa.num.natAbs * R : Nat) : Int) + ((qb.num.natAbs * L : Nat) : Int) < Wd.pw 10 := pw_two p1 p2
    have : (Z.natAbs : Int) ≤ ((qa.num.natAbs * R : Nat) : Int) + ((qb.num.natAbs * L : Nat) : Int) := by rw [← hZs]; cases sa <;> cases sb <;> simp only [sn] <;> omega
    omega
  have T1 : ∀ w1 v v', NatIs w1 v ((qa.num.natAbs * R : Nat) : Int) → NatIs w1 v' ((qb.num.natAbs * L : Nat) : Int) → Calls Tryd.prog 46 #[.bool sa, v, .bool sb, v'] w1 fun e w' => ∃ s v, e = .returned (.tuple #[.bool s, v]) ∧ NatIs w' v (Z.natAbs : Int) ∧ sn s (Z.natAbs : Int) = Z ∧ Below w1.heap.size w1 w' := fun w1 v v' hv hv' => by
    have := together_any sa sb v v' _ _ w1 hv hv' (sm_of p1 (by decide)) (sm_of p2 (by decide))
    rw [hZs] at this
    exact this
  have HT1 := hide T1
  have HM := hide hM
  have P3 := hide p3
  have q1 : Sm (qa.num.natAbs : Int) := sm_of hn1 (by decide)
  have q2 : Sm (qb.num.natAbs : Int) := sm_of hn2 (by decide)
  have HG := hide hG
  have HL' := hide hL
  have HR' := hide hR'
  have HG1 := hide hG1
  have bd1 := sign_bd qa.num
  have bd2 := sign_bd qb.num
  generalize qa.num.sign = x at *
  generalize qb.num.sign = y at *
  clear hz1 hz2 hsa hsb hM T1 p1 p2 p3 hG hL hR' hG1 hZ hZs
  obtain ⟨bda, bdb⟩ := bd1
  obtain ⟨bdc, bdd⟩ := bd2
  go_enter Tryd.func15, Tryd.ntmps15
  go_wp2_with fail
  rw [unhide HWE]
  refine (unhide HCA _ (unhide hR)).mono ?_
  rintro e w1 ⟨rfl, hb1⟩
  have ⟨⟨k0, k1, k2, k3, k4, k5⟩, hbx, hsz⟩ := unhide HS0 _ hb1
  go_wp2_with fail
  refine (unhide HCB _ hb1).mono ?_
  rintro e w2 ⟨rfl, hb2⟩
  clear k0 k1 k2 k3 k4 k5 hbx hsz
  clear hb1
  go_wp2_with fail
  go_region_held3 (fun w' => w'.cell? ⟨w.heap.size, 0, none⟩ = some (.bool sa) ∧ w'.cell? ⟨w.heap.size, 1, none⟩ = some (.slice a n c) ∧ w'.cell? ⟨w.heap.size, 2, none⟩ = some (.slice a2 n2 c2) ∧
    w'.cell? ⟨w.heap.size + 1, 0, none⟩ = some (.bool sb) ∧ w'.cell? ⟨w.heap.size + 1, 1, none⟩ = some (.slice b m d) ∧ w'.cell? ⟨w.heap.size + 1, 2, none⟩ = some (.slice b2 m2 d2)) (first | exact (unhide HS0 _ (by assumption)).1 | exact (unhide HS0 _ (Below.drew (by assumption))).1 | go_keep)
    (first | (go_at_call_of 42 (Value.agg #[.bool sa, .slice a n c, .slice a2 n2 c2]); refine (unhide HLA _ ?_).mono ?_; (first | assumption | exact Below.drew (by assumption)); rintro e w3 ⟨v3, rfl, hv3, hr3, hb3⟩) | (go_at_call_of 42 (Value.agg #[.bool sb, .slice b m d, .slice b2 m2 d2]); refine (unhide HLB _ ?_).mono ?_; (first | assumption | exact Below.drew (by assumption)); rintro e w4 ⟨v4, rfl, hv4, hr4, hb4⟩; have hv34 := hv3.below hr4) | (go_at_call 41; refine (gcdN _ _ _ _ _ hv34 hv4 (sm_word hd1) hd2).mono ?_; rintro e w5 ⟨v5, rfl, hv5, hr5⟩; have hb5 := below_step hb4 hr5))
  rw [unhide HG] at hv5
  clear hv3 hv4 hv34 hr3 hr4 hr5 hb3 hb4 hb2
  have ⟨⟨k0, k1, k2, k3, k4, k5⟩, hbx, hsz⟩ := unhide HS0 _ hb5
  go_wp2_with fail
  refine (unhide HLA _ hb5).mono ?_
  rintro e w6 ⟨v6, rfl, hv6, hr6, hb6⟩
  have hv56 := hv5.below hr6
  have hV56 := hide hv56
  obtain ⟨a5, n5, c5, rfl, _, _⟩ := hv56
  clear k0 k1 k2 k3 k4 k5 hbx hsz
  clear hv5 hb5 hr6
  go_wp2_with fail
  refine (quotN _ _ _ _ _ hv6 (unhide hV56) (sm_word hd1) (by omega) (by omega)).mono ?_
  rintro e w7 ⟨v7, rfl, hv7, hr7⟩
  rw [unhide HL'] at hv7
  have hb7 := below_step hb6 hr7
  have hV57 := hide ((unhide hV56).below hr7)
  have hV7 := hide hv7
  obtain ⟨a7, n7, c7, rfl, _, _⟩ := hv7
  clear hv6 hb6 hr7 hV56
  have ⟨⟨k0, k1, k2, k3, k4, k5⟩, hbx, hsz⟩ := unhide HS0 _ hb7
  go_wp2_with fail
  refine (unhide HLB _ hb7).mono ?_
  rintro e w8 ⟨v8, rfl, hv8, hr8, hb8⟩
  have hV58 := hide ((unhide hV57).below hr8)
  have hV78 := hide ((unhide hV7).below hr8)
  clear k0 k1 k2 k3 k4 k5 hbx hsz
  clear hr8 hb7 hV57 hV7
  go_wp2_with fail
  refine (quotN _ _ _ _ _ hv8 (unhide hV58) (sm_word hd2) (by omega) (by omega)).mono ?_
  rintro e w9 ⟨v9, rfl, hv9, hr9⟩
  rw [unhide HR'] at hv9
  have hb9 := below_step hb8 hr9
  have hV59 := hide ((unhide hV58).below hr9)
  have hV79 := hide ((unhide hV78).below hr9)
  have hV9 := hide hv9
  obtain ⟨a9, n9, c9, rfl, _, _⟩ := hv9
  clear hv8 hb8 hr9 hV58 hV78
  go_wp2_with fail
  go_region_held3 (fun w' => w'.cell? ⟨w.heap.size, 0, none⟩ = some (.bool sa) ∧ w'.cell? ⟨w.heap.size, 1, none⟩ = some (.slice a n c) ∧ w'.cell? ⟨w.heap.size, 2, none⟩ = some (.slice a2 n2 c2) ∧
    w'.cell? ⟨w.heap.size + 1, 0, none⟩ = some (.bool sb) ∧ w'.cell? ⟨w.heap.size + 1, 1, none⟩ = some (.slice b m d) ∧ w'.cell? ⟨w.heap.size + 1, 2, none⟩ = some (.slice b2 m2 d2)) (first | exact (unhide HS0 _ (by assumption)).1 | exact (unhide HS0 _ (Below.drew (by assumption))).1 | go_keep)
    (first | (go_at_call_of 44 (Value.slice a n c); have hx9 := (below_step (unhide HBW) hb9).trans (below_drew_ge _ _); refine (mulN _ _ _ _ _ ((unhide HNa).below hx9) ((unhide hV9).below (below_drew_ge _ _)) q1 (sm_word (by omega))).mono ?_; rintro e w10 ⟨v10, rfl, hv10, hr10⟩; have hb10 := below_step (hb9.trans (below_drew_ge _ _)) hr10; have hV710 := hide (((unhide hV79).below (below_drew_ge _ _)).below hr10); have hV510 := hide (((unhide hV59).below (below_drew_ge _ _)).below hr10)) | (go_at_call_of 44 (Value.slice b m d); refine (mulN _ _ _ _ _ ((unhide HNb).below (below_step (unhide HBW) hb10)) (unhide hV710) q2 (sm_word (by omega))).mono ?_; rintro e w11 ⟨v11, rfl, hv11, hr11⟩; have hb11 := below_step hb10 hr11; have hv1011 := hv10.below hr11; have hV711 := hide ((unhide hV710).below hr11); have hV511 := hide ((unhide hV510).below hr11)) | (go_at_call 46; refine (unhide HT1 _ _ _ hv1011 hv11).mono ?_; rintro e w12 ⟨s, v12, rfl, hv12, hs12, hr12⟩; have hb12 := below_step hb11 hr12; have hV712 := hide ((unhide hV711).below hr12); have hV512 := hide ((unhide hV511).below hr12)))
  have HS12 := hide hs12
  have hV12 := hide hv12
  obtain ⟨a12, n12, c12, rfl, _, _⟩ := hv12
  clear hs12 hb9 hb10 hb11 hx9 hr10 hr11 hr12 hv10 hv11 hv1011 hV59 hV79 hV9 hV710 hV510 hV711 hV511
  go_wp2_with fail
  refine (gcdN _ _ _ _ _ (unhide hV12) (unhide hV512) (sm_of (unhide P3) (by decide)) (by omega)).mono ?_
  rintro e w13 ⟨v13, rfl, hv13, hr13⟩
  rw [unhide HG1] at hv13
  have hb13 := below_step hb12 hr13
  have hV1213 := hide ((unhide hV12).below hr13)
  have hV713 := hide ((unhide hV712).below hr13)
  have hV13 := hide hv13
  obtain ⟨a13, n13, c13, rfl, _, _⟩ := hv13
  obtain ⟨m1, m2', m3⟩ := unhide HM s (unhide HS12)
  have M2 := hide m2'
  have M3 := hide m3
  clear hb12 hr13 hV12 hV712 hV512 m2' m3
  have p12 := unhide P3
  have hG1w : (G1 : Int) < 18446744073709551616 := by omega
  go_wp2_with fail
  go_region_held3 (fun w' => w'.cell? ⟨w.heap.size, 0, none⟩ = some (.bool sa) ∧ w'.cell? ⟨w.heap.size, 1, none⟩ = some (.slice a n c) ∧ w'.cell? ⟨w.heap.size, 2, none⟩ = some (.slice a2 n2 c2) ∧
    w'.cell? ⟨w.heap.size + 1, 0, none⟩ = some (.bool sb) ∧ w'.cell? ⟨w.heap.size + 1, 1, none⟩ = some (.slice b m d) ∧ w'.cell? ⟨w.heap.size + 1, 2, none⟩ = some (.slice b2 m2 d2)) (first | exact (unhide HS0 _ (by assumption)).1 | exact (unhide HS0 _ (Below.drew (by assumption))).1 | exact six_store (unhide HS0 _ (by assumption)).1 _ _ _)
    (first | (go_at_call_of 43 (Value.slice a12 n12 c12); refine (quotN _ _ _ _ _ ((unhide hV1213).below (below_drew_ge _ _)) ((unhide hV13).below (below_drew_ge _ _)) (sm_of p12 (by decide)) (by omega) hG1w).mono ?_; rintro e w14 ⟨v14, rfl, hv14, hr14⟩; have hb14 := below_step (hb13.trans (below_drew_ge _ _)) hr14; have hV714 := hide (((unhide hV713).below (below_drew_ge _ _)).below hr14); have hV1314 := hide (((unhide hV13).below (below_drew_ge _ _)).below hr14)) | (go_at_call_of 42 (Value.agg #[.bool sb, .slice b m d, .slice b2 m2 d2]); refine (unhide HLB _ hb14).mono ?_; rintro e w15 ⟨v15, rfl, hv15, hr15, hb15⟩; have hv1415 := hv14.below hr15; have hV715 := hide ((unhide hV714).below hr15); have hV1315 := hide ((unhide hV1314).below hr15)) | (go_at_call 43; refine (quotN _ _ _ _ _ hv15 (unhide hV1315) (sm_word hd2) (by omega) hG1w).mono ?_; rintro e w16 ⟨v16, rfl, hv16, hr16⟩; have hb16 := below_step hb15 hr16; have hv1416 := hv1415.below hr16; have hV716 := hide ((unhide hV715).below hr16)) | (go_at_call 44; refine (mulN _ _ _ _ _ (unhide hV716) hv16 (sm_word (by omega)) (sm_word (by have := Nat.div_le_self qb.den G1; omega))).mono ?_; rintro e w17 ⟨v17, rfl, hv17, hr17⟩; have hb17 := below_step hb16 hr17; have hv1417 := hv1416.below hr17) | (go_at_call 45; refine (settled_any s _ _ _ _ _ hv1417 hv17 m1 (unhide M2)).mono ?_; rintro e w18 ⟨v18, rfl, hv18, hr18⟩; have hb18 := below_step hb17 hr18; rw [unhide M3] at hv18; have HV18 := hide hv18; obtain ⟨ov8, un8, rfl, hov8, hun8⟩ := hv18; obtain ⟨a18, n18, c18, rfl, _, _⟩ := hov8; obtain ⟨a19, n19, c19, rfl, _, _⟩ := hun8; have ⟨_, hbx, hsz⟩ := unhide HS0 _ hb18; have ⟨g0, g1, g2, f0, f1, f2⟩ := box_cell hbx; have HBX := hide hbx; clear hbx))
  go_wp2
  have ⟨r1, r2⟩ := rat_boxed (w0 := w) (unhide HV18) (unhide HBX) (below_step (unhide HBW) hb18) (by omega) (Value.bool (decide ((qa + qb).num < 0))) (Value.slice a18 n18 c18) (Value.slice a19 n19 c19)
  exact bodyPost_ret (v := .agg #[.bool (decide ((qa + qb).num < 0)), .slice a18 n18 c18, .slice a19 n19 c19]) (by simp [results, Tryd.results15, go_sem, g0, g1, g2]) rfl ⟨_, rfl, r1, r2⟩
end Go.Proofs.YtdicbnchkfclaaaDoor
