/- Fractions added: numbers of any length. -/
import Derived.Test.YtcelbgleajpenaaGreatDoorA11
import Derived.Test.YtcelbgleajpenaaGreatDoorA8
namespace Go.Proofs.YtcelbgleajpenaaGreatDoor
open Go.RowKit Go.Sort Go.Shelf

def RS (q : Rat) (j : Nat) : Prop := (q.num.natAbs : Int) < Wd.pw j ∧ (q.den : Int) < Wd.pw j

theorem quotM (va vb : Value) (A B : Nat) (w : World) (ha : NatIs w va A) (hb : NatIs w vb B) (hA : Sm A) (hB0 : B ≠ 0) :
  Calls Tryz.prog 106 #[va, vb] w fun e w' => ∃ v, e = .returned v ∧ NatIs w' v ((A / B : Nat) : Int) ∧ Below w.heap.size w w' := by
 rw [Int.natCast_ediv]
 exact quotient_any va vb A B w ha hb hA (by omega)
theorem gcdM (va vb : Value) (A B : Nat) (w : World) (ha : NatIs w va A) (hb : NatIs w vb B) (hA : Sm A) (hB : Sm B) :
  Calls Tryz.prog 104 #[va, vb] w fun e w' => ∃ v, e = .returned v ∧ NatIs w' v ((Nat.gcd A B : Nat) : Int) ∧ Below w.heap.size w w' :=
 gcd_any va vb A B w ha hb hA hB

set_option maxHeartbeats 8000000 in
set_option maxRecDepth 100000 in
theorem addR_any (va vb : Value) (qa qb : Rat) (w : World) (ha : RatIs w va qa) (hb : RatIs w vb qb) (j : Nat) (hqa : RS qa j) (hqb : RS qb j) (hj : j + j + 1 ≤ KK) :
  Calls Tryz.prog 72 #[va, vb] w fun e w' => ∃ v, e = .returned v ∧ RatIs w' v (qa + qb) ∧ Below w.heap.size w w' := by
 obtain ⟨hn1, hd1⟩ := hqa
 obtain ⟨hn2, hd2⟩ := hqb
 have sd1 : Sm (qa.den : Int) := sm_of hd1 (by omega)
 have sd2 : Sm (qb.den : Int) := sm_of hd2 (by omega)
 have HA := hide ha
 have HB := hide hb
 obtain ⟨ov, un, rfl, h1, h2⟩ := ha
 obtain ⟨ov', un', rfl, h1', h2'⟩ := hb
 have HNa := hide h1
 have HNb := hide h1'
 obtain ⟨a, n, c, rfl, _, _⟩ := h1
 obtain ⟨a2, n2, c2, rfl, _, _⟩ := h2
 obtain ⟨b, m, d, rfl, _, _⟩ := h1'
 obtain ⟨b2, m2, d2, rfl, _, _⟩ := h2'
 obtain ⟨sa, hsa⟩ : ∃ s, decide (qa.num < 0) = s := ⟨_, rfl⟩
 obtain ⟨sb, hsb⟩ : ∃ s, decide (qb.num < 0) = s := ⟨_, rfl⟩
 rw [hsa] at HA
 rw [hsb] at HB
 rw [hsa, hsb]
 obtain ⟨W, hW⟩ : ∃ W, ((w.alloc (.cells #[.bool sa, .slice a n c, .slice a2 n2 c2] 37)).alloc (.cells #[.bool sb, .slice b m d, .slice b2 m2 d2] 37)).alloc (.cells #[.bool false, .slice none 0 0, .slice none 0 0] 37) = W := ⟨_, rfl⟩
 have hbW : Below w.heap.size w W := by rw [← hW]; exact (((Below.refl _ _).alloc (Nat.le_refl _) _).alloc (by simp) _).alloc (by simp; omega) _
 have S0 : ∀ w', Below W.heap.size W w' → (w'.cell? ⟨w.heap.size, 0, none⟩ = some (.bool sa) ∧ w'.cell? ⟨w.heap.size, 1, none⟩ = some (.slice a n c) ∧ w'.cell? ⟨w.heap.size, 2, none⟩ = some (.slice a2 n2 c2) ∧
  w'.cell? ⟨w.heap.size + 1, 0, none⟩ = some (.bool sb) ∧ w'.cell? ⟨w.heap.size + 1, 1, none⟩ = some (.slice b m d) ∧ w'.cell? ⟨w.heap.size + 1, 2, none⟩ = some (.slice b2 m2 d2)) ∧
  w'.heap[w.heap.size + 2]? = some (.cells #[.bool false, .slice none 0 0, .slice none 0 0] 37) ∧ w.heap.size + 2 < w'.heap.size := fun w' h => by
  rw [← hW] at h
  exact three_boxes h
 have CA : ∀ w1, Below W.heap.size W w1 → Calls Tryz.prog 103 #[.agg #[.bool sa, .slice a n c, .slice a2 n2 c2]] w1 fun e w' => e = .returned (.int .i64 qa.num.sign) ∧ Below W.heap.size W w' := fun w1 h1 =>
  (sign_any _ qa w1 (((unhide HA).below hbW).below h1)).mono (by rintro e w' ⟨rfl, h⟩; exact ⟨rfl, below_step h1 h⟩)
 have CB : ∀ w1, Below W.heap.size W w1 → Calls Tryz.prog 103 #[.agg #[.bool sb, .slice b m d, .slice b2 m2 d2]] w1 fun e w' => e = .returned (.int .i64 qb.num.sign) ∧ Below W.heap.size W w' := fun w1 h1 =>
  (sign_any _ qb w1 (((unhide HB).below hbW).below h1)).mono (by rintro e w' ⟨rfl, h⟩; exact ⟨rfl, below_step h1 h⟩)
 have LA : ∀ w1, Below W.heap.size W w1 → Calls Tryz.prog 105 #[.agg #[.bool sa, .slice a n c, .slice a2 n2 c2]] w1 fun e w' => ∃ v, e = .returned v ∧ NatIs w' v qa.den ∧ Below w1.heap.size w1 w' ∧ Below W.heap.size W w' := fun w1 h1 =>
  (lower_any _ qa w1 (((unhide HA).below hbW).below h1)).mono (by rintro e w' ⟨v, rfl, hv, h⟩; exact ⟨v, rfl, hv, h, below_step h1 h⟩)
 have LB : ∀ w1, Below W.heap.size W w1 → Calls Tryz.prog 105 #[.agg #[.bool sb, .slice b m d, .slice b2 m2 d2]] w1 fun e w' => ∃ v, e = .returned v ∧ NatIs w' v qb.den ∧ Below w1.heap.size w1 w' ∧ Below W.heap.size W w' := fun w1 h1 =>
  (lower_any _ qb w1 (((unhide HB).below hbW).below h1)).mono (by rintro e w' ⟨v, rfl, hv, h⟩; exact ⟨v, rfl, hv, h, below_step h1 h⟩)
 have HS0 := hide S0
 have HCA := hide CA
 have HCB := hide CB
 have HLA := hide LA
 have HLB := hide LB
 have HWE := hide hW
 have HBW := hide hbW
 have hR := hide (Below.refl W.heap.size W)
 clear hW hbW S0 CA CB LA LB
 by_cases hz1 : qa.num = 0
 ·have hsn : qa.num.sign = 0 := by rw [hz1]; rfl
  have hq : qa + qb = qb := by rw [Rat.num_eq_zero.1 hz1, Rat.zero_add]
  rw [hq]
  rw [hsn] at HCA
  clear hsn hq hz1 hsa hsb
  go_enter Tryz.func72, Tryz.ntmps72
  go_wp2_with fail
  rw [unhide HWE]
  refine (unhide HCA _ (unhide hR)).mono ?_
  rintro e w1 ⟨rfl, hb1⟩
  have ⟨⟨k0, k1, k2, k3, k4, k5⟩, hbx, hsz⟩ := unhide HS0 _ hb1
  have ⟨g0, g1, g2, f0, f1, f2⟩ := box_cell hbx
  have HB1 := hide hb1
  have HBX := hide hbx
  clear hb1 hbx
  go_wp2
  have ⟨r1, r2⟩ := rat_boxed (w0 := w) (((unhide HB).below (unhide HBW)).below (unhide HB1)) (unhide HBX) (below_step (unhide HBW) (unhide HB1)) (by omega) (Value.bool sb) (Value.slice b m d) (Value.slice b2 m2 d2)
  exact bodyPost_ret (v := .agg #[.bool sb, .slice b m d, .slice b2 m2 d2]) (by simp [results, Tryz.results72, go_sem, g0, g1, g2]) rfl ⟨_, rfl, r1, r2⟩
 have sz1 : (qa.num.sign == 0) = false := by rw [beq_eq_false_iff_ne]; intro h; exact hz1 (Int.sign_eq_zero_iff_zero.1 h)
 by_cases hz2 : qb.num = 0
 ·have hsn : qb.num.sign = 0 := by rw [hz2]; rfl
  have hq : qa + qb = qa := by rw [Rat.num_eq_zero.1 hz2, Rat.add_zero]
  rw [hq]
  rw [hsn] at HCB
  have bd := sign_bd qa.num
  generalize qa.num.sign = x at *
  clear hsn hq hz1 hz2 hsa hsb
  obtain ⟨bd1, bd2⟩ := bd
  go_enter Tryz.func72, Tryz.ntmps72
  go_wp2_with fail
  rw [unhide HWE]
  refine (unhide HCA _ (unhide hR)).mono ?_
  rintro e w1 ⟨rfl, hb1⟩
  have ⟨⟨k0, k1, k2, k3, k4, k5⟩, hbx, hsz⟩ := unhide HS0 _ hb1
  go_wp2_with fail
  refine (unhide HCB _ hb1).mono ?_
  rintro e w2 ⟨rfl, hb2⟩
  clear k0 k1 k2 k3 k4 k5 hbx hsz
  have ⟨⟨k0, k1, k2, k3, k4, k5⟩, hbx, hsz⟩ := unhide HS0 _ hb2
  have ⟨g0, g1, g2, f0, f1, f2⟩ := box_cell hbx
  have HB1 := hide hb2
  have HBX := hide hbx
  clear hb1 hb2 hbx
  go_wp2
  have ⟨r1, r2⟩ := rat_boxed (w0 := w) (((unhide HA).below (unhide HBW)).below (unhide HB1)) (unhide HBX) (below_step (unhide HBW) (unhide HB1)) (by omega) (Value.bool sa) (Value.slice a n c) (Value.slice a2 n2 c2)
  exact bodyPost_ret (v := .agg #[.bool sa, .slice a n c, .slice a2 n2 c2]) (by simp [results, Tryz.results72, go_sem, g0, g1, g2]) rfl ⟨_, rfl, r1, r2⟩
 have sz2 : (qb.num.sign == 0) = false := by rw [beq_eq_false_iff_ne]; intro h; exact hz2 (Int.sign_eq_zero_iff_zero.1 h)
 obtain ⟨G, hG⟩ : ∃ G, Nat.gcd qa.den qb.den = G := ⟨_, rfl⟩
 have hGp : 0 < G := by rw [← hG]; exact Nat.gcd_pos_of_pos_left _ qa.den_pos
 have hGl : G ≤ qb.den := by rw [← hG]; exact Nat.le_of_dvd qb.den_pos (Nat.gcd_dvd_right _ _)
 obtain ⟨L, hL⟩ : ∃ L, qa.den / G = L := ⟨_, rfl⟩
 obtain ⟨R, hR'⟩ : ∃ R, qb.den / G = R := ⟨_, rfl⟩
 have hLl : L ≤ qa.den := by rw [← hL]; exact Nat.div_le_self _ _
 have hRl : R ≤ qb.den := by rw [← hR']; exact Nat.div_le_self _ _
 obtain ⟨Z, hZ⟩ : ∃ Z, upr qa qb = Z := ⟨_, rfl⟩
 obtain ⟨G1, hG1⟩ : ∃ G1, Nat.gcd Z.natAbs G = G1 := ⟨_, rfl⟩
 have hG1p : 0 < G1 := by rw [← hG1]; exact Nat.gcd_pos_of_pos_right _ hGp
 have hG1l : G1 ≤ G := by rw [← hG1]; exact Nat.le_of_dvd hGp (Nat.gcd_dvd_right _ _)
 have hZs : sn sa ((qa.num.natAbs * R : Nat) : Int) + sn sb ((qb.num.natAbs * L : Nat) : Int) = Z := by
  rw [← hsa, ← hsb, sn_dec, sn_dec, ← hZ, ← hR', ← hL, ← hG]; rfl
 have hM : ∀ s, sn s (Z.natAbs : Int) = Z → L * (qb.den / G1) ≠ 0 ∧ ((Z.natAbs / G1 : Nat) : Int).natAbs.gcd (L * (qb.den / G1)) = 1 ∧ mkRat (sn s ((Z.natAbs / G1 : Nat) : Int)) (L * (qb.den / G1)) = qa + qb := by
  intro s hs
  have := add_math qa qb s (by rw [hZ]; exact hs)
  rw [hZ, hG, hL, hG1] at this
  exact this
 have p1 : ((qa.num.natAbs * R : Nat) : Int) < Wd.pw (j + j) := by rw [Int.natCast_mul]; exact mul_small (j := j) (k := j) (by omega) hn1 (Int.lt_of_le_of_lt (by omega) hd2)
 have p2 : ((qb.num.natAbs * L : Nat) : Int) < Wd.pw (j + j) := by rw [Int.natCast_mul]; exact mul_small (j := j) (k := j) (by omega) hn2 (Int.lt_of_le_of_lt (by omega) hd1)
 have p3 : (Z.natAbs : Int) < Wd.pw (j + j + 1) := by
  have t10 : ((qa.num.natAbs * R : Nat) : Int) + ((qb.num.natAbs * L : Nat) : Int) < Wd.pw (j + j + 1) := pw_two p1 p2
  have : (Z.natAbs : Int) ≤ ((qa.num.natAbs * R : Nat) : Int) + ((qb.num.natAbs * L : Nat) : Int) := by rw [← hZs]; cases sa <;> cases sb <;> simp only [sn] <;> omega
  omega
 have T1 : ∀ w1 v v', NatIs w1 v ((qa.num.natAbs * R : Nat) : Int) → NatIs w1 v' ((qb.num.natAbs * L : Nat) : Int) → Calls Tryz.prog 109 #[.bool sa, v, .bool sb, v'] w1 fun e w' => ∃ s v, e = .returned (.tuple #[.bool s, v]) ∧ NatIs w' v (Z.natAbs : Int) ∧ sn s (Z.natAbs : Int) = Z ∧ Below w1.heap.size w1 w' := fun w1 v v' hv hv' => by
  have := together_any sa sb v v' _ _ w1 hv hv' (sm_of p1 (by omega)) (sm_of p2 (by omega))
  rw [hZs] at this
  exact this
 have HT1 := hide T1
 have HM := hide hM
 have q1 : Sm (qa.num.natAbs : Int) := sm_of hn1 (by omega)
 have q2 : Sm (qb.num.natAbs : Int) := sm_of hn2 (by omega)
 have sR : Sm (R : Int) := sm_le (by omega) sd2
 have sL : Sm (L : Int) := sm_le (by omega) sd1
 have sG : Sm (G : Int) := sm_le (by omega) sd2
 have sZ : Sm (Z.natAbs : Int) := sm_of p3 hj
 have sQ : Sm ((qb.den / G1 : Nat) : Int) := sm_le (by have := Nat.div_le_self qb.den G1; omega) sd2
 have HG := hide hG
 have HL' := hide hL
 have HR' := hide hR'
 have HG1 := hide hG1
 have bd1 := sign_bd qa.num
 have bd2 := sign_bd qb.num
 generalize qa.num.sign = x at *
 generalize qb.num.sign = y at *
 clear hz1 hz2 hsa hsb hM T1 p1 p2 p3 hG hL hR' hG1 hZ hZs
 obtain ⟨bda, bdb⟩ := bd1
 obtain ⟨bdc, bdd⟩ := bd2
 go_enter Tryz.func72, Tryz.ntmps72
 go_wp2_with fail
 rw [unhide HWE]
 refine (unhide HCA _ (unhide hR)).mono ?_
 rintro e w1 ⟨rfl, hb1⟩
 have ⟨⟨k0, k1, k2, k3, k4, k5⟩, hbx, hsz⟩ := unhide HS0 _ hb1
 go_wp2_with fail
 refine (unhide HCB _ hb1).mono ?_
 rintro e w2 ⟨rfl, hb2⟩
 clear k0 k1 k2 k3 k4 k5 hbx hsz
 clear hb1
 go_wp2_with fail
 go_region_held3 (fun w' => w'.cell? ⟨w.heap.size, 0, none⟩ = some (.bool sa) ∧ w'.cell? ⟨w.heap.size, 1, none⟩ = some (.slice a n c) ∧ w'.cell? ⟨w.heap.size, 2, none⟩ = some (.slice a2 n2 c2) ∧
  w'.cell? ⟨w.heap.size + 1, 0, none⟩ = some (.bool sb) ∧ w'.cell? ⟨w.heap.size + 1, 1, none⟩ = some (.slice b m d) ∧ w'.cell? ⟨w.heap.size + 1, 2, none⟩ = some (.slice b2 m2 d2)) (first | exact (unhide HS0 _ (by assumption)).1 | exact (unhide HS0 _ (Below.drew (by assumption))).1 | go_keep)
  (first | (go_at_call_of 105 (Value.agg #[.bool sa, .slice a n c, .slice a2 n2 c2]); refine (unhide HLA _ ?_).mono ?_; (first | assumption | exact Below.drew (by assumption)); rintro e w3 ⟨v3, rfl, hv3, hr3, hb3⟩) | (go_at_call_of 105 (Value.agg #[.bool sb, .slice b m d, .slice b2 m2 d2]); refine (unhide HLB _ ?_).mono ?_; (first | assumption | exact Below.drew (by assumption)); rintro e w4 ⟨v4, rfl, hv4, hr4, hb4⟩; have hv34 := hv3.below hr4) | (go_at_call 104; refine (gcdM _ _ _ _ _ hv34 hv4 sd1 sd2).mono ?_; rintro e w5 ⟨v5, rfl, hv5, hr5⟩; have hb5 := below_step hb4 hr5))
 rw [unhide HG] at hv5
 clear hv3 hv4 hv34 hr3 hr4 hr5 hb3 hb4 hb2
 have ⟨⟨k0, k1, k2, k3, k4, k5⟩, hbx, hsz⟩ := unhide HS0 _ hb5
 go_wp2_with fail
 refine (unhide HLA _ hb5).mono ?_
 rintro e w6 ⟨v6, rfl, hv6, hr6, hb6⟩
 have hv56 := hv5.below hr6
 have hV56 := hide hv56
 obtain ⟨a5, n5, c5, rfl, _, _⟩ := hv56
 clear k0 k1 k2 k3 k4 k5 hbx hsz
 clear hv5 hb5 hr6
 go_wp2_with fail
 refine (quotM _ _ _ _ _ hv6 (unhide hV56) sd1 (by omega)).mono ?_
 rintro e w7 ⟨v7, rfl, hv7, hr7⟩
 rw [unhide HL'] at hv7
 have hb7 := below_step hb6 hr7
 have hV57 := hide ((unhide hV56).below hr7)
 have hV7 := hide hv7
 obtain ⟨a7, n7, c7, rfl, _, _⟩ := hv7
 clear hv6 hb6 hr7 hV56
 have ⟨⟨k0, k1, k2, k3, k4, k5⟩, hbx, hsz⟩ := unhide HS0 _ hb7
 go_wp2_with fail
 refine (unhide HLB _ hb7).mono ?_
 rintro e w8 ⟨v8, rfl, hv8, hr8, hb8⟩
 have hV58 := hide ((unhide hV57).below hr8)
 have hV78 := hide ((unhide hV7).below hr8)
 clear k0 k1 k2 k3 k4 k5 hbx hsz
 clear hr8 hb7 hV57 hV7
 go_wp2_with fail
 refine (quotM _ _ _ _ _ hv8 (unhide hV58) sd2 (by omega)).mono ?_
 rintro e w9 ⟨v9, rfl, hv9, hr9⟩
 rw [unhide HR'] at hv9
 have hb9 := below_step hb8 hr9
 have hV59 := hide ((unhide hV58).below hr9)
 have hV79 := hide ((unhide hV78).below hr9)
 have hV9 := hide hv9
 obtain ⟨a9, n9, c9, rfl, _, _⟩ := hv9
 clear hv8 hb8 hr9 hV58 hV78
 go_wp2_with fail
 go_region_held3 (fun w' => w'.cell? ⟨w.heap.size, 0, none⟩ = some (.bool sa) ∧ w'.cell? ⟨w.heap.size, 1, none⟩ = some (.slice a n c) ∧ w'.cell? ⟨w.heap.size, 2, none⟩ = some (.slice a2 n2 c2) ∧
  w'.cell? ⟨w.heap.size + 1, 0, none⟩ = some (.bool sb) ∧ w'.cell? ⟨w.heap.size + 1, 1, none⟩ = some (.slice b m d) ∧ w'.cell? ⟨w.heap.size + 1, 2, none⟩ = some (.slice b2 m2 d2)) (first | exact (unhide HS0 _ (by assumption)).1 | exact (unhide HS0 _ (Below.drew (by assumption))).1 | go_keep)
  (first | (go_at_call_of 107 (Value.slice a n c); have hx9 := (below_step (unhide HBW) hb9).trans (below_drew_ge _ _); refine (mulN _ _ _ _ _ ((unhide HNa).below hx9) ((unhide hV9).below (below_drew_ge _ _)) q1 sR).mono ?_; rintro e w10 ⟨v10, rfl, hv10, hr10⟩; have hb10 := below_step (hb9.trans (below_drew_ge _ _)) hr10; have hV710 := hide (((unhide hV79).below (below_drew_ge _ _)).below hr10); have hV510 := hide (((unhide hV59).below (below_drew_ge _ _)).below hr10)) | (go_at_call_of 107 (Value.slice b m d); refine (mulN _ _ _ _ _ ((unhide HNb).below (below_step (unhide HBW) hb10)) (unhide hV710) q2 sL).mono ?_; rintro e w11 ⟨v11, rfl, hv11, hr11⟩; have hb11 := below_step hb10 hr11; have hv1011 := hv10.below hr11; have hV711 := hide ((unhide hV710).below hr11); have hV511 := hide ((unhide hV510).below hr11)) | (go_at_call 109; refine (unhide HT1 _ _ _ hv1011 hv11).mono ?_; rintro e w12 ⟨s, v12, rfl, hv12, hs12, hr12⟩; have hb12 := below_step hb11 hr12; have hV712 := hide ((unhide hV711).below hr12); have hV512 := hide ((unhide hV511).below hr12)))
 have HS12 := hide hs12
 have hV12 := hide hv12
 obtain ⟨a12, n12, c12, rfl, _, _⟩ := hv12
 clear hs12 hb9 hb10 hb11 hx9 hr10 hr11 hr12 hv10 hv11 hv1011 hV59 hV79 hV9 hV710 hV510 hV711 hV511
 go_wp2_with fail
 refine (gcdM _ _ _ _ _ (unhide hV12) (unhide hV512) sZ sG).mono ?_
 rintro e w13 ⟨v13, rfl, hv13, hr13⟩
 rw [unhide HG1] at hv13
 have hb13 := below_step hb12 hr13
 have hV1213 := hide ((unhide hV12).below hr13)
 have hV713 := hide ((unhide hV712).below hr13)
 have hV13 := hide hv13
 obtain ⟨a13, n13, c13, rfl, _, _⟩ := hv13
 obtain ⟨m1, m2', m3⟩ := unhide HM s (unhide HS12)
 have M2 := hide m2'
 have M3 := hide m3
 clear hb12 hr13 hV12 hV712 hV512 m2' m3
 go_wp2_with fail
 go_region_held3 (fun w' => w'.cell? ⟨w.heap.size, 0, none⟩ = some (.bool sa) ∧ w'.cell? ⟨w.heap.size, 1, none⟩ = some (.slice a n c) ∧ w'.cell? ⟨w.heap.size, 2, none⟩ = some (.slice a2 n2 c2) ∧
  w'.cell? ⟨w.heap.size + 1, 0, none⟩ = some (.bool sb) ∧ w'.cell? ⟨w.heap.size + 1, 1, none⟩ = some (.slice b m d) ∧ w'.cell? ⟨w.heap.size + 1, 2, none⟩ = some (.slice b2 m2 d2)) (first | exact (unhide HS0 _ (by assumption)).1 | exact (unhide HS0 _ (Below.drew (by assumption))).1 | exact six_store (unhide HS0 _ (by assumption)).1 _ _ _)
  (first | (go_at_call_of 106 (Value.slice a12 n12 c12); refine (quotM _ _ _ _ _ ((unhide hV1213).below (below_drew_ge _ _)) ((unhide hV13).below (below_drew_ge _ _)) sZ (by omega)).mono ?_; rintro e w14 ⟨v14, rfl, hv14, hr14⟩; have hb14 := below_step (hb13.trans (below_drew_ge _ _)) hr14; have hV714 := hide (((unhide hV713).below (below_drew_ge _ _)).below hr14); have hV1314 := hide (((unhide hV13).below (below_drew_ge _ _)).below hr14)) | (go_at_call_of 105 (Value.agg #[.bool sb, .slice b m d, .slice b2 m2 d2]); refine (unhide HLB _ hb14).mono ?_; rintro e w15 ⟨v15, rfl, hv15, hr15, hb15⟩; have hv1415 := hv14.below hr15; have hV715 := hide ((unhide hV714).below hr15); have hV1315 := hide ((unhide hV1314).below hr15)) | (go_at_call 106; refine (quotM _ _ _ _ _ hv15 (unhide hV1315) sd2 (by omega)).mono ?_; rintro e w16 ⟨v16, rfl, hv16, hr16⟩; have hb16 := below_step hb15 hr16; have hv1416 := hv1415.below hr16; have hV716 := hide ((unhide hV715).below hr16)) | (go_at_call 107; refine (mulN _ _ _ _ _ (unhide hV716) hv16 sL sQ).mono ?_; rintro e w17 ⟨v17, rfl, hv17, hr17⟩; have hb17 := below_step hb16 hr17; have hv1417 := hv1416.below hr17) | (go_at_call 95; refine (settled_any s _ _ _ _ _ hv1417 hv17 m1 (unhide M2)).mono ?_; rintro e w18 ⟨v18, rfl, hv18, hr18⟩; have hb18 := below_step hb17 hr18; rw [unhide M3] at hv18; have HV18 := hide hv18; obtain ⟨ov8, un8, rfl, hov8, hun8⟩ := hv18; obtain ⟨a18, n18, c18, rfl, _, _⟩ := hov8; obtain ⟨a19, n19, c19, rfl, _, _⟩ := hun8; have ⟨_, hbx, hsz⟩ := unhide HS0 _ hb18; have ⟨g0, g1, g2, f0, f1, f2⟩ := box_cell hbx; have HBX := hide hbx; clear hbx))
 go_wp2
 have ⟨r1, r2⟩ := rat_boxed (w0 := w) (unhide HV18) (unhide HBX) (below_step (unhide HBW) hb18) (by omega) (Value.bool (decide ((qa + qb).num < 0))) (Value.slice a18 n18 c18) (Value.slice a19 n19 c19)
 exact bodyPost_ret (v := .agg #[.bool (decide ((qa + qb).num < 0)), .slice a18 n18 c18, .slice a19 n19 c19]) (by simp [results, Tryz.results72, go_sem, g0, g1, g2]) rfl ⟨_, rfl, r1, r2⟩
end Go.Proofs.YtcelbgleajpenaaGreatDoor
/- Fractions multiplied: numbers of any length. -/
namespace Go.Proofs.YtcelbgleajpenaaGreatDoor
open Go.RowKit Go.Sort Go.Shelf

theorem mul_math (a b : Rat) (s : Bool) (hs : sn s ((a.num.natAbs * b.num.natAbs : Nat) : Int) = a.num * b.num) :
  (a.den / Nat.gcd b.num.natAbs a.den) * (b.den / Nat.gcd a.num.natAbs b.den) ≠ 0 ∧
  (((a.num.natAbs / Nat.gcd a.num.natAbs b.den) * (b.num.natAbs / Nat.gcd b.num.natAbs a.den) : Nat) : Int).natAbs.gcd ((a.den / Nat.gcd b.num.natAbs a.den) * (b.den / Nat.gcd a.num.natAbs b.den)) = 1 ∧
  mkRat (sn s (((a.num.natAbs / Nat.gcd a.num.natAbs b.den) * (b.num.natAbs / Nat.gcd b.num.natAbs a.den) : Nat) : Int)) ((a.den / Nat.gcd b.num.natAbs a.den) * (b.den / Nat.gcd a.num.natAbs b.den)) = a * b := by
 have ra := a.reduced
 have rb := b.reduced
 have hda := a.den_pos
 have hdb := b.den_pos
 rw [Rat.mul_def']
 generalize hna : a.num.natAbs = na at *
 generalize hnb : b.num.natAbs = nb at *
 generalize a.den = da at *
 generalize b.den = db at *
 have l0 : 0 < Nat.gcd na db := Nat.gcd_pos_of_pos_right _ hdb
 have r0 : 0 < Nat.gcd nb da := Nat.gcd_pos_of_pos_right _ hda
 have c1 := Nat.coprime_div_gcd_div_gcd l0
 have c2 := Nat.coprime_div_gcd_div_gcd r0
 have d1 := Nat.gcd_dvd_left na db
 have d2 := Nat.gcd_dvd_right na db
 have d3 := Nat.gcd_dvd_left nb da
 have d4 := Nat.gcd_dvd_right nb da
 generalize Nat.gcd na db = l at *
 generalize Nat.gcd nb da = r at *
 have p1 : 0 < da / r := Nat.div_pos (Nat.le_of_dvd hda d4) r0
 have p2 : 0 < db / l := Nat.div_pos (Nat.le_of_dvd hdb d2) l0
 refine ⟨by have := Nat.mul_pos p1 p2; omega, ?_, ?_⟩
 ·rw [Int.natAbs_natCast]
  refine Nat.Coprime.mul_left (Nat.Coprime.mul_right ?_ c1) (Nat.Coprime.mul_right c2 ?_)
  ·exact Nat.Coprime.coprime_dvd_left (Nat.div_dvd_of_dvd d1) (Nat.Coprime.coprime_dvd_right (Nat.div_dvd_of_dvd d4) ra)
  ·exact Nat.Coprime.coprime_dvd_left (Nat.div_dvd_of_dvd d3) (Nat.Coprime.coprime_dvd_right (Nat.div_dvd_of_dvd d2) rb)
 ·have hlr : l * r ≠ 0 := by have := Nat.mul_pos l0 r0; omega
  rw [← Rat.mkRat_mul_left (a := l * r) hlr]
  have e1 : l * r * (da / r * (db / l)) = da * db := by
   rw [show l * r * (da / r * (db / l)) = (r * (da / r)) * (l * (db / l)) by grind, Nat.mul_div_cancel' d4, Nat.mul_div_cancel' d2]
  have e2 : l * r * (na / l * (nb / r)) = na * nb := by
   rw [show l * r * (na / l * (nb / r)) = (l * (na / l)) * (r * (nb / r)) by grind, Nat.mul_div_cancel' d1, Nat.mul_div_cancel' d3]
  rw [e1]
  congr 1
  rw [← hs, ← e2]
  cases s
  ·simp [sn]
  ·simp [sn, Int.mul_neg]

theorem sn_mul (x y : Int) : sn (!(decide (x < 0) == decide (y < 0))) ((x.natAbs * y.natAbs : Nat) : Int) = x * y := by
 rw [Int.natCast_mul]
 by_cases h1 : x < 0 <;> by_cases h2 : y < 0
 ·rw [decide_eq_true h1, decide_eq_true h2, show (x.natAbs : Int) = -x by omega, show (y.natAbs : Int) = -y by omega]
  exact Int.neg_mul_neg x y
 ·rw [decide_eq_true h1, decide_eq_false h2, show (x.natAbs : Int) = -x by omega, show (y.natAbs : Int) = y by omega]
  show -(-x * y) = x * y
  rw [Int.neg_mul, Int.neg_neg]
 ·rw [decide_eq_false h1, decide_eq_true h2, show (x.natAbs : Int) = x by omega, show (y.natAbs : Int) = -y by omega]
  show -(x * -y) = x * y
  rw [Int.mul_neg, Int.neg_neg]
 ·rw [decide_eq_false h1, decide_eq_false h2, show (x.natAbs : Int) = x by omega, show (y.natAbs : Int) = y by omega]
  rfl

theorem rat_zero (w : World) : RatIs w (.agg #[.bool false, .slice none 0 0, .slice none 0 0]) 0 :=
 ⟨.slice none 0 0, .slice none 0 0, rfl, natIs_zero w none 0 (by decide), natIs_zero w none 0 (by decide)⟩

set_option maxHeartbeats 8000000 in
set_option maxRecDepth 100000 in
theorem mulR_any (va vb : Value) (qa qb : Rat) (w : World) (ha : RatIs w va qa) (hb : RatIs w vb qb) (j : Nat) (hqa : RS qa j) (hqb : RS qb j) (hj : j + j + 1 ≤ KK) :
  Calls Tryz.prog 65 #[va, vb] w fun e w' => ∃ v, e = .returned v ∧ RatIs w' v (qa * qb) ∧ Below w.heap.size w w' := by
 obtain ⟨hn1, hd1⟩ := hqa
 obtain ⟨hn2, hd2⟩ := hqb
 have sd1 : Sm (qa.den : Int) := sm_of hd1 (by omega)
 have sd2 : Sm (qb.den : Int) := sm_of hd2 (by omega)
 have q1 : Sm (qa.num.natAbs : Int) := sm_of hn1 (by omega)
 have q2 : Sm (qb.num.natAbs : Int) := sm_of hn2 (by omega)
 have HA := hide ha
 have HB := hide hb
 obtain ⟨ov, un, rfl, h1, h2⟩ := ha
 obtain ⟨ov', un', rfl, h1', h2'⟩ := hb
 have HNa := hide h1
 have HNb := hide h1'
 obtain ⟨a, n, c, rfl, _, _⟩ := h1
 obtain ⟨a2, n2, c2, rfl, _, _⟩ := h2
 obtain ⟨b, m, d, rfl, _, _⟩ := h1'
 obtain ⟨b2, m2, d2, rfl, _, _⟩ := h2'
 have hsn := sn_mul qa.num qb.num
 obtain ⟨sa, hsa⟩ : ∃ s, decide (qa.num < 0) = s := ⟨_, rfl⟩
 obtain ⟨sb, hsb⟩ : ∃ s, decide (qb.num < 0) = s := ⟨_, rfl⟩
 rw [hsa] at HA
 rw [hsb] at HB
 rw [hsa, hsb] at hsn
 rw [hsa, hsb]
 obtain ⟨W, hW⟩ : ∃ W, ((w.alloc (.cells #[.bool sa, .slice a n c, .slice a2 n2 c2] 37)).alloc (.cells #[.bool sb, .slice b m d, .slice b2 m2 d2] 37)).alloc (.cells #[.bool false, .slice none 0 0, .slice none 0 0] 37) = W := ⟨_, rfl⟩
 have hbW : Below w.heap.size w W := by rw [← hW]; exact (((Below.refl _ _).alloc (Nat.le_refl _) _).alloc (by simp) _).alloc (by simp; omega) _
 have S0 : ∀ w', Below W.heap.size W w' → (w'.cell? ⟨w.heap.size, 0, none⟩ = some (.bool sa) ∧ w'.cell? ⟨w.heap.size, 1, none⟩ = some (.slice a n c) ∧ w'.cell? ⟨w.heap.size, 2, none⟩ = some (.slice a2 n2 c2) ∧
  w'.cell? ⟨w.heap.size + 1, 0, none⟩ = some (.bool sb) ∧ w'.cell? ⟨w.heap.size + 1, 1, none⟩ = some (.slice b m d) ∧ w'.cell? ⟨w.heap.size + 1, 2, none⟩ = some (.slice b2 m2 d2)) ∧
  w'.heap[w.heap.size + 2]? = some (.cells #[.bool false, .slice none 0 0, .slice none 0 0] 37) ∧ w.heap.size + 2 < w'.heap.size := fun w' h => by
  rw [← hW] at h
  exact three_boxes h
 have CA : ∀ w1, Below W.heap.size W w1 → Calls Tryz.prog 103 #[.agg #[.bool sa, .slice a n c, .slice a2 n2 c2]] w1 fun e w' => e = .returned (.int .i64 qa.num.sign) ∧ Below W.heap.size W w' := fun w1 h1 =>
  (sign_any _ qa w1 (((unhide HA).below hbW).below h1)).mono (by rintro e w' ⟨rfl, h⟩; exact ⟨rfl, below_step h1 h⟩)
 have CB : ∀ w1, Below W.heap.size W w1 → Calls Tryz.prog 103 #[.agg #[.bool sb, .slice b m d, .slice b2 m2 d2]] w1 fun e w' => e = .returned (.int .i64 qb.num.sign) ∧ Below W.heap.size W w' := fun w1 h1 =>
  (sign_any _ qb w1 (((unhide HB).below hbW).below h1)).mono (by rintro e w' ⟨rfl, h⟩; exact ⟨rfl, below_step h1 h⟩)
 have LA : ∀ w1, Below W.heap.size W w1 → Calls Tryz.prog 105 #[.agg #[.bool sa, .slice a n c, .slice a2 n2 c2]] w1 fun e w' => ∃ v, e = .returned v ∧ NatIs w' v qa.den ∧ Below w1.heap.size w1 w' ∧ Below W.heap.size W w' := fun w1 h1 =>
  (lower_any _ qa w1 (((unhide HA).below hbW).below h1)).mono (by rintro e w' ⟨v, rfl, hv, h⟩; exact ⟨v, rfl, hv, h, below_step h1 h⟩)
 have LB : ∀ w1, Below W.heap.size W w1 → Calls Tryz.prog 105 #[.agg #[.bool sb, .slice b m d, .slice b2 m2 d2]] w1 fun e w' => ∃ v, e = .returned v ∧ NatIs w' v qb.den ∧ Below w1.heap.size w1 w' ∧ Below W.heap.size W w' := fun w1 h1 =>
  (lower_any _ qb w1 (((unhide HB).below hbW).below h1)).mono (by rintro e w' ⟨v, rfl, hv, h⟩; exact ⟨v, rfl, hv, h, below_step h1 h⟩)
 have HS0 := hide S0
 have HCA := hide CA
 have HCB := hide CB
 have HLA := hide LA
 have HLB := hide LB
 have HWE := hide hW
 have HBW := hide hbW
 have hR := hide (Below.refl W.heap.size W)
 clear hW hbW S0 CA CB LA LB
 by_cases hz1 : qa.num = 0
 ·have hsn : qa.num.sign = 0 := by rw [hz1]; rfl
  have hq : qa * qb = 0 := by rw [Rat.num_eq_zero.1 hz1, Rat.zero_mul]
  rw [hq]
  rw [hsn] at HCA
  clear hsn hq hz1 hsa hsb
  go_enter Tryz.func65, Tryz.ntmps65
  go_wp2_with fail
  rw [unhide HWE]
  refine (unhide HCA _ (unhide hR)).mono ?_
  rintro e w1 ⟨rfl, hb1⟩
  have ⟨⟨k0, k1, k2, k3, k4, k5⟩, hbx, hsz⟩ := unhide HS0 _ hb1
  have ⟨g0, g1, g2, f0, f1, f2⟩ := box_cell hbx
  have HB1 := hide hb1
  have HBX := hide hbx
  clear hb1 hbx
  go_wp2
  have ⟨r1, r2⟩ := rat_boxed (w0 := w) (rat_zero w1) (unhide HBX) (below_step (unhide HBW) (unhide HB1)) (by omega) (Value.bool false) (Value.slice none 0 0) (Value.slice none 0 0)
  exact bodyPost_ret (v := .agg #[.bool false, .slice none 0 0, .slice none 0 0]) (by simp [results, Tryz.results65, go_sem, g0, g1, g2]) rfl ⟨_, rfl, r1, r2⟩
 have sz1 : (qa.num.sign == 0) = false := by rw [beq_eq_false_iff_ne]; intro h; exact hz1 (Int.sign_eq_zero_iff_zero.1 h)
 by_cases hz2 : qb.num = 0
 ·have hsn : qb.num.sign = 0 := by rw [hz2]; rfl
  have hq : qa * qb = 0 := by rw [Rat.num_eq_zero.1 hz2, Rat.mul_zero]
  rw [hq]
  rw [hsn] at HCB
  have bd := sign_bd qa.num
  generalize qa.num.sign = x at *
  clear hsn hq hz1 hz2 hsa hsb
  obtain ⟨bd1, bd2⟩ := bd
  go_enter Tryz.func65, Tryz.ntmps65
  go_wp2_with fail
  rw [unhide HWE]
  refine (unhide HCA _ (unhide hR)).mono ?_
  rintro e w1 ⟨rfl, hb1⟩
  have ⟨⟨k0, k1, k2, k3, k4, k5⟩, hbx, hsz⟩ := unhide HS0 _ hb1
  go_wp2_with fail
  refine (unhide HCB _ hb1).mono ?_
  rintro e w2 ⟨rfl, hb2⟩
  clear k0 k1 k2 k3 k4 k5 hbx hsz
  have ⟨⟨k0, k1, k2, k3, k4, k5⟩, hbx, hsz⟩ := unhide HS0 _ hb2
  have ⟨g0, g1, g2, f0, f1, f2⟩ := box_cell hbx
  have HB1 := hide hb2
  have HBX := hide hbx
  clear hb1 hb2 hbx
  go_wp2
  have ⟨r1, r2⟩ := rat_boxed (w0 := w) (rat_zero w2) (unhide HBX) (below_step (unhide HBW) (unhide HB1)) (by omega) (Value.bool false) (Value.slice none 0 0) (Value.slice none 0 0)
  exact bodyPost_ret (v := .agg #[.bool false, .slice none 0 0, .slice none 0 0]) (by simp [results, Tryz.results65, go_sem, g0, g1, g2]) rfl ⟨_, rfl, r1, r2⟩
 have sz2 : (qb.num.sign == 0) = false := by rw [beq_eq_false_iff_ne]; intro h; exact hz2 (Int.sign_eq_zero_iff_zero.1 h)
 obtain ⟨s, hs⟩ : ∃ s, (!(sa == sb)) = s := ⟨_, rfl⟩
 rw [hs] at hsn
 have hM := mul_math qa qb s hsn
 have hda := qa.den_pos
 have hdb := qb.den_pos
 obtain ⟨G, hG⟩ : ∃ G, Nat.gcd qa.num.natAbs qb.den = G := ⟨_, rfl⟩
 obtain ⟨H, hH⟩ : ∃ H, Nat.gcd qb.num.natAbs qa.den = H := ⟨_, rfl⟩
 have hGp : 0 < G := by rw [← hG]; exact Nat.gcd_pos_of_pos_right _ hdb
 have hHp : 0 < H := by rw [← hH]; exact Nat.gcd_pos_of_pos_right _ hda
 rw [hG, hH] at hM
 have s1 : Sm ((qa.num.natAbs / G : Nat) : Int) := sm_le (by have := Nat.div_le_self qa.num.natAbs G; omega) q1
 have s2 : Sm ((qb.num.natAbs / H : Nat) : Int) := sm_le (by have := Nat.div_le_self qb.num.natAbs H; omega) q2
 have s3 : Sm ((qa.den / H : Nat) : Int) := sm_le (by have := Nat.div_le_self qa.den H; omega) sd1
 have s4 : Sm ((qb.den / G : Nat) : Int) := sm_le (by have := Nat.div_le_self qb.den G; omega) sd2
 have HG := hide hG
 have HH := hide hH
 have HM := hide hM
 have bd1 := sign_bd qa.num
 have bd2 := sign_bd qb.num
 generalize qa.num.sign = x at *
 generalize qb.num.sign = y at *
 clear hz1 hz2 hsa hsb hM hG hH hsn hda hdb
 obtain ⟨bda, bdb⟩ := bd1
 obtain ⟨bdc, bdd⟩ := bd2
 go_enter Tryz.func65, Tryz.ntmps65
 go_wp2_with fail
 rw [unhide HWE]
 refine (unhide HCA _ (unhide hR)).mono ?_
 rintro e w1 ⟨rfl, hb1⟩
 have ⟨⟨k0, k1, k2, k3, k4, k5⟩, hbx, hsz⟩ := unhide HS0 _ hb1
 go_wp2_with fail
 refine (unhide HCB _ hb1).mono ?_
 rintro e w2 ⟨rfl, hb2⟩
 clear k0 k1 k2 k3 k4 k5 hbx hsz
 clear hb1
 go_wp2_with fail
 go_region_held3 (fun w' => w'.cell? ⟨w.heap.size, 0, none⟩ = some (.bool sa) ∧ w'.cell? ⟨w.heap.size, 1, none⟩ = some (.slice a n c) ∧ w'.cell? ⟨w.heap.size, 2, none⟩ = some (.slice a2 n2 c2) ∧
  w'.cell? ⟨w.heap.size + 1, 0, none⟩ = some (.bool sb) ∧ w'.cell? ⟨w.heap.size + 1, 1, none⟩ = some (.slice b m d) ∧ w'.cell? ⟨w.heap.size + 1, 2, none⟩ = some (.slice b2 m2 d2)) (first | exact (unhide HS0 _ (by assumption)).1 | exact (unhide HS0 _ (Below.drew (by assumption))).1 | go_keep)
  (first | (go_at_call_of 105 (Value.agg #[.bool sb, .slice b m d, .slice b2 m2 d2]); refine (unhide HLB _ ?_).mono ?_; (first | assumption | exact Below.drew (by assumption)); rintro e w3 ⟨v3, rfl, hv3, hr3, hb3⟩) | (go_at_call 104; refine (gcdM _ _ _ _ _ ((unhide HNa).below (below_step (unhide HBW) hb3)) hv3 q1 sd2).mono ?_; rintro e w4 ⟨v4, rfl, hv4, hr4⟩; have hb4 := below_step hb3 hr4))
 rw [unhide HG] at hv4
 have hV4 := hide hv4
 obtain ⟨a4, n4, c4, rfl, _, _⟩ := hv4
 clear hv3 hr3 hr4 hb3 hb2
 go_wp2_with fail
 go_region_held3 (fun w' => w'.cell? ⟨w.heap.size, 0, none⟩ = some (.bool sa) ∧ w'.cell? ⟨w.heap.size, 1, none⟩ = some (.slice a n c) ∧ w'.cell? ⟨w.heap.size, 2, none⟩ = some (.slice a2 n2 c2) ∧
  w'.cell? ⟨w.heap.size + 1, 0, none⟩ = some (.bool sb) ∧ w'.cell? ⟨w.heap.size + 1, 1, none⟩ = some (.slice b m d) ∧ w'.cell? ⟨w.heap.size + 1, 2, none⟩ = some (.slice b2 m2 d2)) (first | exact (unhide HS0 _ (by assumption)).1 | exact (unhide HS0 _ (Below.drew (by assumption))).1 | go_keep)
  (first | (go_at_call_of 105 (Value.agg #[.bool sa, .slice a n c, .slice a2 n2 c2]); refine (unhide HLA _ ?_).mono ?_; (first | assumption | exact Below.drew (by assumption)); rintro e w5 ⟨v5, rfl, hv5, hr5, hb5⟩; have hV45 := hide (((unhide hV4).below (below_drew_ge _ _)).below hr5)) | (go_at_call 104; refine (gcdM _ _ _ _ _ ((unhide HNb).below (below_step (unhide HBW) hb5)) hv5 q2 sd1).mono ?_; rintro e w6 ⟨v6, rfl, hv6, hr6⟩; have hb6 := below_step hb5 hr6; have hV46 := hide ((unhide hV45).below hr6)))
 rw [unhide HH] at hv6
 have hV6 := hide hv6
 obtain ⟨a6, n6, c6, rfl, _, _⟩ := hv6
 clear hv5 hr5 hr6 hb5 hb4 hV4 hV45
 go_wp2_with fail
 go_region_held3 (fun w' => w'.cell? ⟨w.heap.size, 0, none⟩ = some (.bool sa) ∧ w'.cell? ⟨w.heap.size, 1, none⟩ = some (.slice a n c) ∧ w'.cell? ⟨w.heap.size, 2, none⟩ = some (.slice a2 n2 c2) ∧
  w'.cell? ⟨w.heap.size + 1, 0, none⟩ = some (.bool sb) ∧ w'.cell? ⟨w.heap.size + 1, 1, none⟩ = some (.slice b m d) ∧ w'.cell? ⟨w.heap.size + 1, 2, none⟩ = some (.slice b2 m2 d2)) (first | exact (unhide HS0 _ (by assumption)).1 | exact (unhide HS0 _ (Below.drew (by assumption))).1 | go_keep)
  (first | (go_at_call_of 106 (Value.slice a n c); refine (quotM _ _ _ _ _ ((unhide HNa).below ((below_step (unhide HBW) hb6).trans (below_drew_ge _ _))) ((unhide hV46).below (below_drew_ge _ _)) q1 (by omega)).mono ?_; rintro e w7 ⟨v7, rfl, hv7, hr7⟩; have hb7 := below_step (hb6.trans (below_drew_ge _ _)) hr7; have hV47 := hide (((unhide hV46).below (below_drew_ge _ _)).below hr7); have hV67 := hide (((unhide hV6).below (below_drew_ge _ _)).below hr7)) | (go_at_call_of 106 (Value.slice b m d); refine (quotM _ _ _ _ _ ((unhide HNb).below (below_step (unhide HBW) hb7)) (unhide hV67) q2 (by omega)).mono ?_; rintro e w8 ⟨v8, rfl, hv8, hr8⟩; have hb8 := below_step hb7 hr8; have hv78 := hv7.below hr8; have hV48 := hide ((unhide hV47).below hr8); have hV68 := hide ((unhide hV67).below hr8)) | (go_at_call 107; refine (mulN _ _ _ _ _ hv78 hv8 s1 s2).mono ?_; rintro e w9 ⟨v9, rfl, hv9, hr9⟩; have hb9 := below_step hb8 hr9; have hV49 := hide ((unhide hV48).below hr9); have hV69 := hide ((unhide hV68).below hr9)))
 have hV9 := hide hv9
 obtain ⟨a9, n9, c9, rfl, _, _⟩ := hv9
 clear hv7 hv8 hv78 hr7 hr8 hr9 hb6 hb7 hb8 hV46 hV6 hV47 hV67 hV48 hV68
 go_wp2_with fail
 go_region_held3 (fun w' => w'.cell? ⟨w.heap.size, 0, none⟩ = some (.bool sa) ∧ w'.cell? ⟨w.heap.size, 1, none⟩ = some (.slice a n c) ∧ w'.cell? ⟨w.heap.size, 2, none⟩ = some (.slice a2 n2 c2) ∧
  w'.cell? ⟨w.heap.size + 1, 0, none⟩ = some (.bool sb) ∧ w'.cell? ⟨w.heap.size + 1, 1, none⟩ = some (.slice b m d) ∧ w'.cell? ⟨w.heap.size + 1, 2, none⟩ = some (.slice b2 m2 d2)) (first | exact (unhide HS0 _ (by assumption)).1 | exact (unhide HS0 _ (Below.drew (by assumption))).1 | go_keep)
  (first | (go_at_call_of 105 (Value.agg #[.bool sa, .slice a n c, .slice a2 n2 c2]); refine (unhide HLA _ ?_).mono ?_; (first | assumption | exact Below.drew (by assumption)); rintro e w10 ⟨v10, rfl, hv10, hr10, hb10⟩; have hV910 := hide (((unhide hV9).below (below_drew_ge _ _)).below hr10); have hV410 := hide (((unhide hV49).below (below_drew_ge _ _)).below hr10); have hV610 := hide (((unhide hV69).below (below_drew_ge _ _)).below hr10)) | (go_at_call_of 106 (Value.slice a6 n6 c6); refine (quotM _ _ _ _ _ hv10 (unhide hV610) sd1 (by omega)).mono ?_; rintro e w11 ⟨v11, rfl, hv11, hr11⟩; have hb11 := below_step hb10 hr11; have hV911 := hide ((unhide hV910).below hr11); have hV411 := hide ((unhide hV410).below hr11)) | (go_at_call_of 105 (Value.agg #[.bool sb, .slice b m d, .slice b2 m2 d2]); refine (unhide HLB _ hb11).mono ?_; rintro e w12 ⟨v12, rfl, hv12, hr12, hb12⟩; have hv1112 := hv11.below hr12; have hV912 := hide ((unhide hV911).below hr12); have hV412 := hide ((unhide hV411).below hr12)) | (go_at_call_of 106 (Value.slice a4 n4 c4); refine (quotM _ _ _ _ _ hv12 (unhide hV412) sd2 (by omega)).mono ?_; rintro e w13 ⟨v13, rfl, hv13, hr13⟩; have hb13 := below_step hb12 hr13; have hv1113 := hv1112.below hr13; have hV913 := hide ((unhide hV912).below hr13)) | (go_at_call 107; refine (mulN _ _ _ _ _ hv1113 hv13 s3 s4).mono ?_; rintro e w14 ⟨v14, rfl, hv14, hr14⟩; have hb14 := below_step hb13 hr14; have hV914 := hide ((unhide hV913).below hr14)))
 have hV14 := hide hv14
 obtain ⟨a14, n14, c14, rfl, _, _⟩ := hv14
 obtain ⟨m1, m2', m3⟩ := unhide HM
 have M2 := hide m2'
 have M3 := hide m3
 clear hv10 hv11 hv1112 hv1113 hv12 hv13 hr10 hr11 hr12 hr13 hr14 hb9 hb10 hb11 hb12 hb13 hV9 hV49 hV69 hV910 hV410 hV610 hV911 hV411 hV912 hV412 hV913 m2' m3
 have ⟨⟨k0, k1, k2, k3, k4, k5⟩, hbx, hsz⟩ := unhide HS0 _ hb14
 go_wp2_with fail
 refine (settled_any s _ _ _ _ _ (unhide hV914) (unhide hV14) m1 (unhide M2)).mono ?_
 rintro e w18 ⟨v18, rfl, hv18, hr18⟩
 have hb18 := below_step hb14 hr18
 rw [unhide M3] at hv18
 have HV18 := hide hv18
 obtain ⟨ov8, un8, rfl, hov8, hun8⟩ := hv18
 obtain ⟨a18, n18, c18, rfl, _, _⟩ := hov8
 obtain ⟨a19, n19, c19, rfl, _, _⟩ := hun8
 clear k0 k1 k2 k3 k4 k5 hbx hsz
 have ⟨_, hbx, hsz⟩ := unhide HS0 _ hb18
 have ⟨g0, g1, g2, f0, f1, f2⟩ := box_cell hbx
 have HBX := hide hbx
 clear hbx
 go_wp2
 have ⟨r1, r2⟩ := rat_boxed (w0 := w) (unhide HV18) (unhide HBX) (below_step (unhide HBW) hb18) (by omega) (Value.bool (decide ((qa * qb).num < 0))) (Value.slice a18 n18 c18) (Value.slice a19 n19 c19)
 exact bodyPost_ret (v := .agg #[.bool (decide ((qa * qb).num < 0)), .slice a18 n18 c18, .slice a19 n19 c19]) (by simp [results, Tryz.results65, go_sem, g0, g1, g2]) rfl ⟨_, rfl, r1, r2⟩
end Go.Proofs.YtcelbgleajpenaaGreatDoor
/- Fractions turned, taken away, divided: numbers of any length. -/
namespace Go.Proofs.YtcelbgleajpenaaGreatDoor
open Go.RowKit Go.Sort Go.Shelf

theorem turned_math (q : Rat) : mkRat (sn (!decide (q.num < 0)) (q.num.natAbs : Int)) q.den = -q := by
 have e : sn (!decide (q.num < 0)) (q.num.natAbs : Int) = -q.num := by
  by_cases h : q.num < 0
  ·rw [decide_eq_true h]; show (q.num.natAbs : Int) = -q.num; omega
  ·rw [decide_eq_false h]; show -(q.num.natAbs : Int) = -q.num; omega
 rw [e]
 have := Rat.mkRat_self (-q)
 rw [Rat.neg_num, Rat.neg_den] at this
 exact this

theorem three_store {w w' : World} {x0 x1 x2 : Value} (h : w'.cell? ⟨w.heap.size, 0, none⟩ = some x0 ∧ w'.cell? ⟨w.heap.size, 1, none⟩ = some x1 ∧ w'.cell? ⟨w.heap.size, 2, none⟩ = some x2) (z0 z1 z2 : Value) :
  (((w'.setCell ⟨w.heap.size + 1, 0, none⟩ z0).setCell ⟨w.heap.size + 1, 1, none⟩ z1).setCell ⟨w.heap.size + 1, 2, none⟩ z2).cell? ⟨w.heap.size, 0, none⟩ = some x0 ∧
  (((w'.setCell ⟨w.heap.size + 1, 0, none⟩ z0).setCell ⟨w.heap.size + 1, 1, none⟩ z1).setCell ⟨w.heap.size + 1, 2, none⟩ z2).cell? ⟨w.heap.size, 1, none⟩ = some x1 ∧
  (((w'.setCell ⟨w.heap.size + 1, 0, none⟩ z0).setCell ⟨w.heap.size + 1, 1, none⟩ z1).setCell ⟨w.heap.size + 1, 2, none⟩ z2).cell? ⟨w.heap.size, 2, none⟩ = some x2 := by
 have e : ∀ (k o : Nat), k ≠ w.heap.size + 1 → (((w'.setCell ⟨w.heap.size + 1, 0, none⟩ z0).setCell ⟨w.heap.size + 1, 1, none⟩ z1).setCell ⟨w.heap.size + 1, 2, none⟩ z2).cell? ⟨k, o, none⟩ = w'.cell? ⟨k, o, none⟩ := fun k o hk =>
  World.cell?_of_block (w := w') (a := ⟨k, o, none⟩) (by rw [Below.heap_setCell _ _ _ _ hk, Below.heap_setCell _ _ _ _ hk, Below.heap_setCell _ _ _ _ hk])
 obtain ⟨h1, h2, h3⟩ := h
 exact ⟨by rw [e _ _ (by omega)]; exact h1, by rw [e _ _ (by omega)]; exact h2, by rw [e _ _ (by omega)]; exact h3⟩

set_option maxHeartbeats 4000000 in
set_option maxRecDepth 100000 in
theorem turned_any (va : Value) (q : Rat) (w : World) (ha : RatIs w va q) :
  Calls Tryz.prog 99 #[va] w fun e w' => ∃ v, e = .returned v ∧ RatIs w' v (-q) ∧ Below w.heap.size w w' := by
 have HA := hide ha
 obtain ⟨ov, un, rfl, h1, h2⟩ := ha
 have HNa := hide h1
 obtain ⟨a, n, c, rfl, _, _⟩ := h1
 obtain ⟨a2, n2, c2, rfl, _, _⟩ := h2
 have HM := hide (turned_math q)
 have HR := hide q.reduced
 have hdz := q.den_nz
 obtain ⟨sa, hsa⟩ : ∃ s, decide (q.num < 0) = s := ⟨_, rfl⟩
 rw [hsa] at HA HM ⊢
 obtain ⟨q', hq'⟩ : ∃ x, -q = x := ⟨_, rfl⟩
 rw [hq'] at HM ⊢
 clear hq'
 obtain ⟨W, hW⟩ : ∃ W, (w.alloc (.cells #[.bool sa, .slice a n c, .slice a2 n2 c2] 37)).alloc (.cells #[.bool false, .slice none 0 0, .slice none 0 0] 37) = W := ⟨_, rfl⟩
 have hbW : Below w.heap.size w W := by rw [← hW]; exact ((Below.refl _ _).alloc (Nat.le_refl _) _).alloc (by simp) _
 have S0 : ∀ w', Below W.heap.size W w' → (w'.cell? ⟨w.heap.size, 0, none⟩ = some (.bool sa) ∧ w'.cell? ⟨w.heap.size, 1, none⟩ = some (.slice a n c) ∧ w'.cell? ⟨w.heap.size, 2, none⟩ = some (.slice a2 n2 c2)) ∧
  w'.heap[w.heap.size + 1]? = some (.cells #[.bool false, .slice none 0 0, .slice none 0 0] 37) ∧ w.heap.size + 1 < w'.heap.size := fun w' h => by
  rw [← hW] at h
  have h3 := box3 h
  have h2 := two_boxes h
  refine ⟨⟨h2.1, h2.2.1, h2.2.2.1⟩, ?_⟩
  simpa using h3
 have LA : ∀ w1, Below W.heap.size W w1 → Calls Tryz.prog 105 #[.agg #[.bool sa, .slice a n c, .slice a2 n2 c2]] w1 fun e w' => ∃ v, e = .returned v ∧ NatIs w' v q.den ∧ Below w1.heap.size w1 w' ∧ Below W.heap.size W w' := fun w1 h1 =>
  (lower_any _ q w1 (((unhide HA).below hbW).below h1)).mono (by rintro e w' ⟨v, rfl, hv, h⟩; exact ⟨v, rfl, hv, h, below_step h1 h⟩)
 have HS0 := hide S0
 have HLA := hide LA
 have HWE := hide hW
 have HBW := hide hbW
 have hR := hide (Below.refl W.heap.size W)
 have hR2 := Below.refl W.heap.size W
 clear hW hbW S0 LA hsa
 go_enter Tryz.func99, Tryz.ntmps99
 go_wp2_with fail
 rw [unhide HWE]
 go_region_held3 (fun w' => w'.cell? ⟨w.heap.size, 0, none⟩ = some (.bool sa) ∧ w'.cell? ⟨w.heap.size, 1, none⟩ = some (.slice a n c) ∧ w'.cell? ⟨w.heap.size, 2, none⟩ = some (.slice a2 n2 c2)) (first | exact (unhide HS0 _ (by assumption)).1 | exact (unhide HS0 _ (Below.drew (by assumption))).1 | exact three_store (unhide HS0 _ (by assumption)).1 _ _ _)
  (first | (go_at_call 105; refine (unhide HLA _ ?_).mono ?_; (first | assumption | exact Below.drew (by assumption)); rintro e w3 ⟨v3, rfl, hv3, hr3, hb3⟩) | (go_at_call 95; refine (settled_any (!sa) _ _ _ _ _ ((unhide HNa).below (below_step (unhide HBW) hb3)) hv3 hdz (unhide HR)).mono ?_; rintro e w18 ⟨v18, rfl, hv18, hr18⟩; have hb18 := below_step hb3 hr18; rw [unhide HM] at hv18; have HV18 := hide hv18; obtain ⟨ov8, un8, rfl, hov8, hun8⟩ := hv18; obtain ⟨a18, n18, c18, rfl, _, _⟩ := hov8; obtain ⟨a19, n19, c19, rfl, _, _⟩ := hun8; have ⟨_, hbx, hsz⟩ := unhide HS0 _ hb18; have ⟨g0, g1, g2, f0, f1, f2⟩ := box_cell hbx; have HBX := hide hbx; clear hbx))
 go_wp2
 have ⟨r1, r2⟩ := rat_boxed (w0 := w) (unhide HV18) (unhide HBX) (below_step (unhide HBW) hb18) (by omega) (Value.bool (decide (q'.num < 0))) (Value.slice a18 n18 c18) (Value.slice a19 n19 c19)
 exact bodyPost_ret (v := .agg #[.bool (decide (q'.num < 0)), .slice a18 n18 c18, .slice a19 n19 c19]) (by simp [results, Tryz.results99, go_sem, g0, g1, g2]) rfl ⟨_, rfl, r1, r2⟩

theorem RS.neg {q : Rat} {j : Nat} (h : RS q j) : RS (-q) j := by
 obtain ⟨h1, h2⟩ := h
 refine ⟨?_, by rw [Rat.neg_den]; exact h2⟩
 rw [Rat.neg_num, Int.natAbs_neg]; exact h1

set_option maxHeartbeats 4000000 in
set_option maxRecDepth 100000 in
theorem subR_any (va vb : Value) (qa qb : Rat) (w : World) (ha : RatIs w va qa) (hb : RatIs w vb qb) (j : Nat) (hqa : RS qa j) (hqb : RS qb j) (hj : j + j + 1 ≤ KK) :
  Calls Tryz.prog 53 #[va, vb] w fun e w' => ∃ v, e = .returned v ∧ RatIs w' v (qa - qb) ∧ Below w.heap.size w w' := by
 have HA := hide ha
 have HB := hide hb
 obtain ⟨ov, un, rfl, h1, h2⟩ := ha
 obtain ⟨ov', un', rfl, h1', h2'⟩ := hb
 obtain ⟨a, n, c, rfl, _, _⟩ := h1
 obtain ⟨a2, n2, c2, rfl, _, _⟩ := h2
 obtain ⟨b, m, d, rfl, _, _⟩ := h1'
 obtain ⟨b2, m2, d2, rfl, _, _⟩ := h2'
 obtain ⟨sa, hsa⟩ : ∃ s, decide (qa.num < 0) = s := ⟨_, rfl⟩
 obtain ⟨sb, hsb⟩ : ∃ s, decide (qb.num < 0) = s := ⟨_, rfl⟩
 rw [hsa] at HA
 rw [hsb] at HB
 rw [hsa, hsb]
 obtain ⟨W, hW⟩ : ∃ W, ((w.alloc (.cells #[.bool sa, .slice a n c, .slice a2 n2 c2] 37)).alloc (.cells #[.bool sb, .slice b m d, .slice b2 m2 d2] 37)).alloc (.cells #[.bool false, .slice none 0 0, .slice none 0 0] 37) = W := ⟨_, rfl⟩
 have hbW : Below w.heap.size w W := by rw [← hW]; exact (((Below.refl _ _).alloc (Nat.le_refl _) _).alloc (by simp) _).alloc (by simp; omega) _
 have S0 : ∀ w', Below W.heap.size W w' → (w'.cell? ⟨w.heap.size, 0, none⟩ = some (.bool sa) ∧ w'.cell? ⟨w.heap.size, 1, none⟩ = some (.slice a n c) ∧ w'.cell? ⟨w.heap.size, 2, none⟩ = some (.slice a2 n2 c2) ∧
  w'.cell? ⟨w.heap.size + 1, 0, none⟩ = some (.bool sb) ∧ w'.cell? ⟨w.heap.size + 1, 1, none⟩ = some (.slice b m d) ∧ w'.cell? ⟨w.heap.size + 1, 2, none⟩ = some (.slice b2 m2 d2)) ∧
  w'.heap[w.heap.size + 2]? = some (.cells #[.bool false, .slice none 0 0, .slice none 0 0] 37) ∧ w.heap.size + 2 < w'.heap.size := fun w' h => by
  rw [← hW] at h
  exact three_boxes h
 have TB : ∀ w1, Below W.heap.size W w1 → Calls Tryz.prog 99 #[.agg #[.bool sb, .slice b m d, .slice b2 m2 d2]] w1 fun e w' => ∃ v, e = .returned v ∧ RatIs w' v (-qb) ∧ Below W.heap.size W w' := fun w1 h1 =>
  (turned_any _ qb w1 (((unhide HB).below hbW).below h1)).mono (by rintro e w' ⟨v, rfl, hv, h⟩; exact ⟨v, rfl, hv, below_step h1 h⟩)
 have AD : ∀ w1 v, Below W.heap.size W w1 → RatIs w1 v (-qb) → Calls Tryz.prog 72 #[.agg #[.bool sa, .slice a n c, .slice a2 n2 c2], v] w1 fun e w' => ∃ v, e = .returned v ∧ RatIs w' v (qa - qb) ∧ Below W.heap.size W w' := fun w1 v h1 hv => by
  rw [Rat.sub_eq_add_neg]
  exact (addR_any _ _ qa (-qb) w1 (((unhide HA).below hbW).below h1) hv j hqa hqb.neg hj).mono (by rintro e w' ⟨v, rfl, hv, h⟩; exact ⟨v, rfl, hv, below_step h1 h⟩)
 have HS0 := hide S0
 have HTB := hide TB
 have HAD := hide AD
 have HWE := hide hW
 have HBW := hide hbW
 have hR2 := Below.refl W.heap.size W
 clear hW hbW S0 TB AD hsa hsb
 go_enter Tryz.func53, Tryz.ntmps53
 go_wp2_with fail
 rw [unhide HWE]
 go_region_held3 (fun w' => w'.cell? ⟨w.heap.size, 0, none⟩ = some (.bool sa) ∧ w'.cell? ⟨w.heap.size, 1, none⟩ = some (.slice a n c) ∧ w'.cell? ⟨w.heap.size, 2, none⟩ = some (.slice a2 n2 c2) ∧
  w'.cell? ⟨w.heap.size + 1, 0, none⟩ = some (.bool sb) ∧ w'.cell? ⟨w.heap.size + 1, 1, none⟩ = some (.slice b m d) ∧ w'.cell? ⟨w.heap.size + 1, 2, none⟩ = some (.slice b2 m2 d2)) (first | exact (unhide HS0 _ (by assumption)).1 | exact (unhide HS0 _ (Below.drew (by assumption))).1 | exact six_store (unhide HS0 _ (by assumption)).1 _ _ _)
  (first | (go_at_call 99; refine (unhide HTB _ ?_).mono ?_; (first | assumption | exact Below.drew (by assumption)); rintro e w3 ⟨v3, rfl, hv3, hb3⟩) | (go_at_call 72; refine (unhide HAD _ _ hb3 hv3).mono ?_; rintro e w18 ⟨v18, rfl, hv18, hb18⟩; have HV18 := hide hv18; obtain ⟨ov8, un8, rfl, hov8, hun8⟩ := hv18; obtain ⟨a18, n18, c18, rfl, _, _⟩ := hov8; obtain ⟨a19, n19, c19, rfl, _, _⟩ := hun8; have ⟨_, hbx, hsz⟩ := unhide HS0 _ hb18; have ⟨g0, g1, g2, f0, f1, f2⟩ := box_cell hbx; have HBX := hide hbx; clear hbx))
 go_wp2
 have ⟨r1, r2⟩ := rat_boxed (w0 := w) (unhide HV18) (unhide HBX) (below_step (unhide HBW) hb18) (by omega) (Value.bool (decide ((qa - qb).num < 0))) (Value.slice a18 n18 c18) (Value.slice a19 n19 c19)
 exact bodyPost_ret (v := .agg #[.bool (decide ((qa - qb).num < 0)), .slice a18 n18 c18, .slice a19 n19 c19]) (by simp [results, Tryz.results53, go_sem, g0, g1, g2]) rfl ⟨_, rfl, r1, r2⟩
end Go.Proofs.YtcelbgleajpenaaGreatDoor
