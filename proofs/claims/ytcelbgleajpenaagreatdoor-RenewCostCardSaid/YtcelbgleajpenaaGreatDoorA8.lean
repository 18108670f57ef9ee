/- Fractions in memory: settled, lowered, made of two whole numbers; the sign. -/
import Derived.Test.YtcelbgleajpenaaGreatDoorA5
import Derived.Deep.RegionHeld3
namespace Go.Proofs.YtcelbgleajpenaaGreatDoor
open Go.RowKit Go.Sort Go.Shelf

def low (d : Nat) : Int := if d = 1 then 0 else d
def RatIs (w : World) (v : Value) (q : Rat) : Prop := ∃ ov un, v = .agg #[.bool (decide (q.num < 0)), ov, un] ∧ NatIs w ov (q.num.natAbs : Int) ∧ NatIs w un (low q.den)

theorem RatIs.below {w w' : World} {v : Value} {q : Rat} (h : RatIs w v q) (hb : Below w.heap.size w w') : RatIs w' v q := by
 obtain ⟨ov, un, e, h1, h2⟩ := h
 exact ⟨ov, un, e, h1.below hb, h2.below hb⟩

theorem rat_parts (z : Int) (U : Nat) (hU : U ≠ 0) (h : z.natAbs.gcd U = 1) : (mkRat z U).num = z ∧ (mkRat z U).den = U := by
 have e : mkRat z U = ⟨z, U, hU, h⟩ := (Rat.mk_eq_mkRat z U hU h).symm
 rw [e]; exact ⟨rfl, rfl⟩

def sn (s : Bool) (N : Int) : Int := if s then -N else N
theorem sn_abs (s : Bool) (N : Int) : (sn s N).natAbs = N.natAbs := by cases s <;> simp [sn]
theorem sn_neg {s : Bool} {N : Int} (h : 0 < N) : decide (sn s N < 0) = s := by cases s <;> simp [sn] <;> omega

set_option maxHeartbeats 1000000 in
theorem settled_any (s : Bool) (vo vu : Value) (O : Int) (U : Nat) (w : World) (ho : NatIs w vo O) (hu : NatIs w vu U) (hU : U ≠ 0) (hc : O.natAbs.gcd U = 1) :
  Calls Tryz.prog 95 #[.bool s, vo, vu] w fun e w' => ∃ v, e = .returned v ∧ RatIs w' v (mkRat (sn s O) U) ∧ Below w.heap.size w w' := by
 have ⟨p1, p2⟩ := rat_parts (sn s O) U hU (by rw [sn_abs]; exact hc)
 have HU := hide hu
 have HO := hide ho
 have HI := hide (isOne_any vu U (w.alloc (.cells #[.bool false, .slice none 0 0, .slice none 0 0] 37)) (hu.below ((Below.refl _ _).alloc (Nat.le_refl _) _)))
 have hO := ho.nn
 obtain ⟨a, n, c, rfl, hl, hra⟩ := ho
 obtain ⟨a', n', c', rfl, hl', hrb⟩ := hu
 have HP1 := hide p1
 have HP2 := hide p2
 by_cases hz : n = 0
 ·subst hz
  have hO0 := hl.zero
  subst hO0
  have hU1 : U = 1 := by simpa using hc
  subst hU1
  clear hl hl' hra hrb p1 p2 HI hc
  go_enter Tryz.func95, Tryz.ntmps95
  go_wp2
  refine bodyPost_ret (v := .agg #[.bool false, .slice none 0 0, .slice none 0 0]) (by simp [results, Tryz.results95, go_sem]) rfl ⟨_, rfl, ?_, (Below.refl _ _).alloc (Nat.le_refl _) _⟩
  refine ⟨.slice none 0 0, .slice none 0 0, ?_, ?_, ?_⟩
  ·rw [unhide HP1]; cases s <;> rfl
  ·rw [unhide HP1, sn_abs]; exact natIs_zero _ _ _ (by decide)
  ·rw [unhide HP2]; exact natIs_zero _ _ _ (by decide)
 ·have hO1 := hl.pos (by omega)
  have hz' : ((n : Int) == 0) = false := by rw [beq_eq_false_iff_ne]; omega
  have HS := hide (sn_neg (s := s) hO1)
  clear hl hl' hra hrb p1 p2 hc
  by_cases h1 : U = 1
  ·subst h1
   rw [show (((1 : Nat) : Int) == 1) = true from rfl] at HI
   go_enter Tryz.func95, Tryz.ntmps95
   go_wp2_with fail
   refine (unhide HI).mono ?_
   rintro e w' ⟨rfl, hw'⟩
   subst hw'
   go_wp2
   refine bodyPost_ret (v := .agg #[.bool s, .slice a n c, .slice none 0 0]) (by simp [results, Tryz.results95, go_sem]) rfl ⟨_, rfl, ?_, (Below.refl _ _).alloc (Nat.le_refl _) _⟩
   refine ⟨.slice a n c, .slice none 0 0, ?_, ?_, ?_⟩
   ·rw [unhide HP1, unhide HS]
   ·rw [unhide HP1, sn_abs, show (O.natAbs : Int) = O by omega]; exact (unhide HO).below ((Below.refl _ _).alloc (Nat.le_refl _) _)
   ·rw [unhide HP2]; exact natIs_zero _ _ _ (by decide)
  ·rw [show ((U : Int) == 1) = false by rw [beq_eq_false_iff_ne]; omega] at HI
   go_enter Tryz.func95, Tryz.ntmps95
   go_wp2_with fail
   refine (unhide HI).mono ?_
   rintro e w' ⟨rfl, hw'⟩
   subst hw'
   go_wp2
   refine bodyPost_ret (v := .agg #[.bool s, .slice a n c, .slice a' n' c']) (by simp [results, Tryz.results95, go_sem]) rfl ⟨_, rfl, ?_, (Below.refl _ _).alloc (Nat.le_refl _) _⟩
   refine ⟨.slice a n c, .slice a' n' c', ?_, ?_, ?_⟩
   ·rw [unhide HP1, unhide HS]
   ·rw [unhide HP1, sn_abs, show (O.natAbs : Int) = O by omega]; exact (unhide HO).below ((Below.refl _ _).alloc (Nat.le_refl _) _)
   ·rw [unhide HP2, show low U = U by simp [low, h1]]; exact (unhide HU).below ((Below.refl _ _).alloc (Nat.le_refl _) _)

theorem alloc_below (w : World) (o : Obj) : Below w.heap.size w (w.alloc o) := (Below.refl _ _).alloc (Nat.le_refl _) _

set_option maxHeartbeats 1000000 in
theorem lower_any (v : Value) (q : Rat) (w : World) (h : RatIs w v q) :
  Calls Tryz.prog 105 #[v] w fun e w' => ∃ v, e = .returned v ∧ NatIs w' v q.den ∧ Below w.heap.size w w' := by
 obtain ⟨ov, un, rfl, h1, h2⟩ := h
 have HU := hide h2
 obtain ⟨a, n, c, rfl, hl, hra⟩ := h1
 obtain ⟨a', n', c', rfl, hl', hrb⟩ := h2
 clear hl hra hrb
 by_cases hd : q.den = 1
 ·rw [hd] at hl'
  have hz : n' = 0 := hl'.of_zero
  subst hz
  have HD := hide hd
  clear hd hl'
  go_enter Tryz.func105, Tryz.ntmps105
  go_wp2_with (go_at_call 98; refine (one_any _).mono ?_; rintro e w1 ⟨v1, rfl, hv1, hb1⟩)
  go_ret
  refine ⟨_, rfl, ?_, (alloc_below w _).trans (hb1.mono (by simp))⟩
  rw [unhide HD]
  exact hv1
 ·have hz : n' ≠ 0 := by
   intro h
   subst h
   have := hl'.zero
   simp [low, hd] at this
   exact q.den_nz this
  have hz' : ((n' : Int) == 0) = false := by rw [beq_eq_false_iff_ne]; omega
  have HD := hide (show low q.den = q.den by simp [low, hd])
  clear hd hl' hz
  go_enter Tryz.func105, Tryz.ntmps105
  go_wp2
  go_ret
  refine ⟨_, rfl, ?_, alloc_below w _⟩
  rw [← unhide HD]
  exact (unhide HU).below (alloc_below w _)

set_option maxHeartbeats 1000000 in
theorem sign_any (v : Value) (q : Rat) (w : World) (h : RatIs w v q) :
  Calls Tryz.prog 103 #[v] w fun e w' => e = .returned (.int .i64 q.num.sign) ∧ Below w.heap.size w w' := by
 obtain ⟨ov, un, rfl, h1, h2⟩ := h
 obtain ⟨a, n, c, rfl, hl, hra⟩ := h1
 obtain ⟨a', n', c', rfl, hl', hrb⟩ := h2
 clear hl' hrb hra
 by_cases hz : n = 0
 ·subst hz
  have hq : q.num = 0 := by have := hl.zero; omega
  rw [hq]
  clear hl hq
  go_enter Tryz.func103, Tryz.ntmps103
  go_wp2
  go_ret
  exact ⟨rfl, alloc_below w _⟩
 ·have hz' : ((n : Int) == 0) = false := by rw [beq_eq_false_iff_ne]; omega
  have hp := hl.pos (by omega)
  clear hl hz
  by_cases hn : q.num < 0
  ·rw [Int.sign_eq_neg_one_of_neg hn, decide_eq_true hn]
   clear hn hp
   go_enter Tryz.func103, Tryz.ntmps103
   go_wp2
   go_ret
   exact ⟨rfl, alloc_below w _⟩
  ·rw [Int.sign_eq_one_of_pos (by omega), decide_eq_false hn]
   clear hn hp
   go_enter Tryz.func103, Tryz.ntmps103
   go_wp2
   go_ret
   exact ⟨rfl, alloc_below w _⟩
end Go.Proofs.YtcelbgleajpenaaGreatDoor
/- Fractions made of two whole numbers. -/
namespace Go.Proofs.YtcelbgleajpenaaGreatDoor
open Go.RowKit Go.Sort Go.Shelf

theorem gcd_pos {O U : Int} (hU : 0 < U) : 0 < (Int.gcd O U : Int) := by
 have : Int.gcd O U ≠ 0 := by rw [Ne, Int.gcd_eq_zero_iff]; omega
 omega
theorem gcd_le {O U : Int} (hU : 0 < U) : (Int.gcd O U : Int) ≤ U := by
 have : Int.gcd O U ≤ U.natAbs := Nat.le_of_dvd (by omega) (Int.gcd_dvd_natAbs_right O U)
 omega

theorem lowered_math (s : Bool) {O : Int} {U : Nat} (hO : 0 ≤ O) (hU : U ≠ 0) :
  (U : Int) / (Int.gcd O U : Int) = ((U / Int.gcd O U : Nat) : Int) ∧ U / Int.gcd O U ≠ 0 ∧ (O / (Int.gcd O U : Int)).natAbs.gcd (U / Int.gcd O U) = 1 ∧
   mkRat (sn s (O / (Int.gcd O U : Int))) (U / Int.gcd O U) = mkRat (sn s O) U := by
 obtain ⟨M, rfl⟩ := Int.eq_ofNat_of_zero_le hO
 have hg : Int.gcd (M : Int) (U : Int) = Nat.gcd M U := rfl
 rw [hg]
 have hgp : 0 < Nat.gcd M U := Nat.gcd_pos_of_pos_right _ (by omega)
 have d1 := Nat.gcd_dvd_left M U
 have d2 := Nat.gcd_dvd_right M U
 have hne : U / Nat.gcd M U ≠ 0 := by
  have := Nat.div_pos (Nat.le_of_dvd (by omega) d2) hgp
  omega
 refine ⟨by simp, hne, ?_, ?_⟩
 ·have : ((M : Int) / (Nat.gcd M U : Int)).natAbs = M / Nat.gcd M U := by
   rw [← Int.natCast_ediv, Int.natAbs_natCast]
  rw [this]
  exact Nat.coprime_div_gcd_div_gcd hgp
 ·have e1 : (Nat.gcd M U : Int) * sn s ((M : Int) / (Nat.gcd M U : Int)) = sn s M := by
   have : (Nat.gcd M U : Int) * ((M : Int) / (Nat.gcd M U : Int)) = M := Int.mul_ediv_cancel' (Int.natCast_dvd_natCast.2 d1)
   cases s
   ·simpa [sn] using this
   ·simp only [sn, if_true, Int.mul_neg, this]
  have e2 : Nat.gcd M U * (U / Nat.gcd M U) = U := Nat.mul_div_cancel' d2
  have := Rat.mkRat_mul_left (n := sn s ((M : Int) / (Nat.gcd M U : Int))) (d := U / Nat.gcd M U) (a := Nat.gcd M U) (by omega)
  rw [e1, e2] at this
  exact this.symm

theorem box3 {w w' : World} {x0 x1 x2 : Value} {T : TypeId} (h : Below (w.alloc (.cells #[x0, x1, x2] T)).heap.size (w.alloc (.cells #[x0, x1, x2] T)) w') :
  w'.heap[w.heap.size]? = some (.cells #[x0, x1, x2] T) ∧ w.heap.size < w'.heap.size := by
 have hs := h.size
 simp at hs
 refine ⟨?_, by omega⟩
 rw [h.block w.heap.size (by simp)]
 show (w.heap.push _)[w.heap.size]? = _
 simp
theorem box_cell {w : World} {g : Nat} {x0 x1 x2 : Value} {T : TypeId} (h : w.heap[g]? = some (.cells #[x0, x1, x2] T)) :
  w.cell? ⟨g, 0, none⟩ = some x0 ∧ w.cell? ⟨g, 1, none⟩ = some x1 ∧ w.cell? ⟨g, 2, none⟩ = some x2 ∧ w.frozen? ⟨g, 0, none⟩ = false ∧ w.frozen? ⟨g, 1, none⟩ = false ∧ w.frozen? ⟨g, 2, none⟩ = false := by
 simp [World.cell?, World.frozen?, h]

def NoWord (o : Obj) : Prop := ∀ cs T fr, o = .cells cs T fr → ∀ (j : Nat) (x : Int), cs[j]? ≠ some (.int .u64 x)

theorem RowIs.other {w w' : World} {a : Option Addr} {n c : Nat} {f : Nat → Int} {g : Nat} {o : Obj} (h : RowIs w a n c f) (hg : w.heap[g]? = some o) (ho : NoWord o) (hs : w.heap.size ≤ w'.heap.size) (hk : ∀ k, k ≠ g → w'.heap[k]? = w.heap[k]?) : RowIs w' a n c f := by
 obtain ⟨h1, h2, h3⟩ := h
 refine ⟨h1, h2, fun hn => ?_⟩
 obtain ⟨b, p, e, hlt, hc⟩ := h3 hn
 have hne : b ≠ g := by
  intro e'
  subst e'
  have := hc 0 hn
  obtain ⟨cs, T, fr, hb, hx⟩ := cells_of_cell? this
  rw [hb] at hg
  exact ho cs T fr (Option.some.inj hg).symm _ _ hx
 exact ⟨b, p, e, Nat.lt_of_lt_of_le hlt hs, fun j hj => by rw [World.cell?_of_block (w := w) (a := ⟨b, p + j, none⟩) (hk b hne)]; exact hc j hj⟩
theorem NatIs.other {w w' : World} {v : Value} {N : Int} {g : Nat} {o : Obj} (h : NatIs w v N) (hg : w.heap[g]? = some o) (ho : NoWord o) (hs : w.heap.size ≤ w'.heap.size) (hk : ∀ k, k ≠ g → w'.heap[k]? = w.heap[k]?) : NatIs w' v N := by
 obtain ⟨a, n, c, e, hl, hr⟩ := h
 exact ⟨a, n, c, e, hl, hr.other hg ho hs hk⟩
theorem RatIs.other {w w' : World} {v : Value} {q : Rat} {g : Nat} {o : Obj} (h : RatIs w v q) (hg : w.heap[g]? = some o) (ho : NoWord o) (hs : w.heap.size ≤ w'.heap.size) (hk : ∀ k, k ≠ g → w'.heap[k]? = w.heap[k]?) : RatIs w' v q := by
 obtain ⟨ov, un, e, h1, h2⟩ := h
 exact ⟨ov, un, e, h1.other hg ho hs hk, h2.other hg ho hs hk⟩

theorem noWord3 (b : Bool) (a1 a2 : Option Addr) (n1 c1 n2 c2 : Nat) (T : TypeId) (fr : Nat × Nat) : NoWord (.cells #[.bool b, .slice a1 n1 c1, .slice a2 n2 c2] T fr) := by
 intro cs T' fr' e j x
 injection e with e
 subst e
 rcases j with _ | _ | _ | j <;> simp

theorem rat_boxed {w0 w : World} {g : Nat} {v : Value} {q : Rat} {b : Bool} {a1 a2 : Option Addr} {n1 k1 n2 k2 : Nat} {T : TypeId} (h : RatIs w v q) (hbx : w.heap[g]? = some (.cells #[.bool b, .slice a1 n1 k1, .slice a2 n2 k2] T))
  (hb : Below w0.heap.size w0 w) (hg : w0.heap.size ≤ g) (x0 x1 x2 : Value) :
  RatIs (((w.setCell ⟨g, 0, none⟩ x0).setCell ⟨g, 1, none⟩ x1).setCell ⟨g, 2, none⟩ x2) v q ∧ Below w0.heap.size w0 (((w.setCell ⟨g, 0, none⟩ x0).setCell ⟨g, 1, none⟩ x1).setCell ⟨g, 2, none⟩ x2) := by
 refine ⟨h.other hbx (noWord3 _ _ _ _ _ _ _ _ _) (by simp [World.setCell]) (fun k hk => ?_), ((hb.setCell hg _).setCell hg _).setCell hg _⟩
 rw [Below.heap_setCell _ _ _ _ hk, Below.heap_setCell _ _ _ _ hk, Below.heap_setCell _ _ _ _ hk]

set_option maxHeartbeats 1000000 in
theorem lowered_small (s : Bool) (vo vu : Value) (O : Int) (U : Nat) (w : World) (ho : NatIs w vo O) (hu : NatIs w vu U) (hOs : Sm O) (hU : U ≠ 0) (hUw : (U : Int) < 18446744073709551616) :
  Calls Tryz.prog 108 #[.bool s, vo, vu] w fun e w' => ∃ v, e = .returned v ∧ RatIs w' v (mkRat (sn s O) U) ∧ Below w.heap.size w w' := by
 have hO := ho.nn
 have hgp := gcd_pos (O := O) (U := U) (by omega)
 have hgl := gcd_le (O := O) (U := U) (by omega)
 obtain ⟨m1, m2, m3, m4⟩ := lowered_math s hO hU
 have HO := hide ho
 have HU := hide hu
 obtain ⟨a, n, c, rfl, hl, hra⟩ := ho
 obtain ⟨a', n', c', rfl, hl', hrb⟩ := hu
 have M1 := hide m1
 have M4 := hide m4
 have M3 := hide m3
 clear hl hra hl' hrb m1 m3 m4
 have HB := hide (alloc_below w (.cells #[.bool false, .slice none 0 0, .slice none 0 0] 37))
 have HX0 := hide (Below.refl (w.alloc (.cells #[.bool false, .slice none 0 0, .slice none 0 0] 37)).heap.size (w.alloc (.cells #[.bool false, .slice none 0 0, .slice none 0 0] 37)))
 go_enter Tryz.func108, Tryz.ntmps108
 go_wp2_with fail
 refine (gcd_small _ _ O U _ ((unhide HO).below (unhide HB)) ((unhide HU).below (unhide HB)) hOs (sm_word hUw) (Or.inr hUw)).mono ?_
 rintro e w1 ⟨v1, rfl, hv1, hb1⟩
 have HX1 := hide ((unhide HX0).trans (hb1.mono (unhide HX0).size))
 have HB1 := hide ((unhide HB).trans (hb1.mono (unhide HB).size))
 have HV1 := hide hv1
 obtain ⟨a1, n1, c1, rfl, _, _⟩ := hv1
 clear hb1
 go_wp2_with fail
 refine (quotient_small _ _ O _ _ ((unhide HO).below (unhide HB1)) (unhide HV1) hOs hgp (Or.inr (by omega))).mono ?_
 rintro e w2 ⟨v2, rfl, hv2, hb2⟩
 have HX2 := hide ((unhide HX1).trans (hb2.mono (unhide HX1).size))
 have HB2 := hide ((unhide HB1).trans (hb2.mono (unhide HB1).size))
 have HV2 := hide hv2
 have HV12 := hide ((unhide HV1).below hb2)
 obtain ⟨a2, n2, c2, rfl, _, _⟩ := hv2
 clear hb2
 go_wp2_with fail
 refine (quotient_small _ _ U _ _ ((unhide HU).below (unhide HB2)) (unhide HV12) (sm_word hUw) hgp (Or.inr (by omega))).mono ?_
 rintro e w3 ⟨v3, rfl, hv3, hb3⟩
 have HX3 := hide ((unhide HX2).trans (hb3.mono (unhide HX2).size))
 have HB3 := hide ((unhide HB2).trans (hb3.mono (unhide HB2).size))
 rw [unhide M1] at hv3
 have HV3 := hide hv3
 have HV23 := hide ((unhide HV2).below hb3)
 obtain ⟨a3, n3, c3, rfl, _, _⟩ := hv3
 clear hb3
 go_wp2_with fail
 refine (settled_any s _ _ _ _ _ (unhide HV23) (unhide HV3) m2 (unhide M3)).mono ?_
 rintro e w4 ⟨v4, rfl, hv4, hb4⟩
 have HX4 := hide ((unhide HX3).trans (hb4.mono (unhide HX3).size))
 have HB4 := hide ((unhide HB3).trans (hb4.mono (unhide HB3).size))
 rw [unhide M4] at hv4
 have HV4 := hide hv4
 obtain ⟨ov, un, rfl, hov, hun⟩ := hv4
 obtain ⟨a4, n4, c4, rfl, _, _⟩ := hov
 obtain ⟨a5, n5, c5, rfl, _, _⟩ := hun
 have ⟨hbx, hsz⟩ := box3 (unhide HX4)
 have ⟨c0, c1, c2, f0, f1, f2⟩ := box_cell hbx
 have HBX := hide hbx
 clear hb4 hbx
 go_wp2
 have ⟨r1, r2⟩ := rat_boxed (w0 := w) (unhide HV4) (unhide HBX) (unhide HB4) (Nat.le_refl _) (Value.bool (decide ((mkRat (sn s O) U).num < 0))) (Value.slice a4 n4 c4) (Value.slice a5 n5 c5)
 exact bodyPost_ret (v := .agg #[.bool (decide ((mkRat (sn s O) U).num < 0)), .slice a4 n4 c4, .slice a5 n5 c5]) (by simp [results, Tryz.results108, go_sem, c0, c1, c2]) rfl ⟨_, rfl, r1, r2⟩

theorem i64_sn (x : Int) : sn (decide (x < 0)) (x.natAbs : Int) = x := by
 by_cases h : x < 0
 ·simp [sn, h]; omega
 ·simp [sn, h]; omega
theorem of_math {x y : Int} (hy : y ≠ 0) : mkRat (sn (decide (x < 0) != decide (y < 0)) (x.natAbs : Int)) y.natAbs = Rat.divInt x y := by
 rcases Int.lt_or_le y 0 with h | h
 ·obtain ⟨k, rfl⟩ : ∃ k : Nat, y = -(k : Int) := ⟨y.natAbs, by omega⟩
  rw [Rat.divInt_neg', Rat.divInt_ofNat]
  have e : (-(k : Int)).natAbs = k := by omega
  rw [e]
  congr 1
  rw [decide_eq_true h]
  by_cases hx : x < 0
  ·simp [sn, hx]; omega
  ·simp [sn, hx]; omega
 ·obtain ⟨k, rfl⟩ : ∃ k : Nat, y = (k : Int) := ⟨y.natAbs, by omega⟩
  rw [Rat.divInt_ofNat]
  have e : ((k : Int)).natAbs = k := by omega
  rw [e, decide_eq_false (show ¬ (k : Int) < 0 by omega), Bool.bne_false, i64_sn]

set_option maxHeartbeats 1000000 in
theorem of_any (x y : Int) (hx0 : -9223372036854775808 ≤ x) (hx1 : x ≤ 9223372036854775807) (hy0 : -9223372036854775808 ≤ y) (hy1 : y ≤ 9223372036854775807) (hy : y ≠ 0) (w : World) :
  Calls Tryz.prog 66 #[.int .i64 x, .int .i64 y] w fun e w' => ∃ v, e = .returned (.tuple #[v, .nilIface]) ∧ RatIs w' v (Rat.divInt x y) ∧ Below w.heap.size w w' := by
 have hz : (y == 0) = false := by rw [beq_eq_false_iff_ne]; exact hy
 have M := hide (of_math (x := x) hy)
 have HB := hide (alloc_below w (.cells #[.bool false, .slice none 0 0, .slice none 0 0] 37))
 have HX0 := hide (Below.refl (w.alloc (.cells #[.bool false, .slice none 0 0, .slice none 0 0] 37)).heap.size (w.alloc (.cells #[.bool false, .slice none 0 0, .slice none 0 0] 37)))
 obtain ⟨X, hX⟩ : ∃ X : Int, (x.natAbs : Int) = X := ⟨_, rfl⟩
 have hXw : Wd.W64 X := ⟨by omega, by omega⟩
 have hYw : Wd.W64 (y.natAbs : Int) := ⟨by omega, by omega⟩
 obtain ⟨s, hs⟩ : ∃ s, (!(decide (x < 0) == decide (y < 0))) = s := ⟨_, rfl⟩
 have HSx := hide (size_any x hx0 hx1)
 have HSy := hide (size_any y hy0 hy1)
 rw [hX] at HSx M
 have M : Hid (mkRat (sn s X) y.natAbs = Rat.divInt x y) := by rw [← hs]; exact unhide M
 have hyn : y.natAbs ≠ 0 := by omega
 clear hX
 go_enter Tryz.func66, Tryz.ntmps66
 go_wp2_with fail
 refine (unhide HSx _).mono ?_
 rintro e w' ⟨rfl, hw'⟩
 subst hw'
 go_wp2_with fail
 refine (word_any X hXw _).mono ?_
 rintro e w1 ⟨v1, rfl, hv1, hb1⟩
 have HX1 := hide ((unhide HX0).trans (hb1.mono (unhide HX0).size))
 have HV1 := hide hv1
 obtain ⟨a1, n1, c1, rfl, _, _⟩ := hv1
 clear hb1
 go_wp2_with fail
 refine (unhide HSy _).mono ?_
 rintro e w' ⟨rfl, hw'⟩
 obtain rfl := hw'.symm
 go_wp2_with fail
 refine (word_any _ hYw _).mono ?_
 rintro e w2 ⟨v2, rfl, hv2, hb2⟩
 have HX2 := hide ((unhide HX1).trans (hb2.mono (unhide HX1).size))
 have HV12 := hide ((unhide HV1).below hb2)
 have HV2 := hide hv2
 obtain ⟨a2, n2, c2, rfl, _, _⟩ := hv2
 clear hb2
 go_wp2_with fail
 refine (lowered_small s _ _ X _ _ (unhide HV12) (unhide HV2) (sm_word hXw.2) hyn hYw.2).mono ?_
 rintro e w4 ⟨v4, rfl, hv4, hb4⟩
 have HX4 := hide ((unhide HX2).trans (hb4.mono (unhide HX2).size))
 rw [unhide M] at hv4
 have HV4 := hide hv4
 obtain ⟨ov, un, rfl, hov, hun⟩ := hv4
 obtain ⟨a4, n4, c4, rfl, _, _⟩ := hov
 obtain ⟨a5, n5, c5, rfl, _, _⟩ := hun
 have ⟨hbx, hsz⟩ := box3 (unhide HX4)
 have ⟨c0, c1, c2, f0, f1, f2⟩ := box_cell hbx
 have HBX := hide hbx
 clear hb4 hbx
 go_wp2
 have hbw : Below w.heap.size w w4 := (unhide HB).trans ((unhide HX4).mono (unhide HB).size)
 have ⟨r1, r2⟩ := rat_boxed (w0 := w) (unhide HV4) (unhide HBX) hbw (Nat.le_refl _) (Value.bool (decide ((Rat.divInt x y).num < 0))) (Value.slice a4 n4 c4) (Value.slice a5 n5 c5)
 exact bodyPost_ret (v := .tuple #[.agg #[.bool (decide ((Rat.divInt x y).num < 0)), .slice a4 n4 c4, .slice a5 n5 c5], .nilIface]) (by simp [results, Tryz.results66, go_sem, c0, c1, c2]) rfl ⟨_, rfl, r1, r2⟩

set_option maxHeartbeats 1000000 in
theorem whole_any (x : Int) (hx0 : -9223372036854775808 ≤ x) (hx1 : x ≤ 9223372036854775807) (w : World) :
  Calls Tryz.prog 52 #[.int .i64 x] w fun e w' => ∃ v, e = .returned v ∧ RatIs w' v (x : Rat) ∧ Below w.heap.size w w' := by
 have HB := hide (alloc_below w (.cells #[.bool false, .slice none 0 0, .slice none 0 0] 37))
 have HX0 := hide (Below.refl (w.alloc (.cells #[.bool false, .slice none 0 0, .slice none 0 0] 37)).heap.size (w.alloc (.cells #[.bool false, .slice none 0 0, .slice none 0 0] 37)))
 have hXw : Wd.W64 (x.natAbs : Int) := ⟨by omega, by omega⟩
 have M : Hid (mkRat (sn (decide (x < 0)) (x.natAbs : Int)) 1 = (x : Rat)) := by
  rw [i64_sn]
  exact (Rat.mk_eq_mkRat x 1 (by decide) (by simp)).symm
 obtain ⟨s, hs⟩ : ∃ s, decide (x < 0) = s := ⟨_, rfl⟩
 have HSx := hide (size_any x hx0 hx1)
 rw [hs] at M
 go_enter Tryz.func52, Tryz.ntmps52
 go_wp2_with fail
 refine (unhide HSx _).mono ?_
 rintro e w' ⟨rfl, hw'⟩
 subst hw'
 go_wp2_with fail
 refine (word_any _ hXw _).mono ?_
 rintro e w1 ⟨v1, rfl, hv1, hb1⟩
 have HX1 := hide ((unhide HX0).trans (hb1.mono (unhide HX0).size))
 have HV1 := hide hv1
 obtain ⟨a1, n1, c1, rfl, _, _⟩ := hv1
 clear hb1
 go_wp2_with fail
 refine (one_any _).mono ?_
 rintro e w2 ⟨v2, rfl, hv2, hb2⟩
 have HX2 := hide ((unhide HX1).trans (hb2.mono (unhide HX1).size))
 have HV12 := hide ((unhide HV1).below hb2)
 have HV2 := hide hv2
 obtain ⟨a2, n2, c2, rfl, _, _⟩ := hv2
 clear hb2
 go_wp2_with fail
 refine (settled_any s _ _ _ 1 _ (unhide HV12) (unhide HV2) (by decide) (by simp)).mono ?_
 rintro e w4 ⟨v4, rfl, hv4, hb4⟩
 have HX4 := hide ((unhide HX2).trans (hb4.mono (unhide HX2).size))
 rw [unhide M] at hv4
 have HV4 := hide hv4
 obtain ⟨ov, un, rfl, hov, hun⟩ := hv4
 obtain ⟨a4, n4, c4, rfl, _, _⟩ := hov
 obtain ⟨a5, n5, c5, rfl, _, _⟩ := hun
 have ⟨hbx, hsz⟩ := box3 (unhide HX4)
 have ⟨c0, c1, c2, f0, f1, f2⟩ := box_cell hbx
 have HBX := hide hbx
 clear hb4 hbx
 go_wp2
 have hbw : Below w.heap.size w w4 := (unhide HB).trans ((unhide HX4).mono (unhide HB).size)
 have ⟨r1, r2⟩ := rat_boxed (w0 := w) (unhide HV4) (unhide HBX) hbw (Nat.le_refl _) (Value.bool (decide ((x : Rat).num < 0))) (Value.slice a4 n4 c4) (Value.slice a5 n5 c5)
 exact bodyPost_ret (v := .agg #[.bool (decide ((x : Rat).num < 0)), .slice a4 n4 c4, .slice a5 n5 c5]) (by simp [results, Tryz.results52, go_sem, c0, c1, c2]) rfl ⟨_, rfl, r1, r2⟩
end Go.Proofs.YtcelbgleajpenaaGreatDoor
/- Fractions compared. -/
namespace Go.Proofs.YtcelbgleajpenaaGreatDoor
open Go.RowKit Go.Sort Go.Shelf

theorem two_boxes {w w' : World} {x0 x1 x2 y0 y1 y2 : Value} {T : TypeId} (h : Below ((w.alloc (.cells #[x0, x1, x2] T)).alloc (.cells #[y0, y1, y2] T)).heap.size ((w.alloc (.cells #[x0, x1, x2] T)).alloc (.cells #[y0, y1, y2] T)) w') :
  w'.cell? ⟨w.heap.size, 0, none⟩ = some x0 ∧ w'.cell? ⟨w.heap.size, 1, none⟩ = some x1 ∧ w'.cell? ⟨w.heap.size, 2, none⟩ = some x2 ∧
  w'.cell? ⟨w.heap.size + 1, 0, none⟩ = some y0 ∧ w'.cell? ⟨w.heap.size + 1, 1, none⟩ = some y1 ∧ w'.cell? ⟨w.heap.size + 1, 2, none⟩ = some y2 := by
 have e : ((w.alloc (.cells #[x0, x1, x2] T)).alloc (.cells #[y0, y1, y2] T)).heap.size = w.heap.size + 2 := by simp
 have b0 : w'.heap[w.heap.size]? = some (.cells #[x0, x1, x2] T) := by
  rw [h.block w.heap.size (by rw [e]; omega)]
  show ((w.heap.push _).push _)[w.heap.size]? = _
  rw [Array.getElem?_push, if_neg (by simp), Array.getElem?_push, if_pos rfl]
 have b1 : w'.heap[w.heap.size + 1]? = some (.cells #[y0, y1, y2] T) := by
  rw [h.block (w.heap.size + 1) (by rw [e]; omega)]
  show ((w.heap.push _).push _)[w.heap.size + 1]? = _
  rw [Array.getElem?_push, if_pos (by simp)]
 have ⟨c0, c1, c2, _, _, _⟩ := box_cell b0
 have ⟨d0, d1, d2, _, _, _⟩ := box_cell b1
 exact ⟨c0, c1, c2, d0, d1, d2⟩

theorem below_step {w w1 w2 : World} (h : Below w.heap.size w w1) (k : Below w1.heap.size w1 w2) : Below w.heap.size w w2 := h.trans (k.mono h.size)

theorem sg_signs {A B : Int} {da db : Nat} (ha : da ≠ 0) (hb : db ≠ 0) (h : A.sign < B.sign) : A * db < B * da := by
 have h1 : A ≤ 0 ∨ 0 < A := by omega
 have h2 : B ≤ 0 ∨ 0 < B := by omega
 have da0 : (0 : Int) < da := by omega
 have db0 : (0 : Int) < db := by omega
 rcases Int.lt_trichotomy A 0 with hA | hA | hA
 ·rw [Int.sign_eq_neg_one_of_neg hA] at h
  have : A * db < 0 := Int.mul_neg_of_neg_of_pos hA db0
  rcases Int.lt_trichotomy B 0 with hB | hB | hB
  ·rw [Int.sign_eq_neg_one_of_neg hB] at h; omega
  ·subst hB; omega
  ·have := Int.mul_pos hB da0; omega
 ·subst hA
  rcases Int.lt_trichotomy B 0 with hB | hB | hB
  ·rw [Int.sign_eq_neg_one_of_neg hB] at h; simp at h
  ·subst hB; simp at h
  ·have := Int.mul_pos hB da0; omega
 ·rw [Int.sign_eq_one_of_pos hA] at h
  rcases Int.lt_trichotomy B 0 with hB | hB | hB
  ·rw [Int.sign_eq_neg_one_of_neg hB] at h; omega
  ·subst hB; simp at h
  ·rw [Int.sign_eq_one_of_pos hB] at h; omega

theorem sign_bd (A : Int) : -1 ≤ A.sign ∧ A.sign ≤ 1 := by
 rcases Int.lt_trichotomy A 0 with hA | hA | hA
 ·rw [Int.sign_eq_neg_one_of_neg hA]; decide
 ·subst hA; decide
 ·rw [Int.sign_eq_one_of_pos hA]; decide

theorem sign_eq_neg {A B : Int} (h : A.sign = B.sign) : A < 0 ↔ B < 0 := by
 constructor
 ·intro hA
  rw [Int.sign_eq_neg_one_of_neg hA] at h
  exact Int.neg_of_sign_eq_neg_one h.symm
 ·intro hB
  rw [Int.sign_eq_neg_one_of_neg hB] at h
  exact Int.neg_of_sign_eq_neg_one h

theorem sg_bd (x y : Int) : -1 ≤ Wd.sg x y ∧ Wd.sg x y ≤ 1 := by unfold Wd.sg; split; decide; split <;> decide
theorem sg_neg (x y : Int) : Wd.sg (-x) (-y) = -Wd.sg x y := by
 rcases Int.lt_trichotomy x y with h | h | h
 ·rw [Wd.sg_lt h, Wd.sg_gt (by omega)]; rfl
 ·rw [Wd.sg_eq h, Wd.sg_eq (by omega)]; rfl
 ·rw [Wd.sg_gt h, Wd.sg_lt (by omega)]

theorem sg_abs_pos {A B : Int} {da db : Nat} (hA : ¬ A < 0) (hB : ¬ B < 0) : Wd.sg ((A.natAbs : Int) * db) ((B.natAbs : Int) * da) = Wd.sg (A * db) (B * da) := by
 rw [show (A.natAbs : Int) = A by omega, show (B.natAbs : Int) = B by omega]
theorem sg_abs_neg {A B : Int} {da db : Nat} (hA : A < 0) (hB : B < 0) : -Wd.sg ((A.natAbs : Int) * db) ((B.natAbs : Int) * da) = Wd.sg (A * db) (B * da) := by
 rw [show (A.natAbs : Int) = -A by omega, show (B.natAbs : Int) = -B by omega, Int.neg_mul, Int.neg_mul, sg_neg]; omega

set_option maxHeartbeats 4000000 in
set_option maxRecDepth 100000 in
theorem cmpR_any (va vb : Value) (qa qb : Rat) (w : World) (ha : RatIs w va qa) (hb : RatIs w vb qb) (hs1 : Sm qa.num.natAbs) (hs2 : Sm qb.num.natAbs) (hs3 : Sm qa.den) (hs4 : Sm qb.den) :
  Calls Tryz.prog 83 #[va, vb] w fun e w' => e = .returned (.int .i64 (Wd.sg (qa.num * qb.den) (qb.num * qa.den))) ∧ Below w.heap.size w w' := by
 have HA := hide ha
 have HB := hide hb
 obtain ⟨ov, un, rfl, h1, h2⟩ := ha
 obtain ⟨ov', un', rfl, h1', h2'⟩ := hb
 have HNa := hide h1
 have HNb := hide h1'
 obtain ⟨a, n, c, rfl, _, _⟩ := h1
 obtain ⟨a2, n2, c2, rfl, _, _⟩ := h2
 obtain ⟨b, m, d, rfl, _, _⟩ := h1'
 obtain ⟨b2, m2, d2, rfl, _, _⟩ := h2'
 obtain ⟨sa, hsa⟩ : ∃ s, decide (qa.num < 0) = s := ⟨_, rfl⟩
 obtain ⟨sb, hsb⟩ : ∃ s, decide (qb.num < 0) = s := ⟨_, rfl⟩
 rw [hsa] at HA
 rw [hsb] at HB
 rw [hsa, hsb]
 obtain ⟨W, hW⟩ : ∃ W, (w.alloc (.cells #[.bool sa, .slice a n c, .slice a2 n2 c2] 37)).alloc (.cells #[.bool sb, .slice b m d, .slice b2 m2 d2] 37) = W := ⟨_, rfl⟩
 have hbW : Below w.heap.size w W := by rw [← hW]; exact ((Below.refl _ _).alloc (Nat.le_refl _) _).alloc (by simp) _
 have S0 : ∀ w', Below W.heap.size W w' → (w'.cell? ⟨w.heap.size, 0, none⟩ = some (.bool sa) ∧ w'.cell? ⟨w.heap.size, 1, none⟩ = some (.slice a n c) ∧ w'.cell? ⟨w.heap.size, 2, none⟩ = some (.slice a2 n2 c2) ∧
  w'.cell? ⟨w.heap.size + 1, 0, none⟩ = some (.bool sb) ∧ w'.cell? ⟨w.heap.size + 1, 1, none⟩ = some (.slice b m d) ∧ w'.cell? ⟨w.heap.size + 1, 2, none⟩ = some (.slice b2 m2 d2)) ∧ Below W.heap.size W w' := fun w' h => by
  rw [← hW] at h ⊢
  exact ⟨two_boxes h, h⟩
 have HS0 := hide S0
 have CA : ∀ w1, Below W.heap.size W w1 → Calls Tryz.prog 103 #[.agg #[.bool sa, .slice a n c, .slice a2 n2 c2]] w1 fun e w' => e = .returned (.int .i64 qa.num.sign) ∧ Below W.heap.size W w' := fun w1 h1 =>
  (sign_any _ qa w1 (((unhide HA).below hbW).below h1)).mono (by rintro e w' ⟨rfl, h⟩; exact ⟨rfl, below_step h1 h⟩)
 have CB : ∀ w1, Below W.heap.size W w1 → Calls Tryz.prog 103 #[.agg #[.bool sb, .slice b m d, .slice b2 m2 d2]] w1 fun e w' => e = .returned (.int .i64 qb.num.sign) ∧ Below W.heap.size W w' := fun w1 h1 =>
  (sign_any _ qb w1 (((unhide HB).below hbW).below h1)).mono (by rintro e w' ⟨rfl, h⟩; exact ⟨rfl, below_step h1 h⟩)
 have LA : ∀ w1, Below W.heap.size W w1 → Calls Tryz.prog 105 #[.agg #[.bool sa, .slice a n c, .slice a2 n2 c2]] w1 fun e w' => ∃ v, e = .returned v ∧ NatIs w' v qa.den ∧ Below w1.heap.size w1 w' ∧ Below W.heap.size W w' := fun w1 h1 =>
  (lower_any _ qa w1 (((unhide HA).below hbW).below h1)).mono (by rintro e w' ⟨v, rfl, hv, h⟩; exact ⟨v, rfl, hv, h, below_step h1 h⟩)
 have LB : ∀ w1, Below W.heap.size W w1 → Calls Tryz.prog 105 #[.agg #[.bool sb, .slice b m d, .slice b2 m2 d2]] w1 fun e w' => ∃ v, e = .returned v ∧ NatIs w' v qb.den ∧ Below w1.heap.size w1 w' ∧ Below W.heap.size W w' := fun w1 h1 =>
  (lower_any _ qb w1 (((unhide HB).below hbW).below h1)).mono (by rintro e w' ⟨v, rfl, hv, h⟩; exact ⟨v, rfl, hv, h, below_step h1 h⟩)
 have MA : ∀ w1 v, Below W.heap.size W w1 → NatIs w1 v qb.den → Calls Tryz.prog 107 #[.slice a n c, v] w1 fun e w' => ∃ v, e = .returned v ∧ NatIs w' v ((qa.num.natAbs : Int) * qb.den) ∧ Below w1.heap.size w1 w' ∧ Below W.heap.size W w' := fun w1 v h1 hv =>
  (mul_any _ _ _ _ w1 (((unhide HNa).below hbW).below h1) hv hs1 hs4).mono (by rintro e w' ⟨v, rfl, hv, h⟩; exact ⟨v, rfl, hv, h, below_step h1 h⟩)
 have MB : ∀ w1 v, Below W.heap.size W w1 → NatIs w1 v qa.den → Calls Tryz.prog 107 #[.slice b m d, v] w1 fun e w' => ∃ v, e = .returned v ∧ NatIs w' v ((qb.num.natAbs : Int) * qa.den) ∧ Below w1.heap.size w1 w' ∧ Below W.heap.size W w' := fun w1 v h1 hv =>
  (mul_any _ _ _ _ w1 (((unhide HNb).below hbW).below h1) hv hs2 hs3).mono (by rintro e w' ⟨v, rfl, hv, h⟩; exact ⟨v, rfl, hv, h, below_step h1 h⟩)
 have MC : ∀ w1 v v', Below W.heap.size W w1 → NatIs w1 v ((qa.num.natAbs : Int) * qb.den) → NatIs w1 v' ((qb.num.natAbs : Int) * qa.den) → Calls Tryz.prog 114 #[v, v'] w1 fun e w' => e = .returned (.int .i64 (Wd.sg ((qa.num.natAbs : Int) * qb.den) ((qb.num.natAbs : Int) * qa.den))) ∧ Below W.heap.size W w' := fun w1 v v' h1 hv hv' =>
  (cmp_any _ _ _ _ w1 hv hv').mono (by rintro e w' ⟨rfl, k, rfl⟩; exact ⟨rfl, below_step h1 (below_drewN _ _)⟩)
 have HCA := hide CA
 have HCB := hide CB
 have HLA := hide LA
 have HLB := hide LB
 have HMA := hide MA
 have HMB := hide MB
 have HMC := hide MC
 clear CA CB LA LB MA MB MC S0 HNa HNb HA HB hs1 hs2 hs3 hs4
 have hR := hide (Below.refl W.heap.size W)
 have HWE := hide hW
 have HBW := hide hbW
 clear hW hbW
 have b1 := sign_bd qa.num
 have b2' := sign_bd qb.num
 by_cases hne : qa.num.sign = qb.num.sign
 ·have hne' : (qa.num.sign != qb.num.sign) = false := by rw [bne_eq_false_iff_eq]; exact hne
  have hsg := sign_eq_neg hne
  have HF : Hid ((sa = true → -Wd.sg ((qa.num.natAbs : Int) * qb.den) ((qb.num.natAbs : Int) * qa.den) = Wd.sg (qa.num * qb.den) (qb.num * qa.den)) ∧ (sa = false → Wd.sg ((qa.num.natAbs : Int) * qb.den) ((qb.num.natAbs : Int) * qa.den) = Wd.sg (qa.num * qb.den) (qb.num * qa.den))) := by
   refine ⟨fun h => ?_, fun h => ?_⟩
   ·rw [← hsa] at h
    have := of_decide_eq_true h
    exact sg_abs_neg this (hsg.1 this)
   ·rw [← hsa] at h
    have := of_decide_eq_false h
    exact sg_abs_pos this (fun h' => this (hsg.2 h'))
  have gb := sg_bd ((qa.num.natAbs : Int) * qb.den) ((qb.num.natAbs : Int) * qa.den)
  generalize Wd.sg ((qa.num.natAbs : Int) * qb.den) ((qb.num.natAbs : Int) * qa.den) = g at *
  generalize Wd.sg (qa.num * qb.den) (qb.num * qa.den) = g' at *
  generalize qa.num.sign = x at *
  generalize qb.num.sign = y at *
  clear hne hsg hsa hsb
  obtain ⟨gb0, gb1⟩ := gb
  obtain ⟨b1a, b1b⟩ := b1
  obtain ⟨b2a, b2b⟩ := b2'
  go_enter Tryz.func83, Tryz.ntmps83
  go_wp2_with fail
  rw [unhide HWE]
  go_region_held3 (fun w' => (w'.cell? ⟨w.heap.size, 0, none⟩ = some (.bool sa) ∧ w'.cell? ⟨w.heap.size, 1, none⟩ = some (.slice a n c) ∧ w'.cell? ⟨w.heap.size, 2, none⟩ = some (.slice a2 n2 c2) ∧
   w'.cell? ⟨w.heap.size + 1, 0, none⟩ = some (.bool sb) ∧ w'.cell? ⟨w.heap.size + 1, 1, none⟩ = some (.slice b m d) ∧ w'.cell? ⟨w.heap.size + 1, 2, none⟩ = some (.slice b2 m2 d2)) ∧ Below W.heap.size W w') (first | exact unhide HS0 _ (unhide hR) | exact unhide HS0 _ (unhide hR).drew | exact unhide HS0 _ (by assumption) | exact unhide HS0 _ (Below.drew (by assumption)))
   (first | (go_at_call_of 103 (Value.agg #[.bool sa, .slice a n c, .slice a2 n2 c2]); refine (unhide HCA _ ?_).mono ?_; (first | exact (unhide hR).drew | assumption | exact Below.drew (by assumption)); rintro e w' ⟨rfl, hbx⟩) | (go_at_call_of 103 (Value.agg #[.bool sb, .slice b m d, .slice b2 m2 d2]); refine (unhide HCB _ ?_).mono ?_; (first | exact (unhide hR).drew | assumption | exact Below.drew (by assumption)); rintro e w' ⟨rfl, hbx⟩))
  go_wp2_with fail
  go_region_held3 (fun w' => (w'.cell? ⟨w.heap.size, 0, none⟩ = some (.bool sa) ∧ w'.cell? ⟨w.heap.size, 1, none⟩ = some (.slice a n c) ∧ w'.cell? ⟨w.heap.size, 2, none⟩ = some (.slice a2 n2 c2) ∧
   w'.cell? ⟨w.heap.size + 1, 0, none⟩ = some (.bool sb) ∧ w'.cell? ⟨w.heap.size + 1, 1, none⟩ = some (.slice b m d) ∧ w'.cell? ⟨w.heap.size + 1, 2, none⟩ = some (.slice b2 m2 d2)) ∧ Below W.heap.size W w') (first | exact unhide HS0 _ (unhide hR) | exact unhide HS0 _ (unhide hR).drew | exact unhide HS0 _ (by assumption) | exact unhide HS0 _ (Below.drew (by assumption)))
   (first | (go_at_call_of 105 (Value.agg #[.bool sb, .slice b m d, .slice b2 m2 d2]); refine (unhide HLB _ ?_).mono ?_; (first | exact (unhide hR).drew | assumption | exact Below.drew (by assumption)); rintro e w3 ⟨v3, rfl, hv3, hr3, hb3⟩) | (go_at_call_of 107 (Value.slice a n c); refine (unhide HMA _ _ ?_ hv3).mono ?_; (first | exact (unhide hR).drew | assumption | exact Below.drew (by assumption)); rintro e w4 ⟨v4, rfl, hv4, hr4, hb4⟩) | (go_at_call_of 105 (Value.agg #[.bool sa, .slice a n c, .slice a2 n2 c2]); refine (unhide HLA _ ?_).mono ?_; (first | exact (unhide hR).drew | assumption | exact Below.drew (by assumption)); rintro e w5 ⟨v5, rfl, hv5, hr5, hb5⟩; have hv45 := hv4.below hr5) | (go_at_call_of 107 (Value.slice b m d); refine (unhide HMB _ _ ?_ hv5).mono ?_; (first | exact (unhide hR).drew | assumption | exact Below.drew (by assumption)); rintro e w6 ⟨v6, rfl, hv6, hr6, hb6⟩; have hv46 := hv45.below hr6) | (go_at_call 114; refine (unhide HMC _ _ _ ?_ hv46 hv6).mono ?_; (first | exact (unhide hR).drew | assumption | exact Below.drew (by assumption)); rintro e w7 ⟨rfl, hb7⟩))
  have ⟨⟨k0, k1, k2, k3, k4, k5⟩, _⟩ := unhide HS0 _ hb7
  cases sa
  ·have HF2 := hide ((unhide HF).2 rfl)
   clear HF
   go_wp2
   go_ret
   exact ⟨by rw [← unhide HF2]; rfl, (unhide HBW).trans (hb7.mono (unhide HBW).size)⟩
  ·have HF2 := hide ((unhide HF).1 rfl)
   clear HF
   go_wp2
   go_ret
   exact ⟨by rw [← unhide HF2]; rfl, (unhide HBW).trans (hb7.mono (unhide HBW).size)⟩
 ·have hne' : (qa.num.sign != qb.num.sign) = true := by rw [bne_iff_ne]; exact hne
  by_cases hl : qa.num.sign < qb.num.sign
  ·have HF := hide (Wd.sg_lt (sg_signs qa.den_nz qb.den_nz hl))
   generalize Wd.sg (qa.num * qb.den) (qb.num * qa.den) = g' at *
   generalize qa.num.sign = x at *
   generalize qb.num.sign = y at *
   clear hne hsa hsb
   obtain ⟨b1a, b1b⟩ := b1
   obtain ⟨b2a, b2b⟩ := b2'
   go_enter Tryz.func83, Tryz.ntmps83
   go_wp2_with fail
   rw [unhide HWE]
   go_region_held3 (fun w' => (w'.cell? ⟨w.heap.size, 0, none⟩ = some (.bool sa) ∧ w'.cell? ⟨w.heap.size, 1, none⟩ = some (.slice a n c) ∧ w'.cell? ⟨w.heap.size, 2, none⟩ = some (.slice a2 n2 c2) ∧
   w'.cell? ⟨w.heap.size + 1, 0, none⟩ = some (.bool sb) ∧ w'.cell? ⟨w.heap.size + 1, 1, none⟩ = some (.slice b m d) ∧ w'.cell? ⟨w.heap.size + 1, 2, none⟩ = some (.slice b2 m2 d2)) ∧ Below W.heap.size W w') (first | exact unhide HS0 _ (unhide hR) | exact unhide HS0 _ (unhide hR).drew | exact unhide HS0 _ (by assumption) | exact unhide HS0 _ (Below.drew (by assumption)))
    (first | (go_at_call_of 103 (Value.agg #[.bool sa, .slice a n c, .slice a2 n2 c2]); refine (unhide HCA _ ?_).mono ?_; (first | exact (unhide hR).drew | assumption | exact Below.drew (by assumption)); rintro e w' ⟨rfl, hbx⟩) | (go_at_call_of 103 (Value.agg #[.bool sb, .slice b m d, .slice b2 m2 d2]); refine (unhide HCB _ ?_).mono ?_; (first | exact (unhide hR).drew | assumption | exact Below.drew (by assumption)); rintro e w' ⟨rfl, hbx⟩))
   go_wp2_with fail
   go_region_held3 (fun w' => (w'.cell? ⟨w.heap.size, 0, none⟩ = some (.bool sa) ∧ w'.cell? ⟨w.heap.size, 1, none⟩ = some (.slice a n c) ∧ w'.cell? ⟨w.heap.size, 2, none⟩ = some (.slice a2 n2 c2) ∧
   w'.cell? ⟨w.heap.size + 1, 0, none⟩ = some (.bool sb) ∧ w'.cell? ⟨w.heap.size + 1, 1, none⟩ = some (.slice b m d) ∧ w'.cell? ⟨w.heap.size + 1, 2, none⟩ = some (.slice b2 m2 d2)) ∧ Below W.heap.size W w') (first | exact unhide HS0 _ (unhide hR) | exact unhide HS0 _ (unhide hR).drew | exact unhide HS0 _ (by assumption) | exact unhide HS0 _ (Below.drew (by assumption)))
    (first | (go_at_call_of 103 (Value.agg #[.bool sa, .slice a n c, .slice a2 n2 c2]); refine (unhide HCA _ ?_).mono ?_; (first | exact (unhide hR).drew | assumption | exact Below.drew (by assumption)); rintro e w' ⟨rfl, hbx⟩) | (go_at_call_of 103 (Value.agg #[.bool sb, .slice b m d, .slice b2 m2 d2]); refine (unhide HCB _ ?_).mono ?_; (first | exact (unhide hR).drew | assumption | exact Below.drew (by assumption)); rintro e w' ⟨rfl, hbx⟩))
   go_wp2
   go_ret
   exact ⟨by rw [unhide HF]; rfl, (unhide HBW).trans (Below.mono (by assumption) (unhide HBW).size)⟩
  ·have hl' : qb.num.sign < qa.num.sign := by omega
   have HF := hide (Wd.sg_gt (sg_signs qb.den_nz qa.den_nz hl'))
   generalize Wd.sg (qa.num * qb.den) (qb.num * qa.den) = g' at *
   generalize qa.num.sign = x at *
   generalize qb.num.sign = y at *
   clear hne hsa hsb
   obtain ⟨b1a, b1b⟩ := b1
   obtain ⟨b2a, b2b⟩ := b2'
   go_enter Tryz.func83, Tryz.ntmps83
   go_wp2_with fail
   rw [unhide HWE]
   go_region_held3 (fun w' => (w'.cell? ⟨w.heap.size, 0, none⟩ = some (.bool sa) ∧ w'.cell? ⟨w.heap.size, 1, none⟩ = some (.slice a n c) ∧ w'.cell? ⟨w.heap.size, 2, none⟩ = some (.slice a2 n2 c2) ∧
   w'.cell? ⟨w.heap.size + 1, 0, none⟩ = some (.bool sb) ∧ w'.cell? ⟨w.heap.size + 1, 1, none⟩ = some (.slice b m d) ∧ w'.cell? ⟨w.heap.size + 1, 2, none⟩ = some (.slice b2 m2 d2)) ∧ Below W.heap.size W w') (first | exact unhide HS0 _ (unhide hR) | exact unhide HS0 _ (unhide hR).drew | exact unhide HS0 _ (by assumption) | exact unhide HS0 _ (Below.drew (by assumption)))
    (first | (go_at_call_of 103 (Value.agg #[.bool sa, .slice a n c, .slice a2 n2 c2]); refine (unhide HCA _ ?_).mono ?_; (first | exact (unhide hR).drew | assumption | exact Below.drew (by assumption)); rintro e w' ⟨rfl, hbx⟩) | (go_at_call_of 103 (Value.agg #[.bool sb, .slice b m d, .slice b2 m2 d2]); refine (unhide HCB _ ?_).mono ?_; (first | exact (unhide hR).drew | assumption | exact Below.drew (by assumption)); rintro e w' ⟨rfl, hbx⟩))
   go_wp2_with fail
   go_region_held3 (fun w' => (w'.cell? ⟨w.heap.size, 0, none⟩ = some (.bool sa) ∧ w'.cell? ⟨w.heap.size, 1, none⟩ = some (.slice a n c) ∧ w'.cell? ⟨w.heap.size, 2, none⟩ = some (.slice a2 n2 c2) ∧
   w'.cell? ⟨w.heap.size + 1, 0, none⟩ = some (.bool sb) ∧ w'.cell? ⟨w.heap.size + 1, 1, none⟩ = some (.slice b m d) ∧ w'.cell? ⟨w.heap.size + 1, 2, none⟩ = some (.slice b2 m2 d2)) ∧ Below W.heap.size W w') (first | exact unhide HS0 _ (unhide hR) | exact unhide HS0 _ (unhide hR).drew | exact unhide HS0 _ (by assumption) | exact unhide HS0 _ (Below.drew (by assumption)))
    (first | (go_at_call_of 103 (Value.agg #[.bool sa, .slice a n c, .slice a2 n2 c2]); refine (unhide HCA _ ?_).mono ?_; (first | exact (unhide hR).drew | assumption | exact Below.drew (by assumption)); rintro e w' ⟨rfl, hbx⟩) | (go_at_call_of 103 (Value.agg #[.bool sb, .slice b m d, .slice b2 m2 d2]); refine (unhide HCB _ ?_).mono ?_; (first | exact (unhide hR).drew | assumption | exact Below.drew (by assumption)); rintro e w' ⟨rfl, hbx⟩))
   go_wp2
   go_ret
   exact ⟨by rw [unhide HF]; rfl, (unhide HBW).trans (Below.mono (by assumption) (unhide HBW).size)⟩
end Go.Proofs.YtcelbgleajpenaaGreatDoor
/- Signed numbers together; a number as an int; a fraction of a pair. -/
namespace Go.Proofs.YtcelbgleajpenaaGreatDoor
open Go.RowKit Go.Sort Go.Shelf

theorem sm_of {N : Int} {k : Nat} (h : N < Wd.pw k) (hk : k ≤ KK) : Sm N := Int.lt_of_lt_of_le h (Wd.pw_mono hk)

set_option maxHeartbeats 2000000 in
theorem together_any (sa sb : Bool) (va vb : Value) (A B : Int) (w : World) (ha : NatIs w va A) (hb : NatIs w vb B) (hA : Sm A) (hB : Sm B) :
  Calls Tryz.prog 109 #[.bool sa, va, .bool sb, vb] w fun e w' => ∃ s v, e = .returned (.tuple #[.bool s, v]) ∧ NatIs w' v ((sn sa A + sn sb B).natAbs : Int) ∧ sn s ((sn sa A + sn sb B).natAbs : Int) = sn sa A + sn sb B ∧ Below w.heap.size w w' := by
 have hA0 := ha.nn
 have hB0 := hb.nn
 have HA := hide ha
 have HB := hide hb
 have HC := hide (cmp_any va vb A B w ha hb)
 obtain ⟨a, n, c, rfl, _, _⟩ := ha
 obtain ⟨b, m, d, rfl, _, _⟩ := hb
 by_cases hs : sa = sb
 ·subst hs
  have hz : (sa == sa) = true := by simp
  have e1 : ((sn sa A + sn sa B).natAbs : Int) = A + B := by cases sa <;> simp [sn] <;> omega
  have e2 : sn sa (A + B) = sn sa A + sn sa B := by cases sa <;> simp [sn] <;> omega
  rw [e1]
  have E2 := hide e2
  clear e1 e2
  go_enter Tryz.func109, Tryz.ntmps109
  go_wp2_with (go_at_call 144; refine (add_any _ _ A B _ (unhide HA) (unhide HB) hA hB).mono ?_; rintro e w1 ⟨v1, rfl, hv1, hb1⟩)
  go_ret2
  exact ⟨_, _, rfl, hv1, unhide E2, hb1⟩
 ·have hz : (sa == sb) = false := by cases sa <;> cases sb <;> simp_all
  have hsb : sb = !sa := by cases sa <;> cases sb <;> simp_all
  by_cases hlt : A < B
  ·rw [Wd.sg_lt hlt] at HC
   have e1 : ((sn sa A + sn sb B).natAbs : Int) = B - A := by subst hsb; cases sa <;> simp [sn] <;> omega
   have e2 : sn sb (B - A) = sn sa A + sn sb B := by subst hsb; cases sa <;> simp [sn] <;> omega
   rw [e1]
   have E2 := hide e2
   clear e1 e2 hs hsb
   go_enter Tryz.func109, Tryz.ntmps109
   go_wp2_with fail
   refine (unhide HC).mono ?_
   rintro e w' ⟨rfl, k, hw'⟩
   subst hw'
   go_wp2_with fail
   refine (sub_any _ _ B A _ ((unhide HB).below (below_drewN w k)) ((unhide HA).below (below_drewN w k)) hB (by omega)).mono ?_
   rintro e w1 ⟨v1, rfl, hv1, hb1⟩
   go_wp2
   go_ret2
   exact ⟨_, _, rfl, hv1, unhide E2, (below_drewN w k).trans hb1⟩
  ·have hcs : ∃ t, Wd.sg A B = t ∧ 0 ≤ t ∧ t ≤ 1 := by
    rcases Int.lt_or_le B A with h | h
    ·exact ⟨1, Wd.sg_gt h, by decide, by decide⟩
    ·exact ⟨0, Wd.sg_eq (by omega), by decide, by decide⟩
   obtain ⟨t, ht, ht0, ht1⟩ := hcs
   rw [ht] at HC
   have htd : decide (t < 0) = false := decide_eq_false (by omega)
   have e1 : ((sn sa A + sn sb B).natAbs : Int) = A - B := by subst hsb; cases sa <;> simp [sn] <;> omega
   have e2 : sn sa (A - B) = sn sa A + sn sb B := by subst hsb; cases sa <;> simp [sn] <;> omega
   rw [e1]
   have E2 := hide e2
   clear e1 e2 hs hsb ht ht0 ht1
   go_enter Tryz.func109, Tryz.ntmps109
   go_wp2_with fail
   refine (unhide HC).mono ?_
   rintro e w' ⟨rfl, k, hw'⟩
   subst hw'
   go_wp2_with fail
   refine (sub_any _ _ A B _ ((unhide HA).below (below_drewN w k)) ((unhide HB).below (below_drewN w k)) hA (by omega)).mono ?_
   rintro e w1 ⟨v1, rfl, hv1, hb1⟩
   go_wp2
   go_ret2
   exact ⟨_, _, rfl, hv1, unhide E2, (below_drewN w k).trans hb1⟩

set_option maxHeartbeats 2000000 in
theorem f_any (x y : Int) (hx0 : -9223372036854775808 ≤ x) (hx1 : x ≤ 9223372036854775807) (hy0 : -9223372036854775808 ≤ y) (hy1 : y ≤ 9223372036854775807) (w : World) :
  Calls Tryz.prog 25 #[.agg #[.int .i64 x, .int .i64 y]] w fun e w' => ∃ v, e = .returned v ∧ RatIs w' v (Rat.divInt x (if y = 0 then 1 else y)) ∧ Below w.heap.size w w' := by
 by_cases hy : y = 0
 ·subst hy
  rw [if_pos rfl]
  obtain ⟨W, hW⟩ : ∃ W, (w.alloc (.cells #[.int .i64 x, .int .i64 1] 51)).alloc (.cells #[.bool false, .slice none 0 0, .slice none 0 0] 37) = W := ⟨_, rfl⟩
  have hbW : Below w.heap.size w W := by rw [← hW]; exact ((Below.refl _ _).alloc (Nat.le_refl _) _).alloc (by simp) _
  have hbx : ∀ w1, Below W.heap.size W w1 → w1.heap[w.heap.size + 1]? = some (.cells #[.bool false, .slice none 0 0, .slice none 0 0] 37) ∧ w.heap.size + 1 < w1.heap.size := fun w1 h => by
   rw [← hW] at h
   have := box3 h
   simpa using this
  have HW := hide hW
  have HBX := hide hbx
  have HBW := hide hbW
  clear hW hbx hbW
  go_enter Tryz.func25, Tryz.ntmps25
  go_wp2_with fail
  rw [unhide HW]
  refine (of_any x 1 hx0 hx1 (by decide) (by decide) (by decide) W).mono ?_
  rintro e w1 ⟨v, rfl, hv, hb1⟩
  have HV := hide hv
  obtain ⟨ov, un, rfl, hov, hun⟩ := hv
  obtain ⟨a4, n4, c4, rfl, _, _⟩ := hov
  obtain ⟨a5, n5, c5, rfl, _, _⟩ := hun
  obtain ⟨s, hs⟩ : ∃ s, decide ((Rat.divInt x 1).num < 0) = s := ⟨_, rfl⟩
  rw [hs] at HV ⊢
  have ⟨hbx, hsz⟩ := unhide HBX _ hb1
  have ⟨c0, c1, c2, f0, f1, f2⟩ := box_cell hbx
  have HBX1 := hide hbx
  have HB1 := hide hb1
  clear hb1 hbx HBX
  go_wp2
  have ⟨r1, r2⟩ := rat_boxed (w0 := w) (unhide HV) (unhide HBX1) (below_step (unhide HBW) (unhide HB1)) (Nat.le_succ _) (Value.bool s) (Value.slice a4 n4 c4) (Value.slice a5 n5 c5)
  refine bodyPost_ret (v := .agg #[.bool s, .slice a4 n4 c4, .slice a5 n5 c5]) (by simp [results, Tryz.results25, go_sem, c0, c1, c2, hsz]) rfl ⟨_, rfl, r1.below (alloc_below _ _), below_step r2 (alloc_below _ _)⟩
 ·rw [if_neg hy]
  have hz : (y == 0) = false := by rw [beq_eq_false_iff_ne]; exact hy
  obtain ⟨W, hW⟩ : ∃ W, (w.alloc (.cells #[.int .i64 x, .int .i64 y] 51)).alloc (.cells #[.bool false, .slice none 0 0, .slice none 0 0] 37) = W := ⟨_, rfl⟩
  have hbW : Below w.heap.size w W := by rw [← hW]; exact ((Below.refl _ _).alloc (Nat.le_refl _) _).alloc (by simp) _
  have hbx : ∀ w1, Below W.heap.size W w1 → w1.heap[w.heap.size + 1]? = some (.cells #[.bool false, .slice none 0 0, .slice none 0 0] 37) ∧ w.heap.size + 1 < w1.heap.size := fun w1 h => by
   rw [← hW] at h
   have := box3 h
   simpa using this
  have HW := hide hW
  have HBX := hide hbx
  have HBW := hide hbW
  clear hW hbx hbW
  go_enter Tryz.func25, Tryz.ntmps25
  go_wp2_with fail
  rw [unhide HW]
  refine (of_any x y hx0 hx1 hy0 hy1 hy W).mono ?_
  rintro e w1 ⟨v, rfl, hv, hb1⟩
  have HV := hide hv
  obtain ⟨ov, un, rfl, hov, hun⟩ := hv
  obtain ⟨a4, n4, c4, rfl, _, _⟩ := hov
  obtain ⟨a5, n5, c5, rfl, _, _⟩ := hun
  obtain ⟨s, hs⟩ : ∃ s, decide ((Rat.divInt x y).num < 0) = s := ⟨_, rfl⟩
  rw [hs] at HV ⊢
  have ⟨hbx, hsz⟩ := unhide HBX _ hb1
  have ⟨c0, c1, c2, f0, f1, f2⟩ := box_cell hbx
  have HBX1 := hide hbx
  have HB1 := hide hb1
  clear hb1 hbx HBX
  go_wp2
  have ⟨r1, r2⟩ := rat_boxed (w0 := w) (unhide HV) (unhide HBX1) (below_step (unhide HBW) (unhide HB1)) (Nat.le_succ _) (Value.bool s) (Value.slice a4 n4 c4) (Value.slice a5 n5 c5)
  refine bodyPost_ret (v := .agg #[.bool s, .slice a4 n4 c4, .slice a5 n5 c5]) (by simp [results, Tryz.results25, go_sem, c0, c1, c2, hsz]) rfl ⟨_, rfl, r1.below (alloc_below _ _), below_step r2 (alloc_below _ _)⟩
end Go.Proofs.YtcelbgleajpenaaGreatDoor
/- A fraction rounded down. -/
namespace Go.Proofs.YtcelbgleajpenaaGreatDoor
open Go.RowKit Go.Sort Go.Shelf

theorem one_box {w w' : World} {x0 x1 x2 : Value} {T : TypeId} (h : Below (w.alloc (.cells #[x0, x1, x2] T)).heap.size (w.alloc (.cells #[x0, x1, x2] T)) w') :
  w'.cell? ⟨w.heap.size, 0, none⟩ = some x0 ∧ w'.cell? ⟨w.heap.size, 1, none⟩ = some x1 ∧ w'.cell? ⟨w.heap.size, 2, none⟩ = some x2 := by
 have ⟨c0, c1, c2, _, _, _⟩ := box_cell (box3 h).1
 exact ⟨c0, c1, c2⟩

end Go.Proofs.YtcelbgleajpenaaGreatDoor
/- Fractions added (of lower numbers of a word). -/
namespace Go.Proofs.YtcelbgleajpenaaGreatDoor
open Go.RowKit Go.Sort Go.Shelf

theorem mulN (va vb : Value) (A B : Nat) (w : World) (ha : NatIs w va A) (hb : NatIs w vb B) (hA : Sm A) (hB : Sm B) :
  Calls Tryz.prog 107 #[va, vb] w fun e w' => ∃ v, e = .returned v ∧ NatIs w' v ((A * B : Nat) : Int) ∧ Below w.heap.size w w' := by
 rw [Int.natCast_mul]
 exact mul_any va vb A B w ha hb hA hB

def upr (a b : Rat) : Int := a.num * (b.den / Nat.gcd a.den b.den : Nat) + b.num * (a.den / Nat.gcd a.den b.den : Nat)

theorem add_math (a b : Rat) (s : Bool) (hs : sn s ((upr a b).natAbs : Int) = upr a b) :
  (a.den / Nat.gcd a.den b.den) * (b.den / Nat.gcd (upr a b).natAbs (Nat.gcd a.den b.den)) ≠ 0 ∧
  (((upr a b).natAbs / Nat.gcd (upr a b).natAbs (Nat.gcd a.den b.den) : Nat) : Int).natAbs.gcd ((a.den / Nat.gcd a.den b.den) * (b.den / Nat.gcd (upr a b).natAbs (Nat.gcd a.den b.den))) = 1 ∧
  mkRat (sn s (((upr a b).natAbs / Nat.gcd (upr a b).natAbs (Nat.gcd a.den b.den) : Nat) : Int)) ((a.den / Nat.gcd a.den b.den) * (b.den / Nat.gcd (upr a b).natAbs (Nat.gcd a.den b.den))) = a + b := by
 have aux := Rat.add.aux a b (g := Nat.gcd a.den b.den) rfl rfl rfl
 simp only at aux
 change (upr a b).natAbs.gcd (Nat.gcd a.den b.den) = (upr a b).natAbs.gcd (a.den / Nat.gcd a.den b.den * b.den) at aux
 have hg : 0 < Nat.gcd a.den b.den := Nat.gcd_pos_of_pos_left _ a.den_pos
 have hg1 : 0 < Nat.gcd (upr a b).natAbs (Nat.gcd a.den b.den) := Nat.gcd_pos_of_pos_right _ hg
 have d1 := Nat.gcd_dvd_left a.den b.den
 have d2 := Nat.gcd_dvd_right a.den b.den
 have e1 := Nat.gcd_dvd_left (upr a b).natAbs (Nat.gcd a.den b.den)
 have e2 := Nat.dvd_trans (Nat.gcd_dvd_right (upr a b).natAbs (Nat.gcd a.den b.den)) d2
 have hden : a.den / Nat.gcd a.den b.den * (b.den / Nat.gcd (upr a b).natAbs (Nat.gcd a.den b.den)) = (a.den / Nat.gcd a.den b.den * b.den) / Nat.gcd (upr a b).natAbs (Nat.gcd a.den b.den) := (Nat.mul_div_assoc _ e2).symm
 have hD : a.den / Nat.gcd a.den b.den * b.den ≠ 0 := by
  have h1 := Nat.div_pos (Nat.le_of_dvd a.den_pos d1) hg
  exact Nat.mul_ne_zero (by omega) b.den_nz
 have hsum : a + b = mkRat (upr a b) (a.den / Nat.gcd a.den b.den * b.den) := by
  rw [Rat.add_def']
  have := Rat.mkRat_mul_right (n := upr a b) (d := a.den / Nat.gcd a.den b.den * b.den) (a := Nat.gcd a.den b.den) (by omega)
  rw [← this]
  congr 1
  ·unfold upr
   rw [Int.add_mul, Int.mul_assoc, Int.mul_assoc, ← Int.natCast_mul, ← Int.natCast_mul, Nat.div_mul_cancel d2, Nat.div_mul_cancel d1]
  ·rw [Nat.mul_right_comm, Nat.div_mul_cancel d1]
 rw [hden, hsum]
 generalize Nat.gcd (upr a b).natAbs (Nat.gcd a.den b.den) = g1 at *
 generalize a.den / Nat.gcd a.den b.den * b.den = D at *
 generalize upr a b = Z at *
 have hd : g1 ∣ D := by rw [aux]; exact Nat.gcd_dvd_right _ _
 refine ⟨?_, ?_, ?_⟩
 ·have := Nat.div_pos (Nat.le_of_dvd (by omega) hd) hg1
  omega
 ·rw [Int.natAbs_natCast, aux]
  exact Nat.coprime_div_gcd_div_gcd (by rw [← aux]; exact hg1)
 ·have := Rat.mkRat_mul_left (n := sn s ((Z.natAbs / g1 : Nat) : Int)) (d := D / g1) (a := g1) (by omega)
  rw [← this, Nat.mul_div_cancel' hd]
  congr 1
  refine Eq.trans ?_ hs
  have e : (g1 : Int) * ((Z.natAbs / g1 : Nat) : Int) = Z.natAbs := by rw [← Int.natCast_mul, Nat.mul_div_cancel' e1]
  cases s
  ·simpa [sn] using e
  ·simp only [sn, if_true, Int.mul_neg, e]

theorem sn_dec (z : Int) (k : Nat) : sn (decide (z < 0)) ((z.natAbs * k : Nat) : Int) = z * k := by
 by_cases h : z < 0
 ·simp only [h, decide_true, sn, if_true, Int.natCast_mul]
  rw [show (z.natAbs : Int) = -z by omega, Int.neg_mul, Int.neg_neg]
 ·simp only [h, decide_false, sn, Int.natCast_mul]
  rw [show (z.natAbs : Int) = z by omega]; rfl

theorem three_boxes {w w' : World} {x0 x1 x2 y0 y1 y2 z0 z1 z2 : Value} {T : TypeId}
  (h : Below (((w.alloc (.cells #[x0, x1, x2] T)).alloc (.cells #[y0, y1, y2] T)).alloc (.cells #[z0, z1, z2] T)).heap.size (((w.alloc (.cells #[x0, x1, x2] T)).alloc (.cells #[y0, y1, y2] T)).alloc (.cells #[z0, z1, z2] T)) w') :
  (w'.cell? ⟨w.heap.size, 0, none⟩ = some x0 ∧ w'.cell? ⟨w.heap.size, 1, none⟩ = some x1 ∧ w'.cell? ⟨w.heap.size, 2, none⟩ = some x2 ∧
  w'.cell? ⟨w.heap.size + 1, 0, none⟩ = some y0 ∧ w'.cell? ⟨w.heap.size + 1, 1, none⟩ = some y1 ∧ w'.cell? ⟨w.heap.size + 1, 2, none⟩ = some y2) ∧
  w'.heap[w.heap.size + 2]? = some (.cells #[z0, z1, z2] T) ∧ w.heap.size + 2 < w'.heap.size := by
 have h2 : Below ((w.alloc (.cells #[x0, x1, x2] T)).alloc (.cells #[y0, y1, y2] T)).heap.size ((w.alloc (.cells #[x0, x1, x2] T)).alloc (.cells #[y0, y1, y2] T)) w' := below_step (alloc_below _ (.cells #[z0, z1, z2] T)) h
 have h3 := box3 h
 refine ⟨two_boxes h2, ?_⟩
 simpa using h3

theorem six_store {w w' : World} {x0 x1 x2 y0 y1 y2 : Value} (h : w'.cell? ⟨w.heap.size, 0, none⟩ = some x0 ∧ w'.cell? ⟨w.heap.size, 1, none⟩ = some x1 ∧ w'.cell? ⟨w.heap.size, 2, none⟩ = some x2 ∧
  w'.cell? ⟨w.heap.size + 1, 0, none⟩ = some y0 ∧ w'.cell? ⟨w.heap.size + 1, 1, none⟩ = some y1 ∧ w'.cell? ⟨w.heap.size + 1, 2, none⟩ = some y2) (z0 z1 z2 : Value) :
  (((w'.setCell ⟨w.heap.size + 2, 0, none⟩ z0).setCell ⟨w.heap.size + 2, 1, none⟩ z1).setCell ⟨w.heap.size + 2, 2, none⟩ z2).cell? ⟨w.heap.size, 0, none⟩ = some x0 ∧
  (((w'.setCell ⟨w.heap.size + 2, 0, none⟩ z0).setCell ⟨w.heap.size + 2, 1, none⟩ z1).setCell ⟨w.heap.size + 2, 2, none⟩ z2).cell? ⟨w.heap.size, 1, none⟩ = some x1 ∧
  (((w'.setCell ⟨w.heap.size + 2, 0, none⟩ z0).setCell ⟨w.heap.size + 2, 1, none⟩ z1).setCell ⟨w.heap.size + 2, 2, none⟩ z2).cell? ⟨w.heap.size, 2, none⟩ = some x2 ∧
  (((w'.setCell ⟨w.heap.size + 2, 0, none⟩ z0).setCell ⟨w.heap.size + 2, 1, none⟩ z1).setCell ⟨w.heap.size + 2, 2, none⟩ z2).cell? ⟨w.heap.size + 1, 0, none⟩ = some y0 ∧
  (((w'.setCell ⟨w.heap.size + 2, 0, none⟩ z0).setCell ⟨w.heap.size + 2, 1, none⟩ z1).setCell ⟨w.heap.size + 2, 2, none⟩ z2).cell? ⟨w.heap.size + 1, 1, none⟩ = some y1 ∧
  (((w'.setCell ⟨w.heap.size + 2, 0, none⟩ z0).setCell ⟨w.heap.size + 2, 1, none⟩ z1).setCell ⟨w.heap.size + 2, 2, none⟩ z2).cell? ⟨w.heap.size + 1, 2, none⟩ = some y2 := by
 have e : ∀ (k o : Nat), k ≠ w.heap.size + 2 → (((w'.setCell ⟨w.heap.size + 2, 0, none⟩ z0).setCell ⟨w.heap.size + 2, 1, none⟩ z1).setCell ⟨w.heap.size + 2, 2, none⟩ z2).cell? ⟨k, o, none⟩ = w'.cell? ⟨k, o, none⟩ := fun k o hk =>
  World.cell?_of_block (w := w') (a := ⟨k, o, none⟩) (by rw [Below.heap_setCell _ _ _ _ hk, Below.heap_setCell _ _ _ _ hk, Below.heap_setCell _ _ _ _ hk])
 obtain ⟨h1, h2, h3, h4, h5, h6⟩ := h
 exact ⟨by rw [e _ _ (by omega)]; exact h1, by rw [e _ _ (by omega)]; exact h2, by rw [e _ _ (by omega)]; exact h3, by rw [e _ _ (by omega)]; exact h4, by rw [e _ _ (by omega)]; exact h5, by rw [e _ _ (by omega)]; exact h6⟩

theorem below_drew_ge (w : World) (B : Nat) : Below B w w.drew := (Below.refl _ _).drew

end Go.Proofs.YtcelbgleajpenaaGreatDoor
