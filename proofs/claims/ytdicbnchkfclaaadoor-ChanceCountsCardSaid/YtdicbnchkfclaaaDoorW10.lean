/- Fractions made of two whole numbers. -/
import Derived.Test.YtdicbnchkfclaaaDoorW9
namespace Go.Proofs.YtdicbnchkfclaaaDoor
open Go.RowKit Go.Sort Go.Shelf

theorem gcd_pos {O U : Int} (hU : 0 < U) : 0 < (Int.gcd O U : Int) := by
  have : Int.gcd O U ≠ 0 := by rw [Ne, Int.gcd_eq_zero_iff]; omega
  omega
theorem gcd_le {O U : Int} (hU : 0 < U) : (Int.gcd O U : Int) ≤ U := by
  have : Int.gcd O U ≤ U.natAbs := Nat.le_of_dvd (by omega) (Int.gcd_dvd_natAbs_right O U)
  omega

/-- Both divided by what they have in common. -/
theorem lowered_math (s : Bool) {O : Int} {U : Nat} (hO : 0 ≤ O) (hU : U ≠ 0) :
    (U : Int) / (Int.gcd O U : Int) = ((U / Int.gcd O U : Nat) : Int) ∧ U / Int.gcd O U ≠ 0 ∧ (O / (Int.gcd O U : Int)).natAbs.gcd (U / Int.gcd O U) = 1 ∧
      mkRat (sn s (O / (Int.gcd O U : Int))) (U / Int.gcd O U) = mkRat (sn s O) U := by
  obtain ⟨M, rfl⟩ := Int.eq_ofNat_of_zero_le hO
  have hg : Int.gcd (M : Int) (U : Int) = Nat.gcd M U := rfl
  rw [hg]
  have hgp : 0 < Nat.gcd M U := Nat.gcd_pos_of_pos_right _ (by omega)
  have d1 := Nat.gcd_dvd_left M U
  have d2 := Nat.gcd_dvd_right M U
  have hne : U / Nat.gcd M U ≠ 0 := by
    have := Nat.div_pos (Nat.le_of_dvd (by omega) d2) hgp
    omega
  refine ⟨by simp, hne, ?_, ?_⟩
  · have : ((M : Int) / (Nat.gcd M U : Int)).natAbs = M / Nat.gcd M U := by
      rw [← Int.natCast_ediv, Int.natAbs_natCast]
    rw [this]
    exact Nat.coprime_div_gcd_div_gcd hgp
  · have e1 : (Nat.gcd M U : Int) * sn s ((M : Int) / (Nat.gcd M U : Int)) = sn s M := by
      have : (Nat.gcd M U : Int) * ((M : Int) / (Nat.gcd M U : Int)) = M := Int.mul_ediv_cancel' (Int.natCast_dvd_natCast.2 d1)
      cases s
      · simpa [sn] using this
      · simp only [sn, if_true, Int.mul_neg, this]
    have e2 : Nat.gcd M U * (U / Nat.gcd M U) = U := Nat.mul_div_cancel' d2
    have := Rat.mkRat_mul_left (n := sn s ((M : Int) / (Nat.gcd M U : Int))) (d := U / Nat.gcd M U) (a := Nat.gcd M U) (by omega)
    rw [e1, e2] at this
    exact this.symm

/-- A box of a fraction, laid ahead of calls. -/
theorem box3 {w w' : World} {x0 x1 x2 : Value} {T : TypeId} (h : Below (w.alloc (.cells #[x0, x1, x2] T)).heap.size (w.alloc (.cells #[x0, x1, x2] T)) w') :
    w'.heap[w.heap.size]? = some (.cells #[x0, x1, x2] T) ∧ w.heap.size < w'.heap.size := by
  have hs := h.size
  simp at hs
  refine ⟨?_, by omega⟩
  rw [h.block w.heap.size (by simp)]
  show (w.heap.push _)[w.heap.size]? = _
  simp
theorem box_cell {w : World} {g : Nat} {x0 x1 x2 : Value} {T : TypeId} (h : w.heap[g]? = some (.cells #[x0, x1, x2] T)) :
    w.cell? ⟨g, 0, none⟩ = some x0 ∧ w.cell? ⟨g, 1, none⟩ = some x1 ∧ w.cell? ⟨g, 2, none⟩ = some x2 ∧ w.frozen? ⟨g, 0, none⟩ = false ∧ w.frozen? ⟨g, 1, none⟩ = false ∧ w.frozen? ⟨g, 2, none⟩ = false := by
  simp [World.cell?, World.frozen?, h]

/-- What a box holds is no word: so no number's words lie in it. -/
def NoWord (o : Obj) : Prop := ∀ cs T fr, o = .cells cs T fr → ∀ (j : Nat) (x : Int), cs[j]? ≠ some (.int .u64 x)

theorem RowIs.other {w w' : World} {a : Option Addr} {n c : Nat} {f : Nat → Int} {g : Nat} {o : Obj} (h : RowIs w a n c f) (hg : w.heap[g]? = some o) (ho : NoWord o) (hs : w.heap.size ≤ w'.heap.size) (hk : ∀ k, k ≠ g → w'.heap[k]? = w.heap[k]?) : RowIs w' a n c f := by
  obtain ⟨h1, h2, h3⟩ := h
  refine ⟨h1, h2, fun hn => ?_⟩
  obtain ⟨b, p, e, hlt, hc⟩ := h3 hn
  have hne : b ≠ g := by
    intro e'
    subst e'
    have := hc 0 hn
    obtain ⟨cs, T, fr, hb, hx⟩ := cells_of_cell? this
    rw [hb] at hg
    exact ho cs T fr (Option.some.inj hg).symm _ _ hx
  exact ⟨b, p, e, Nat.lt_of_lt_of_le hlt hs, fun j hj => by rw [World.cell?_of_block (w := w) (a := ⟨b, p + j, none⟩) (hk b hne)]; exact hc j hj⟩
theorem NatIs.other {w w' : World} {v : Value} {N : Int} {g : Nat} {o : Obj} (h : NatIs w v N) (hg : w.heap[g]? = some o) (ho : NoWord o) (hs : w.heap.size ≤ w'.heap.size) (hk : ∀ k, k ≠ g → w'.heap[k]? = w.heap[k]?) : NatIs w' v N := by
  obtain ⟨a, n, c, e, hl, hr⟩ := h
  exact ⟨a, n, c, e, hl, hr.other hg ho hs hk⟩
theorem RatIs.other {w w' : World} {v : Value} {q : Rat} {g : Nat} {o : Obj} (h : RatIs w v q) (hg : w.heap[g]? = some o) (ho : NoWord o) (hs : w.heap.size ≤ w'.heap.size) (hk : ∀ k, k ≠ g → w'.heap[k]? = w.heap[k]?) : RatIs w' v q := by
  obtain ⟨ov, un, e, h1, h2⟩ := h
  exact ⟨ov, un, e, h1.other hg ho hs hk, h2.other hg ho hs hk⟩

theorem noWord3 (b : Bool) (a1 a2 : Option Addr) (n1 c1 n2 c2 : Nat) (T : TypeId) (fr : Nat × Nat) : NoWord (.cells #[.bool b, .slice a1 n1 c1, .slice a2 n2 c2] T fr) := by
  intro cs T' fr' e j x
  injection e with e
  subst e
  rcases j with _ | _ | _ | j <;> simp

/-- A fraction is put into a box of the call's own: it is what it was. -/
theorem rat_boxed {w0 w : World} {g : Nat} {v : Value} {q : Rat} {b : Bool} {a1 a2 : Option Addr} {n1 k1 n2 k2 : Nat} {T : TypeId} (h : RatIs w v q) (hbx : w.heap[g]? = some (.cells #[.bool b, .slice a1 n1 k1, .slice a2 n2 k2] T))
    (hb : Below w0.heap.size w0 w) (hg : w0.heap.size ≤ g) (x0 x1 x2 : Value) :
    RatIs (((w.setCell ⟨g, 0, none⟩ x0).setCell ⟨g, 1, none⟩ x1).setCell ⟨g, 2, none⟩ x2) v q ∧ Below w0.heap.size w0 (((w.setCell ⟨g, 0, none⟩ x0).setCell ⟨g, 1, none⟩ x1).setCell ⟨g, 2, none⟩ x2) := by
  refine ⟨h.other hbx (noWord3 _ _ _ _ _ _ _ _ _) (by simp [World.setCell]) (fun k hk => ?_), ((hb.setCell hg _).setCell hg _).setCell hg _⟩
  rw [Below.heap_setCell _ _ _ _ hk, Below.heap_setCell _ _ _ _ hk, Below.heap_setCell _ _ _ _ hk]

set_option maxHeartbeats 1000000 in
theorem lowered_small (s : Bool) (vo vu : Value) (O : Int) (U : Nat) (w : World) (ho : NatIs w vo O) (hu : NatIs w vu U) (hOs : Sm O) (hU : U ≠ 0) (hUw : (U : Int) < 18446744073709551616) :
    Calls Tryd.prog 58 #[.bool s, vo, vu] w fun e w' => ∃ v, e = .returned v ∧ RatIs w' v (mkRat (sn s O) U) ∧ Below w.heap.size w w' := by
  have hO := ho.nn
  have hgp := gcd_pos (O := O) (U := U) (by omega)
  have hgl := gcd_le (O := O) (U := U) (by omega)
  obtain ⟨m1, m2, m3, m4⟩ := lowered_math s hO hU
  have HO := hide ho
  have HU := hide hu
  obtain ⟨a, n, c, rfl, hl, hra⟩ := ho
  obtain ⟨a', n', c', rfl, hl', hrb⟩ := hu
  have M1 := hide m1
  have M4 := hide m4
  have M3 := hide m3
  clear hl hra hl' hrb m1 m3 m4
  have HB := hide (alloc_below w (.cells #[.bool false, .slice none 0 0, .slice none 0 0] 36))
  have HX0 := hide (Below.refl (w.alloc (.cells #[.bool false, .slice none 0 0, .slice none 0 0] 36)).heap.size (w.alloc (.cells #[.bool false, .slice none 0 0, .slice none 0 0] 36)))
  go_enter Tryd.func58, Tryd.ntmps58
  go_wp2_with fail
  refine (gcd_small _ _ O U _ ((unhide HO).below (unhide HB)) ((unhide HU).below (unhide HB)) hOs (sm_word hUw) (Or.inr hUw)).mono ?_
  rintro e w1 ⟨v1, rfl, hv1, hb1⟩
  have HX1 := hide ((unhide HX0).trans (hb1.mono (unhide HX0).size))
  have HB1 := hide ((unhide HB).trans (hb1.mono (unhide HB).size))
  have HV1 := hide hv1
  obtain ⟨a1, n1, c1, rfl, _, _⟩ := hv1
  clear hb1
  go_wp2_with fail
  refine (quotient_small _ _ O _ _ ((unhide HO).below (unhide HB1)) (unhide HV1) hOs hgp (Or.inr (by omega))).mono ?_
  rintro e w2 ⟨v2, rfl, hv2, hb2⟩
  have HX2 := hide ((unhide HX1).trans (hb2.mono (unhide HX1).size))
  have HB2 := hide ((unhide HB1).trans (hb2.mono (unhide HB1).size))
  have HV2 := hide hv2
  have HV12 := hide ((unhide HV1).below hb2)
  obtain ⟨a2, n2, c2, rfl, _, _⟩ := hv2
  clear hb2
  go_wp2_with fail
  refine (quotient_small _ _ U _ _ ((unhide HU).below (unhide HB2)) (unhide HV12) (sm_word hUw) hgp (Or.inr (by omega))).mono ?_
  rintro e w3 ⟨v3, rfl, hv3, hb3⟩
  have HX3 := hide ((unhide HX2).trans (hb3.mono (unhide HX2).size))
  have HB3 := hide ((unhide HB2).trans (hb3.mono (unhide HB2).size))
  rw [unhide M1] at hv3
  have HV3 := hide hv3
  have HV23 := hide ((unhide HV2).below hb3)
  obtain ⟨a3, n3, c3, rfl, _, _⟩ := hv3
  clear hb3
  go_wp2_with fail
  refine (settled_any s _ _ _ _ _ (unhide HV23) (unhide HV3) m2 (unhide M3)).mono ?_
  rintro e w4 ⟨v4, rfl, hv4, hb4⟩
  have HX4 := hide ((unhide HX3).trans (hb4.mono (unhide HX3).size))
  have HB4 := hide ((unhide HB3).trans (hb4.mono (unhide HB3).size))
  rw [unhide M4] at hv4
  have HV4 := hide hv4
  obtain ⟨ov, un, rfl, hov, hun⟩ := hv4
  obtain ⟨a4, n4, c4, rfl, _, _⟩ := hov
  obtain ⟨a5, n5, c5, rfl, _, _⟩ := hun
  have ⟨hbx, hsz⟩ := box3 (unhide HX4)
  have ⟨c0, c1, c2, f0, f1, f2⟩ := box_cell hbx
  have HBX := hide hbx
  clear hb4 hbx
  go_wp2
  have ⟨r1, r2⟩ := rat_boxed (w0 := w) (unhide HV4) (unhide HBX) (unhide HB4) (Nat.le_refl _) (Value.bool (decide ((mkRat (sn s O) U).num < 0))) (Value.slice a4 n4 c4) (Value.slice a5 n5 c5)
  exact bodyPost_ret (v := .agg #[.bool (decide ((mkRat (sn s O) U).num < 0)), .slice a4 n4 c4, .slice a5 n5 c5]) (by simp [results, Tryd.results58, go_sem, c0, c1, c2]) rfl ⟨_, rfl, r1, r2⟩

theorem i64_sn (x : Int) : sn (decide (x < 0)) (x.natAbs : Int) = x := by
  by_cases h : x < 0
  · simp [sn, h]; omega
  · simp [sn, h]; omega
theorem of_math {x y : Int} (hy : y ≠ 0) : mkRat (sn (decide (x < 0) != decide (y < 0)) (x.natAbs : Int)) y.natAbs = Rat.divInt x y := by
  rcases Int.lt_or_le y 0 with h | h
  · obtain ⟨k, rfl⟩ : ∃ k : Nat, y = -(k : Int) := ⟨y.natAbs, by omega⟩
    rw [Rat.divInt_neg', Rat.divInt_ofNat]
    have e : (-(k : Int)).natAbs = k := by omega
    rw [e]
    congr 1
    rw [decide_eq_true h]
    by_cases hx : x < 0
    · simp [sn, hx]; omega
    · simp [sn, hx]; omega
  · obtain ⟨k, rfl⟩ : ∃ k : Nat, y = (k : Int) := ⟨y.natAbs, by omega⟩
    rw [Rat.divInt_ofNat]
    have e : ((k : Int)).natAbs = k := by omega
    rw [e, decide_eq_false (show ¬ (k : Int) < 0 by omega), Bool.bne_false, i64_sn]

set_option maxHeartbeats 1000000 in
theorem of_any (x y : Int) (hx0 : -9223372036854775808 ≤ x) (hx1 : x ≤ 9223372036854775807) (hy0 : -9223372036854775808 ≤ y) (hy1 : y ≤ 9223372036854775807) (hy : y ≠ 0) (w : World) :
    Calls Tryd.prog 33 #[.int .i64 x, .int .i64 y] w fun e w' => ∃ v, e = .returned (.tuple #[v, .nilIface]) ∧ RatIs w' v (Rat.divInt x y) ∧ Below w.heap.size w w' := by
  have hz : (y == 0) = false := by rw [beq_eq_false_iff_ne]; exact hy
  have M := hide (of_math (x := x) hy)
  have HB := hide (alloc_below w (.cells #[.bool false, .slice none 0 0, .slice none 0 0] 36))
  have HX0 := hide (Below.refl (w.alloc (.cells #[.bool false, .slice none 0 0, .slice none 0 0] 36)).heap.size (w.alloc (.cells #[.bool false, .slice none 0 0, .slice none 0 0] 36)))
  obtain ⟨X, hX⟩ : ∃ X : Int, (x.natAbs : Int) = X := ⟨_, rfl⟩
  have hXw : Wd.W64 X := ⟨by omega, by omega⟩
  have hYw : Wd.W64 (y.natAbs : Int) := ⟨by omega, by omega⟩
  obtain ⟨s, hs⟩ : ∃ s, (!(decide (x < 0) == decide (y < 0))) = s := ⟨_, rfl⟩
  have HSx := hide (size_any x hx0 hx1)
  have HSy := hide (size_any y hy0 hy1)
  rw [hX] at HSx M
  have M : Hid (mkRat (sn s X) y.natAbs = Rat.divInt x y) := by rw [← hs]; exact unhide M
  have hyn : y.natAbs ≠ 0 := by omega
  clear hX
  go_enter Tryd.func33, Tryd.ntmps33
  go_wp2_with fail
  refine (unhide HSx _).mono ?_
  rintro e w' ⟨rfl, hw'⟩
  subst hw'
  go_wp2_with fail
  refine (word_any X hXw _).mono ?_
  rintro e w1 ⟨v1, rfl, hv1, hb1⟩
  have HX1 := hide ((unhide HX0).trans (hb1.mono (unhide HX0).size))
  have HV1 := hide hv1
  obtain ⟨a1, n1, c1, rfl, _, _⟩ := hv1
  clear hb1
  go_wp2_with fail
  refine (unhide HSy _).mono ?_
  rintro e w' ⟨rfl, hw'⟩
  obtain rfl := hw'.symm
  go_wp2_with fail
  refine (word_any _ hYw _).mono ?_
  rintro e w2 ⟨v2, rfl, hv2, hb2⟩
  have HX2 := hide ((unhide HX1).trans (hb2.mono (unhide HX1).size))
  have HV12 := hide ((unhide HV1).below hb2)
  have HV2 := hide hv2
  obtain ⟨a2, n2, c2, rfl, _, _⟩ := hv2
  clear hb2
  go_wp2_with fail
  refine (lowered_small s _ _ X _ _ (unhide HV12) (unhide HV2) (sm_word hXw.2) hyn hYw.2).mono ?_
  rintro e w4 ⟨v4, rfl, hv4, hb4⟩
  have HX4 := hide ((unhide HX2).trans (hb4.mono (unhide HX2).size))
  rw [unhide M] at hv4
  have HV4 := hide hv4
  obtain ⟨ov, un, rfl, hov, hun⟩ := hv4
  obtain ⟨a4, n4, c4, rfl, _, _⟩ := hov
  obtain ⟨a5, n5, c5, rfl, _, _⟩ := hun
  have ⟨hbx, hsz⟩ := box3 (unhide HX4)
  have ⟨c0, c1, c2, f0, f1, f2⟩ := box_cell hbx
  have HBX := hide hbx
  clear hb4 hbx
  go_wp2
  have hbw : Below w.heap.size w w4 := (unhide HB).trans ((unhide HX4).mono (unhide HB).size)
  have ⟨r1, r2⟩ := rat_boxed (w0 := w) (unhide HV4) (unhide HBX) hbw (Nat.le_refl _) (Value.bool (decide ((Rat.divInt x y).num < 0))) (Value.slice a4 n4 c4) (Value.slice a5 n5 c5)
  exact bodyPost_ret (v := .tuple #[.agg #[.bool (decide ((Rat.divInt x y).num < 0)), .slice a4 n4 c4, .slice a5 n5 c5], .nilIface]) (by simp [results, Tryd.results33, go_sem, c0, c1, c2]) rfl ⟨_, rfl, r1, r2⟩

set_option maxHeartbeats 1000000 in
theorem whole_any (x : Int) (hx0 : -9223372036854775808 ≤ x) (hx1 : x ≤ 9223372036854775807) (w : World) :
    Calls Tryd.prog 17 #[.int .i64 x] w fun e w' => ∃ v, e = .returned v ∧ RatIs w' v (x : Rat) ∧ Below w.heap.size w w' := by
  have HB := hide (alloc_below w (.cells #[.bool false, .slice none 0 0, .slice none 0 0] 36))
  have HX0 := hide (Below.refl (w.alloc (.cells #[.bool false, .slice none 0 0, .slice none 0 0] 36)).heap.size (w.alloc (.cells #[.bool false, .slice none 0 0, .slice none 0 0] 36)))
  have hXw : Wd.W64 (x.natAbs : Int) := ⟨by omega, by omega⟩
  have M : Hid (mkRat (sn (decide (x < 0)) (x.natAbs : Int)) 1 = (x : Rat)) := by
    rw [i64_sn]
    exact (Rat.mk_eq_mkRat x 1 (by decide) (by simp)).symm
  obtain ⟨s, hs⟩ : ∃ s, decide (x < 0) = s := ⟨_, rfl⟩
  have HSx := hide (size_any x hx0 hx1)
  rw [hs] at M
  go_enter Tryd.func17, Tryd.ntmps17
  go_wp2_with fail
  refine (unhide HSx _).mono ?_
  rintro e w' ⟨rfl, hw'⟩
  subst hw'
  go_wp2_with fail
  refine (word_any _ hXw _).mono ?_
  rintro e w1 ⟨v1, rfl, hv1, hb1⟩
  have HX1 := hide ((unhide HX0).trans (hb1.mono (unhide HX0).size))
  have HV1 := hide hv1
  obtain ⟨a1, n1, c1, rfl, _, _⟩ := hv1
  clear hb1
  go_wp2_with fail
  refine (one_any _).mono ?_
  rintro e w2 ⟨v2, rfl, hv2, hb2⟩
  have HX2 := hide ((unhide HX1).trans (hb2.mono (unhide HX1).size))
  have HV12 := hide ((unhide HV1).below hb2)
  have HV2 := hide hv2
  obtain ⟨a2, n2, c2, rfl, _, _⟩ := hv2
  clear hb2
  go_wp2_with fail
  refine (settled_any s _ _ _ 1 _ (unhide HV12) (unhide HV2) (by decide) (by simp)).mono ?_
  rintro e w4 ⟨v4, rfl, hv4, hb4⟩
  have HX4 := hide ((unhide HX2).trans (hb4.mono (unhide HX2).size))
  rw [unhide M] at hv4
  have HV4 := hide hv4
  obtain ⟨ov, un, rfl, hov, hun⟩ := hv4
  obtain ⟨a4, n4, c4, rfl, _, _⟩ := hov
  obtain ⟨a5, n5, c5, rfl, _, _⟩ := hun
  have ⟨hbx, hsz⟩ := box3 (unhide HX4)
  have ⟨c0, c1, c2, f0, f1, f2⟩ := box_cell hbx
  have HBX := hide hbx
  clear hb4 hbx
  go_wp2
  have hbw : Below w.heap.size w w4 := (unhide HB).trans ((unhide HX4).mono (unhide HB).size)
  have ⟨r1, r2⟩ := rat_boxed (w0 := w) (unhide HV4) (unhide HBX) hbw (Nat.le_refl _) (Value.bool (decide ((x : Rat).num < 0))) (Value.slice a4 n4 c4) (Value.slice a5 n5 c5)
  exact bodyPost_ret (v := .agg #[.bool (decide ((x : Rat).num < 0)), .slice a4 n4 c4, .slice a5 n5 c5]) (by simp [results, Tryd.results17, go_sem, c0, c1, c2]) rfl ⟨_, rfl, r1, r2⟩
end Go.Proofs.YtdicbnchkfclaaaDoor
