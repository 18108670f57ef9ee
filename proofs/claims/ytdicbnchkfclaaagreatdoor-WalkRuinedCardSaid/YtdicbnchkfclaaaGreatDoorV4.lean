/- walk.Ruin, where all is right. -/
import Derived.Test.YtdicbnchkfclaaaGreatDoorV3
namespace Go.Proofs.YtdicbnchkfclaaaGreatDoor
open Go.RowKit Go.Sort Go.Shelf

/-- Made, or not yet. -/
def Alc1 (B : Nat) (l : Bool) (s : Value) (w : World) : Prop := (l = false ∧ s = undef) ∨ (l = true ∧ ∃ b, s = .pointer (some ⟨b, 0, none⟩) ∧ BoxIs w b zTri 0 ∧ B ≤ b)
theorem Alc1.keep {B : Nat} {l : Bool} {s : Value} {w w' : World} (h : Alc1 B l s w) (hb : Below w.heap.size w w') : Alc1 B l s w' := by
  rcases h with h | ⟨h, b, h1, h2, h3⟩
  · exact Or.inl h
  · exact Or.inr ⟨h, b, h1, h2.keep hb, h3⟩

/-- Two fractions one behind the other, and a box. -/
structure TwoI (q1 q2 : Rat) (w0 : World) (c : Nat) (l : Bool) (w : World) (s1 s2 s3 : Value) : Prop where
  bl : Below w0.heap.size w0 w
  r1 : 1 ≤ c → RatIs w s1 q1
  r2 : 2 ≤ c → RatIs w s2 q2
  al : Alc1 w0.heap.size l s3 w

theorem num_pos' {q : Rat} : 0 < q ↔ 0 < q.num := by
  rw [Rat.lt_iff]
  show 0 * (q.den : Int) < q.num * ((1 : Nat) : Int) ↔ _
  omega

theorem odds_pos {u : Rat} (h0 : 0 < u.num) (h1 : u.num < u.den) : 0 < odds u := by
  have a : 0 < u := num_pos'.2 h0
  have b : u < 1 := by
    rw [Rat.lt_iff]
    show u.num * ((1 : Nat) : Int) < 1 * (u.den : Int)
    omega
  have c : 0 < 1 - u := by grind
  unfold odds
  rw [Rat.div_def]
  exact Rat.mul_pos c (Rat.inv_pos.2 a)

theorem num_ne {q : Rat} (h : 0 < q) : q.num ≠ 0 := by
  have := num_pos'.1 h
  omega

set_option maxHeartbeats 16000000 in
set_option maxRecDepth 100000 in
set_option linter.unusedSimpArgs false in
theorem ruin_any (v : Value) (u : Rat) (g h : Nat) (w : World) (hv : RatIs w v u) (hu : RS u 1) (hg0 : 1 ≤ g) (hg : g ≤ 20) (hh : h ≤ g) (hu0 : 0 < u.num) (hu1 : u.num < u.den) :
    Calls Tryz.prog 15 #[.int .i64 (h : Int), .int .i64 (g : Int), v] w fun e w' => ∃ a b, e = .returned (.tuple #[a, b, .nilIface]) ∧ RatIs w' a (lostv u g h) ∧ RatIs w' b (timesv u g h) ∧ Below w.heap.size w w' := by
  have hz : u.num ≠ 0 := by omega
  have ro := odds_RS hu hz
  have hop := odds_pos hu0 hu1
  have hfg : (fsm (odds u) g).num ≠ 0 := by
    have := (fsm_pos hop (g - 1)).2
    rw [show g - 1 + 1 = g by omega] at this
    exact num_ne this
  have KKe' : KK = 1099511627776 := rfl
  have HPW : Hid (∀ W v (n : Nat), RatIs W v (odds u) → n ≤ g → Calls Tryz.prog 29 #[v, .int .i64 (n : Int)] W fun e w' => ∃ a b, e = .returned (.tuple #[a, b]) ∧ RatIs w' a (fsm (odds u) n) ∧ RatIs w' b (ssm (odds u) n) ∧ Below W.heap.size W w') := fun W v n hv hn => powers_any v (odds u) n 100000 W hv (by omega) (fun k hk => ⟨(pow_RS ro k).mono (by omega), (fsm_RS ro k (by omega)).mono (by omega), (ssm_RS ro k (by omega)).mono (by omega)⟩) (ro.mono (by omega)) (by rw [KKe']; omega)
  have HSUB : Hid (∀ W v v' q q', RatIs W v q → RatIs W v' q' → RS q 100000 → RS q' 100000 → Calls Tryz.prog 10 #[v, v'] W fun e w' => ∃ v, e = .returned v ∧ RatIs w' v (q - q') ∧ Below W.heap.size W w') := fun W v v' q q' h h' r r' => subR_any v v' q q' W h h' 100000 r r' (by rw [KKe']; omega)
  have HMUL : Hid (∀ W v v' q q', RatIs W v q → RatIs W v' q' → RS q 100000 → RS q' 100000 → Calls Tryz.prog 9 #[v, v'] W fun e w' => ∃ v, e = .returned v ∧ RatIs w' v (q * q') ∧ Below W.heap.size W w') := fun W v v' q q' h h' r r' => mulR_any v v' q q' W h h' 100000 r r' (by rw [KKe']; omega)
  have HDIV : Hid (∀ W v v' q q', RatIs W v q → RatIs W v' q' → RS q 100000 → RS q' 100000 → q'.num ≠ 0 → Calls Tryz.prog 28 #[v, v'] W fun e w' => ∃ v, e = .returned v ∧ RatIs w' v (q / q') ∧ Below W.heap.size W w') := fun W v v' q q' h h' r r' z => wdivided_any v v' q q' W h h' 100000 r r' (by rw [KKe']; omega) z
  have R1 : RS (1 - u) 100000 := (RS.sub' one_RS' hu).mono (by omega)
  have RU : RS u 100000 := hu.mono (by omega)
  have RO : RS ((1 : Int) : Rat) 100000 := onei_RS.mono (by omega)
  have RFH := fsm_RS ro h (by omega)
  have RFG := fsm_RS ro g (by omega)
  have RSH := ssm_RS ro h (by omega)
  have RSG := ssm_RS ro g (by omega)
  have RW := RS.div' RFH RFG hfg
  have RM := RW.mul RSG
  have RN : RS (fsm (odds u) h / fsm (odds u) g * ssm (odds u) g - ssm (odds u) h) 100000 := (RM.sub' RSH).mono (by omega)
  have RM' := RM.mono (show _ ≤ 100000 by omega)
  have RW' := RW.mono (show _ ≤ 100000 by omega)
  have RFH' := RFH.mono (show _ ≤ 100000 by omega)
  have RFG' := RFG.mono (show _ ≤ 100000 by omega)
  have RSH' := RSH.mono (show _ ≤ 100000 by omega)
  have RSG' := RSG.mono (show _ ≤ 100000 by omega)
  clear RFH RFG RSH RSG RW RM ro hop KKe'
  obtain ⟨t, rfl, ht⟩ := tri_of hv
  have HB_0 := hide (below_step (below_step (alloc_below w (.cells #[.bool t.s, .slice t.a1 t.n1 t.c1, .slice t.a2 t.n2 t.c2] 27)) (alloc_below _ (.cells #[.bool false, .slice none 0 0, .slice none 0 0] 27))) (alloc_below _ (.cells #[.bool false, .slice none 0 0, .slice none 0 0] 27)))
  have HX_b5_0 := hide (((BoxIs.new ht).keep (alloc_below _ (.cells #[.bool false, .slice none 0 0, .slice none 0 0] 27))).keep (alloc_below _ (.cells #[.bool false, .slice none 0 0, .slice none 0 0] 27)))
  have HX_b6_0 := hide ((BoxIs.new (w := w.alloc (.cells #[.bool t.s, .slice t.a1 t.n1 t.c1, .slice t.a2 t.n2 t.c2] 27)) (t := zTri) (q := 0) (rat_zero _)).keep (alloc_below _ (.cells #[.bool false, .slice none 0 0, .slice none 0 0] 27)))
  have HX_b7_0 := hide (BoxIs.new (w := (w.alloc (.cells #[.bool t.s, .slice t.a1 t.n1 t.c1, .slice t.a2 t.n2 t.c2] 27)).alloc (.cells #[.bool false, .slice none 0 0, .slice none 0 0] 27)) (t := zTri) (q := 0) (rat_zero _))
  obtain ⟨W0, hW0⟩ : ∃ W, ((w.alloc (.cells #[.bool t.s, .slice t.a1 t.n1 t.c1, .slice t.a2 t.n2 t.c2] 27)).alloc (.cells #[.bool false, .slice none 0 0, .slice none 0 0] 27)).alloc (.cells #[.bool false, .slice none 0 0, .slice none 0 0] 27) = W := ⟨_, rfl⟩
  have e4 : (w.alloc (.cells #[.bool t.s, .slice t.a1 t.n1 t.c1, .slice t.a2 t.n2 t.c2] 27)).heap.size = w.heap.size + 1 := alloc_size _ _
  have e5 : ((w.alloc (.cells #[.bool t.s, .slice t.a1 t.n1 t.c1, .slice t.a2 t.n2 t.c2] 27)).alloc (.cells #[.bool false, .slice none 0 0, .slice none 0 0] 27)).heap.size = w.heap.size + 1 + 1 := by rw [alloc_size, e4]
  rw [show ((w.alloc (.cells #[.bool t.s, .slice t.a1 t.n1 t.c1, .slice t.a2 t.n2 t.c2] 27)).alloc (.cells #[.bool zTri.s, .slice zTri.a1 zTri.n1 zTri.c1, .slice zTri.a2 zTri.n2 zTri.c2] 27)).alloc (.cells #[.bool false, .slice none 0 0, .slice none 0 0] 27) = W0 from hW0, e4] at HX_b6_0
  rw [show ((w.alloc (.cells #[.bool t.s, .slice t.a1 t.n1 t.c1, .slice t.a2 t.n2 t.c2] 27)).alloc (.cells #[.bool false, .slice none 0 0, .slice none 0 0] 27)).alloc (.cells #[.bool zTri.s, .slice zTri.a1 zTri.n1 zTri.c1, .slice zTri.a2 zTri.n2 zTri.c2] 27) = W0 from hW0, e5] at HX_b7_0
  rw [hW0] at HB_0 HX_b5_0
  have HWE := hide hW0
  have i1 : ¬ (h : Int) < 0 := by omega
  have i2 : ¬ (g : Int) < (h : Int) := by omega
  have i3 : ¬ (g : Int) < 1 := by omega
  have i4 : ¬ (60 : Int) < (g : Int) := by omega
  have KKe : KK = 1099511627776 := rfl
  have HU := hide hu
  clear e4 e5 hW0 ht hv hu
  simp only [Tri.val]
  go_enter Tryz.func15, Tryz.ntmps15
  go_wp2_with fail
  rw [unhide HWE]
  clear HWE
  obtain ⟨b5, hb5⟩ : ∃ b, w.heap.size = b := ⟨_, rfl⟩
  obtain ⟨b6, hb6⟩ : ∃ b, b5 + 1 = b := ⟨_, rfl⟩
  obtain ⟨b7, hb7⟩ : ∃ b, b6 + 1 = b := ⟨_, rfl⟩
  have HG_b5 : Hid (w.heap.size ≤ b5) := by rw [hb5]; exact Nat.le_refl _
  have HG_b6 : Hid (w.heap.size ≤ b6) := show _ ≤ _ by omega
  have HG_b7 : Hid (w.heap.size ≤ b7) := show _ ≤ _ by omega
  have HL_b5_b6 : Hid (b5 < b6) := show _ < _ by omega
  have HL_b5_b7 : Hid (b5 < b7) := show _ < _ by omega
  have HL_b6_b7 : Hid (b6 < b7) := show _ < _ by omega
  rw [hb5] at HX_b5_0 HX_b6_0 HX_b7_0
  rw [hb6] at HX_b6_0 HX_b7_0
  rw [hb7] at HX_b7_0
  rw [hb5, hb6, hb7]
  clear hb5 hb6 hb7
  refine (whole_any 1 (by decide) (by decide) _).mono ?_
  rintro e w_1 ⟨v4, rfl, hv4, hbx⟩
  obtain ⟨t9, rfl, hr_1⟩ := tri_of hv4
  simp only [Tri.val]
  have HL_b5_b9 := hide (Nat.lt_of_lt_of_le (unhide HX_b5_0).lt hbx.size)
  have HL_b6_b9 := hide (Nat.lt_of_lt_of_le (unhide HX_b6_0).lt hbx.size)
  have HL_b7_b9 := hide (Nat.lt_of_lt_of_le (unhide HX_b7_0).lt hbx.size)
  have HG_b9 := hide (below_step (unhide HB_0) hbx).size
  have hb_1 := below_step hbx (alloc_below w_1 (.cells #[.bool t9.s, .slice t9.a1 t9.n1 t9.c1, .slice t9.a2 t9.n2 t9.c2] 27))
  have HB_2 := hide (below_step (unhide HB_0) hb_1)
  have HX_b5_2 := hide ((unhide HX_b5_0).keep hb_1)
  have HX_b6_2 := hide ((unhide HX_b6_0).keep hb_1)
  have HX_b7_2 := hide ((unhide HX_b7_0).keep hb_1)
  clear HB_0 HX_b5_0 HX_b6_0 HX_b7_0
  have HX_b9_1 := hide (BoxIs.new hr_1)
  obtain ⟨Wb9, hW_1⟩ : ∃ W, w_1.alloc (.cells #[.bool t9.s, .slice t9.a1 t9.n1 t9.c1, .slice t9.a2 t9.n2 t9.c2] 27) = W := ⟨_, rfl⟩
  obtain ⟨b9, hc_1⟩ : ∃ b, w_1.heap.size = b := ⟨_, rfl⟩
  rw [hW_1] at HB_2 HX_b5_2 HX_b6_2 HX_b7_2 HX_b9_1
  rw [hc_1] at HX_b9_1 HL_b5_b9 HL_b6_b9 HL_b7_b9 HG_b9
  clear hv4 hr_1 hbx hb_1
  obtain ⟨cb5_0, cb5_1, cb5_2⟩ := (unhide HX_b5_2).cells _ (Below.refl _ _)
  have HSG := hide (sign_any t.val u _ (unhide HX_b5_2).2)
  have HCM : Hid (∀ W, RatIs W t.val u → RatIs W t9.val ((1 : Int) : Rat) → _) := fun W h1 h2 => cmpR_any t.val t9.val u _ W h1 h2 (sm_of (unhide HU).1 (by decide)) (sm_of onei_RS.1 (by decide)) (sm_of (unhide HU).2 (by decide)) (sm_of onei_RS.2 (by decide))
  rw [Int.sign_eq_one_of_pos hu0] at HSG
  rw [sg_one, Wd.sg_lt hu1] at HCM
  clear hu0 hu1
  go_wp2_with fail
  clear hW_1 hc_1
  clear cb5_0 cb5_1 cb5_2
  refine (unhide HSG).mono ?_
  rintro e w_3 ⟨rfl, hbx⟩
  have HB_4 := hide (below_step (unhide HB_2) hbx)
  have HX_b5_4 := hide ((unhide HX_b5_2).keep hbx)
  have HX_b6_4 := hide ((unhide HX_b6_2).keep hbx)
  have HX_b7_4 := hide ((unhide HX_b7_2).keep hbx)
  have HX_b9_4 := hide ((unhide HX_b9_1).keep hbx)
  clear HB_2 HX_b5_2 HX_b6_2 HX_b7_2 HX_b9_1
  clear hbx
  obtain ⟨cb5_0, cb5_1, cb5_2⟩ := (unhide HX_b5_4).cells _ (Below.refl _ _)
  obtain ⟨cb9_0, cb9_1, cb9_2⟩ := (unhide HX_b9_4).cells _ (Below.refl _ _)
  go_wp2_with fail
  clear cb5_0 cb5_1 cb5_2 cb9_0 cb9_1 cb9_2
  refine (unhide HCM _ (unhide HX_b5_4).2 (unhide HX_b9_4).2).mono ?_
  rintro e w_5 ⟨rfl, hbx⟩
  have HB_6 := hide (below_step (unhide HB_4) hbx)
  have HX_b5_6 := hide ((unhide HX_b5_4).keep hbx)
  have HX_b6_6 := hide ((unhide HX_b6_4).keep hbx)
  have HX_b7_6 := hide ((unhide HX_b7_4).keep hbx)
  have HX_b9_6 := hide ((unhide HX_b9_4).keep hbx)
  clear HB_4 HX_b5_4 HX_b6_4 HX_b7_4 HX_b9_4
  clear hbx
  go_wp2_with fail
  have bd0 : Below w_5.heap.size w_5 w_5.drew := (Below.refl _ _).drew
  have N5 := hide ((unhide HX_b5_6).keep bd0)
  have N6 := hide ((unhide HX_b6_6).keep bd0)
  have N7 := hide ((unhide HX_b7_6).keep bd0)
  have N9 := hide ((unhide HX_b9_6).keep bd0)
  have NB := hide (below_step (unhide HB_6) bd0)
  refine wp_region_hold (fun w' : World => (w'.cell? ⟨b9, 0, none⟩ = some (.bool t9.s) ∧ w'.cell? ⟨b9, 1, none⟩ = some (.slice t9.a1 t9.n1 t9.c1) ∧ w'.cell? ⟨b9, 2, none⟩ = some (.slice t9.a2 t9.n2 t9.c2)) ∧ w'.cell? ⟨b5, 0, none⟩ = some (.bool t.s) ∧ w'.cell? ⟨b5, 1, none⟩ = some (.slice t.a1 t.n1 t.c1) ∧ w'.cell? ⟨b5, 2, none⟩ = some (.slice t.a2 t.n2 t.c2)) (by kernel_rfl) ?_
  obtain ⟨Wx, hWx⟩ : ∃ W, w_5.drew = W := ⟨_, rfl⟩
  rw [hWx] at N5 N6 N7 N9 NB ⊢
  have HCC : Hid (∀ W, Below Wx.heap.size Wx W → (fun w' : World => (w'.cell? ⟨b9, 0, none⟩ = some (.bool t9.s) ∧ w'.cell? ⟨b9, 1, none⟩ = some (.slice t9.a1 t9.n1 t9.c1) ∧ w'.cell? ⟨b9, 2, none⟩ = some (.slice t9.a2 t9.n2 t9.c2)) ∧ w'.cell? ⟨b5, 0, none⟩ = some (.bool t.s) ∧ w'.cell? ⟨b5, 1, none⟩ = some (.slice t.a1 t.n1 t.c1) ∧ w'.cell? ⟨b5, 2, none⟩ = some (.slice t.a2 t.n2 t.c2)) W) := fun W hW => ⟨(unhide N9).cells W hW, (unhide N5).cells W hW⟩
  have hC0 : (fun w' : World => (w'.cell? ⟨b9, 0, none⟩ = some (.bool t9.s) ∧ w'.cell? ⟨b9, 1, none⟩ = some (.slice t9.a1 t9.n1 t9.c1) ∧ w'.cell? ⟨b9, 2, none⟩ = some (.slice t9.a2 t9.n2 t9.c2)) ∧ w'.cell? ⟨b5, 0, none⟩ = some (.bool t.s) ∧ w'.cell? ⟨b5, 1, none⟩ = some (.slice t.a1 t.n1 t.c1) ∧ w'.cell? ⟨b5, 2, none⟩ = some (.slice t.a2 t.n2 t.c2)) Wx := unhide HCC _ (Below.refl _ _)
  clear bd0 hWx HX_b5_6 HX_b6_6 HX_b7_6 HX_b9_6 HB_6
  refine wpHold_take (i := 0) (v := ?_) rfl (by kernel_rfl) (by kernel_rfl) (by kernel_rfl) (fun _ _ _ h => h) (Or.inl ⟨by rfl, ?_⟩) hC0 ?_
  rotate_left
  · intro w hSw; (try dsimp only at hSw); obtain ⟨⟨z0, z1, z2⟩, z3, z4, z5⟩ := hSw; go_simp; (try with_reducible rfl)
  (try simp only [List.getElem_toArray, List.getElem_cons_succ, List.getElem_cons_zero])
  (try simp only [Act.put, List.setIfInBounds_toArray, List.set_cons_zero, List.set_cons_succ])
  refine wpHold_take (i := 1) (v := ?_) rfl (by kernel_rfl) (by kernel_rfl) (by kernel_rfl) (fun _ _ _ h => h) (Or.inl ⟨by rfl, ?_⟩) hC0 ?_
  rotate_left
  · intro w hSw; (try dsimp only at hSw); obtain ⟨⟨z0, z1, z2⟩, z3, z4, z5⟩ := hSw; go_simp; (try with_reducible rfl)
  (try simp only [List.getElem_toArray, List.getElem_cons_succ, List.getElem_cons_zero])
  (try simp only [Act.put, List.setIfInBounds_toArray, List.set_cons_zero, List.set_cons_succ])
  refine wpHold_take (i := 3) (v := ?_) rfl (by kernel_rfl) (by kernel_rfl) (by kernel_rfl) (fun _ _ _ h => h) (Or.inl ⟨by rfl, ?_⟩) hC0 ?_
  rotate_left
  · intro w hSw; (try dsimp only at hSw); obtain ⟨⟨z0, z1, z2⟩, z3, z4, z5⟩ := hSw; go_simp; (try with_reducible rfl)
  (try simp only [List.getElem_toArray, List.getElem_cons_succ, List.getElem_cons_zero])
  (try simp only [Act.put, List.setIfInBounds_toArray, List.set_cons_zero, List.set_cons_succ])
  refine wpHold_listed (n := 4) (L' := (fun c l => #[true, true, decide (1 ≤ c), true, decide (2 ≤ c), l, false]) 0 false) (by kernel_rfl) (by kernel_rfl) ?_
  refine wpHold_name (fun a0 ha0 => ?_)
  refine two_one_any (fun c l => #[true, true, decide (1 ≤ c), true, decide (2 ≤ c), l, false]) 2 4 5 1 (fun c l a w => ∃ s1 s2 s3, a = ((a0.put (some 49) s1).put (some 51) s2).put (some 10) s3 ∧ TwoI (1 - u) (odds u) Wx c l w s1 s2 s3) ?_ ?_ (fun l => rfl) (fun l => rfl) (fun c => rfl) ?_ ?_ ?_ ?_ 3 0 false (by omega) (by rfl) _ _ ⟨undef, undef, undef, by subst ha0; rfl, Below.refl _ _, fun h => absurd h (by decide), fun h => absurd h (by decide), Or.inl ⟨rfl, rfl⟩⟩
  · clear ha0
    intro c l hc
    match c, hc with
    | 0, _ => cases l <;> (show (_ : Bool) = _; kernel_rfl)
    | 1, _ => cases l <;> (show (_ : Bool) = _; kernel_rfl)
    | 2, _ => cases l <;> (show (_ : Bool) = _; kernel_rfl)
  · clear ha0
    intro c l hc
    match c, hc with
    | 0, _ => cases l <;> (intro _; show (_ : Bool) = _; kernel_rfl)
    | 1, _ => cases l <;> (intro _; show (_ : Bool) = _; kernel_rfl)
    | 2, _ => cases l <;> (intro h; first | (show (_ : Bool) = _; kernel_rfl) | exact absurd h (by decide))
  · rintro l a wq ⟨s1, s2, s3, rfl, J⟩
    subst ha0
    refine wpOp_step rfl (fun K hK => ?_)
    (try simp only [Act.put, List.setIfInBounds_toArray, List.set_cons_zero, List.set_cons_succ] at hK ⊢)
    (try simp only [List.getElem_toArray, List.getElem_cons_succ, List.getElem_cons_zero])
    go_simp
    refine (unhide HSUB wq _ _ _ _ ((unhide N9).2.below J.bl) ((unhide N5).2.below J.bl) RO RU).mono ?_
    rintro e wz ⟨v, rfl, hv, hb⟩
    refine hK _ _ ⟨unhide HCC _ (below_step J.bl hb), v, s2, s3, rfl, below_step J.bl hb, fun _ => hv, fun h => absurd h (by decide), J.al.keep hb⟩
  · rintro l a wq ⟨s1, s2, s3, rfl, J⟩
    subst ha0
    refine wpOp_step rfl (fun K hK => ?_)
    (try simp only [Act.put, List.setIfInBounds_toArray, List.set_cons_zero, List.set_cons_succ] at hK ⊢)
    (try simp only [List.getElem_toArray, List.getElem_cons_succ, List.getElem_cons_zero])
    go_simp
    refine (unhide HDIV wq _ _ _ _ (J.r1 (by decide)) ((unhide N5).2.below J.bl) R1 RU hz).mono ?_
    rintro e wz ⟨v, rfl, hv, hb⟩
    refine hK _ _ ⟨unhide HCC _ (below_step J.bl hb), s1, v, s3, rfl, below_step J.bl hb, fun _ => (J.r1 (by decide)).below hb, fun _ => hv, J.al.keep hb⟩
  · rintro c a wq ⟨s1, s2, s3, rfl, J⟩
    subst ha0
    refine wpOp_step rfl (fun K hK => ?_)
    (try simp only [Act.put, List.setIfInBounds_toArray, List.set_cons_zero, List.set_cons_succ] at hK ⊢)
    (try simp only [List.getElem_toArray, List.getElem_cons_succ, List.getElem_cons_zero])
    go_simp
    have hb := alloc_below wq (.cells #[.bool false, .slice none 0 0, .slice none 0 0] 27)
    refine hK _ _ ⟨unhide HCC _ (below_step J.bl hb), s1, s2, .pointer (some ⟨wq.heap.size, 0, none⟩), rfl, below_step J.bl hb, fun h => (J.r1 h).below hb, fun h => (J.r2 h).below hb, Or.inr ⟨rfl, wq.heap.size, rfl, BoxIs.new (t := zTri) (rat_zero _), J.bl.size⟩⟩
  · rintro a wq ⟨s1, s2, s3, rfl, J⟩
    subst ha0
    obtain ⟨_, b10, rfl, B10, e10⟩ := J.al.resolve_left (fun h => by cases h.1)
    obtain ⟨t10, rfl, r10⟩ := tri_of (J.r2 (by decide))
    simp only [Tri.val]
    (try simp only [Act.put, List.setIfInBounds_toArray, List.set_cons_zero, List.set_cons_succ])
    have X5 := (unhide N5).keep J.bl
    have X6 := (unhide N6).keep J.bl
    have X7 := (unhide N7).keep J.bl
    have X9 := (unhide N9).keep J.bl
    have HL_b5_b10 : Hid (b5 < b10) := Nat.lt_of_lt_of_le (unhide N5).lt e10
    have HL_b6_b10 : Hid (b6 < b10) := Nat.lt_of_lt_of_le (unhide N6).lt e10
    have HL_b7_b10 : Hid (b7 < b10) := Nat.lt_of_lt_of_le (unhide N7).lt e10
    have HL_b9_b10 : Hid (b9 < b10) := Nat.lt_of_lt_of_le (unhide N9).lt e10
    have HG_b10 : Hid (w.heap.size ≤ b10) := Nat.le_trans (unhide NB).size e10
    have XB := below_step (unhide NB) J.bl
    have ⟨l0, l1, l2⟩ := B10.free
    have ⟨k0, k1, k2⟩ := B10.cells _ (Below.refl _ _)
    have HX_b10_f := hide (B10.set r10)
    have HX_b5_f := hide (X5.other B10 (Nat.ne_of_lt (unhide HL_b5_b10)) (.bool t10.s) (.slice t10.a1 t10.n1 t10.c1) (.slice t10.a2 t10.n2 t10.c2))
    have HX_b6_f := hide (X6.other B10 (Nat.ne_of_lt (unhide HL_b6_b10)) (.bool t10.s) (.slice t10.a1 t10.n1 t10.c1) (.slice t10.a2 t10.n2 t10.c2))
    have HX_b7_f := hide (X7.other B10 (Nat.ne_of_lt (unhide HL_b7_b10)) (.bool t10.s) (.slice t10.a1 t10.n1 t10.c1) (.slice t10.a2 t10.n2 t10.c2))
    have HX_b9_f := hide (X9.other B10 (Nat.ne_of_lt (unhide HL_b9_b10)) (.bool t10.s) (.slice t10.a1 t10.n1 t10.c1) (.slice t10.a2 t10.n2 t10.c2))
    have HB_f := hide (((XB.setCell (p := ⟨b10, 0, none⟩) (unhide HG_b10) (.bool t10.s)).setCell (p := ⟨b10, 1, none⟩) (unhide HG_b10) (.slice t10.a1 t10.n1 t10.c1)).setCell (p := ⟨b10, 2, none⟩) (unhide HG_b10) (.slice t10.a2 t10.n2 t10.c2))
    have hCn : (fun w' : World => (w'.cell? ⟨b9, 0, none⟩ = some (.bool t9.s) ∧ w'.cell? ⟨b9, 1, none⟩ = some (.slice t9.a1 t9.n1 t9.c1) ∧ w'.cell? ⟨b9, 2, none⟩ = some (.slice t9.a2 t9.n2 t9.c2)) ∧ w'.cell? ⟨b5, 0, none⟩ = some (.bool t.s) ∧ w'.cell? ⟨b5, 1, none⟩ = some (.slice t.a1 t.n1 t.c1) ∧ w'.cell? ⟨b5, 2, none⟩ = some (.slice t.a2 t.n2 t.c2)) _ := unhide HCC _ (((J.bl.setCell (p := ⟨b10, 0, none⟩) e10 (.bool t10.s)).setCell (p := ⟨b10, 1, none⟩) e10 (.slice t10.a1 t10.n1 t10.c1)).setCell (p := ⟨b10, 2, none⟩) e10 (.slice t10.a2 t10.n2 t10.c2))
    obtain ⟨Wy, hWy⟩ : ∃ W, ((wq.setCell ⟨b10, 0, none⟩ (.bool t10.s)).setCell ⟨b10, 1, none⟩ (.slice t10.a1 t10.n1 t10.c1)).setCell ⟨b10, 2, none⟩ (.slice t10.a2 t10.n2 t10.c2) = W := ⟨_, rfl⟩
    rw [hWy] at HX_b10_f HX_b5_f HX_b6_f HX_b7_f HX_b9_f HB_f hCn
    clear J B10 r10 X5 X6 X7 X9 XB N5 N6 N7 N9 NB HCC hC0
    refine wpHold_one (k := 6) (by kernel_rfl) rfl (fun K hK => ?_)
    (try simp only [List.getElem_toArray, List.getElem_cons_succ, List.getElem_cons_zero])
    go_simp
    refine hK.out _ _ hCn ?_
    clear hK K
    (try simp only [Act.put, List.setIfInBounds_toArray, List.set_cons_zero, List.set_cons_succ])
    refine wpHold_done (by kernel_rfl) ?_ _
    clear hCn l0 l1 l2 k0 k1 k2 hWy e10
    obtain ⟨cb10_0, cb10_1, cb10_2⟩ := (unhide HX_b10_f).cells _ (Below.refl _ _)
    go_wp2_with fail
    clear cb10_0 cb10_1 cb10_2
    refine (unhide HPW _ _ h (unhide HX_b10_f).2 hh).mono ?_
    rintro e w_501 ⟨x1, x2, rfl, hx1, hx2, hbx⟩
    obtain ⟨t11, rfl, hr_501⟩ := tri_of hx1
    obtain ⟨t12, rfl, hr2_501⟩ := tri_of hx2
    simp only [Tri.val]
    have HL_b5_b11 := hide (Nat.lt_of_lt_of_le (unhide HX_b5_f).lt hbx.size)
    have HL_b5_b12 := hide (Nat.lt_succ_of_lt (unhide HL_b5_b11))
    have HL_b6_b11 := hide (Nat.lt_of_lt_of_le (unhide HX_b6_f).lt hbx.size)
    have HL_b6_b12 := hide (Nat.lt_succ_of_lt (unhide HL_b6_b11))
    have HL_b7_b11 := hide (Nat.lt_of_lt_of_le (unhide HX_b7_f).lt hbx.size)
    have HL_b7_b12 := hide (Nat.lt_succ_of_lt (unhide HL_b7_b11))
    have HL_b9_b11 := hide (Nat.lt_of_lt_of_le (unhide HX_b9_f).lt hbx.size)
    have HL_b9_b12 := hide (Nat.lt_succ_of_lt (unhide HL_b9_b11))
    have HL_b10_b11 := hide (Nat.lt_of_lt_of_le (unhide HX_b10_f).lt hbx.size)
    have HL_b10_b12 := hide (Nat.lt_succ_of_lt (unhide HL_b10_b11))
    have HG_b11 := hide (below_step (unhide HB_f) hbx).size
    have HG_b12 := hide (Nat.le_succ_of_le (unhide HG_b11))
    have HL_b11_b12 := hide (Nat.lt_succ_self w_501.heap.size)
    have hb_501 := below_step (below_step hbx (alloc_below w_501 (.cells #[.bool t11.s, .slice t11.a1 t11.n1 t11.c1, .slice t11.a2 t11.n2 t11.c2] 27))) (alloc_below _ (.cells #[.bool t12.s, .slice t12.a1 t12.n1 t12.c1, .slice t12.a2 t12.n2 t12.c2] 27))
    have HB_502 := hide (below_step (unhide HB_f) hb_501)
    have HX_b5_502 := hide ((unhide HX_b5_f).keep hb_501)
    have HX_b6_502 := hide ((unhide HX_b6_f).keep hb_501)
    have HX_b7_502 := hide ((unhide HX_b7_f).keep hb_501)
    have HX_b9_502 := hide ((unhide HX_b9_f).keep hb_501)
    have HX_b10_502 := hide ((unhide HX_b10_f).keep hb_501)
    clear HB_f HX_b5_f HX_b6_f HX_b7_f HX_b9_f HX_b10_f
    have HX_b11_501 := hide ((BoxIs.new hr_501).keep (alloc_below _ (.cells #[.bool t12.s, .slice t12.a1 t12.n1 t12.c1, .slice t12.a2 t12.n2 t12.c2] 27)))
    have HX_b12_501 := hide (BoxIs.new (hr2_501.below (alloc_below w_501 (.cells #[.bool t11.s, .slice t11.a1 t11.n1 t11.c1, .slice t11.a2 t11.n2 t11.c2] 27))))
    rw [alloc_size] at HX_b12_501
    obtain ⟨Wb12, hW_501⟩ : ∃ W, (w_501.alloc (.cells #[.bool t11.s, .slice t11.a1 t11.n1 t11.c1, .slice t11.a2 t11.n2 t11.c2] 27)).alloc (.cells #[.bool t12.s, .slice t12.a1 t12.n1 t12.c1, .slice t12.a2 t12.n2 t12.c2] 27) = W := ⟨_, rfl⟩
    obtain ⟨b11, hc_501⟩ : ∃ b, w_501.heap.size = b := ⟨_, rfl⟩
    obtain ⟨b12, hd_501⟩ : ∃ b, b11 + 1 = b := ⟨_, rfl⟩
    rw [hW_501] at HB_502 HX_b5_502 HX_b6_502 HX_b7_502 HX_b9_502 HX_b10_502 HX_b11_501 HX_b12_501
    simp only [Nat.succ_eq_add_one] at HL_b5_b12 HL_b6_b12 HL_b7_b12 HL_b9_b12 HL_b10_b12 HG_b12 HL_b11_b12
    rw [hc_501] at HX_b11_501 HX_b12_501 HL_b5_b11 HL_b6_b11 HL_b7_b11 HL_b9_b11 HL_b10_b11 HG_b11 HL_b5_b12 HL_b6_b12 HL_b7_b12 HL_b9_b12 HL_b10_b12 HG_b12 HL_b11_b12
    rw [hd_501] at HX_b12_501 HL_b5_b12 HL_b6_b12 HL_b7_b12 HL_b9_b12 HL_b10_b12 HG_b12 HL_b11_b12
    clear hx1 hx2 hr_501 hr2_501 hbx hb_501
    have Hc_501 := hide hc_501
    have Hd_501 := hide hd_501
    clear hc_501 hd_501
    obtain ⟨cb10_0, cb10_1, cb10_2⟩ := (unhide HX_b10_502).cells _ (Below.refl _ _)
    go_wp2_with fail
    rw [unhide Hc_501, unhide Hd_501]
    clear hW_501 Hc_501 Hd_501
    clear cb10_0 cb10_1 cb10_2
    refine (unhide HPW _ _ g (unhide HX_b10_502).2 (Nat.le_refl _)).mono ?_
    rintro e w_503 ⟨x1, x2, rfl, hx1, hx2, hbx⟩
    obtain ⟨t13, rfl, hr_503⟩ := tri_of hx1
    obtain ⟨t14, rfl, hr2_503⟩ := tri_of hx2
    simp only [Tri.val]
    have HL_b5_b13 := hide (Nat.lt_of_lt_of_le (unhide HX_b5_502).lt hbx.size)
    have HL_b5_b14 := hide (Nat.lt_succ_of_lt (unhide HL_b5_b13))
    have HL_b6_b13 := hide (Nat.lt_of_lt_of_le (unhide HX_b6_502).lt hbx.size)
    have HL_b6_b14 := hide (Nat.lt_succ_of_lt (unhide HL_b6_b13))
    have HL_b7_b13 := hide (Nat.lt_of_lt_of_le (unhide HX_b7_502).lt hbx.size)
    have HL_b7_b14 := hide (Nat.lt_succ_of_lt (unhide HL_b7_b13))
    have HL_b9_b13 := hide (Nat.lt_of_lt_of_le (unhide HX_b9_502).lt hbx.size)
    have HL_b9_b14 := hide (Nat.lt_succ_of_lt (unhide HL_b9_b13))
    have HL_b10_b13 := hide (Nat.lt_of_lt_of_le (unhide HX_b10_502).lt hbx.size)
    have HL_b10_b14 := hide (Nat.lt_succ_of_lt (unhide HL_b10_b13))
    have HL_b11_b13 := hide (Nat.lt_of_lt_of_le (unhide HX_b11_501).lt hbx.size)
    have HL_b11_b14 := hide (Nat.lt_succ_of_lt (unhide HL_b11_b13))
    have HL_b12_b13 := hide (Nat.lt_of_lt_of_le (unhide HX_b12_501).lt hbx.size)
    have HL_b12_b14 := hide (Nat.lt_succ_of_lt (unhide HL_b12_b13))
    have HG_b13 := hide (below_step (unhide HB_502) hbx).size
    have HG_b14 := hide (Nat.le_succ_of_le (unhide HG_b13))
    have HL_b13_b14 := hide (Nat.lt_succ_self w_503.heap.size)
    have hb_503 := below_step (below_step hbx (alloc_below w_503 (.cells #[.bool t13.s, .slice t13.a1 t13.n1 t13.c1, .slice t13.a2 t13.n2 t13.c2] 27))) (alloc_below _ (.cells #[.bool t14.s, .slice t14.a1 t14.n1 t14.c1, .slice t14.a2 t14.n2 t14.c2] 27))
    have HB_504 := hide (below_step (unhide HB_502) hb_503)
    have HX_b5_504 := hide ((unhide HX_b5_502).keep hb_503)
    have HX_b6_504 := hide ((unhide HX_b6_502).keep hb_503)
    have HX_b7_504 := hide ((unhide HX_b7_502).keep hb_503)
    have HX_b9_504 := hide ((unhide HX_b9_502).keep hb_503)
    have HX_b10_504 := hide ((unhide HX_b10_502).keep hb_503)
    have HX_b11_504 := hide ((unhide HX_b11_501).keep hb_503)
    have HX_b12_504 := hide ((unhide HX_b12_501).keep hb_503)
    clear HB_502 HX_b5_502 HX_b6_502 HX_b7_502 HX_b9_502 HX_b10_502 HX_b11_501 HX_b12_501
    have HX_b13_503 := hide ((BoxIs.new hr_503).keep (alloc_below _ (.cells #[.bool t14.s, .slice t14.a1 t14.n1 t14.c1, .slice t14.a2 t14.n2 t14.c2] 27)))
    have HX_b14_503 := hide (BoxIs.new (hr2_503.below (alloc_below w_503 (.cells #[.bool t13.s, .slice t13.a1 t13.n1 t13.c1, .slice t13.a2 t13.n2 t13.c2] 27))))
    rw [alloc_size] at HX_b14_503
    obtain ⟨Wb14, hW_503⟩ : ∃ W, (w_503.alloc (.cells #[.bool t13.s, .slice t13.a1 t13.n1 t13.c1, .slice t13.a2 t13.n2 t13.c2] 27)).alloc (.cells #[.bool t14.s, .slice t14.a1 t14.n1 t14.c1, .slice t14.a2 t14.n2 t14.c2] 27) = W := ⟨_, rfl⟩
    obtain ⟨b13, hc_503⟩ : ∃ b, w_503.heap.size = b := ⟨_, rfl⟩
    obtain ⟨b14, hd_503⟩ : ∃ b, b13 + 1 = b := ⟨_, rfl⟩
    rw [hW_503] at HB_504 HX_b5_504 HX_b6_504 HX_b7_504 HX_b9_504 HX_b10_504 HX_b11_504 HX_b12_504 HX_b13_503 HX_b14_503
    simp only [Nat.succ_eq_add_one] at HL_b5_b14 HL_b6_b14 HL_b7_b14 HL_b9_b14 HL_b10_b14 HL_b11_b14 HL_b12_b14 HG_b14 HL_b13_b14
    rw [hc_503] at HX_b13_503 HX_b14_503 HL_b5_b13 HL_b6_b13 HL_b7_b13 HL_b9_b13 HL_b10_b13 HL_b11_b13 HL_b12_b13 HG_b13 HL_b5_b14 HL_b6_b14 HL_b7_b14 HL_b9_b14 HL_b10_b14 HL_b11_b14 HL_b12_b14 HG_b14 HL_b13_b14
    rw [hd_503] at HX_b14_503 HL_b5_b14 HL_b6_b14 HL_b7_b14 HL_b9_b14 HL_b10_b14 HL_b11_b14 HL_b12_b14 HG_b14 HL_b13_b14
    clear hx1 hx2 hr_503 hr2_503 hbx hb_503
    have Hc_503 := hide hc_503
    have Hd_503 := hide hd_503
    clear hc_503 hd_503
    obtain ⟨cb11_0, cb11_1, cb11_2⟩ := (unhide HX_b11_504).cells _ (Below.refl _ _)
    obtain ⟨cb13_0, cb13_1, cb13_2⟩ := (unhide HX_b13_503).cells _ (Below.refl _ _)
    rw [← unhide Hc_503] at cb13_0 cb13_1 cb13_2
    go_wp2_with fail
    rw [unhide Hc_503, unhide Hd_503]
    clear hW_503 Hc_503 Hd_503
    clear cb11_0 cb11_1 cb11_2 cb13_0 cb13_1 cb13_2
    refine (unhide HDIV _ _ _ _ _ (unhide HX_b11_504).2 (unhide HX_b13_503).2 RFH' RFG' hfg).mono ?_
    rintro e w_505 ⟨v15, rfl, hv15, hbx⟩
    obtain ⟨t15, rfl, hr_505⟩ := tri_of hv15
    simp only [Tri.val]
    have HL_b5_b15 := hide (Nat.lt_of_lt_of_le (unhide HX_b5_504).lt hbx.size)
    have HL_b6_b15 := hide (Nat.lt_of_lt_of_le (unhide HX_b6_504).lt hbx.size)
    have HL_b7_b15 := hide (Nat.lt_of_lt_of_le (unhide HX_b7_504).lt hbx.size)
    have HL_b9_b15 := hide (Nat.lt_of_lt_of_le (unhide HX_b9_504).lt hbx.size)
    have HL_b10_b15 := hide (Nat.lt_of_lt_of_le (unhide HX_b10_504).lt hbx.size)
    have HL_b11_b15 := hide (Nat.lt_of_lt_of_le (unhide HX_b11_504).lt hbx.size)
    have HL_b12_b15 := hide (Nat.lt_of_lt_of_le (unhide HX_b12_504).lt hbx.size)
    have HL_b13_b15 := hide (Nat.lt_of_lt_of_le (unhide HX_b13_503).lt hbx.size)
    have HL_b14_b15 := hide (Nat.lt_of_lt_of_le (unhide HX_b14_503).lt hbx.size)
    have HG_b15 := hide (below_step (unhide HB_504) hbx).size
    have hb_505 := below_step hbx (alloc_below w_505 (.cells #[.bool t15.s, .slice t15.a1 t15.n1 t15.c1, .slice t15.a2 t15.n2 t15.c2] 27))
    have HB_506 := hide (below_step (unhide HB_504) hb_505)
    have HX_b5_506 := hide ((unhide HX_b5_504).keep hb_505)
    have HX_b6_506 := hide ((unhide HX_b6_504).keep hb_505)
    have HX_b7_506 := hide ((unhide HX_b7_504).keep hb_505)
    have HX_b9_506 := hide ((unhide HX_b9_504).keep hb_505)
    have HX_b10_506 := hide ((unhide HX_b10_504).keep hb_505)
    have HX_b11_506 := hide ((unhide HX_b11_504).keep hb_505)
    have HX_b12_506 := hide ((unhide HX_b12_504).keep hb_505)
    have HX_b13_506 := hide ((unhide HX_b13_503).keep hb_505)
    have HX_b14_506 := hide ((unhide HX_b14_503).keep hb_505)
    clear HB_504 HX_b5_504 HX_b6_504 HX_b7_504 HX_b9_504 HX_b10_504 HX_b11_504 HX_b12_504 HX_b13_503 HX_b14_503
    have HX_b15_505 := hide (BoxIs.new hr_505)
    obtain ⟨Wb15, hW_505⟩ : ∃ W, w_505.alloc (.cells #[.bool t15.s, .slice t15.a1 t15.n1 t15.c1, .slice t15.a2 t15.n2 t15.c2] 27) = W := ⟨_, rfl⟩
    obtain ⟨b15, hc_505⟩ : ∃ b, w_505.heap.size = b := ⟨_, rfl⟩
    rw [hW_505] at HB_506 HX_b5_506 HX_b6_506 HX_b7_506 HX_b9_506 HX_b10_506 HX_b11_506 HX_b12_506 HX_b13_506 HX_b14_506 HX_b15_505
    rw [hc_505] at HX_b15_505 HL_b5_b15 HL_b6_b15 HL_b7_b15 HL_b9_b15 HL_b10_b15 HL_b11_b15 HL_b12_b15 HL_b13_b15 HL_b14_b15 HG_b15
    clear hv15 hr_505 hbx hb_505
    go_wp2_with fail
    clear hW_505 hc_505
    have HCC : Hid (∀ W, Below Wb15.heap.size Wb15 W → (fun w' : World => (w'.cell? ⟨b9, 0, none⟩ = some (.bool t9.s) ∧ w'.cell? ⟨b9, 1, none⟩ = some (.slice t9.a1 t9.n1 t9.c1) ∧ w'.cell? ⟨b9, 2, none⟩ = some (.slice t9.a2 t9.n2 t9.c2)) ∧ (w'.cell? ⟨b15, 0, none⟩ = some (.bool t15.s) ∧ w'.cell? ⟨b15, 1, none⟩ = some (.slice t15.a1 t15.n1 t15.c1) ∧ w'.cell? ⟨b15, 2, none⟩ = some (.slice t15.a2 t15.n2 t15.c2)) ∧ (w'.cell? ⟨b14, 0, none⟩ = some (.bool t14.s) ∧ w'.cell? ⟨b14, 1, none⟩ = some (.slice t14.a1 t14.n1 t14.c1) ∧ w'.cell? ⟨b14, 2, none⟩ = some (.slice t14.a2 t14.n2 t14.c2)) ∧ (w'.cell? ⟨b12, 0, none⟩ = some (.bool t12.s) ∧ w'.cell? ⟨b12, 1, none⟩ = some (.slice t12.a1 t12.n1 t12.c1) ∧ w'.cell? ⟨b12, 2, none⟩ = some (.slice t12.a2 t12.n2 t12.c2)) ∧ w'.cell? ⟨b5, 0, none⟩ = some (.bool t.s) ∧ w'.cell? ⟨b5, 1, none⟩ = some (.slice t.a1 t.n1 t.c1) ∧ w'.cell? ⟨b5, 2, none⟩ = some (.slice t.a2 t.n2 t.c2)) W) := fun W hW => ⟨(unhide HX_b9_506).cells W hW, (unhide HX_b15_505).cells W hW, (unhide HX_b14_506).cells W hW, (unhide HX_b12_506).cells W hW, (unhide HX_b5_506).cells W hW⟩
    have bd0 : Below Wb15.heap.size Wb15 Wb15.drew := (Below.refl _ _).drew
    refine wp_region_hold (fun w' : World => (w'.cell? ⟨b9, 0, none⟩ = some (.bool t9.s) ∧ w'.cell? ⟨b9, 1, none⟩ = some (.slice t9.a1 t9.n1 t9.c1) ∧ w'.cell? ⟨b9, 2, none⟩ = some (.slice t9.a2 t9.n2 t9.c2)) ∧ (w'.cell? ⟨b15, 0, none⟩ = some (.bool t15.s) ∧ w'.cell? ⟨b15, 1, none⟩ = some (.slice t15.a1 t15.n1 t15.c1) ∧ w'.cell? ⟨b15, 2, none⟩ = some (.slice t15.a2 t15.n2 t15.c2)) ∧ (w'.cell? ⟨b14, 0, none⟩ = some (.bool t14.s) ∧ w'.cell? ⟨b14, 1, none⟩ = some (.slice t14.a1 t14.n1 t14.c1) ∧ w'.cell? ⟨b14, 2, none⟩ = some (.slice t14.a2 t14.n2 t14.c2)) ∧ (w'.cell? ⟨b12, 0, none⟩ = some (.bool t12.s) ∧ w'.cell? ⟨b12, 1, none⟩ = some (.slice t12.a1 t12.n1 t12.c1) ∧ w'.cell? ⟨b12, 2, none⟩ = some (.slice t12.a2 t12.n2 t12.c2)) ∧ w'.cell? ⟨b5, 0, none⟩ = some (.bool t.s) ∧ w'.cell? ⟨b5, 1, none⟩ = some (.slice t.a1 t.n1 t.c1) ∧ w'.cell? ⟨b5, 2, none⟩ = some (.slice t.a2 t.n2 t.c2)) (by kernel_rfl) ?_
    have hC0 : (fun w' : World => (w'.cell? ⟨b9, 0, none⟩ = some (.bool t9.s) ∧ w'.cell? ⟨b9, 1, none⟩ = some (.slice t9.a1 t9.n1 t9.c1) ∧ w'.cell? ⟨b9, 2, none⟩ = some (.slice t9.a2 t9.n2 t9.c2)) ∧ (w'.cell? ⟨b15, 0, none⟩ = some (.bool t15.s) ∧ w'.cell? ⟨b15, 1, none⟩ = some (.slice t15.a1 t15.n1 t15.c1) ∧ w'.cell? ⟨b15, 2, none⟩ = some (.slice t15.a2 t15.n2 t15.c2)) ∧ (w'.cell? ⟨b14, 0, none⟩ = some (.bool t14.s) ∧ w'.cell? ⟨b14, 1, none⟩ = some (.slice t14.a1 t14.n1 t14.c1) ∧ w'.cell? ⟨b14, 2, none⟩ = some (.slice t14.a2 t14.n2 t14.c2)) ∧ (w'.cell? ⟨b12, 0, none⟩ = some (.bool t12.s) ∧ w'.cell? ⟨b12, 1, none⟩ = some (.slice t12.a1 t12.n1 t12.c1) ∧ w'.cell? ⟨b12, 2, none⟩ = some (.slice t12.a2 t12.n2 t12.c2)) ∧ w'.cell? ⟨b5, 0, none⟩ = some (.bool t.s) ∧ w'.cell? ⟨b5, 1, none⟩ = some (.slice t.a1 t.n1 t.c1) ∧ w'.cell? ⟨b5, 2, none⟩ = some (.slice t.a2 t.n2 t.c2)) Wb15.drew := unhide HCC _ bd0
    refine wpHold_take (i := 0) (v := ?_) rfl (by kernel_rfl) (by kernel_rfl) (by kernel_rfl) (fun _ _ _ h => h) (Or.inl ⟨by rfl, ?_⟩) hC0 ?_
    rotate_left
    · intro w hSw; (try dsimp only at hSw); obtain ⟨⟨z0, z1, z2⟩, ⟨z3, z4, z5⟩, ⟨z6, z7, z8⟩, ⟨z9, z10, z11⟩, z12, z13, z14⟩ := hSw; go_simp; (try with_reducible rfl)
    (try simp only [List.getElem_toArray, List.getElem_cons_succ, List.getElem_cons_zero])
    (try simp only [Act.put, List.setIfInBounds_toArray, List.set_cons_zero, List.set_cons_succ])
    refine wpHold_take (i := 1) (v := ?_) rfl (by kernel_rfl) (by kernel_rfl) (by kernel_rfl) (fun _ _ _ h => h) (Or.inl ⟨by rfl, ?_⟩) hC0 ?_
    rotate_left
    · intro w hSw; (try dsimp only at hSw); obtain ⟨⟨z0, z1, z2⟩, ⟨z3, z4, z5⟩, ⟨z6, z7, z8⟩, ⟨z9, z10, z11⟩, z12, z13, z14⟩ := hSw; go_simp; (try with_reducible rfl)
    (try simp only [List.getElem_toArray, List.getElem_cons_succ, List.getElem_cons_zero])
    (try simp only [Act.put, List.setIfInBounds_toArray, List.set_cons_zero, List.set_cons_succ])
    refine wpHold_take (i := 3) (v := ?_) rfl (by kernel_rfl) (by kernel_rfl) (by kernel_rfl) (fun _ _ _ h => h) (Or.inl ⟨by rfl, ?_⟩) hC0 ?_
    rotate_left
    · intro w hSw; (try dsimp only at hSw); obtain ⟨⟨z0, z1, z2⟩, ⟨z3, z4, z5⟩, ⟨z6, z7, z8⟩, ⟨z9, z10, z11⟩, z12, z13, z14⟩ := hSw; go_simp; (try with_reducible rfl)
    (try simp only [List.getElem_toArray, List.getElem_cons_succ, List.getElem_cons_zero])
    (try simp only [Act.put, List.setIfInBounds_toArray, List.set_cons_zero, List.set_cons_succ])
    refine wpHold_take (i := 4) (v := ?_) rfl (by kernel_rfl) (by kernel_rfl) (by kernel_rfl) (fun _ _ _ h => h) (Or.inl ⟨by rfl, ?_⟩) hC0 ?_
    rotate_left
    · intro w hSw; (try dsimp only at hSw); obtain ⟨⟨z0, z1, z2⟩, ⟨z3, z4, z5⟩, ⟨z6, z7, z8⟩, ⟨z9, z10, z11⟩, z12, z13, z14⟩ := hSw; go_simp; (try with_reducible rfl)
    (try simp only [List.getElem_toArray, List.getElem_cons_succ, List.getElem_cons_zero])
    (try simp only [Act.put, List.setIfInBounds_toArray, List.set_cons_zero, List.set_cons_succ])
    refine wpHold_take (i := 6) (v := ?_) rfl (by kernel_rfl) (by kernel_rfl) (by kernel_rfl) (fun _ _ _ h => h) (Or.inl ⟨by rfl, ?_⟩) hC0 ?_
    rotate_left
    · intro w hSw; (try dsimp only at hSw); obtain ⟨⟨z0, z1, z2⟩, ⟨z3, z4, z5⟩, ⟨z6, z7, z8⟩, ⟨z9, z10, z11⟩, z12, z13, z14⟩ := hSw; go_simp; (try with_reducible rfl)
    (try simp only [List.getElem_toArray, List.getElem_cons_succ, List.getElem_cons_zero])
    (try simp only [Act.put, List.setIfInBounds_toArray, List.set_cons_zero, List.set_cons_succ])
    refine wpHold_take (i := 8) (v := ?_) rfl (by kernel_rfl) (by kernel_rfl) (by kernel_rfl) (fun _ _ _ h => h) (Or.inl ⟨by rfl, ?_⟩) hC0 ?_
    rotate_left
    · intro w hSw; (try dsimp only at hSw); obtain ⟨⟨z0, z1, z2⟩, ⟨z3, z4, z5⟩, ⟨z6, z7, z8⟩, ⟨z9, z10, z11⟩, z12, z13, z14⟩ := hSw; go_simp; (try with_reducible rfl)
    (try simp only [List.getElem_toArray, List.getElem_cons_succ, List.getElem_cons_zero])
    (try simp only [Act.put, List.setIfInBounds_toArray, List.set_cons_zero, List.set_cons_succ])
    refine wpHold_one (k := 2) (by kernel_rfl) rfl (fun K hK => ?_)
    (try simp only [List.getElem_toArray, List.getElem_cons_succ, List.getElem_cons_zero])
    go_simp
    refine (unhide HSUB _ _ _ _ _ ((unhide HX_b9_506).2.below bd0) ((unhide HX_b15_505).2.below bd0) RO RW').mono ?_
    rintro e y1 ⟨u1, rfl, hv1, hb1⟩
    have c1 := below_step bd0 hb1
    have hC1 : (fun w' : World => (w'.cell? ⟨b9, 0, none⟩ = some (.bool t9.s) ∧ w'.cell? ⟨b9, 1, none⟩ = some (.slice t9.a1 t9.n1 t9.c1) ∧ w'.cell? ⟨b9, 2, none⟩ = some (.slice t9.a2 t9.n2 t9.c2)) ∧ (w'.cell? ⟨b15, 0, none⟩ = some (.bool t15.s) ∧ w'.cell? ⟨b15, 1, none⟩ = some (.slice t15.a1 t15.n1 t15.c1) ∧ w'.cell? ⟨b15, 2, none⟩ = some (.slice t15.a2 t15.n2 t15.c2)) ∧ (w'.cell? ⟨b14, 0, none⟩ = some (.bool t14.s) ∧ w'.cell? ⟨b14, 1, none⟩ = some (.slice t14.a1 t14.n1 t14.c1) ∧ w'.cell? ⟨b14, 2, none⟩ = some (.slice t14.a2 t14.n2 t14.c2)) ∧ (w'.cell? ⟨b12, 0, none⟩ = some (.bool t12.s) ∧ w'.cell? ⟨b12, 1, none⟩ = some (.slice t12.a1 t12.n1 t12.c1) ∧ w'.cell? ⟨b12, 2, none⟩ = some (.slice t12.a2 t12.n2 t12.c2)) ∧ w'.cell? ⟨b5, 0, none⟩ = some (.bool t.s) ∧ w'.cell? ⟨b5, 1, none⟩ = some (.slice t.a1 t.n1 t.c1) ∧ w'.cell? ⟨b5, 2, none⟩ = some (.slice t.a2 t.n2 t.c2)) y1 := unhide HCC _ c1
    refine hK.out _ _ hC1 ?_
    clear hK K
    (try simp only [Act.put, List.setIfInBounds_toArray, List.set_cons_zero, List.set_cons_succ])
    refine wpHold_one (k := 5) (by kernel_rfl) rfl (fun K hK => ?_)
    (try simp only [List.getElem_toArray, List.getElem_cons_succ, List.getElem_cons_zero])
    go_simp
    refine (unhide HMUL _ _ _ _ _ ((unhide HX_b15_505).2.below c1) ((unhide HX_b14_506).2.below c1) RW' RSG').mono ?_
    rintro e y2 ⟨u2, rfl, hv2, hb2⟩
    have c2 := below_step c1 hb2
    have hC2 : (fun w' : World => (w'.cell? ⟨b9, 0, none⟩ = some (.bool t9.s) ∧ w'.cell? ⟨b9, 1, none⟩ = some (.slice t9.a1 t9.n1 t9.c1) ∧ w'.cell? ⟨b9, 2, none⟩ = some (.slice t9.a2 t9.n2 t9.c2)) ∧ (w'.cell? ⟨b15, 0, none⟩ = some (.bool t15.s) ∧ w'.cell? ⟨b15, 1, none⟩ = some (.slice t15.a1 t15.n1 t15.c1) ∧ w'.cell? ⟨b15, 2, none⟩ = some (.slice t15.a2 t15.n2 t15.c2)) ∧ (w'.cell? ⟨b14, 0, none⟩ = some (.bool t14.s) ∧ w'.cell? ⟨b14, 1, none⟩ = some (.slice t14.a1 t14.n1 t14.c1) ∧ w'.cell? ⟨b14, 2, none⟩ = some (.slice t14.a2 t14.n2 t14.c2)) ∧ (w'.cell? ⟨b12, 0, none⟩ = some (.bool t12.s) ∧ w'.cell? ⟨b12, 1, none⟩ = some (.slice t12.a1 t12.n1 t12.c1) ∧ w'.cell? ⟨b12, 2, none⟩ = some (.slice t12.a2 t12.n2 t12.c2)) ∧ w'.cell? ⟨b5, 0, none⟩ = some (.bool t.s) ∧ w'.cell? ⟨b5, 1, none⟩ = some (.slice t.a1 t.n1 t.c1) ∧ w'.cell? ⟨b5, 2, none⟩ = some (.slice t.a2 t.n2 t.c2)) y2 := unhide HCC _ c2
    refine hK.out _ _ hC2 ?_
    clear hK K
    (try simp only [Act.put, List.setIfInBounds_toArray, List.set_cons_zero, List.set_cons_succ])
    refine wpHold_one (k := 7) (by kernel_rfl) rfl (fun K hK => ?_)
    (try simp only [List.getElem_toArray, List.getElem_cons_succ, List.getElem_cons_zero])
    go_simp
    refine (unhide HSUB _ _ _ _ _ hv2 ((unhide HX_b12_506).2.below c2) RM' RSH').mono ?_
    rintro e y3 ⟨u3, rfl, hv3, hb3⟩
    have c3 := below_step c2 hb3
    have hC3 : (fun w' : World => (w'.cell? ⟨b9, 0, none⟩ = some (.bool t9.s) ∧ w'.cell? ⟨b9, 1, none⟩ = some (.slice t9.a1 t9.n1 t9.c1) ∧ w'.cell? ⟨b9, 2, none⟩ = some (.slice t9.a2 t9.n2 t9.c2)) ∧ (w'.cell? ⟨b15, 0, none⟩ = some (.bool t15.s) ∧ w'.cell? ⟨b15, 1, none⟩ = some (.slice t15.a1 t15.n1 t15.c1) ∧ w'.cell? ⟨b15, 2, none⟩ = some (.slice t15.a2 t15.n2 t15.c2)) ∧ (w'.cell? ⟨b14, 0, none⟩ = some (.bool t14.s) ∧ w'.cell? ⟨b14, 1, none⟩ = some (.slice t14.a1 t14.n1 t14.c1) ∧ w'.cell? ⟨b14, 2, none⟩ = some (.slice t14.a2 t14.n2 t14.c2)) ∧ (w'.cell? ⟨b12, 0, none⟩ = some (.bool t12.s) ∧ w'.cell? ⟨b12, 1, none⟩ = some (.slice t12.a1 t12.n1 t12.c1) ∧ w'.cell? ⟨b12, 2, none⟩ = some (.slice t12.a2 t12.n2 t12.c2)) ∧ w'.cell? ⟨b5, 0, none⟩ = some (.bool t.s) ∧ w'.cell? ⟨b5, 1, none⟩ = some (.slice t.a1 t.n1 t.c1) ∧ w'.cell? ⟨b5, 2, none⟩ = some (.slice t.a2 t.n2 t.c2)) y3 := unhide HCC _ c3
    refine hK.out _ _ hC3 ?_
    clear hK K
    (try simp only [Act.put, List.setIfInBounds_toArray, List.set_cons_zero, List.set_cons_succ])
    refine wpHold_one (k := 9) (by kernel_rfl) rfl (fun K hK => ?_)
    (try simp only [List.getElem_toArray, List.getElem_cons_succ, List.getElem_cons_zero])
    go_simp
    refine (unhide HDIV _ _ _ _ _ hv3 ((unhide HX_b5_506).2.below c3) RN RU hz).mono ?_
    rintro e y4 ⟨u4, rfl, hv4, hb4⟩
    have c4 := below_step c3 hb4
    have hC4 : (fun w' : World => (w'.cell? ⟨b9, 0, none⟩ = some (.bool t9.s) ∧ w'.cell? ⟨b9, 1, none⟩ = some (.slice t9.a1 t9.n1 t9.c1) ∧ w'.cell? ⟨b9, 2, none⟩ = some (.slice t9.a2 t9.n2 t9.c2)) ∧ (w'.cell? ⟨b15, 0, none⟩ = some (.bool t15.s) ∧ w'.cell? ⟨b15, 1, none⟩ = some (.slice t15.a1 t15.n1 t15.c1) ∧ w'.cell? ⟨b15, 2, none⟩ = some (.slice t15.a2 t15.n2 t15.c2)) ∧ (w'.cell? ⟨b14, 0, none⟩ = some (.bool t14.s) ∧ w'.cell? ⟨b14, 1, none⟩ = some (.slice t14.a1 t14.n1 t14.c1) ∧ w'.cell? ⟨b14, 2, none⟩ = some (.slice t14.a2 t14.n2 t14.c2)) ∧ (w'.cell? ⟨b12, 0, none⟩ = some (.bool t12.s) ∧ w'.cell? ⟨b12, 1, none⟩ = some (.slice t12.a1 t12.n1 t12.c1) ∧ w'.cell? ⟨b12, 2, none⟩ = some (.slice t12.a2 t12.n2 t12.c2)) ∧ w'.cell? ⟨b5, 0, none⟩ = some (.bool t.s) ∧ w'.cell? ⟨b5, 1, none⟩ = some (.slice t.a1 t.n1 t.c1) ∧ w'.cell? ⟨b5, 2, none⟩ = some (.slice t.a2 t.n2 t.c2)) y4 := unhide HCC _ c4
    refine hK.out _ _ hC4 ?_
    clear hK K
    (try simp only [Act.put, List.setIfInBounds_toArray, List.set_cons_zero, List.set_cons_succ])
    obtain ⟨ta, rfl, ra⟩ := tri_of (((hv1.below hb2).below hb3).below hb4)
    obtain ⟨tb, rfl, rb⟩ := tri_of hv4
    simp only [Tri.val]
    have X6 := (unhide HX_b6_506).keep c4
    have X7 := (unhide HX_b7_506).keep c4
    have XB := below_step (unhide HB_506) c4
    have Y6 := X6.set ra
    have Y7 := X7.other X6 (Nat.ne_of_gt (unhide HL_b6_b7)) (.bool ta.s) (.slice ta.a1 ta.n1 ta.c1) (.slice ta.a2 ta.n2 ta.c2)
    have rb' := rb.boxSet X6 (.bool ta.s) (.slice ta.a1 ta.n1 ta.c1) (.slice ta.a2 ta.n2 ta.c2)
    have YB := ((XB.setCell (p := ⟨b6, 0, none⟩) (unhide HG_b6) (.bool ta.s)).setCell (p := ⟨b6, 1, none⟩) (unhide HG_b6) (.slice ta.a1 ta.n1 ta.c1)).setCell (p := ⟨b6, 2, none⟩) (unhide HG_b6) (.slice ta.a2 ta.n2 ta.c2)
    have O9 := ((unhide HX_b9_506).keep c4).other X6 (Nat.ne_of_gt (unhide HL_b6_b9)) (.bool ta.s) (.slice ta.a1 ta.n1 ta.c1) (.slice ta.a2 ta.n2 ta.c2)
    have O15 := ((unhide HX_b15_505).keep c4).other X6 (Nat.ne_of_gt (unhide HL_b6_b15)) (.bool ta.s) (.slice ta.a1 ta.n1 ta.c1) (.slice ta.a2 ta.n2 ta.c2)
    have O14 := ((unhide HX_b14_506).keep c4).other X6 (Nat.ne_of_gt (unhide HL_b6_b14)) (.bool ta.s) (.slice ta.a1 ta.n1 ta.c1) (.slice ta.a2 ta.n2 ta.c2)
    have O12 := ((unhide HX_b12_506).keep c4).other X6 (Nat.ne_of_gt (unhide HL_b6_b12)) (.bool ta.s) (.slice ta.a1 ta.n1 ta.c1) (.slice ta.a2 ta.n2 ta.c2)
    have O5 := ((unhide HX_b5_506).keep c4).other X6 (Nat.ne_of_lt (unhide HL_b5_b6)) (.bool ta.s) (.slice ta.a1 ta.n1 ta.c1) (.slice ta.a2 ta.n2 ta.c2)
    have ⟨l0, l1, l2⟩ := X6.free
    have ⟨k0, k1, k2⟩ := X6.cells _ (Below.refl _ _)
    obtain ⟨Wy, hWy⟩ : ∃ W, ((y4.setCell ⟨b6, 0, none⟩ (.bool ta.s)).setCell ⟨b6, 1, none⟩ (.slice ta.a1 ta.n1 ta.c1)).setCell ⟨b6, 2, none⟩ (.slice ta.a2 ta.n2 ta.c2) = W := ⟨_, rfl⟩
    rw [hWy] at Y6 Y7 rb' YB O9 O15 O14 O12 O5
    have hCy : (fun w' : World => (w'.cell? ⟨b9, 0, none⟩ = some (.bool t9.s) ∧ w'.cell? ⟨b9, 1, none⟩ = some (.slice t9.a1 t9.n1 t9.c1) ∧ w'.cell? ⟨b9, 2, none⟩ = some (.slice t9.a2 t9.n2 t9.c2)) ∧ (w'.cell? ⟨b15, 0, none⟩ = some (.bool t15.s) ∧ w'.cell? ⟨b15, 1, none⟩ = some (.slice t15.a1 t15.n1 t15.c1) ∧ w'.cell? ⟨b15, 2, none⟩ = some (.slice t15.a2 t15.n2 t15.c2)) ∧ (w'.cell? ⟨b14, 0, none⟩ = some (.bool t14.s) ∧ w'.cell? ⟨b14, 1, none⟩ = some (.slice t14.a1 t14.n1 t14.c1) ∧ w'.cell? ⟨b14, 2, none⟩ = some (.slice t14.a2 t14.n2 t14.c2)) ∧ (w'.cell? ⟨b12, 0, none⟩ = some (.bool t12.s) ∧ w'.cell? ⟨b12, 1, none⟩ = some (.slice t12.a1 t12.n1 t12.c1) ∧ w'.cell? ⟨b12, 2, none⟩ = some (.slice t12.a2 t12.n2 t12.c2)) ∧ w'.cell? ⟨b5, 0, none⟩ = some (.bool t.s) ∧ w'.cell? ⟨b5, 1, none⟩ = some (.slice t.a1 t.n1 t.c1) ∧ w'.cell? ⟨b5, 2, none⟩ = some (.slice t.a2 t.n2 t.c2)) Wy := ⟨O9.cells _ (Below.refl _ _), O15.cells _ (Below.refl _ _), O14.cells _ (Below.refl _ _), O12.cells _ (Below.refl _ _), O5.cells _ (Below.refl _ _)⟩
    have Z7 := Y7.set rb'
    have Z6 := Y6.other Y7 (Nat.ne_of_lt (unhide HL_b6_b7)) (.bool tb.s) (.slice tb.a1 tb.n1 tb.c1) (.slice tb.a2 tb.n2 tb.c2)
    have ZB := ((YB.setCell (p := ⟨b7, 0, none⟩) (unhide HG_b7) (.bool tb.s)).setCell (p := ⟨b7, 1, none⟩) (unhide HG_b7) (.slice tb.a1 tb.n1 tb.c1)).setCell (p := ⟨b7, 2, none⟩) (unhide HG_b7) (.slice tb.a2 tb.n2 tb.c2)
    have P9 := O9.other Y7 (Nat.ne_of_gt (unhide HL_b7_b9)) (.bool tb.s) (.slice tb.a1 tb.n1 tb.c1) (.slice tb.a2 tb.n2 tb.c2)
    have P15 := O15.other Y7 (Nat.ne_of_gt (unhide HL_b7_b15)) (.bool tb.s) (.slice tb.a1 tb.n1 tb.c1) (.slice tb.a2 tb.n2 tb.c2)
    have P14 := O14.other Y7 (Nat.ne_of_gt (unhide HL_b7_b14)) (.bool tb.s) (.slice tb.a1 tb.n1 tb.c1) (.slice tb.a2 tb.n2 tb.c2)
    have P12 := O12.other Y7 (Nat.ne_of_gt (unhide HL_b7_b12)) (.bool tb.s) (.slice tb.a1 tb.n1 tb.c1) (.slice tb.a2 tb.n2 tb.c2)
    have P5 := O5.other Y7 (Nat.ne_of_lt (unhide HL_b5_b7)) (.bool tb.s) (.slice tb.a1 tb.n1 tb.c1) (.slice tb.a2 tb.n2 tb.c2)
    have ⟨l3, l4, l5⟩ := Y7.free
    have ⟨k3, k4, k5⟩ := Y7.cells _ (Below.refl _ _)
    obtain ⟨Wz, hWz⟩ : ∃ W, ((Wy.setCell ⟨b7, 0, none⟩ (.bool tb.s)).setCell ⟨b7, 1, none⟩ (.slice tb.a1 tb.n1 tb.c1)).setCell ⟨b7, 2, none⟩ (.slice tb.a2 tb.n2 tb.c2) = W := ⟨_, rfl⟩
    rw [hWz] at Z6 Z7 ZB P9 P15 P14 P12 P5
    have hCz : (fun w' : World => (w'.cell? ⟨b9, 0, none⟩ = some (.bool t9.s) ∧ w'.cell? ⟨b9, 1, none⟩ = some (.slice t9.a1 t9.n1 t9.c1) ∧ w'.cell? ⟨b9, 2, none⟩ = some (.slice t9.a2 t9.n2 t9.c2)) ∧ (w'.cell? ⟨b15, 0, none⟩ = some (.bool t15.s) ∧ w'.cell? ⟨b15, 1, none⟩ = some (.slice t15.a1 t15.n1 t15.c1) ∧ w'.cell? ⟨b15, 2, none⟩ = some (.slice t15.a2 t15.n2 t15.c2)) ∧ (w'.cell? ⟨b14, 0, none⟩ = some (.bool t14.s) ∧ w'.cell? ⟨b14, 1, none⟩ = some (.slice t14.a1 t14.n1 t14.c1) ∧ w'.cell? ⟨b14, 2, none⟩ = some (.slice t14.a2 t14.n2 t14.c2)) ∧ (w'.cell? ⟨b12, 0, none⟩ = some (.bool t12.s) ∧ w'.cell? ⟨b12, 1, none⟩ = some (.slice t12.a1 t12.n1 t12.c1) ∧ w'.cell? ⟨b12, 2, none⟩ = some (.slice t12.a2 t12.n2 t12.c2)) ∧ w'.cell? ⟨b5, 0, none⟩ = some (.bool t.s) ∧ w'.cell? ⟨b5, 1, none⟩ = some (.slice t.a1 t.n1 t.c1) ∧ w'.cell? ⟨b5, 2, none⟩ = some (.slice t.a2 t.n2 t.c2)) Wz := ⟨P9.cells _ (Below.refl _ _), P15.cells _ (Below.refl _ _), P14.cells _ (Below.refl _ _), P12.cells _ (Below.refl _ _), P5.cells _ (Below.refl _ _)⟩
    have ⟨x0, x1, x2⟩ := Z6.cells _ (Below.refl _ _)
    have ⟨x3, x4, x5⟩ := Z7.cells _ (Below.refl _ _)
    have HZ6 := hide Z6
    have HZ7 := hide Z7
    have HZB := hide ZB
    clear X6 X7 XB Y6 Y7 YB Z6 Z7 ZB ra rb rb' hv1 hv2 hv3 hv4 hb1 hb2 hb3 hb4 c1 c2 c3 c4 bd0 hC0 hC1 hC2 hC3 HCC O9 O15 O14 O12 O5 P9 P15 P14 P12 P5
    refine wpHold_one (k := 10) (by kernel_rfl) rfl (fun K hK => ?_)
    (try simp only [List.getElem_toArray, List.getElem_cons_succ, List.getElem_cons_zero])
    go_simp
    refine hK.out _ _ hCy ?_
    clear hK K
    (try simp only [Act.put, List.setIfInBounds_toArray, List.set_cons_zero, List.set_cons_succ])
    refine wpHold_one (k := 11) (by kernel_rfl) rfl (fun K hK => ?_)
    (try simp only [List.getElem_toArray, List.getElem_cons_succ, List.getElem_cons_zero])
    go_simp
    refine hK.out _ _ hCz ?_
    clear hK K
    (try simp only [Act.put, List.setIfInBounds_toArray, List.set_cons_zero, List.set_cons_succ])
    refine wpHold_one (k := 12) (by kernel_rfl) rfl (fun K hK => ?_)
    (try simp only [List.getElem_toArray, List.getElem_cons_succ, List.getElem_cons_zero])
    go_simp
    refine hK.out _ _ hCz ?_
    clear hK K
    (try simp only [Act.put, List.setIfInBounds_toArray, List.set_cons_zero, List.set_cons_succ])
    refine wpHold_done (by kernel_rfl) ?_ _
    clear hC4 hCy hCz l0 l1 l2 l3 l4 l5 k0 k1 k2 k3 k4 k5 hWy hWz
    go_wp2
    exact bodyPost_ret (v := .tuple #[.agg #[.bool ta.s, .slice ta.a1 ta.n1 ta.c1, .slice ta.a2 ta.n2 ta.c2], .agg #[.bool tb.s, .slice tb.a1 tb.n1 tb.c1, .slice tb.a2 tb.n2 tb.c2], .nilIface]) (by simp [results, Tryz.results15, go_sem, x0, x1, x2, x3, x4, x5]) rfl ⟨_, _, rfl, (unhide HZ6).2, (unhide HZ7).2, unhide HZB⟩
end Go.Proofs.YtdicbnchkfclaaaGreatDoor
