/- THE BALLOT: the law's walk. -/
import Derived.Test.YtdicbnchkfclaaaDoorK2
import Derived.Test.YtdicbnchkfclaaaDoorX1
import Derived.Test.YtdicbnchkfclaaaDoorM8
namespace Go.Proofs.YtdicbnchkfclaaaDoor
open Go.RowKit Go.Sort Go.Shelf

def balB (o p : Nat) : Bool :=
  let A := waysv (o + p) ((o : Int) - p); let G := abovev (o + p - 1) ((o : Int) - p - 1)
  decide (0 ≤ A) && decide (A < 1000000000000000000) && decide (0 ≤ G) && decide (G < 1000000000000000000) && (!decide (p < o) || decide (((o : Int) - p) * A = G * ((o : Int) + p)))
theorem bal_all : ((List.range 26).all fun o => (List.range 25).all fun p => o == 0 || balB o p) = true := by decide +kernel
theorem bal {o p : Nat} (h0 : 0 < o) (h1 : o ≤ 25) (h2 : p < 25) : ∃ A G : Nat, waysv (o + p) ((o : Int) - p) = (A : Int) ∧ abovev (o + p - 1) ((o : Int) - p - 1) = (G : Int) ∧ A < 1000000000000000000 ∧ G < 1000000000000000000 ∧ (p < o → ((o : Int) - p) * (A : Int) = (G : Int) * ((o : Int) + p)) := by
  have a1 := List.all_eq_true.1 bal_all o (List.mem_range.2 (by omega))
  have a2 := List.all_eq_true.1 a1 p (List.mem_range.2 h2)
  have ho : (o == 0) = false := by rw [beq_eq_false_iff_ne]; omega
  rw [ho, Bool.false_or] at a2
  simp only [balB, Bool.and_eq_true, decide_eq_true_eq, Bool.or_eq_true, Bool.not_eq_true', decide_eq_false_iff_not] at a2
  obtain ⟨⟨⟨⟨c1, c2⟩, c3⟩, c4⟩, c5⟩ := a2
  refine ⟨(waysv (o + p) ((o : Int) - p)).toNat, (abovev (o + p - 1) ((o : Int) - p - 1)).toNat, by omega, by omega, by omega, by omega, fun h => ?_⟩
  rw [show (((waysv (o + p) ((o : Int) - p)).toNat : Nat) : Int) = waysv (o + p) ((o : Int) - p) by omega, show (((abovev (o + p - 1) ((o : Int) - p - 1)).toNat : Nat) : Int) = abovev (o + p - 1) ((o : Int) - p - 1) by omega]
  rcases c5 with c5 | c5
  · exact absurd h c5
  · exact c5

theorem ahead_times {o p A G : Nat} (h : p < o) (he : ((o : Int) - p) * (A : Int) = (G : Int) * ((o : Int) + p)) : aheadq o p * ((A : Int) : Rat) = ((G : Int) : Rat) := by
  unfold aheadq
  rw [if_neg (by omega), Rat.divInt_eq_div]
  have h1 : ((((o : Int) + p : Int)) : Rat) ≠ 0 := by
    intro e
    have : ((o : Int) + p) = 0 := Rat.intCast_inj.1 (e.trans rfl)
    omega
  have h2 : (((((o : Int) - p) * (A : Int) : Int)) : Rat) = ((((G : Int) * ((o : Int) + p) : Int)) : Rat) := by rw [he]
  rw [Rat.intCast_mul, Rat.intCast_mul] at h2
  generalize ((((o : Int) + p : Int)) : Rat) = y at *
  generalize ((((o : Int) - p : Int)) : Rat) = x at *
  grind

theorem aheadq_RS {o p : Nat} (h1 : o ≤ 25) (h2 : p < 25) : RS (aheadq o p) 1 := by
  unfold aheadq
  split
  · exact RS.zero
  · have := pq_RS (p := ((o : Int) - p, (o : Int) + p)) ⟨by simp only; omega, by simp only; omega⟩ ⟨by simp only; omega, by simp only; omega⟩
    unfold pq at this
    rw [if_neg (by simp only; omega)] at this
    exact this

theorem text_nat {A : Nat} {x : Int} (h : x = (A : Int)) : (⟨(Lib.itoa x).toArray⟩ : ByteArray) = ⟨(qtext ((A : Int) : Rat)).toArray⟩ := by rw [h, itoa_text]

set_option maxHeartbeats 8000000 in
set_option maxRecDepth 100000 in
set_option linter.unusedSimpArgs false in
theorem walkBallot_any (a b : Int) (w : World) (htab : Tab w) :
    Calls Tryd.prog 6 #[.int .i64 a, .int .i64 b] w fun e w' => e = .returned (.bool true) ∧ Below w.heap.size w w' := by
  go_enter Tryd.func6, Tryd.ntmps6
  go_wp2_with fail
  refine (pick_any a 25 (by decide) (by decide) w).mono ?_
  rintro e w1 ⟨k1, rfl, hk1, hw⟩
  obtain rfl := hw.symm
  obtain ⟨o, ho⟩ : ∃ o : Nat, (1 : Int) + (k1 : Int) = (o : Int) := ⟨1 + k1, by omega⟩
  go_wp2_with fail
  refine (pick_any b 25 (by decide) (by decide) _).mono ?_
  rintro e w2 ⟨p, rfl, hp, hw⟩
  obtain rfl := hw.symm
  have ho0 : 0 < o := by omega
  have ho1 : o ≤ 25 := by omega
  obtain ⟨A, G, hA, hG, lA, lG, hbal⟩ := bal ho0 ho1 hp
  obtain ⟨N, hN⟩ : ∃ N : Nat, (o : Int) + (p : Int) = (N : Int) := ⟨o + p, by omega⟩
  obtain ⟨N1, hN1⟩ : ∃ N1 : Nat, (N : Int) - 1 = (N1 : Int) := ⟨N - 1, by omega⟩
  obtain ⟨z, hz⟩ : ∃ z, (o : Int) - (p : Int) = z := ⟨_, rfl⟩
  obtain ⟨z1, hz1⟩ : ∃ z1, z - 1 = z1 := ⟨_, rfl⟩
  have eN : o + p = N := by omega
  have eN1 : o + p - 1 = N1 := by omega
  rw [eN, hz] at hA
  rw [eN1, hz, hz1] at hG
  have HAH := hide (Ahead_any o p (by omega) (by omega) w)
  have HWY : Hid (∀ W, Below w.heap.size w W → Calls Tryd.prog 25 #[.int .i64 (N : Int), .int .i64 z] W fun e w' => e = .returned (.tuple #[.string ⟨(qtext ((A : Int) : Rat)).toArray⟩, .nilIface]) ∧ Below W.heap.size W w') := fun W hW => by
    have := Ways_any N z (by omega) (by omega) (by omega) W (tab_below htab hW)
    rw [text_nat hA] at this
    exact this
  have HAB : Hid (∀ W, Below w.heap.size w W → Calls Tryd.prog 26 #[.int .i64 (N1 : Int), .int .i64 z1] W fun e w' => e = .returned (.tuple #[.string ⟨(qtext ((G : Int) : Rat)).toArray⟩, .nilIface]) ∧ Below W.heap.size W w') := fun W hW => by
    have := Above_any N1 z1 (by omega) (by omega) (by omega) W (tab_below htab hW)
    rw [text_nat hG] at this
    exact this
  have HHF : Hid (∀ W, Below w.heap.size w W → Calls Tryd.prog 27 #[] W fun e w' => e = .returned (.bool true) ∧ Below W.heap.size W w') := fun W hW => half_any W (tab_below htab hW)
  have HP1 : Hid (∀ W, Calls Tryd.prog 28 #[.string ⟨(qtext ((A : Int) : Rat)).toArray⟩] W fun e w' => ∃ v, e = .returned (.tuple #[v, .nilIface]) ∧ RatIs w' v ((A : Int) : Rat) ∧ Below W.heap.size W w') := fun W => parse_text _ W (by show ((A : Int).natAbs : Int) < _; omega) (by show ((1 : Nat) : Int) < _; decide)
  have HP2 : Hid (∀ W, Calls Tryd.prog 28 #[.string ⟨(qtext ((G : Int) : Rat)).toArray⟩] W fun e w' => ∃ v, e = .returned (.tuple #[v, .nilIface]) ∧ RatIs w' v ((G : Int) : Rat) ∧ Below W.heap.size W w') := fun W => parse_text _ W (by show ((G : Int).natAbs : Int) < _; omega) (by show ((1 : Nat) : Int) < _; decide)
  have rsA : RS ((A : Int) : Rat) 1 := whole_RS ⟨by omega, by omega⟩
  have rsG : RS ((G : Int) : Rat) 1 := whole_RS ⟨by omega, by omega⟩
  have rsO := aheadq_RS ho1 hp
  have HRA := hide rsA
  have HRG := hide rsG
  have HRO := hide rsO
  have HBAL := hide hbal
  have HTAB := hide htab
  obtain ⟨sA, hsA⟩ : ∃ s : ByteArray, (⟨(qtext ((A : Int) : Rat)).toArray⟩ : ByteArray) = s := ⟨_, rfl⟩
  obtain ⟨sG, hsG⟩ : ∃ s : ByteArray, (⟨(qtext ((G : Int) : Rat)).toArray⟩ : ByteArray) = s := ⟨_, rfl⟩
  rw [hsA] at HWY HP1
  rw [hsG] at HAB HP2
  have HO := hide ho
  have HN := hide hN
  clear rsA rsG rsO hbal htab hA hG hsA hsG eN eN1 lA lG
  have HB_0 := hide (Below.refl w.heap.size w)
  go_wp2_with fail
  refine (unhide HAH).mono ?_
  rintro e w_1 ⟨v1, rfl, hv1, hbx⟩
  obtain ⟨t1, rfl, hr_1⟩ := tri_of hv1
  simp only [Tri.val]
  have hb_1 := below_step hbx (alloc_below w_1 (.cells #[.bool t1.s, .slice t1.a1 t1.n1 t1.c1, .slice t1.a2 t1.n2 t1.c2] 36))
  have HB_2 := hide (below_step (unhide HB_0) hb_1)
  clear HB_0
  have HX_b1_1 := hide (BoxIs.new hr_1)
  obtain ⟨Wb1, hW_1⟩ : ∃ W, w_1.alloc (.cells #[.bool t1.s, .slice t1.a1 t1.n1 t1.c1, .slice t1.a2 t1.n2 t1.c2] 36) = W := ⟨_, rfl⟩
  obtain ⟨b1, hc_1⟩ : ∃ b, w_1.heap.size = b := ⟨_, rfl⟩
  rw [hW_1] at HB_2 HX_b1_1
  rw [hc_1] at HX_b1_1
  clear hv1 hr_1 hbx hb_1
  go_wp2_with fail
  clear hW_1 hc_1
  refine (unhide HWY _ (unhide HB_2)).mono ?_
  rintro e w_3 ⟨rfl, hbx⟩
  have HB_4 := hide (below_step (unhide HB_2) hbx)
  have HX_b1_4 := hide ((unhide HX_b1_1).keep hbx)
  clear HB_2 HX_b1_1
  clear hbx
  go_wp2_with fail
  refine (unhide HAB _ (unhide HB_4)).mono ?_
  rintro e w_5 ⟨rfl, hbx⟩
  have HB_6 := hide (below_step (unhide HB_4) hbx)
  have HX_b1_6 := hide ((unhide HX_b1_4).keep hbx)
  clear HB_4 HX_b1_4
  clear hbx
  go_wp2_with fail
  refine (unhide HHF _ (unhide HB_6)).mono ?_
  rintro e w_7 ⟨rfl, hbx⟩
  have HB_8 := hide (below_step (unhide HB_6) hbx)
  have HX_b1_8 := hide ((unhide HX_b1_6).keep hbx)
  clear HB_6 HX_b1_6
  clear hbx
  go_wp2_with fail
  refine (unhide HP1 _).mono ?_
  rintro e w_9 ⟨v2, rfl, hv2, hbx⟩
  obtain ⟨t2, rfl, hr_9⟩ := tri_of hv2
  simp only [Tri.val]
  have hb_9 := below_step hbx (alloc_below w_9 (.cells #[.bool t2.s, .slice t2.a1 t2.n1 t2.c1, .slice t2.a2 t2.n2 t2.c2] 36))
  have HB_10 := hide (below_step (unhide HB_8) hb_9)
  have HX_b1_10 := hide ((unhide HX_b1_8).keep hb_9)
  clear HB_8 HX_b1_8
  have HX_b2_9 := hide (BoxIs.new hr_9)
  obtain ⟨Wb2, hW_9⟩ : ∃ W, w_9.alloc (.cells #[.bool t2.s, .slice t2.a1 t2.n1 t2.c1, .slice t2.a2 t2.n2 t2.c2] 36) = W := ⟨_, rfl⟩
  obtain ⟨b2, hc_9⟩ : ∃ b, w_9.heap.size = b := ⟨_, rfl⟩
  rw [hW_9] at HB_10 HX_b1_10 HX_b2_9
  rw [hc_9] at HX_b2_9
  clear hv2 hr_9 hbx hb_9
  go_wp2_with fail
  clear hW_9 hc_9
  refine (unhide HP2 _).mono ?_
  rintro e w_11 ⟨v3, rfl, hv3, hbx⟩
  obtain ⟨t3, rfl, hr_11⟩ := tri_of hv3
  simp only [Tri.val]
  have hb_11 := below_step hbx (alloc_below w_11 (.cells #[.bool t3.s, .slice t3.a1 t3.n1 t3.c1, .slice t3.a2 t3.n2 t3.c2] 36))
  have HB_12 := hide (below_step (unhide HB_10) hb_11)
  have HX_b1_12 := hide ((unhide HX_b1_10).keep hb_11)
  have HX_b2_12 := hide ((unhide HX_b2_9).keep hb_11)
  clear HB_10 HX_b1_10 HX_b2_9
  have HX_b3_11 := hide (BoxIs.new hr_11)
  obtain ⟨Wb3, hW_11⟩ : ∃ W, w_11.alloc (.cells #[.bool t3.s, .slice t3.a1 t3.n1 t3.c1, .slice t3.a2 t3.n2 t3.c2] 36) = W := ⟨_, rfl⟩
  obtain ⟨b3, hc_11⟩ : ∃ b, w_11.heap.size = b := ⟨_, rfl⟩
  rw [hW_11] at HB_12 HX_b1_12 HX_b2_12 HX_b3_11
  rw [hc_11] at HX_b3_11
  clear hv3 hr_11 hbx hb_11
  by_cases hle : o ≤ p
  · have hle' : (o : Int) ≤ (p : Int) := by omega
    have HSG := hide (sign_any _ _ _ (unhide HX_b1_12).2)
    have eq0 : aheadq o p = 0 := by unfold aheadq; rw [if_pos hle]
    rw [eq0] at HSG
    obtain ⟨k0, k1', k2⟩ := (unhide HX_b1_12).cells _ (Below.refl _ _)
    clear eq0
    go_wp2_with fail
    clear hW_11 hc_11
    refine (unhide HSG).mono ?_
    rintro e w_9 ⟨rfl, hb9⟩
    have HB9 := hide (below_step (unhide HB_12) hb9)
    clear hb9
    go_wp2
    go_ret
    exact ⟨rfl, unhide HB9⟩
  · have hle' : ¬ (o : Int) ≤ (p : Int) := by omega
    have heq := ahead_times (o := o) (p := p) (by omega) (unhide HBAL (by omega))
    go_wp2_with fail
    clear hW_11 hc_11
    have HCC : Hid (∀ W, Below Wb3.heap.size Wb3 W → (fun w' : World => (w'.cell? ⟨b1, 0, none⟩ = some (.bool t1.s) ∧ w'.cell? ⟨b1, 1, none⟩ = some (.slice t1.a1 t1.n1 t1.c1) ∧ w'.cell? ⟨b1, 2, none⟩ = some (.slice t1.a2 t1.n2 t1.c2)) ∧ (w'.cell? ⟨b2, 0, none⟩ = some (.bool t2.s) ∧ w'.cell? ⟨b2, 1, none⟩ = some (.slice t2.a1 t2.n1 t2.c1) ∧ w'.cell? ⟨b2, 2, none⟩ = some (.slice t2.a2 t2.n2 t2.c2)) ∧ w'.cell? ⟨b3, 0, none⟩ = some (.bool t3.s) ∧ w'.cell? ⟨b3, 1, none⟩ = some (.slice t3.a1 t3.n1 t3.c1) ∧ w'.cell? ⟨b3, 2, none⟩ = some (.slice t3.a2 t3.n2 t3.c2)) W) := fun W hW => ⟨(unhide HX_b1_12).cells W hW, (unhide HX_b2_12).cells W hW, (unhide HX_b3_11).cells W hW⟩
    have bd0 : Below Wb3.heap.size Wb3 Wb3.drew := (Below.refl _ _).drew
    have HMU := hide (mulR_any _ _ _ _ Wb3.drew ((unhide HX_b1_12).2.below bd0) ((unhide HX_b2_12).2.below bd0) 1 (unhide HRO) (unhide HRA) (by decide))
    rw [heq] at HMU
    refine wp_region_till (fun w' : World => (w'.cell? ⟨b1, 0, none⟩ = some (.bool t1.s) ∧ w'.cell? ⟨b1, 1, none⟩ = some (.slice t1.a1 t1.n1 t1.c1) ∧ w'.cell? ⟨b1, 2, none⟩ = some (.slice t1.a2 t1.n2 t1.c2)) ∧ (w'.cell? ⟨b2, 0, none⟩ = some (.bool t2.s) ∧ w'.cell? ⟨b2, 1, none⟩ = some (.slice t2.a1 t2.n1 t2.c1) ∧ w'.cell? ⟨b2, 2, none⟩ = some (.slice t2.a2 t2.n2 t2.c2)) ∧ w'.cell? ⟨b3, 0, none⟩ = some (.bool t3.s) ∧ w'.cell? ⟨b3, 1, none⟩ = some (.slice t3.a1 t3.n1 t3.c1) ∧ w'.cell? ⟨b3, 2, none⟩ = some (.slice t3.a2 t3.n2 t3.c2)) 5 (by kernel_rfl) ?_
    have hC0 : (fun w' : World => (w'.cell? ⟨b1, 0, none⟩ = some (.bool t1.s) ∧ w'.cell? ⟨b1, 1, none⟩ = some (.slice t1.a1 t1.n1 t1.c1) ∧ w'.cell? ⟨b1, 2, none⟩ = some (.slice t1.a2 t1.n2 t1.c2)) ∧ (w'.cell? ⟨b2, 0, none⟩ = some (.bool t2.s) ∧ w'.cell? ⟨b2, 1, none⟩ = some (.slice t2.a1 t2.n1 t2.c1) ∧ w'.cell? ⟨b2, 2, none⟩ = some (.slice t2.a2 t2.n2 t2.c2)) ∧ w'.cell? ⟨b3, 0, none⟩ = some (.bool t3.s) ∧ w'.cell? ⟨b3, 1, none⟩ = some (.slice t3.a1 t3.n1 t3.c1) ∧ w'.cell? ⟨b3, 2, none⟩ = some (.slice t3.a2 t3.n2 t3.c2)) Wb3.drew := unhide HCC _ bd0
    refine wpTill_take (i := 0) (v := ?_) rfl (by kernel_rfl) (by kernel_rfl) (by kernel_rfl) (by kernel_rfl) (by kernel_rfl) (by kernel_rfl) (fun _ _ _ h => h) (Or.inl ⟨by rfl, ?_⟩) hC0 ?_
    rotate_left
    · intro w hSw; (try dsimp only at hSw); obtain ⟨⟨z0, z1, z2⟩, ⟨z3, z4, z5⟩, z6, z7, z8⟩ := hSw; go_simp; (try with_reducible rfl)
    (try simp only [List.getElem_toArray, List.getElem_cons_succ, List.getElem_cons_zero])
    (try simp only [Act.put, List.setIfInBounds_toArray, List.set_cons_zero, List.set_cons_succ])
    refine wpTill_take (i := 1) (v := ?_) rfl (by kernel_rfl) (by kernel_rfl) (by kernel_rfl) (by kernel_rfl) (by kernel_rfl) (by kernel_rfl) (fun _ _ _ h => h) (Or.inl ⟨by rfl, ?_⟩) hC0 ?_
    rotate_left
    · intro w hSw; (try dsimp only at hSw); obtain ⟨⟨z0, z1, z2⟩, ⟨z3, z4, z5⟩, z6, z7, z8⟩ := hSw; go_simp; (try with_reducible rfl)
    (try simp only [List.getElem_toArray, List.getElem_cons_succ, List.getElem_cons_zero])
    (try simp only [Act.put, List.setIfInBounds_toArray, List.set_cons_zero, List.set_cons_succ])
    refine wpTill_take (i := 3) (v := ?_) rfl (by kernel_rfl) (by kernel_rfl) (by kernel_rfl) (by kernel_rfl) (by kernel_rfl) (by kernel_rfl) (fun _ _ _ h => h) (Or.inl ⟨by rfl, ?_⟩) hC0 ?_
    rotate_left
    · intro w hSw; (try dsimp only at hSw); obtain ⟨⟨z0, z1, z2⟩, ⟨z3, z4, z5⟩, z6, z7, z8⟩ := hSw; go_simp; (try with_reducible rfl)
    (try simp only [List.getElem_toArray, List.getElem_cons_succ, List.getElem_cons_zero])
    (try simp only [Act.put, List.setIfInBounds_toArray, List.set_cons_zero, List.set_cons_succ])
    refine wpTill_one (k := 2) (by kernel_rfl) rfl (fun K hK => ?_)
    (try simp only [List.getElem_toArray, List.getElem_cons_succ, List.getElem_cons_zero])
    go_simp
    refine (unhide HMU).mono ?_
    rintro e w_7 ⟨v7, rfl, hv7, hb7⟩
    have b7 := below_step bd0 hb7
    have hC7 : (fun w' : World => (w'.cell? ⟨b1, 0, none⟩ = some (.bool t1.s) ∧ w'.cell? ⟨b1, 1, none⟩ = some (.slice t1.a1 t1.n1 t1.c1) ∧ w'.cell? ⟨b1, 2, none⟩ = some (.slice t1.a2 t1.n2 t1.c2)) ∧ (w'.cell? ⟨b2, 0, none⟩ = some (.bool t2.s) ∧ w'.cell? ⟨b2, 1, none⟩ = some (.slice t2.a1 t2.n1 t2.c1) ∧ w'.cell? ⟨b2, 2, none⟩ = some (.slice t2.a2 t2.n2 t2.c2)) ∧ w'.cell? ⟨b3, 0, none⟩ = some (.bool t3.s) ∧ w'.cell? ⟨b3, 1, none⟩ = some (.slice t3.a1 t3.n1 t3.c1) ∧ w'.cell? ⟨b3, 2, none⟩ = some (.slice t3.a2 t3.n2 t3.c2)) w_7 := unhide HCC _ b7
    have HLK := hide (like_any _ _ _ w_7 hv7 ((unhide HX_b3_11).2.below b7) 1 (unhide HRG) (by decide) (tab_below (unhide HTAB) (below_step (unhide HB_12) b7)))
    clear hv7
    refine hK.out _ _ (fun _ => hC7) ?_
    clear hK K
    (try simp only [Act.put, List.setIfInBounds_toArray, List.set_cons_zero, List.set_cons_succ])
    refine wpTill_one (k := 4) (by kernel_rfl) rfl (fun K hK => ?_)
    (try simp only [List.getElem_toArray, List.getElem_cons_succ, List.getElem_cons_zero])
    go_simp
    refine (unhide HLK).mono ?_
    rintro e w_8 ⟨rfl, hb8⟩
    have b8 := below_step b7 hb8
    have hC8 : (fun w' : World => (w'.cell? ⟨b1, 0, none⟩ = some (.bool t1.s) ∧ w'.cell? ⟨b1, 1, none⟩ = some (.slice t1.a1 t1.n1 t1.c1) ∧ w'.cell? ⟨b1, 2, none⟩ = some (.slice t1.a2 t1.n2 t1.c2)) ∧ (w'.cell? ⟨b2, 0, none⟩ = some (.bool t2.s) ∧ w'.cell? ⟨b2, 1, none⟩ = some (.slice t2.a1 t2.n1 t2.c1) ∧ w'.cell? ⟨b2, 2, none⟩ = some (.slice t2.a2 t2.n2 t2.c2)) ∧ w'.cell? ⟨b3, 0, none⟩ = some (.bool t3.s) ∧ w'.cell? ⟨b3, 1, none⟩ = some (.slice t3.a1 t3.n1 t3.c1) ∧ w'.cell? ⟨b3, 2, none⟩ = some (.slice t3.a2 t3.n2 t3.c2)) w_8 := unhide HCC _ b8
    refine hK.out _ _ (fun _ => hC8) ?_
    clear hK K
    (try simp only [Act.put, List.setIfInBounds_toArray, List.set_cons_zero, List.set_cons_succ])
    refine wpTill_one (k := 5) (by kernel_rfl) rfl (fun K hK => ?_)
    (try simp only [List.getElem_toArray, List.getElem_cons_succ, List.getElem_cons_zero])
    go_simp
    refine hK.out _ _ (fun h => absurd (h.symm.trans (by kernel_rfl)) Bool.false_ne_true) ?_
    clear hK K
    (try simp only [Act.put, List.setIfInBounds_toArray, List.set_cons_zero, List.set_cons_succ])
    refine wpTill_done (by kernel_rfl) ?_ _
    have HBF := hide (below_step (unhide HB_12) b8)
    clear hC0 hC7 hC8 bd0 b7 b8 hb7 hb8
    go_wp2
    go_ret
    exact ⟨rfl, unhide HBF⟩
end Go.Proofs.YtdicbnchkfclaaaDoor
