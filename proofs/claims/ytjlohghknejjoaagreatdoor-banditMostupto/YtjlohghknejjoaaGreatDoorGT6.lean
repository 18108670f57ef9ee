/- Arms: whether worth may be, whether there is such a state. -/
import Derived.Test.YtjlohghknejjoaaGreatDoorGT1
namespace Go.Proofs.YtjlohghknejjoaaGreatDoor
open Go.RowKit Go.Sort Go.Shelf

/-- What is wrong with an arm, or with worth. -/
def wcode (gs : List Rat) (P : List (List Rat)) (b : Rat) : Int := if acode gs P = 0 then (if b < 0 ∨ 1 ≤ b then 1 else 0) else acode gs P
theorem wcode_zero {gs : List Rat} {P : List (List Rat)} {b : Rat} (h : wcode gs P b = 0) : GoodAr gs P ∧ 0 ≤ b ∧ b < 1 := by
  unfold wcode at h
  by_cases e : acode gs P = 0
  · rw [if_pos e] at h
    by_cases c : b < 0 ∨ 1 ≤ b
    · rw [if_pos c] at h; exact absurd h (by decide)
    · exact ⟨goodAr_of e, Rat.not_lt.1 (fun x => c (Or.inl x)), Rat.not_le.1 (fun x => c (Or.inr x))⟩
  · rw [if_neg e] at h; exact absurd h e

set_option maxHeartbeats 16000000 in
set_option maxRecDepth 100000 in
set_option linter.unusedSimpArgs false in
theorem checkWorth_any (v vw : Value) (gs : List Rat) (P : List (List Rat)) (b : Rat) (w : World) (h : ArmIs w v gs P) (hw : RatIs w vw b) (sm : SmA gs P) (rb : RS b 1) : Calls Tryz.prog 22 #[v, vw] w (ErrPost w (wcode gs P b)) := by
  have KKe : KK = 1099511627776 := rfl
  obtain ⟨m, l, rfl, hT, hS⟩ := h
  have hln := rows_len hS
  have hmn := law_len hT
  obtain ⟨n, hn⟩ : ∃ n, P.length = n := ⟨_, rfl⟩
  obtain ⟨k, hk⟩ : ∃ k, gs.length = k := ⟨_, rfl⟩
  rw [hn] at hln
  rw [hk] at hmn
  have HN := hide hn
  have HK := hide hk
  have HLN := hide hln
  have HMN := hide hmn
  obtain ⟨t, rfl, hwt⟩ := tri_of hw
  have X0 := ArmBox.new hT hS
  have b0 := alloc_below w (.cells #[.slice m.a m.n m.c, .slice l.a l.n l.c] 32)
  obtain ⟨W1, hW1⟩ : ∃ W, w.alloc (.cells #[.slice m.a m.n m.c, .slice l.a l.n l.c] 32) = W := ⟨_, rfl⟩
  obtain ⟨ba, hba⟩ : ∃ x, w.heap.size = x := ⟨_, rfl⟩
  rw [hW1] at X0 b0
  rw [hba] at X0
  have hXW := BoxIs.new (w := W1) (hwt.below b0)
  have b1 := alloc_below W1 (.cells #[.bool t.s, .slice t.a1 t.n1 t.c1, .slice t.a2 t.n2 t.c2] 37)
  obtain ⟨W0, hW0⟩ : ∃ W, W1.alloc (.cells #[.bool t.s, .slice t.a1 t.n1 t.c1, .slice t.a2 t.n2 t.c2] 37) = W := ⟨_, rfl⟩
  obtain ⟨bw, hbw⟩ : ∃ x, W1.heap.size = x := ⟨_, rfl⟩
  rw [hW0] at hXW b1
  rw [hbw] at hXW
  have HXW := hide hXW
  have HXA := hide (X0.keep b1)
  have HB0 := hide (below_step b0 b1)
  have HCA : Hid (∀ W, Below W0.heap.size W0 W → (fun w' : World => (w'.cell? ⟨ba, 0, none⟩ = some (.slice m.a k m.c) ∧ w'.cell? ⟨ba, 1, none⟩ = some (.slice l.a n l.c)) ∧ w'.cell? ⟨bw, 0, none⟩ = some (.bool t.s) ∧ w'.cell? ⟨bw, 1, none⟩ = some (.slice t.a1 t.n1 t.c1) ∧ w'.cell? ⟨bw, 2, none⟩ = some (.slice t.a2 t.n2 t.c2)) W) := fun W hW => by
    have h1 := (unhide HXA).cells W hW
    rw [hmn, hln] at h1
    exact ⟨h1, (unhide HXW).cells W hW⟩
  have HAR : Hid (∀ W, Below W0.heap.size W0 W → ArmIs W (.agg #[.slice m.a k m.c, .slice l.a n l.c]) gs P) := fun W hW => by
    have h1 := (unhide HXA).arm.below hW
    unfold aval at h1
    rw [hmn, hln] at h1
    exact h1
  have HRW : Hid (∀ W, Below W0.heap.size W0 W → RatIs W (.agg #[.bool t.s, .slice t.a1 t.n1 t.c1, .slice t.a2 t.n2 t.c2]) b) := fun W hW => (unhide HXW).2.below hW
  unfold aval
  rw [hmn, hln] at hW1 ⊢
  simp only [Tri.val]
  have ⟨⟨ca0, ca1⟩, cw0, cw1, cw2⟩ := unhide HCA W0 (Below.refl _ _)
  clear hT hS X0 b0 b1 hXW hwt hw hln hmn
  have HCK := hide (acheck_any _ gs P W0 (unhide HAR W0 (Below.refl _ _)) sm)
  have HRB := hide rb
  clear sm rb hn hk
  go_enter Tryz.func22, Tryz.ntmps22
  go_wp2_with fail
  refine (unhide HCK).mono ?_
  rintro e w1 ⟨rfl, hb1⟩
  have HB1 := hide (below_step (unhide HB0) hb1)
  have HCC : Hid (∀ W, Below w1.heap.size w1 W → (fun w' : World => (w'.cell? ⟨ba, 0, none⟩ = some (.slice m.a k m.c) ∧ w'.cell? ⟨ba, 1, none⟩ = some (.slice l.a n l.c)) ∧ w'.cell? ⟨bw, 0, none⟩ = some (.bool t.s) ∧ w'.cell? ⟨bw, 1, none⟩ = some (.slice t.a1 t.n1 t.c1) ∧ w'.cell? ⟨bw, 2, none⟩ = some (.slice t.a2 t.n2 t.c2)) W) := fun W hW => unhide HCA W (below_step hb1 hW)
  have HSG : Hid (∀ W, Below w1.heap.size w1 W → Calls Tryz.prog 18 #[.agg #[.bool t.s, .slice t.a1 t.n1 t.c1, .slice t.a2 t.n2 t.c2]] W fun e w' => e = .returned (.int .i64 b.num.sign) ∧ Below W.heap.size W w') := fun W hW => sign_any t.val b W (unhide HRW W (below_step hb1 hW))
  have HCM : Hid (∀ W v, Below w1.heap.size w1 W → RatIs W v ((1 : Int) : Rat) → Calls Tryz.prog 14 #[.agg #[.bool t.s, .slice t.a1 t.n1 t.c1, .slice t.a2 t.n2 t.c2], v] W fun e w' => e = .returned (.int .i64 (cmpv b ((1 : Int) : Rat))) ∧ Below W.heap.size W w') := fun W v hW hv => cmpR_all t.val v b _ W (unhide HRW W (below_step hb1 hW)) hv 1 (unhide HRB) one_RS' (by rw [KKe]; omega)
  obtain ⟨z, hk⟩ : ∃ z, acode gs P = z := ⟨_, rfl⟩
  rw [hk]
  have HKZ := hide hk
  clear hk hb1 hW1 hW0 hba hbw ca0 ca1 cw0 cw1 cw2 HCK HCA HRW HAR
  by_cases hk0 : z = 0
  rotate_left
  · have e5 : errV z = .iface 76 (.int .i64 z) := by unfold errV; rw [if_neg hk0]
    rw [e5]
    have HE2 : Hid (wcode gs P b = z) := by
      show wcode gs P b = z
      unfold wcode
      rw [unhide HKZ, if_neg hk0]
    have HE5 := hide e5
    clear hk0 e5
    go_wp2
    go_ret
    exact ⟨by rw [unhide HE2]; exact (congrArg Ending.returned (unhide HE5)).symm, unhide HB1⟩
  subst hk0
  have e5 : errV 0 = .nilIface := rfl
  rw [e5]
  go_wp2_with fail
  by_cases hneg : b < 0
  · have HE : Hid (wcode gs P b = 1) := by
      show wcode gs P b = 1
      unfold wcode
      rw [if_pos (unhide HKZ), if_pos (Or.inl hneg)]
    rw [sign_neg hneg] at HSG
    clear hneg HCM
    refine wp_region_hold (fun w' : World => (w'.cell? ⟨ba, 0, none⟩ = some (.slice m.a k m.c) ∧ w'.cell? ⟨ba, 1, none⟩ = some (.slice l.a n l.c)) ∧ w'.cell? ⟨bw, 0, none⟩ = some (.bool t.s) ∧ w'.cell? ⟨bw, 1, none⟩ = some (.slice t.a1 t.n1 t.c1) ∧ w'.cell? ⟨bw, 2, none⟩ = some (.slice t.a2 t.n2 t.c2)) (by kernel_rfl) ?_
    have bd0 : Below w1.heap.size w1 w1.drew := (Below.refl _ _).drew
    have hC0 : (fun w' : World => (w'.cell? ⟨ba, 0, none⟩ = some (.slice m.a k m.c) ∧ w'.cell? ⟨ba, 1, none⟩ = some (.slice l.a n l.c)) ∧ w'.cell? ⟨bw, 0, none⟩ = some (.bool t.s) ∧ w'.cell? ⟨bw, 1, none⟩ = some (.slice t.a1 t.n1 t.c1) ∧ w'.cell? ⟨bw, 2, none⟩ = some (.slice t.a2 t.n2 t.c2)) w1.drew := unhide HCC _ bd0
    refine wpHold_take (i := 0) (v := ?_) rfl (by kernel_rfl) (by kernel_rfl) (by kernel_rfl) (fun _ _ _ h => h) (Or.inl ⟨by rfl, ?_⟩) hC0 ?_
    rotate_left
    · intro w hSw; (try dsimp only at hSw); obtain ⟨⟨z0, z1⟩, z2, z3, z4⟩ := hSw; go_simp; (try with_reducible rfl)
    (try simp only [List.getElem_toArray, List.getElem_cons_succ, List.getElem_cons_zero])
    (try simp only [Act.put, List.setIfInBounds_toArray, List.set_cons_zero, List.set_cons_succ])
    refine wpHold_one (k := 1) (by kernel_rfl) rfl (fun K hK => ?_)
    (try simp only [List.getElem_toArray, List.getElem_cons_succ, List.getElem_cons_zero])
    go_simp
    refine (unhide HSG _ bd0).mono ?_
    rintro e xw_1 ⟨rfl, hb_1⟩
    have cc_1 := below_step bd0 hb_1
    have hC_1 : (fun w' : World => (w'.cell? ⟨ba, 0, none⟩ = some (.slice m.a k m.c) ∧ w'.cell? ⟨ba, 1, none⟩ = some (.slice l.a n l.c)) ∧ w'.cell? ⟨bw, 0, none⟩ = some (.bool t.s) ∧ w'.cell? ⟨bw, 1, none⟩ = some (.slice t.a1 t.n1 t.c1) ∧ w'.cell? ⟨bw, 2, none⟩ = some (.slice t.a2 t.n2 t.c2)) xw_1 := unhide HCC _ cc_1
    refine hK.out _ _ hC_1 ?_
    clear hK K
    (try simp only [Act.put, List.setIfInBounds_toArray, List.set_cons_zero, List.set_cons_succ])
    refine wpHold_take (i := 2) (v := ?_) rfl (by kernel_rfl) (by kernel_rfl) (by kernel_rfl) (fun _ _ _ h => h) (Or.inl ⟨by rfl, ?_⟩) hC_1 ?_
    rotate_left
    · intro w hSw; clear hSw; go_simp; (try with_reducible rfl)
    (try simp only [List.getElem_toArray, List.getElem_cons_succ, List.getElem_cons_zero])
    (try simp only [Act.put, List.setIfInBounds_toArray, List.set_cons_zero, List.set_cons_succ])
    refine wpHold_take (i := 3) (v := ?_) rfl (by kernel_rfl) (by kernel_rfl) (by kernel_rfl) (fun _ _ _ h => h) (Or.inl ⟨by rfl, ?_⟩) hC_1 ?_
    rotate_left
    · intro w hSw; clear hSw; go_simp; (try with_reducible rfl)
    (try simp only [List.getElem_toArray, List.getElem_cons_succ, List.getElem_cons_zero])
    (try simp only [Act.put, List.setIfInBounds_toArray, List.set_cons_zero, List.set_cons_succ])
    refine wpHold_take (i := 4) (v := undef) rfl (by kernel_rfl) (by kernel_rfl) (by kernel_rfl) (fun _ _ _ h => h) (Or.inr ⟨by rfl, rfl⟩) hC_1 ?_
    (try simp only [List.getElem_toArray, List.getElem_cons_succ, List.getElem_cons_zero])
    (try simp only [Act.put, List.setIfInBounds_toArray, List.set_cons_zero, List.set_cons_succ])
    refine wpHold_take (i := 5) (v := undef) rfl (by kernel_rfl) (by kernel_rfl) (by kernel_rfl) (fun _ _ _ h => h) (Or.inr ⟨by rfl, rfl⟩) hC_1 ?_
    (try simp only [List.getElem_toArray, List.getElem_cons_succ, List.getElem_cons_zero])
    (try simp only [Act.put, List.setIfInBounds_toArray, List.set_cons_zero, List.set_cons_succ])
    refine wpHold_take (i := 6) (v := undef) rfl (by kernel_rfl) (by kernel_rfl) (by kernel_rfl) (fun _ _ _ h => h) (Or.inr ⟨by rfl, rfl⟩) hC_1 ?_
    (try simp only [List.getElem_toArray, List.getElem_cons_succ, List.getElem_cons_zero])
    (try simp only [Act.put, List.setIfInBounds_toArray, List.set_cons_zero, List.set_cons_succ])
    refine wpHold_take (i := 7) (v := undef) rfl (by kernel_rfl) (by kernel_rfl) (by kernel_rfl) (fun _ _ _ h => h) (Or.inr ⟨by rfl, rfl⟩) hC_1 ?_
    (try simp only [List.getElem_toArray, List.getElem_cons_succ, List.getElem_cons_zero])
    (try simp only [Act.put, List.setIfInBounds_toArray, List.set_cons_zero, List.set_cons_succ])
    refine wpHold_take (i := 8) (v := ?_) rfl (by kernel_rfl) (by kernel_rfl) (by kernel_rfl) (fun _ _ _ h => h) (Or.inl ⟨by rfl, ?_⟩) hC_1 ?_
    rotate_left
    · intro w hSw; clear hSw; go_simp; (try with_reducible rfl)
    (try simp only [List.getElem_toArray, List.getElem_cons_succ, List.getElem_cons_zero])
    (try simp only [Act.put, List.setIfInBounds_toArray, List.set_cons_zero, List.set_cons_succ])
    refine wpHold_done (by kernel_rfl) ?_ _
    have HB2 := hide (below_step (unhide HB1) cc_1)
    clear hC0 hC_1 cc_1 bd0 hb_1
    go_wp2
    go_ret
    exact ⟨by rw [unhide HE]; rfl, unhide HB2⟩
  have s0 := sign_nn hneg
  obtain ⟨x, hx⟩ : ∃ x, b.num.sign = x := ⟨_, rfl⟩
  rw [hx] at s0 HSG
  have hd : decide (x < 0) = false := decide_eq_false (by omega)
  clear hx s0
  by_cases hbig : 1 ≤ b
  · have HE : Hid (wcode gs P b = 1) := by
      show wcode gs P b = 1
      unfold wcode
      rw [if_pos (unhide HKZ), if_pos (Or.inr hbig)]
    have ⟨y0, y1⟩ := cmpv_ge (a := b) (b := ((1 : Int) : Rat)) hbig
    obtain ⟨y, hy⟩ : ∃ y, cmpv b ((1 : Int) : Rat) = y := ⟨_, rfl⟩
    rw [hy] at y0 y1 HCM
    have hd2 : decide (0 ≤ y) = true := decide_eq_true y0
    clear hneg hbig hy
    refine wp_region_hold (fun w' : World => (w'.cell? ⟨ba, 0, none⟩ = some (.slice m.a k m.c) ∧ w'.cell? ⟨ba, 1, none⟩ = some (.slice l.a n l.c)) ∧ w'.cell? ⟨bw, 0, none⟩ = some (.bool t.s) ∧ w'.cell? ⟨bw, 1, none⟩ = some (.slice t.a1 t.n1 t.c1) ∧ w'.cell? ⟨bw, 2, none⟩ = some (.slice t.a2 t.n2 t.c2)) (by kernel_rfl) ?_
    have bd0 : Below w1.heap.size w1 w1.drew := (Below.refl _ _).drew
    have hC0 : (fun w' : World => (w'.cell? ⟨ba, 0, none⟩ = some (.slice m.a k m.c) ∧ w'.cell? ⟨ba, 1, none⟩ = some (.slice l.a n l.c)) ∧ w'.cell? ⟨bw, 0, none⟩ = some (.bool t.s) ∧ w'.cell? ⟨bw, 1, none⟩ = some (.slice t.a1 t.n1 t.c1) ∧ w'.cell? ⟨bw, 2, none⟩ = some (.slice t.a2 t.n2 t.c2)) w1.drew := unhide HCC _ bd0
    refine wpHold_take (i := 0) (v := ?_) rfl (by kernel_rfl) (by kernel_rfl) (by kernel_rfl) (fun _ _ _ h => h) (Or.inl ⟨by rfl, ?_⟩) hC0 ?_
    rotate_left
    · intro w hSw; (try dsimp only at hSw); obtain ⟨⟨z0, z1⟩, z2, z3, z4⟩ := hSw; go_simp; (try with_reducible rfl)
    (try simp only [List.getElem_toArray, List.getElem_cons_succ, List.getElem_cons_zero])
    (try simp only [Act.put, List.setIfInBounds_toArray, List.set_cons_zero, List.set_cons_succ])
    refine wpHold_one (k := 1) (by kernel_rfl) rfl (fun K hK => ?_)
    (try simp only [List.getElem_toArray, List.getElem_cons_succ, List.getElem_cons_zero])
    go_simp
    refine (unhide HSG _ bd0).mono ?_
    rintro e xw_1 ⟨rfl, hb_1⟩
    have cc_1 := below_step bd0 hb_1
    have hC_1 : (fun w' : World => (w'.cell? ⟨ba, 0, none⟩ = some (.slice m.a k m.c) ∧ w'.cell? ⟨ba, 1, none⟩ = some (.slice l.a n l.c)) ∧ w'.cell? ⟨bw, 0, none⟩ = some (.bool t.s) ∧ w'.cell? ⟨bw, 1, none⟩ = some (.slice t.a1 t.n1 t.c1) ∧ w'.cell? ⟨bw, 2, none⟩ = some (.slice t.a2 t.n2 t.c2)) xw_1 := unhide HCC _ cc_1
    refine hK.out _ _ hC_1 ?_
    clear hK K
    (try simp only [Act.put, List.setIfInBounds_toArray, List.set_cons_zero, List.set_cons_succ])
    refine wpHold_take (i := 2) (v := ?_) rfl (by kernel_rfl) (by kernel_rfl) (by kernel_rfl) (fun _ _ _ h => h) (Or.inl ⟨by rfl, ?_⟩) hC_1 ?_
    rotate_left
    · intro w hSw; clear hSw; go_simp; (try with_reducible rfl)
    (try simp only [List.getElem_toArray, List.getElem_cons_succ, List.getElem_cons_zero])
    (try simp only [Act.put, List.setIfInBounds_toArray, List.set_cons_zero, List.set_cons_succ])
    refine wpHold_take (i := 3) (v := ?_) rfl (by kernel_rfl) (by kernel_rfl) (by kernel_rfl) (fun _ _ _ h => h) (Or.inl ⟨by rfl, ?_⟩) hC_1 ?_
    rotate_left
    · intro w hSw; clear hSw; go_simp; (try with_reducible rfl)
    (try simp only [List.getElem_toArray, List.getElem_cons_succ, List.getElem_cons_zero])
    (try simp only [Act.put, List.setIfInBounds_toArray, List.set_cons_zero, List.set_cons_succ])
    refine wpHold_take (i := 4) (v := ?_) rfl (by kernel_rfl) (by kernel_rfl) (by kernel_rfl) (fun _ _ _ h => h) (Or.inl ⟨by rfl, ?_⟩) hC_1 ?_
    rotate_left
    · intro w hSw; (try dsimp only at hSw); obtain ⟨⟨z0, z1⟩, z2, z3, z4⟩ := hSw; go_simp; (try with_reducible rfl)
    (try simp only [List.getElem_toArray, List.getElem_cons_succ, List.getElem_cons_zero])
    (try simp only [Act.put, List.setIfInBounds_toArray, List.set_cons_zero, List.set_cons_succ])
    refine wpHold_one (k := 5) (by kernel_rfl) rfl (fun K hK => ?_)
    (try simp only [List.getElem_toArray, List.getElem_cons_succ, List.getElem_cons_zero])
    go_simp
    refine (whole_any 1 (by decide) (by decide) _).mono ?_
    rintro e xw_2 ⟨xv_2, rfl, hv_2, hb_2⟩
    have cc_2 := below_step cc_1 hb_2
    have hC_2 : (fun w' : World => (w'.cell? ⟨ba, 0, none⟩ = some (.slice m.a k m.c) ∧ w'.cell? ⟨ba, 1, none⟩ = some (.slice l.a n l.c)) ∧ w'.cell? ⟨bw, 0, none⟩ = some (.bool t.s) ∧ w'.cell? ⟨bw, 1, none⟩ = some (.slice t.a1 t.n1 t.c1) ∧ w'.cell? ⟨bw, 2, none⟩ = some (.slice t.a2 t.n2 t.c2)) xw_2 := unhide HCC _ cc_2
    refine hK.out _ _ hC_2 ?_
    clear hK K
    (try simp only [Act.put, List.setIfInBounds_toArray, List.set_cons_zero, List.set_cons_succ])
    refine wpHold_one (k := 6) (by kernel_rfl) rfl (fun K hK => ?_)
    (try simp only [List.getElem_toArray, List.getElem_cons_succ, List.getElem_cons_zero])
    go_simp
    refine (unhide HCM _ _ cc_2 hv_2).mono ?_
    rintro e xw_3 ⟨rfl, hb_3⟩
    have cc_3 := below_step cc_2 hb_3
    have hC_3 : (fun w' : World => (w'.cell? ⟨ba, 0, none⟩ = some (.slice m.a k m.c) ∧ w'.cell? ⟨ba, 1, none⟩ = some (.slice l.a n l.c)) ∧ w'.cell? ⟨bw, 0, none⟩ = some (.bool t.s) ∧ w'.cell? ⟨bw, 1, none⟩ = some (.slice t.a1 t.n1 t.c1) ∧ w'.cell? ⟨bw, 2, none⟩ = some (.slice t.a2 t.n2 t.c2)) xw_3 := unhide HCC _ cc_3
    refine hK.out _ _ hC_3 ?_
    clear hK K
    (try simp only [Act.put, List.setIfInBounds_toArray, List.set_cons_zero, List.set_cons_succ])
    refine wpHold_take (i := 7) (v := ?_) rfl (by kernel_rfl) (by kernel_rfl) (by kernel_rfl) (fun _ _ _ h => h) (Or.inl ⟨by rfl, ?_⟩) hC_3 ?_
    rotate_left
    · intro w hSw; clear hSw; go_simp; (try with_reducible rfl)
    (try simp only [List.getElem_toArray, List.getElem_cons_succ, List.getElem_cons_zero])
    (try simp only [Act.put, List.setIfInBounds_toArray, List.set_cons_zero, List.set_cons_succ])
    refine wpHold_take (i := 8) (v := ?_) rfl (by kernel_rfl) (by kernel_rfl) (by kernel_rfl) (fun _ _ _ h => h) (Or.inl ⟨by rfl, ?_⟩) hC_3 ?_
    rotate_left
    · intro w hSw; clear hSw; go_simp; (try with_reducible rfl)
    (try simp only [List.getElem_toArray, List.getElem_cons_succ, List.getElem_cons_zero])
    (try simp only [Act.put, List.setIfInBounds_toArray, List.set_cons_zero, List.set_cons_succ])
    refine wpHold_done (by kernel_rfl) ?_ _
    have HB2 := hide (below_step (unhide HB1) cc_3)
    clear hC0 hC_1 hC_2 hC_3 cc_1 cc_2 cc_3 bd0 hb_1 hb_2 hb_3 hv_2
    go_wp2
    go_ret
    exact ⟨by rw [unhide HE]; rfl, unhide HB2⟩
  have HE : Hid (wcode gs P b = 0) := by
    show wcode gs P b = _
    unfold wcode
    rw [if_pos (unhide HKZ), if_neg (fun x => x.elim hneg hbig)]
  have hb1' : b < ((1 : Int) : Rat) := Rat.not_le.1 hbig
  rw [cmpv_lt hb1'] at HCM
  clear hneg hbig hb1'
  refine wp_region_hold (fun w' : World => (w'.cell? ⟨ba, 0, none⟩ = some (.slice m.a k m.c) ∧ w'.cell? ⟨ba, 1, none⟩ = some (.slice l.a n l.c)) ∧ w'.cell? ⟨bw, 0, none⟩ = some (.bool t.s) ∧ w'.cell? ⟨bw, 1, none⟩ = some (.slice t.a1 t.n1 t.c1) ∧ w'.cell? ⟨bw, 2, none⟩ = some (.slice t.a2 t.n2 t.c2)) (by kernel_rfl) ?_
  have bd0 : Below w1.heap.size w1 w1.drew := (Below.refl _ _).drew
  have hC0 : (fun w' : World => (w'.cell? ⟨ba, 0, none⟩ = some (.slice m.a k m.c) ∧ w'.cell? ⟨ba, 1, none⟩ = some (.slice l.a n l.c)) ∧ w'.cell? ⟨bw, 0, none⟩ = some (.bool t.s) ∧ w'.cell? ⟨bw, 1, none⟩ = some (.slice t.a1 t.n1 t.c1) ∧ w'.cell? ⟨bw, 2, none⟩ = some (.slice t.a2 t.n2 t.c2)) w1.drew := unhide HCC _ bd0
  refine wpHold_take (i := 0) (v := ?_) rfl (by kernel_rfl) (by kernel_rfl) (by kernel_rfl) (fun _ _ _ h => h) (Or.inl ⟨by rfl, ?_⟩) hC0 ?_
  rotate_left
  · intro w hSw; (try dsimp only at hSw); obtain ⟨⟨z0, z1⟩, z2, z3, z4⟩ := hSw; go_simp; (try with_reducible rfl)
  (try simp only [List.getElem_toArray, List.getElem_cons_succ, List.getElem_cons_zero])
  (try simp only [Act.put, List.setIfInBounds_toArray, List.set_cons_zero, List.set_cons_succ])
  refine wpHold_one (k := 1) (by kernel_rfl) rfl (fun K hK => ?_)
  (try simp only [List.getElem_toArray, List.getElem_cons_succ, List.getElem_cons_zero])
  go_simp
  refine (unhide HSG _ bd0).mono ?_
  rintro e xw_1 ⟨rfl, hb_1⟩
  have cc_1 := below_step bd0 hb_1
  have hC_1 : (fun w' : World => (w'.cell? ⟨ba, 0, none⟩ = some (.slice m.a k m.c) ∧ w'.cell? ⟨ba, 1, none⟩ = some (.slice l.a n l.c)) ∧ w'.cell? ⟨bw, 0, none⟩ = some (.bool t.s) ∧ w'.cell? ⟨bw, 1, none⟩ = some (.slice t.a1 t.n1 t.c1) ∧ w'.cell? ⟨bw, 2, none⟩ = some (.slice t.a2 t.n2 t.c2)) xw_1 := unhide HCC _ cc_1
  refine hK.out _ _ hC_1 ?_
  clear hK K
  (try simp only [Act.put, List.setIfInBounds_toArray, List.set_cons_zero, List.set_cons_succ])
  refine wpHold_take (i := 2) (v := ?_) rfl (by kernel_rfl) (by kernel_rfl) (by kernel_rfl) (fun _ _ _ h => h) (Or.inl ⟨by rfl, ?_⟩) hC_1 ?_
  rotate_left
  · intro w hSw; clear hSw; go_simp; (try with_reducible rfl)
  (try simp only [List.getElem_toArray, List.getElem_cons_succ, List.getElem_cons_zero])
  (try simp only [Act.put, List.setIfInBounds_toArray, List.set_cons_zero, List.set_cons_succ])
  refine wpHold_take (i := 3) (v := ?_) rfl (by kernel_rfl) (by kernel_rfl) (by kernel_rfl) (fun _ _ _ h => h) (Or.inl ⟨by rfl, ?_⟩) hC_1 ?_
  rotate_left
  · intro w hSw; clear hSw; go_simp; (try with_reducible rfl)
  (try simp only [List.getElem_toArray, List.getElem_cons_succ, List.getElem_cons_zero])
  (try simp only [Act.put, List.setIfInBounds_toArray, List.set_cons_zero, List.set_cons_succ])
  refine wpHold_take (i := 4) (v := ?_) rfl (by kernel_rfl) (by kernel_rfl) (by kernel_rfl) (fun _ _ _ h => h) (Or.inl ⟨by rfl, ?_⟩) hC_1 ?_
  rotate_left
  · intro w hSw; (try dsimp only at hSw); obtain ⟨⟨z0, z1⟩, z2, z3, z4⟩ := hSw; go_simp; (try with_reducible rfl)
  (try simp only [List.getElem_toArray, List.getElem_cons_succ, List.getElem_cons_zero])
  (try simp only [Act.put, List.setIfInBounds_toArray, List.set_cons_zero, List.set_cons_succ])
  refine wpHold_one (k := 5) (by kernel_rfl) rfl (fun K hK => ?_)
  (try simp only [List.getElem_toArray, List.getElem_cons_succ, List.getElem_cons_zero])
  go_simp
  refine (whole_any 1 (by decide) (by decide) _).mono ?_
  rintro e xw_2 ⟨xv_2, rfl, hv_2, hb_2⟩
  have cc_2 := below_step cc_1 hb_2
  have hC_2 : (fun w' : World => (w'.cell? ⟨ba, 0, none⟩ = some (.slice m.a k m.c) ∧ w'.cell? ⟨ba, 1, none⟩ = some (.slice l.a n l.c)) ∧ w'.cell? ⟨bw, 0, none⟩ = some (.bool t.s) ∧ w'.cell? ⟨bw, 1, none⟩ = some (.slice t.a1 t.n1 t.c1) ∧ w'.cell? ⟨bw, 2, none⟩ = some (.slice t.a2 t.n2 t.c2)) xw_2 := unhide HCC _ cc_2
  refine hK.out _ _ hC_2 ?_
  clear hK K
  (try simp only [Act.put, List.setIfInBounds_toArray, List.set_cons_zero, List.set_cons_succ])
  refine wpHold_one (k := 6) (by kernel_rfl) rfl (fun K hK => ?_)
  (try simp only [List.getElem_toArray, List.getElem_cons_succ, List.getElem_cons_zero])
  go_simp
  refine (unhide HCM _ _ cc_2 hv_2).mono ?_
  rintro e xw_3 ⟨rfl, hb_3⟩
  have cc_3 := below_step cc_2 hb_3
  have hC_3 : (fun w' : World => (w'.cell? ⟨ba, 0, none⟩ = some (.slice m.a k m.c) ∧ w'.cell? ⟨ba, 1, none⟩ = some (.slice l.a n l.c)) ∧ w'.cell? ⟨bw, 0, none⟩ = some (.bool t.s) ∧ w'.cell? ⟨bw, 1, none⟩ = some (.slice t.a1 t.n1 t.c1) ∧ w'.cell? ⟨bw, 2, none⟩ = some (.slice t.a2 t.n2 t.c2)) xw_3 := unhide HCC _ cc_3
  refine hK.out _ _ hC_3 ?_
  clear hK K
  (try simp only [Act.put, List.setIfInBounds_toArray, List.set_cons_zero, List.set_cons_succ])
  refine wpHold_take (i := 7) (v := ?_) rfl (by kernel_rfl) (by kernel_rfl) (by kernel_rfl) (fun _ _ _ h => h) (Or.inl ⟨by rfl, ?_⟩) hC_3 ?_
  rotate_left
  · intro w hSw; clear hSw; go_simp; (try with_reducible rfl)
  (try simp only [List.getElem_toArray, List.getElem_cons_succ, List.getElem_cons_zero])
  (try simp only [Act.put, List.setIfInBounds_toArray, List.set_cons_zero, List.set_cons_succ])
  refine wpHold_take (i := 8) (v := ?_) rfl (by kernel_rfl) (by kernel_rfl) (by kernel_rfl) (fun _ _ _ h => h) (Or.inl ⟨by rfl, ?_⟩) hC_3 ?_
  rotate_left
  · intro w hSw; clear hSw; go_simp; (try with_reducible rfl)
  (try simp only [List.getElem_toArray, List.getElem_cons_succ, List.getElem_cons_zero])
  (try simp only [Act.put, List.setIfInBounds_toArray, List.set_cons_zero, List.set_cons_succ])
  refine wpHold_done (by kernel_rfl) ?_ _
  have HB2 := hide (below_step (unhide HB1) cc_3)
  clear hC0 hC_1 hC_2 hC_3 cc_1 cc_2 cc_3 bd0 hb_1 hb_2 hb_3 hv_2 HB1 HSG HCM HCC hd
  go_wp2
  go_ret
  exact ⟨by rw [unhide HE]; rfl, unhide HB2⟩

set_option maxHeartbeats 16000000 in
set_option maxRecDepth 100000 in
set_option linter.unusedSimpArgs false in
theorem has_any (v : Value) (gs : List Rat) (P : List (List Rat)) (s : Nat) (w : World) (h : ArmIs w v gs P) (hs : s < gs.length) : Calls Tryz.prog 48 #[v, .int .i64 (s : Int)] w fun e w' => e = .returned (.bool true) ∧ Below w.heap.size w w' := by
  obtain ⟨m, l, rfl, hT, hS⟩ := h
  have hmn := law_len hT
  rw [← hmn] at hs
  have X0 := ArmBox.new hT hS
  have b0 := alloc_below w (.cells #[.slice m.a m.n m.c, .slice l.a l.n l.c] 32)
  obtain ⟨W0, hW0⟩ : ∃ W, w.alloc (.cells #[.slice m.a m.n m.c, .slice l.a l.n l.c] 32) = W := ⟨_, rfl⟩
  obtain ⟨ba, hba⟩ : ∃ x, w.heap.size = x := ⟨_, rfl⟩
  rw [hW0] at X0 b0
  rw [hba] at X0
  have ⟨c0, c1⟩ := X0.cells _ (Below.refl _ _)
  have HB0 := hide b0
  unfold aval
  obtain ⟨k, hk⟩ : ∃ k, m.n = k := ⟨_, rfl⟩
  obtain ⟨n, hn⟩ : ∃ k, l.n = k := ⟨_, rfl⟩
  rw [hk, hn] at hW0 ⊢
  rw [hk] at c0 hs
  rw [hn] at c1
  have e0 : (0 : Int) ≤ (s : Int) := by omega
  have e1 : (s : Int) < (k : Int) := by omega
  clear hT hS X0 b0 hmn hk hn
  go_enter Tryz.func48, Tryz.ntmps48
  go_wp2
  go_ret
  exact ⟨rfl, unhide HB0⟩

set_option maxHeartbeats 16000000 in
set_option maxRecDepth 100000 in
set_option linter.unusedSimpArgs false in
theorem checkState_any (v vw : Value) (gs : List Rat) (P : List (List Rat)) (b : Rat) (s : Nat) (w : World) (h : ArmIs w v gs P) (hw : RatIs w vw b) (sm : SmA gs P) (rb : RS b 1) (hs : s < gs.length) (hz : wcode gs P b = 0) : Calls Tryz.prog 26 #[v, vw, .int .i64 (s : Int)] w fun e w' => e = .returned .nilIface ∧ Below w.heap.size w w' := by
  obtain ⟨m, l, rfl, hT, hS⟩ := h
  have hln := rows_len hS
  have hmn := law_len hT
  obtain ⟨n, hn⟩ : ∃ n, P.length = n := ⟨_, rfl⟩
  obtain ⟨k, hk⟩ : ∃ k, gs.length = k := ⟨_, rfl⟩
  rw [hn] at hln
  rw [hk] at hmn
  have HN := hide hn
  have HK := hide hk
  have HLN := hide hln
  have HMN := hide hmn
  obtain ⟨t, rfl, hwt⟩ := tri_of hw
  have X0 := ArmBox.new hT hS
  have b0 := alloc_below w (.cells #[.slice m.a m.n m.c, .slice l.a l.n l.c] 32)
  obtain ⟨W1, hW1⟩ : ∃ W, w.alloc (.cells #[.slice m.a m.n m.c, .slice l.a l.n l.c] 32) = W := ⟨_, rfl⟩
  obtain ⟨ba, hba⟩ : ∃ x, w.heap.size = x := ⟨_, rfl⟩
  rw [hW1] at X0 b0
  rw [hba] at X0
  have hXW := BoxIs.new (w := W1) (hwt.below b0)
  have b1 := alloc_below W1 (.cells #[.bool t.s, .slice t.a1 t.n1 t.c1, .slice t.a2 t.n2 t.c2] 37)
  obtain ⟨W0, hW0⟩ : ∃ W, W1.alloc (.cells #[.bool t.s, .slice t.a1 t.n1 t.c1, .slice t.a2 t.n2 t.c2] 37) = W := ⟨_, rfl⟩
  obtain ⟨bw, hbw⟩ : ∃ x, W1.heap.size = x := ⟨_, rfl⟩
  rw [hW0] at hXW b1
  rw [hbw] at hXW
  have HXW := hide hXW
  have HXA := hide (X0.keep b1)
  have HB0 := hide (below_step b0 b1)
  have HCA : Hid (∀ W, Below W0.heap.size W0 W → (fun w' : World => (w'.cell? ⟨ba, 0, none⟩ = some (.slice m.a k m.c) ∧ w'.cell? ⟨ba, 1, none⟩ = some (.slice l.a n l.c)) ∧ w'.cell? ⟨bw, 0, none⟩ = some (.bool t.s) ∧ w'.cell? ⟨bw, 1, none⟩ = some (.slice t.a1 t.n1 t.c1) ∧ w'.cell? ⟨bw, 2, none⟩ = some (.slice t.a2 t.n2 t.c2)) W) := fun W hW => by
    have h1 := (unhide HXA).cells W hW
    rw [hmn, hln] at h1
    exact ⟨h1, (unhide HXW).cells W hW⟩
  have HAR : Hid (∀ W, Below W0.heap.size W0 W → ArmIs W (.agg #[.slice m.a k m.c, .slice l.a n l.c]) gs P) := fun W hW => by
    have h1 := (unhide HXA).arm.below hW
    unfold aval at h1
    rw [hmn, hln] at h1
    exact h1
  have HRW : Hid (∀ W, Below W0.heap.size W0 W → RatIs W (.agg #[.bool t.s, .slice t.a1 t.n1 t.c1, .slice t.a2 t.n2 t.c2]) b) := fun W hW => (unhide HXW).2.below hW
  unfold aval
  rw [hmn, hln] at hW1 ⊢
  simp only [Tri.val]
  have ⟨⟨ca0, ca1⟩, cw0, cw1, cw2⟩ := unhide HCA W0 (Below.refl _ _)
  clear hT hS X0 b0 b1 hXW hwt hw hln hmn
  have HCK := hide (checkWorth_any _ _ gs P b W0 (unhide HAR W0 (Below.refl _ _)) (unhide HRW W0 (Below.refl _ _)) sm rb)
  have HHS : Hid (∀ W, Below W0.heap.size W0 W → Calls Tryz.prog 48 #[.agg #[.slice m.a k m.c, .slice l.a n l.c], .int .i64 (s : Int)] W fun e w' => e = .returned (.bool true) ∧ Below W.heap.size W w') := fun W hW => has_any _ gs P s W (unhide HAR W hW) hs
  rw [hz] at HCK
  clear sm rb hn hk hs hz
  go_enter Tryz.func26, Tryz.ntmps26
  go_wp2_with fail
  refine (unhide HCK).mono ?_
  rintro e w1 ⟨rfl, hb1⟩
  have HB1 := hide (below_step (unhide HB0) hb1)
  have HH1 := hide (unhide HHS w1 hb1)
  have ⟨⟨x0, x1⟩, _⟩ := unhide HCA w1 hb1
  have e5 : errV 0 = .nilIface := rfl
  rw [e5]
  clear hb1 hW1 hW0 hba hbw ca0 ca1 cw0 cw1 cw2 HCK HCA HRW HAR HHS e5
  go_wp2_with fail
  refine (unhide HH1).mono ?_
  rintro e w2 ⟨rfl, hb2⟩
  have HB2 := hide (below_step (unhide HB1) hb2)
  clear hb2 x0 x1
  go_wp2
  go_ret
  exact ⟨rfl, unhide HB2⟩

end Go.Proofs.YtjlohghknejjoaaGreatDoor
