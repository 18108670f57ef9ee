/- A row of parts, beside the checker's numbers. -/
import Derived.Test.YtcelbgleajpenaaGreatDoorRZ1bz
import Derived.Test.YtcelbgleajpenaaGreatDoorM87
namespace Go.Proofs.YtcelbgleajpenaaGreatDoor
open Go.RowKit Go.Sort Go.Shelf

def icB (q : Rat) : Bool := decide (0 ≤ q ∧ q ≤ 1)
set_option maxHeartbeats 16000000 in
set_option maxRecDepth 100000 in
set_option linter.unusedSimpArgs false in
theorem ichance_any (v : Value) (q : Rat) (J : Nat) (w : World) (hp0 : RatIs w v q) (rq : RS q J) (h1 : 1 ≤ J) (hJ : J ≤ KK) :
    Calls Tryz.prog 63 #[v] w fun e w' => e = .returned (.bool (icB q)) ∧ Below w.heap.size w w' := by
  obtain ⟨tp, rfl, hp⟩ := tri_of hp0
  simp only [Tri.val]
  have bb_1 := alloc_below w (.cells #[.bool tp.s, .slice tp.a1 tp.n1 tp.c1, .slice tp.a2 tp.n2 tp.c2] 37)
  have X_1 := BoxIs.new (hp)
  obtain ⟨W_1, hW_1⟩ : ∃ W, w.alloc (.cells #[.bool tp.s, .slice tp.a1 tp.n1 tp.c1, .slice tp.a2 tp.n2 tp.c2] 37) = W := ⟨_, rfl⟩
  obtain ⟨b_p, hb_p⟩ : ∃ b, w.heap.size = b := ⟨_, rfl⟩
  rw [hW_1] at bb_1 X_1
  rw [hb_p] at X_1
  have X_1_ := X_1
  have tb_1 := bb_1
  have hg_p : w.heap.size ≤ b_p := by rw [← hb_p]; exact Nat.le_refl _
  have HG_p := hide hg_p
  have HX_p := hide (fun W (hW : Below W_1.heap.size W_1 W) => X_1_.keep hW)
  have HBW := hide (fun W (hW : Below W_1.heap.size W_1 W) => below_step tb_1 hW)
  have HB0 := hide tb_1
  clear bb_1 X_1 X_1_ tb_1 hg_p
  have HCC : Hid (∀ W, Below W_1.heap.size W_1 W → (fun w' : World => w'.cell? ⟨b_p, 0, none⟩ = some (.bool tp.s) ∧ w'.cell? ⟨b_p, 1, none⟩ = some (.slice tp.a1 tp.n1 tp.c1) ∧ w'.cell? ⟨b_p, 2, none⟩ = some (.slice tp.a2 tp.n2 tp.c2)) W) := fun W hW => (unhide HX_p _ hW).cells _ (Below.refl _ _)
  have HTP := hide (unhide HX_p _ (Below.refl _ _)).2
  have HSG : Hid (∀ W, Below W_1.heap.size W_1 W → Calls Tryz.prog 103 #[.agg #[.bool tp.s, .slice tp.a1 tp.n1 tp.c1, .slice tp.a2 tp.n2 tp.c2]] W fun e w' => e = .returned (.int .i64 q.num.sign) ∧ Below W.heap.size W w') := fun W hW => sign_any tp.val q W ((unhide HTP).below hW)
  have HRQ := hide rq
  have HR1 : Hid (RS ((1 : Int) : Rat) J) := one_RSi.mono h1
  have HJ := hide hJ
  by_cases hneg : q < 0
  · have hb : icB q = false := decide_eq_false (fun h => by have := h.1; grind)
    have hs : q.num.sign = -1 := Int.sign_eq_neg_one_of_neg (by rcases Int.lt_or_le q.num 0 with a | a; exact a; exact absurd (Rat.num_nonneg.1 a) (by grind))
    rw [hs] at HSG
    rw [hb]
    clear hp0 hp rq h1 hJ hneg hb hs
    go_enter Tryz.func63, Tryz.ntmps63
    go_wp2_with fail
    clear hW_1 hb_p
    refine wp_region_hold (fun w' : World => w'.cell? ⟨b_p, 0, none⟩ = some (.bool tp.s) ∧ w'.cell? ⟨b_p, 1, none⟩ = some (.slice tp.a1 tp.n1 tp.c1) ∧ w'.cell? ⟨b_p, 2, none⟩ = some (.slice tp.a2 tp.n2 tp.c2)) (by kernel_rfl) ?_
    have bd0 : Below W_1.heap.size W_1 W_1.drew := (Below.refl _ _).drew
    have hC0 : (fun w' : World => w'.cell? ⟨b_p, 0, none⟩ = some (.bool tp.s) ∧ w'.cell? ⟨b_p, 1, none⟩ = some (.slice tp.a1 tp.n1 tp.c1) ∧ w'.cell? ⟨b_p, 2, none⟩ = some (.slice tp.a2 tp.n2 tp.c2)) W_1.drew := unhide HCC _ bd0
    refine wpHold_take (i := 0) (v := ?_) rfl (by kernel_rfl) (by kernel_rfl) (by kernel_rfl) (fun _ _ _ h => h) (Or.inl ⟨by rfl, ?_⟩) hC0 ?_
    rotate_left
    · intro w hSw; (try dsimp only at hSw); obtain ⟨u0, u1, u2⟩ := hSw; go_simp; (try with_reducible rfl)
    (try simp only [List.getElem_toArray, List.getElem_cons_succ, List.getElem_cons_zero])
    (try simp only [Act.put, List.setIfInBounds_toArray, List.set_cons_zero, List.set_cons_succ])
    refine wpHold_one (k := 1) (by kernel_rfl) rfl (fun K hK => ?_)
    (try simp only [List.getElem_toArray, List.getElem_cons_succ, List.getElem_cons_zero])
    go_simp
    refine (unhide HSG _ bd0).mono ?_
    rintro e xw_1 ⟨rfl, hb_1⟩
    have cc_1 := below_step bd0 hb_1
    have hC_1 : (fun w' : World => w'.cell? ⟨b_p, 0, none⟩ = some (.bool tp.s) ∧ w'.cell? ⟨b_p, 1, none⟩ = some (.slice tp.a1 tp.n1 tp.c1) ∧ w'.cell? ⟨b_p, 2, none⟩ = some (.slice tp.a2 tp.n2 tp.c2)) xw_1 := unhide HCC _ cc_1
    refine hK.out _ _ hC_1 ?_
    clear hK K
    (try simp only [Act.put, List.setIfInBounds_toArray, List.set_cons_zero, List.set_cons_succ])
    refine wpHold_take (i := 2) (v := ?_) rfl (by kernel_rfl) (by kernel_rfl) (by kernel_rfl) (fun _ _ _ h => h) (Or.inl ⟨by rfl, ?_⟩) hC_1 ?_
    rotate_left
    · intro w hSw; clear hSw; go_simp; (try with_reducible rfl)
    (try simp only [List.getElem_toArray, List.getElem_cons_succ, List.getElem_cons_zero])
    (try simp only [Act.put, List.setIfInBounds_toArray, List.set_cons_zero, List.set_cons_succ])
    refine wpHold_take (i := 3) (v := ?_) rfl (by kernel_rfl) (by kernel_rfl) (by kernel_rfl) (fun _ _ _ h => h) (Or.inl ⟨by rfl, ?_⟩) hC_1 ?_
    rotate_left
    · intro w hSw; clear hSw; go_simp; (try with_reducible rfl)
    (try simp only [List.getElem_toArray, List.getElem_cons_succ, List.getElem_cons_zero])
    (try simp only [Act.put, List.setIfInBounds_toArray, List.set_cons_zero, List.set_cons_succ])
    refine wpHold_take (i := 4) (v := undef) rfl (by kernel_rfl) (by kernel_rfl) (by kernel_rfl) (fun _ _ _ h => h) (Or.inr ⟨by rfl, rfl⟩) hC_1 ?_
    (try simp only [List.getElem_toArray, List.getElem_cons_succ, List.getElem_cons_zero])
    (try simp only [Act.put, List.setIfInBounds_toArray, List.set_cons_zero, List.set_cons_succ])
    refine wpHold_take (i := 5) (v := undef) rfl (by kernel_rfl) (by kernel_rfl) (by kernel_rfl) (fun _ _ _ h => h) (Or.inr ⟨by rfl, rfl⟩) hC_1 ?_
    (try simp only [List.getElem_toArray, List.getElem_cons_succ, List.getElem_cons_zero])
    (try simp only [Act.put, List.setIfInBounds_toArray, List.set_cons_zero, List.set_cons_succ])
    refine wpHold_take (i := 6) (v := undef) rfl (by kernel_rfl) (by kernel_rfl) (by kernel_rfl) (fun _ _ _ h => h) (Or.inr ⟨by rfl, rfl⟩) hC_1 ?_
    (try simp only [List.getElem_toArray, List.getElem_cons_succ, List.getElem_cons_zero])
    (try simp only [Act.put, List.setIfInBounds_toArray, List.set_cons_zero, List.set_cons_succ])
    refine wpHold_take (i := 7) (v := undef) rfl (by kernel_rfl) (by kernel_rfl) (by kernel_rfl) (fun _ _ _ h => h) (Or.inr ⟨by rfl, rfl⟩) hC_1 ?_
    (try simp only [List.getElem_toArray, List.getElem_cons_succ, List.getElem_cons_zero])
    (try simp only [Act.put, List.setIfInBounds_toArray, List.set_cons_zero, List.set_cons_succ])
    refine wpHold_take (i := 8) (v := ?_) rfl (by kernel_rfl) (by kernel_rfl) (by kernel_rfl) (fun _ _ _ h => h) (Or.inl ⟨by rfl, ?_⟩) hC_1 ?_
    rotate_left
    · intro w hSw; clear hSw; go_simp; (try with_reducible rfl)
    (try simp only [List.getElem_toArray, List.getElem_cons_succ, List.getElem_cons_zero])
    (try simp only [Act.put, List.setIfInBounds_toArray, List.set_cons_zero, List.set_cons_succ])
    refine wpHold_take (i := 9) (v := ?_) rfl (by kernel_rfl) (by kernel_rfl) (by kernel_rfl) (fun _ _ _ h => h) (Or.inl ⟨by rfl, ?_⟩) hC_1 ?_
    rotate_left
    · intro w hSw; clear hSw; go_simp; (try with_reducible rfl)
    (try simp only [List.getElem_toArray, List.getElem_cons_succ, List.getElem_cons_zero])
    (try simp only [Act.put, List.setIfInBounds_toArray, List.set_cons_zero, List.set_cons_succ])
    refine wpHold_done (by kernel_rfl) ?_ _
    have HFB := hide (unhide HBW _ cc_1)
    go_wp2
    go_ret
    exact ⟨rfl, unhide HFB⟩
  · have h0 : 0 ≤ q := by grind
    have hs0 : 0 ≤ q.num.sign := sign_nn' (Rat.num_nonneg.2 h0)
    obtain ⟨y, hy⟩ : ∃ y, q.num.sign = y := ⟨_, rfl⟩
    rw [hy] at HSG hs0
    have e1 : ((1 : Int) : Rat) = 1 := by simp
    by_cases hle : q ≤ 1
    · have hb : icB q = true := decide_eq_true ⟨h0, hle⟩
      obtain ⟨z, hz⟩ : ∃ z, cmpv q ((1 : Int) : Rat) = z := ⟨_, rfl⟩
      have HCV := hide hz
      have hz0 : z ≤ 0 := by rw [← hz, e1]; exact (cmpv_le hle).2
      rw [hb]
      clear hp0 hp rq h1 hJ hneg hb hy hz h0 hle
      go_enter Tryz.func63, Tryz.ntmps63
      go_wp2_with fail
      clear hW_1 hb_p
      refine wp_region_hold (fun w' : World => w'.cell? ⟨b_p, 0, none⟩ = some (.bool tp.s) ∧ w'.cell? ⟨b_p, 1, none⟩ = some (.slice tp.a1 tp.n1 tp.c1) ∧ w'.cell? ⟨b_p, 2, none⟩ = some (.slice tp.a2 tp.n2 tp.c2)) (by kernel_rfl) ?_
      have bd0 : Below W_1.heap.size W_1 W_1.drew := (Below.refl _ _).drew
      have hC0 : (fun w' : World => w'.cell? ⟨b_p, 0, none⟩ = some (.bool tp.s) ∧ w'.cell? ⟨b_p, 1, none⟩ = some (.slice tp.a1 tp.n1 tp.c1) ∧ w'.cell? ⟨b_p, 2, none⟩ = some (.slice tp.a2 tp.n2 tp.c2)) W_1.drew := unhide HCC _ bd0
      refine wpHold_take (i := 0) (v := ?_) rfl (by kernel_rfl) (by kernel_rfl) (by kernel_rfl) (fun _ _ _ h => h) (Or.inl ⟨by rfl, ?_⟩) hC0 ?_
      rotate_left
      · intro w hSw; (try dsimp only at hSw); obtain ⟨u0, u1, u2⟩ := hSw; go_simp; (try with_reducible rfl)
      (try simp only [List.getElem_toArray, List.getElem_cons_succ, List.getElem_cons_zero])
      (try simp only [Act.put, List.setIfInBounds_toArray, List.set_cons_zero, List.set_cons_succ])
      refine wpHold_one (k := 1) (by kernel_rfl) rfl (fun K hK => ?_)
      (try simp only [List.getElem_toArray, List.getElem_cons_succ, List.getElem_cons_zero])
      go_simp
      refine (unhide HSG _ bd0).mono ?_
      rintro e xw_1 ⟨rfl, hb_1⟩
      have cc_1 := below_step bd0 hb_1
      have hC_1 : (fun w' : World => w'.cell? ⟨b_p, 0, none⟩ = some (.bool tp.s) ∧ w'.cell? ⟨b_p, 1, none⟩ = some (.slice tp.a1 tp.n1 tp.c1) ∧ w'.cell? ⟨b_p, 2, none⟩ = some (.slice tp.a2 tp.n2 tp.c2)) xw_1 := unhide HCC _ cc_1
      refine hK.out _ _ hC_1 ?_
      clear hK K
      (try simp only [Act.put, List.setIfInBounds_toArray, List.set_cons_zero, List.set_cons_succ])
      refine wpHold_take (i := 2) (v := ?_) rfl (by kernel_rfl) (by kernel_rfl) (by kernel_rfl) (fun _ _ _ h => h) (Or.inl ⟨by rfl, ?_⟩) hC_1 ?_
      rotate_left
      · intro w hSw; clear hSw; go_simp; (try with_reducible rfl)
      (try simp only [List.getElem_toArray, List.getElem_cons_succ, List.getElem_cons_zero])
      (try simp only [Act.put, List.setIfInBounds_toArray, List.set_cons_zero, List.set_cons_succ])
      refine wpHold_take (i := 3) (v := ?_) rfl (by kernel_rfl) (by kernel_rfl) (by kernel_rfl) (fun _ _ _ h => h) (Or.inl ⟨by rfl, ?_⟩) hC_1 ?_
      rotate_left
      · intro w hSw; clear hSw; go_simp; (try with_reducible rfl)
      (try simp only [List.getElem_toArray, List.getElem_cons_succ, List.getElem_cons_zero])
      (try simp only [Act.put, List.setIfInBounds_toArray, List.set_cons_zero, List.set_cons_succ])
      refine wpHold_take (i := 4) (v := ?_) rfl (by kernel_rfl) (by kernel_rfl) (by kernel_rfl) (fun _ _ _ h => h) (Or.inl ⟨by rfl, ?_⟩) hC_1 ?_
      rotate_left
      · intro w hSw; (try dsimp only at hSw); obtain ⟨u0, u1, u2⟩ := hSw; go_simp; (try with_reducible rfl)
      (try simp only [List.getElem_toArray, List.getElem_cons_succ, List.getElem_cons_zero])
      (try simp only [Act.put, List.setIfInBounds_toArray, List.set_cons_zero, List.set_cons_succ])
      refine wpHold_one (k := 5) (by kernel_rfl) rfl (fun K hK => ?_)
      (try simp only [List.getElem_toArray, List.getElem_cons_succ, List.getElem_cons_zero])
      go_simp
      refine (whole_any 1 (by decide) (by decide) _).mono ?_
      rintro e xw_2 ⟨xv_2, rfl, hv_2, hb_2⟩
      have cc_2 := below_step cc_1 hb_2
      have hC_2 : (fun w' : World => w'.cell? ⟨b_p, 0, none⟩ = some (.bool tp.s) ∧ w'.cell? ⟨b_p, 1, none⟩ = some (.slice tp.a1 tp.n1 tp.c1) ∧ w'.cell? ⟨b_p, 2, none⟩ = some (.slice tp.a2 tp.n2 tp.c2)) xw_2 := unhide HCC _ cc_2
      refine hK.out _ _ hC_2 ?_
      clear hK K
      (try simp only [Act.put, List.setIfInBounds_toArray, List.set_cons_zero, List.set_cons_succ])
      refine wpHold_one (k := 6) (by kernel_rfl) rfl (fun K hK => ?_)
      (try simp only [List.getElem_toArray, List.getElem_cons_succ, List.getElem_cons_zero])
      go_simp
      refine (cmpR_all tp.val _ q ((1 : Int) : Rat) _ ((unhide HTP).below cc_2) hv_2 J (unhide HRQ) (unhide HR1) (unhide HJ)).mono ?_
      rw [unhide HCV]
      rintro e xw_3 ⟨rfl, hb_3⟩
      have cc_3 := below_step cc_2 hb_3
      have hC_3 : (fun w' : World => w'.cell? ⟨b_p, 0, none⟩ = some (.bool tp.s) ∧ w'.cell? ⟨b_p, 1, none⟩ = some (.slice tp.a1 tp.n1 tp.c1) ∧ w'.cell? ⟨b_p, 2, none⟩ = some (.slice tp.a2 tp.n2 tp.c2)) xw_3 := unhide HCC _ cc_3
      refine hK.out _ _ hC_3 ?_
      clear hK K
      (try simp only [Act.put, List.setIfInBounds_toArray, List.set_cons_zero, List.set_cons_succ])
      refine wpHold_take (i := 7) (v := ?_) rfl (by kernel_rfl) (by kernel_rfl) (by kernel_rfl) (fun _ _ _ h => h) (Or.inl ⟨by rfl, ?_⟩) hC_3 ?_
      rotate_left
      · intro w hSw; clear hSw; go_simp; (try with_reducible rfl)
      (try simp only [List.getElem_toArray, List.getElem_cons_succ, List.getElem_cons_zero])
      (try simp only [Act.put, List.setIfInBounds_toArray, List.set_cons_zero, List.set_cons_succ])
      refine wpHold_take (i := 8) (v := ?_) rfl (by kernel_rfl) (by kernel_rfl) (by kernel_rfl) (fun _ _ _ h => h) (Or.inl ⟨by rfl, ?_⟩) hC_3 ?_
      rotate_left
      · intro w hSw; clear hSw; go_simp; (try with_reducible rfl)
      (try simp only [List.getElem_toArray, List.getElem_cons_succ, List.getElem_cons_zero])
      (try simp only [Act.put, List.setIfInBounds_toArray, List.set_cons_zero, List.set_cons_succ])
      refine wpHold_take (i := 9) (v := ?_) rfl (by kernel_rfl) (by kernel_rfl) (by kernel_rfl) (fun _ _ _ h => h) (Or.inl ⟨by rfl, ?_⟩) hC_3 ?_
      rotate_left
      · intro w hSw; clear hSw; go_simp; (try with_reducible rfl)
      (try simp only [List.getElem_toArray, List.getElem_cons_succ, List.getElem_cons_zero])
      (try simp only [Act.put, List.setIfInBounds_toArray, List.set_cons_zero, List.set_cons_succ])
      refine wpHold_done (by kernel_rfl) ?_ _
      have HFB := hide (unhide HBW _ cc_3)
      go_wp2
      go_ret
      exact ⟨rfl, unhide HFB⟩
    · have hb : icB q = false := decide_eq_false (fun h => hle h.2)
      obtain ⟨z, hz⟩ : ∃ z, cmpv q ((1 : Int) : Rat) = z := ⟨_, rfl⟩
      have HCV := hide hz
      have hz0 : z = 1 := by rw [← hz, e1]; exact cmpv_gt (Rat.not_le.1 hle)
      have hz1 : ¬ z ≤ 0 := by omega
      have hz2 : decide (z ≤ 0) = false := decide_eq_false hz1
      rw [hb]
      clear hp0 hp rq h1 hJ hneg hb hy hz h0 hle hz0
      go_enter Tryz.func63, Tryz.ntmps63
      go_wp2_with fail
      clear hW_1 hb_p
      refine wp_region_hold (fun w' : World => w'.cell? ⟨b_p, 0, none⟩ = some (.bool tp.s) ∧ w'.cell? ⟨b_p, 1, none⟩ = some (.slice tp.a1 tp.n1 tp.c1) ∧ w'.cell? ⟨b_p, 2, none⟩ = some (.slice tp.a2 tp.n2 tp.c2)) (by kernel_rfl) ?_
      have bd0 : Below W_1.heap.size W_1 W_1.drew := (Below.refl _ _).drew
      have hC0 : (fun w' : World => w'.cell? ⟨b_p, 0, none⟩ = some (.bool tp.s) ∧ w'.cell? ⟨b_p, 1, none⟩ = some (.slice tp.a1 tp.n1 tp.c1) ∧ w'.cell? ⟨b_p, 2, none⟩ = some (.slice tp.a2 tp.n2 tp.c2)) W_1.drew := unhide HCC _ bd0
      refine wpHold_take (i := 0) (v := ?_) rfl (by kernel_rfl) (by kernel_rfl) (by kernel_rfl) (fun _ _ _ h => h) (Or.inl ⟨by rfl, ?_⟩) hC0 ?_
      rotate_left
      · intro w hSw; (try dsimp only at hSw); obtain ⟨u0, u1, u2⟩ := hSw; go_simp; (try with_reducible rfl)
      (try simp only [List.getElem_toArray, List.getElem_cons_succ, List.getElem_cons_zero])
      (try simp only [Act.put, List.setIfInBounds_toArray, List.set_cons_zero, List.set_cons_succ])
      refine wpHold_one (k := 1) (by kernel_rfl) rfl (fun K hK => ?_)
      (try simp only [List.getElem_toArray, List.getElem_cons_succ, List.getElem_cons_zero])
      go_simp
      refine (unhide HSG _ bd0).mono ?_
      rintro e xw_1 ⟨rfl, hb_1⟩
      have cc_1 := below_step bd0 hb_1
      have hC_1 : (fun w' : World => w'.cell? ⟨b_p, 0, none⟩ = some (.bool tp.s) ∧ w'.cell? ⟨b_p, 1, none⟩ = some (.slice tp.a1 tp.n1 tp.c1) ∧ w'.cell? ⟨b_p, 2, none⟩ = some (.slice tp.a2 tp.n2 tp.c2)) xw_1 := unhide HCC _ cc_1
      refine hK.out _ _ hC_1 ?_
      clear hK K
      (try simp only [Act.put, List.setIfInBounds_toArray, List.set_cons_zero, List.set_cons_succ])
      refine wpHold_take (i := 2) (v := ?_) rfl (by kernel_rfl) (by kernel_rfl) (by kernel_rfl) (fun _ _ _ h => h) (Or.inl ⟨by rfl, ?_⟩) hC_1 ?_
      rotate_left
      · intro w hSw; clear hSw; go_simp; (try with_reducible rfl)
      (try simp only [List.getElem_toArray, List.getElem_cons_succ, List.getElem_cons_zero])
      (try simp only [Act.put, List.setIfInBounds_toArray, List.set_cons_zero, List.set_cons_succ])
      refine wpHold_take (i := 3) (v := ?_) rfl (by kernel_rfl) (by kernel_rfl) (by kernel_rfl) (fun _ _ _ h => h) (Or.inl ⟨by rfl, ?_⟩) hC_1 ?_
      rotate_left
      · intro w hSw; clear hSw; go_simp; (try with_reducible rfl)
      (try simp only [List.getElem_toArray, List.getElem_cons_succ, List.getElem_cons_zero])
      (try simp only [Act.put, List.setIfInBounds_toArray, List.set_cons_zero, List.set_cons_succ])
      refine wpHold_take (i := 4) (v := ?_) rfl (by kernel_rfl) (by kernel_rfl) (by kernel_rfl) (fun _ _ _ h => h) (Or.inl ⟨by rfl, ?_⟩) hC_1 ?_
      rotate_left
      · intro w hSw; (try dsimp only at hSw); obtain ⟨u0, u1, u2⟩ := hSw; go_simp; (try with_reducible rfl)
      (try simp only [List.getElem_toArray, List.getElem_cons_succ, List.getElem_cons_zero])
      (try simp only [Act.put, List.setIfInBounds_toArray, List.set_cons_zero, List.set_cons_succ])
      refine wpHold_one (k := 5) (by kernel_rfl) rfl (fun K hK => ?_)
      (try simp only [List.getElem_toArray, List.getElem_cons_succ, List.getElem_cons_zero])
      go_simp
      refine (whole_any 1 (by decide) (by decide) _).mono ?_
      rintro e xw_2 ⟨xv_2, rfl, hv_2, hb_2⟩
      have cc_2 := below_step cc_1 hb_2
      have hC_2 : (fun w' : World => w'.cell? ⟨b_p, 0, none⟩ = some (.bool tp.s) ∧ w'.cell? ⟨b_p, 1, none⟩ = some (.slice tp.a1 tp.n1 tp.c1) ∧ w'.cell? ⟨b_p, 2, none⟩ = some (.slice tp.a2 tp.n2 tp.c2)) xw_2 := unhide HCC _ cc_2
      refine hK.out _ _ hC_2 ?_
      clear hK K
      (try simp only [Act.put, List.setIfInBounds_toArray, List.set_cons_zero, List.set_cons_succ])
      refine wpHold_one (k := 6) (by kernel_rfl) rfl (fun K hK => ?_)
      (try simp only [List.getElem_toArray, List.getElem_cons_succ, List.getElem_cons_zero])
      go_simp
      refine (cmpR_all tp.val _ q ((1 : Int) : Rat) _ ((unhide HTP).below cc_2) hv_2 J (unhide HRQ) (unhide HR1) (unhide HJ)).mono ?_
      rw [unhide HCV]
      rintro e xw_3 ⟨rfl, hb_3⟩
      have cc_3 := below_step cc_2 hb_3
      have hC_3 : (fun w' : World => w'.cell? ⟨b_p, 0, none⟩ = some (.bool tp.s) ∧ w'.cell? ⟨b_p, 1, none⟩ = some (.slice tp.a1 tp.n1 tp.c1) ∧ w'.cell? ⟨b_p, 2, none⟩ = some (.slice tp.a2 tp.n2 tp.c2)) xw_3 := unhide HCC _ cc_3
      refine hK.out _ _ hC_3 ?_
      clear hK K
      (try simp only [Act.put, List.setIfInBounds_toArray, List.set_cons_zero, List.set_cons_succ])
      refine wpHold_take (i := 7) (v := ?_) rfl (by kernel_rfl) (by kernel_rfl) (by kernel_rfl) (fun _ _ _ h => h) (Or.inl ⟨by rfl, ?_⟩) hC_3 ?_
      rotate_left
      · intro w hSw; clear hSw; go_simp; (try with_reducible rfl)
      (try simp only [List.getElem_toArray, List.getElem_cons_succ, List.getElem_cons_zero])
      (try simp only [Act.put, List.setIfInBounds_toArray, List.set_cons_zero, List.set_cons_succ])
      refine wpHold_take (i := 8) (v := ?_) rfl (by kernel_rfl) (by kernel_rfl) (by kernel_rfl) (fun _ _ _ h => h) (Or.inl ⟨by rfl, ?_⟩) hC_3 ?_
      rotate_left
      · intro w hSw; clear hSw; go_simp; (try with_reducible rfl)
      (try simp only [List.getElem_toArray, List.getElem_cons_succ, List.getElem_cons_zero])
      (try simp only [Act.put, List.setIfInBounds_toArray, List.set_cons_zero, List.set_cons_succ])
      refine wpHold_take (i := 9) (v := ?_) rfl (by kernel_rfl) (by kernel_rfl) (by kernel_rfl) (fun _ _ _ h => h) (Or.inl ⟨by rfl, ?_⟩) hC_3 ?_
      rotate_left
      · intro w hSw; clear hSw; go_simp; (try with_reducible rfl)
      (try simp only [List.getElem_toArray, List.getElem_cons_succ, List.getElem_cons_zero])
      (try simp only [Act.put, List.setIfInBounds_toArray, List.set_cons_zero, List.set_cons_succ])
      refine wpHold_done (by kernel_rfl) ?_ _
      have HFB := hide (unhide HBW _ cc_3)
      go_wp2
      go_ret
      exact ⟨rfl, unhide HFB⟩

set_option maxHeartbeats 16000000 in
set_option maxRecDepth 100000 in
set_option linter.unusedSimpArgs false in
theorem power_any (v : Value) (q : Rat) (n JB : Nat) (w : World) (ha0 : RatIs w v q) (hn : n ≤ 1000) (hq : RS q JB) (hs : ∀ k, k ≤ n → RS (Rsk.pwr q k) JB) (hJ : JB + JB + 1 ≤ KK) :
    Calls Tryz.prog 64 #[v, .int .i64 (n : Int)] w fun e w' => ∃ u, e = .returned u ∧ RatIs w' u (Rsk.pwr q n) ∧ Below w.heap.size w w' := by
  obtain ⟨ta, rfl, ha⟩ := tri_of ha0
  simp only [Tri.val]
  have bb_1 := alloc_below w (.cells #[.bool ta.s, .slice ta.a1 ta.n1 ta.c1, .slice ta.a2 ta.n2 ta.c2] 37)
  have X_1 := BoxIs.new (ha)
  obtain ⟨W_1, hW_1⟩ : ∃ W, w.alloc (.cells #[.bool ta.s, .slice ta.a1 ta.n1 ta.c1, .slice ta.a2 ta.n2 ta.c2] 37) = W := ⟨_, rfl⟩
  obtain ⟨b_a, hb_a⟩ : ∃ b, w.heap.size = b := ⟨_, rfl⟩
  rw [hW_1] at bb_1 X_1
  rw [hb_a] at X_1
  have X_1_ := X_1
  have tb_1 := bb_1
  have hg_a : w.heap.size ≤ b_a := by rw [← hb_a]; exact Nat.le_refl _
  have HG_a := hide hg_a
  have bb_2 := alloc_below W_1 (.cells #[.bool false, .slice none 0 0, .slice none 0 0] 37)
  have X_2 := BoxIs.new (w := W_1) (t := zTri) (q := 0) (rat_zero _)
  obtain ⟨W_2, hW_2⟩ : ∃ W, W_1.alloc (.cells #[.bool false, .slice none 0 0, .slice none 0 0] 37) = W := ⟨_, rfl⟩
  obtain ⟨b_R, hb_R⟩ : ∃ b, W_1.heap.size = b := ⟨_, rfl⟩
  have X_2_ : BoxIs W_2 b_R zTri 0 := by rw [← hW_2, ← hb_R]; exact X_2
  rw [hW_2] at bb_2
  have tb_2 := below_step tb_1 bb_2
  have hg_R : w.heap.size ≤ b_R := by rw [← hb_R]; exact tb_1.size
  have HG_R := hide hg_R
  have HX_a := hide (fun W (hW : Below W_2.heap.size W_2 W) => (X_1_.keep bb_2).keep hW)
  have HX_R := hide (fun W (hW : Below W_2.heap.size W_2 W) => X_2_.keep hW)
  have HBW := hide (fun W (hW : Below W_2.heap.size W_2 W) => below_step tb_2 hW)
  have HB0 := hide tb_2
  clear bb_1 X_1 X_1_ tb_1 bb_2 X_2 X_2_ tb_2 hg_a hg_R
  have HQ := hide hq
  have HS := hide hs
  have HJ := hide hJ
  clear ha0 ha hq hs hJ
  have ⟨c0, c1, c2⟩ := (unhide HX_a _ (Below.refl _ _)).cells _ (Below.refl _ _)
  go_enter Tryz.func64, Tryz.ntmps64
  go_wp2_with fail
  clear hW_1 hb_a hW_2 hb_R c0 c1 c2
  refine (whole_any 1 (by decide) (by decide) W_2).mono ?_
  rintro e w2 ⟨v2, rfl, hv2, hb2⟩
  obtain ⟨t2, rfl, r2⟩ := tri_of hv2
  simp only [Tri.val]
  have X2 := BoxIs.new r2
  have b3 := below_step hb2 (alloc_below w2 (.cells #[.bool t2.s, .slice t2.a1 t2.n1 t2.c1, .slice t2.a2 t2.n2 t2.c2] 37))
  have hgl : W_2.heap.size ≤ w2.heap.size := hb2.size
  obtain ⟨W2, hW2⟩ : ∃ W, w2.alloc (.cells #[.bool t2.s, .slice t2.a1 t2.n1 t2.c1, .slice t2.a2 t2.n2 t2.c2] 37) = W := ⟨_, rfl⟩
  obtain ⟨bL, hbL⟩ : ∃ b, w2.heap.size = b := ⟨_, rfl⟩
  rw [hW2] at X2 b3
  rw [hbL] at X2 hgl
  have e1 : ((1 : Int) : Rat) = Rsk.pwr q 0 := by show ((1 : Int) : Rat) = 1; simp
  rw [e1] at X2
  have HX2 := hide X2
  have HB2 := hide b3
  have HGL := hide hgl
  clear hv2 r2 X2 b3 hgl hb2 e1
  go_wp2_with fail
  clear hW2 hbL
  go_loopw [8] (fun vi wr => ∃ (i : Nat) (t : Tri), vi = .int .i64 (i : Int) ∧ i ≤ n ∧ Below W_2.heap.size W_2 wr ∧ BoxIs wr bL t (Rsk.pwr q i)) (fun vi _ => n - (intOf vi).toNat)
  case atStart => exact ⟨0, t2, rfl, Nat.zero_le _, unhide HB2, unhide HX2⟩
  case round =>
    obtain ⟨i, t, rfl, hi, hbr, X⟩ := hrel
    clear HX2 HB2
    have HBR := hide hbr
    have HXL := hide X
    by_cases hlt : i < n
    · have j1 : (i : Int) < (n : Int) := by omega
      have HLT := hide hlt
      have ⟨x0, x1, x2⟩ := X.cells _ (Below.refl _ _)
      have ⟨c0, c1, c2⟩ := (unhide HX_a _ hbr).cells _ (Below.refl _ _)
      have HMU := hide (mulR_any t.val ta.val (Rsk.pwr q i) q wr X.2 (unhide HX_a _ hbr).2 JB (unhide HS i hi) (unhide HQ) (unhide HJ))
      clear X hbr hlt
      simp only [Tri.val] at HMU
      go_wp2_with fail
      clear x0 x1 x2 c0 c1 c2
      refine (unhide HMU).mono ?_
      rintro e w5 ⟨v5, rfl, hv5, hb5⟩
      obtain ⟨t5, rfl, r5⟩ := tri_of hv5
      simp only [Tri.val]
      have X5 := (unhide HXL).keep hb5
      have ⟨l0, l1, l2⟩ := X5.free
      have ⟨y0, y1, y2⟩ := X5.cells _ (Below.refl _ _)
      have HNB := hide (X5.set r5)
      have HBS := hide ((((below_step (unhide HBR) hb5).setCell (p := ⟨bL, 0, none⟩) (unhide HGL) (.bool t5.s)).setCell (p := ⟨bL, 1, none⟩) (unhide HGL) (.slice t5.a1 t5.n1 t5.c1)).setCell (p := ⟨bL, 2, none⟩) (unhide HGL) (.slice t5.a2 t5.n2 t5.c2))
      clear hv5 r5 X5 hb5 HMU HXL HBR
      go_wp2
      exact ⟨⟨i + 1, t5, by go_num, unhide HLT, unhide HBS, unhide HNB⟩, by have := unhide HLT; simp [intOf]; omega⟩
    · obtain rfl : i = n := by omega
      have j1 : ¬ (i : Int) < (i : Int) := by omega
      have ⟨x0, x1, x2⟩ := X.cells _ (Below.refl _ _)
      have Y := unhide HX_R _ hbr
      have ⟨l0, l1, l2⟩ := Y.free
      have ⟨y0, y1, y2⟩ := Y.cells _ (Below.refl _ _)
      have FIN := Y.set X.2
      have FB := (((unhide HBW _ hbr).setCell (p := ⟨b_R, 0, none⟩) (unhide HG_R) (.bool t.s)).setCell (p := ⟨b_R, 1, none⟩) (unhide HG_R) (.slice t.a1 t.n1 t.c1)).setCell (p := ⟨b_R, 2, none⟩) (unhide HG_R) (.slice t.a2 t.n2 t.c2)
      obtain ⟨Wf, hWf⟩ : ∃ W, ((wr.setCell ⟨b_R, 0, none⟩ (.bool t.s)).setCell ⟨b_R, 1, none⟩ (.slice t.a1 t.n1 t.c1)).setCell ⟨b_R, 2, none⟩ (.slice t.a2 t.n2 t.c2) = W := ⟨_, rfl⟩
      rw [hWf] at FIN FB
      have HFIN := hide FIN
      have HFB := hide FB
      clear Y FIN FB
      clear X hbr
      go_wp2_with fail
      have ⟨z0, z1, z2⟩ := (unhide HFIN).cells _ (Below.refl _ _)
      clear hWf
      (try simp only [Exit.inBlock, Exit.then])
      exact bodyPost_ret (v := .agg #[.bool t.s, .slice t.a1 t.n1 t.c1, .slice t.a2 t.n2 t.c2]) (by simp [results, Tryz.results64, go_sem, z0, z1, z2]) rfl ⟨_, rfl, (unhide HFIN).2, unhide HFB⟩


/-- Three fractions one behind the other, and a box. -/
structure ThreeJ (q1 q2 q3 : Rat) (w0 : World) (c : Nat) (l : Bool) (w : World) (s1 s2 s3 s4 : Value) : Prop where
  bl : Below w0.heap.size w0 w
  r1 : 1 ≤ c → RatIs w s1 q1
  r2 : 2 ≤ c → RatIs w s2 q2
  r3 : 3 ≤ c → RatIs w s3 q3
  al : l = true → ∃ b, s4 = .pointer (some ⟨b, 0, none⟩) ∧ BoxIs w b zTri 0 ∧ w0.heap.size ≤ b
/-- How great the numbers of a row may be. -/
def szr (F : Nat) : Nat → Nat
  | 0 => F + 3
  | m + 1 => 2 * szr F m + F + 3
theorem szr_mono (F : Nat) : ∀ {m n : Nat}, m ≤ n → szr F m ≤ szr F n
  | m, 0, h => by obtain rfl : m = 0 := by omega
                  exact Nat.le_refl _
  | m, n + 1, h => by
    rcases Nat.lt_or_ge n m with a | a
    · obtain rfl : m = n + 1 := by omega
      exact Nat.le_refl _
    · have := szr_mono F a
      show _ ≤ 2 * szr F n + F + 3
      omega
theorem szr_base (F n : Nat) : F + 3 ≤ szr F n := szr_mono F (Nat.zero_le n)
theorem rwv_RS {q f : Rat} {F b : Nat} (hq : RS q 1) (hf : RS f F) (h1 : 1 ≤ F) : ∀ m, RS (Rsk.rwv q f b m) (szr F m) := by
  intro m
  induction m using Nat.strongRecOn with
  | ind m ih =>
    have hb := szr_base F m
    rw [Rsk.rwv_step]
    split
    · exact one_RS'.mono (by omega)
    · rename_i h1
      split
      · exact (one_RS'.sub' hf).mono (by omega)
      · rename_i h2
        obtain ⟨k, rfl⟩ : ∃ k, m = k + 1 := ⟨m - 1, by omega⟩
        have a := ih k (by omega)
        have c := (((ih (k + 1 - b - 1) (by omega)).mono (szr_mono F (show k + 1 - b - 1 ≤ k by omega))).mul hq).mul hf
        rw [show k + 1 - 1 = k by omega]
        exact (a.sub' c).mono (by show _ ≤ 2 * szr F k + F + 3; omega)
theorem pwr_RS {x : Rat} {J : Nat} (h : RS x J) : ∀ k, RS (Rsk.pwr x k) (k * J + 1)
  | 0 => one_RS'.mono (by omega)
  | k + 1 => ((pwr_RS h k).mul h).mono (by rw [Nat.succ_mul]; omega)
theorem chain_any3 {P : Program} {ops : Array Oper} {Q : Exit → Act → World → Prop} {C : World → Prop} {md : Region.Mode} (N : Nat) (mk : Nat → Bool → Array Bool) (ic : Nat → Nat) (ia m : Nat) (I : Nat → Bool → Act → World → Prop)
    (hr : ∀ c l, c ≤ N → (Region.ready md ops (mk c l)).all (fun i => (i == ic c && decide (c < N)) || (i == ia && !l) || (c == N && l)) = true)
    (hne : ∀ c l, c ≤ N → (c == N && l) = false → (Region.ready md ops (mk c l)).isEmpty = false)
    (h1 : ∀ c l, c < N → (mk c l).setIfInBounds (ic c) true = mk (c + 1) l) (ha : ∀ c, (mk c false).setIfInBounds ia true = mk c true)
    (s1 : ∀ c l a w, c < N → I c l a w → wpOp P ops Q (ic c) (fun a' w' => C w' ∧ I (c + 1) l a' w') a w)
    (sa : ∀ c a w, I c false a w → wpOp P ops Q ia (fun a' w' => C w' ∧ I c true a' w') a w)
    (fin : ∀ a w, I N true a w → wpHold P md ops Q C m (mk N true) a w) :
    ∀ n c l, c ≤ N → (N - c) + (1 - l.toNat) = n → ∀ a w, I c l a w → wpHold P md ops Q C (n + m) (mk c l) a w := by
  intro n
  induction n with
  | zero =>
    intro c l hc hn a w h
    obtain rfl : c = N := by omega
    cases l <;> simp at hn
    rw [Nat.zero_add]
    exact fin a w h
  | succ n ih =>
    intro c l hc hn a w h
    have hall := hr c l hc
    have hend : (c == N && l) = false := by
      cases l <;> simp at hn ⊢
      omega
    have hnn := hne c l hc hend
    rw [Nat.succ_add]
    refine ⟨fun e => (by rw [e] at hnn; cases hnn), fun i hi => ?_⟩
    have hk := List.all_eq_true.1 hall i hi
    rw [hend] at hk
    simp only [Bool.or_eq_true, Bool.and_eq_true, beq_iff_eq, Bool.not_eq_true', Bool.or_false, decide_eq_true_eq] at hk
    rcases hk with ⟨rfl, hlt⟩ | ⟨rfl, rfl⟩
    · exact wpOp_mono (fun a' w' h' => ⟨h'.1, by rw [h1 c l hlt]; exact ih (c + 1) l (by omega) (by omega) a' w' h'.2⟩) (s1 c l a w hlt h)
    · exact wpOp_mono (fun a' w' h' => ⟨h'.1, by rw [ha]; exact ih c true hc (by simp at hn ⊢; omega) a' w' h'.2⟩) (sa c a w h)
set_option maxHeartbeats 16000000 in
set_option maxRecDepth 100000 in
set_option linter.unusedSimpArgs false in
theorem rRow_range (n b : Int) (v : Value) (q : Rat) (w : World) (hp0 : RatIs w v q) (h : n < 0 ∨ 100 < n ∨ b < 1 ∨ 100 < b) :
    Calls Tryz.prog 24 #[.int .i64 n, .int .i64 b, v] w fun e w' => e = .returned (.tuple #[.agg #[.bool false, .slice none 0 0, .slice none 0 0], .iface 27 (.int .i64 2)]) ∧ Below w.heap.size w w' := by
  obtain ⟨tp, rfl, hp⟩ := tri_of hp0
  simp only [Tri.val]
  have bb_1 := alloc_below w (.cells #[.bool tp.s, .slice tp.a1 tp.n1 tp.c1, .slice tp.a2 tp.n2 tp.c2] 37)
  have X_1 := BoxIs.new (hp)
  obtain ⟨W_1, hW_1⟩ : ∃ W, w.alloc (.cells #[.bool tp.s, .slice tp.a1 tp.n1 tp.c1, .slice tp.a2 tp.n2 tp.c2] 37) = W := ⟨_, rfl⟩
  obtain ⟨b_p, hb_p⟩ : ∃ b, w.heap.size = b := ⟨_, rfl⟩
  rw [hW_1] at bb_1 X_1
  rw [hb_p] at X_1
  have X_1_ := X_1
  have tb_1 := bb_1
  have hg_p : w.heap.size ≤ b_p := by rw [← hb_p]; exact Nat.le_refl _
  have HG_p := hide hg_p
  have bb_2 := alloc_below W_1 (.cells #[.bool false, .slice none 0 0, .slice none 0 0] 37)
  have X_2 := BoxIs.new (w := W_1) (t := zTri) (q := 0) (rat_zero _)
  obtain ⟨W_2, hW_2⟩ : ∃ W, W_1.alloc (.cells #[.bool false, .slice none 0 0, .slice none 0 0] 37) = W := ⟨_, rfl⟩
  obtain ⟨b_R, hb_R⟩ : ∃ b, W_1.heap.size = b := ⟨_, rfl⟩
  have X_2_ : BoxIs W_2 b_R zTri 0 := by rw [← hW_2, ← hb_R]; exact X_2
  rw [hW_2] at bb_2
  have tb_2 := below_step tb_1 bb_2
  have hg_R : w.heap.size ≤ b_R := by rw [← hb_R]; exact tb_1.size
  have HG_R := hide hg_R
  have HX_p := hide (fun W (hW : Below W_2.heap.size W_2 W) => (X_1_.keep bb_2).keep hW)
  have HX_R := hide (fun W (hW : Below W_2.heap.size W_2 W) => X_2_.keep hW)
  have HBW := hide (fun W (hW : Below W_2.heap.size W_2 W) => below_step tb_2 hW)
  have HB0 := hide tb_2
  clear bb_1 X_1 X_1_ tb_1 bb_2 X_2 X_2_ tb_2 hg_p hg_R
  have ⟨c0, c1, c2⟩ := (unhide HX_p _ (Below.refl _ _)).cells _ (Below.refl _ _)
  clear hp hp0
  by_cases h1 : n < 0
  · clear h
    go_enter Tryz.func24, Tryz.ntmps24
    have X2 := unhide HX_R _ (Below.refl _ _)
    have ⟨g0, g1, g2, f0, f1, f2⟩ := box_cell X2.1
    have BEL := hide ((((unhide HBW _ (Below.refl _ _)).setCell (p := ⟨b_R, 0, none⟩) (unhide HG_R) (.bool false)).setCell (p := ⟨b_R, 1, none⟩) (unhide HG_R) (.slice none 0 0)).setCell (p := ⟨b_R, 2, none⟩) (unhide HG_R) (.slice none 0 0))
    clear X2 c0 c1 c2
    go_wp2
    exact bodyPost_ret (v := .tuple #[.agg #[.bool false, .slice none 0 0, .slice none 0 0], .iface 27 (.int .i64 2)]) (by simp [results, Tryz.results24, go_sem, g0, g1, g2]) rfl ⟨rfl, by first | exact unhide BEL | (have h := unhide BEL; rw [hb_p] at h; exact h)⟩
  · by_cases h2 : 100 < n
    · clear h
      go_enter Tryz.func24, Tryz.ntmps24
      have X2 := unhide HX_R _ (Below.refl _ _)
      have ⟨g0, g1, g2, f0, f1, f2⟩ := box_cell X2.1
      have BEL := hide ((((unhide HBW _ (Below.refl _ _)).setCell (p := ⟨b_R, 0, none⟩) (unhide HG_R) (.bool false)).setCell (p := ⟨b_R, 1, none⟩) (unhide HG_R) (.slice none 0 0)).setCell (p := ⟨b_R, 2, none⟩) (unhide HG_R) (.slice none 0 0))
      clear X2 c0 c1 c2
      go_wp2
      exact bodyPost_ret (v := .tuple #[.agg #[.bool false, .slice none 0 0, .slice none 0 0], .iface 27 (.int .i64 2)]) (by simp [results, Tryz.results24, go_sem, g0, g1, g2]) rfl ⟨rfl, by first | exact unhide BEL | (have h := unhide BEL; rw [hb_p] at h; exact h)⟩
    · by_cases h3 : b < 1
      · clear h
        go_enter Tryz.func24, Tryz.ntmps24
        have X2 := unhide HX_R _ (Below.refl _ _)
        have ⟨g0, g1, g2, f0, f1, f2⟩ := box_cell X2.1
        have BEL := hide ((((unhide HBW _ (Below.refl _ _)).setCell (p := ⟨b_R, 0, none⟩) (unhide HG_R) (.bool false)).setCell (p := ⟨b_R, 1, none⟩) (unhide HG_R) (.slice none 0 0)).setCell (p := ⟨b_R, 2, none⟩) (unhide HG_R) (.slice none 0 0))
        clear X2 c0 c1 c2
        go_wp2
        exact bodyPost_ret (v := .tuple #[.agg #[.bool false, .slice none 0 0, .slice none 0 0], .iface 27 (.int .i64 2)]) (by simp [results, Tryz.results24, go_sem, g0, g1, g2]) rfl ⟨rfl, by first | exact unhide BEL | (have h := unhide BEL; rw [hb_p] at h; exact h)⟩
      · have h4 : 100 < b := by omega
        clear h
        go_enter Tryz.func24, Tryz.ntmps24
        have X2 := unhide HX_R _ (Below.refl _ _)
        have ⟨g0, g1, g2, f0, f1, f2⟩ := box_cell X2.1
        have BEL := hide ((((unhide HBW _ (Below.refl _ _)).setCell (p := ⟨b_R, 0, none⟩) (unhide HG_R) (.bool false)).setCell (p := ⟨b_R, 1, none⟩) (unhide HG_R) (.slice none 0 0)).setCell (p := ⟨b_R, 2, none⟩) (unhide HG_R) (.slice none 0 0))
        clear X2 c0 c1 c2
        go_wp2
        exact bodyPost_ret (v := .tuple #[.agg #[.bool false, .slice none 0 0, .slice none 0 0], .iface 27 (.int .i64 2)]) (by simp [results, Tryz.results24, go_sem, g0, g1, g2]) rfl ⟨rfl, by first | exact unhide BEL | (have h := unhide BEL; rw [hb_p] at h; exact h)⟩
set_option maxHeartbeats 16000000 in
set_option maxRecDepth 100000 in
set_option linter.unusedSimpArgs false in
theorem rRow_arg (n b : Int) (v : Value) (q : Rat) (J : Nat) (w : World) (hp0 : RatIs w v q) (hq : RS q J) (h1 : 1 ≤ J) (hJ : J ≤ KK) (hn : ¬ n < 0) (hn2 : ¬ 100 < n) (hb : ¬ b < 1) (hb2 : ¬ 100 < b) (hic : icB q = false) :
    Calls Tryz.prog 24 #[.int .i64 n, .int .i64 b, v] w fun e w' => e = .returned (.tuple #[.agg #[.bool false, .slice none 0 0, .slice none 0 0], .iface 27 (.int .i64 1)]) ∧ Below w.heap.size w w' := by
  obtain ⟨tp, rfl, hp⟩ := tri_of hp0
  simp only [Tri.val]
  have bb_1 := alloc_below w (.cells #[.bool tp.s, .slice tp.a1 tp.n1 tp.c1, .slice tp.a2 tp.n2 tp.c2] 37)
  have X_1 := BoxIs.new (hp)
  obtain ⟨W_1, hW_1⟩ : ∃ W, w.alloc (.cells #[.bool tp.s, .slice tp.a1 tp.n1 tp.c1, .slice tp.a2 tp.n2 tp.c2] 37) = W := ⟨_, rfl⟩
  obtain ⟨b_p, hb_p⟩ : ∃ b, w.heap.size = b := ⟨_, rfl⟩
  rw [hW_1] at bb_1 X_1
  rw [hb_p] at X_1
  have X_1_ := X_1
  have tb_1 := bb_1
  have hg_p : w.heap.size ≤ b_p := by rw [← hb_p]; exact Nat.le_refl _
  have HG_p := hide hg_p
  have bb_2 := alloc_below W_1 (.cells #[.bool false, .slice none 0 0, .slice none 0 0] 37)
  have X_2 := BoxIs.new (w := W_1) (t := zTri) (q := 0) (rat_zero _)
  obtain ⟨W_2, hW_2⟩ : ∃ W, W_1.alloc (.cells #[.bool false, .slice none 0 0, .slice none 0 0] 37) = W := ⟨_, rfl⟩
  obtain ⟨b_R, hb_R⟩ : ∃ b, W_1.heap.size = b := ⟨_, rfl⟩
  have X_2_ : BoxIs W_2 b_R zTri 0 := by rw [← hW_2, ← hb_R]; exact X_2
  rw [hW_2] at bb_2
  have tb_2 := below_step tb_1 bb_2
  have hg_R : w.heap.size ≤ b_R := by rw [← hb_R]; exact tb_1.size
  have HG_R := hide hg_R
  have HX_p := hide (fun W (hW : Below W_2.heap.size W_2 W) => (X_1_.keep bb_2).keep hW)
  have HX_R := hide (fun W (hW : Below W_2.heap.size W_2 W) => X_2_.keep hW)
  have HBW := hide (fun W (hW : Below W_2.heap.size W_2 W) => below_step tb_2 hW)
  have HB0 := hide tb_2
  clear bb_1 X_1 X_1_ tb_1 bb_2 X_2 X_2_ tb_2 hg_p hg_R
  have HIC := hide (ichance_any _ q J W_2 (hp.below (unhide HB0)) hq h1 hJ)
  rw [hic] at HIC
  simp only [Tri.val] at HIC
  clear hq h1 hJ hic
  have ⟨c0, c1, c2⟩ := (unhide HX_p _ (Below.refl _ _)).cells _ (Below.refl _ _)
  clear hp hp0
  go_enter Tryz.func24, Tryz.ntmps24
  go_wp2_with fail
  clear hW_1 hb_p hW_2 hb_R c0 c1 c2
  refine (unhide HIC).mono ?_
  rintro e w1 ⟨rfl, hb1⟩
  have X2 := unhide HX_R _ hb1
  have ⟨g0, g1, g2, f0, f1, f2⟩ := box_cell X2.1
  have BEL := hide ((((unhide HBW _ hb1).setCell (p := ⟨b_R, 0, none⟩) (unhide HG_R) (.bool false)).setCell (p := ⟨b_R, 1, none⟩) (unhide HG_R) (.slice none 0 0)).setCell (p := ⟨b_R, 2, none⟩) (unhide HG_R) (.slice none 0 0))
  clear X2
  go_wp2
  exact bodyPost_ret (v := .tuple #[.agg #[.bool false, .slice none 0 0, .slice none 0 0], .iface 27 (.int .i64 1)]) (by simp [results, Tryz.results24, go_sem, g0, g1, g2]) rfl ⟨rfl, unhide BEL⟩
set_option maxHeartbeats 16000000 in
set_option maxRecDepth 100000 in
set_option linter.unusedSimpArgs false in
theorem rRow_ok (n b : Nat) (v : Value) (q : Rat) (w : World) (hp0 : RatIs w v q) (hq : RS q 1) (hic : icB q = true) (hn : n ≤ 15) (hb1 : 1 ≤ b) (hb2 : b ≤ 100) :
    Calls Tryz.prog 24 #[.int .i64 (n : Int), .int .i64 (b : Int), v] w fun e w' => ∃ u, e = .returned (.tuple #[u, .nilIface]) ∧ RatIs w' u (Rsk.rwv q (Rsk.pwr (((1 : Int) : Rat) - q) b) b n) ∧ Below w.heap.size w w' := by
  have KKe : KK = 1099511627776 := rfl
  obtain ⟨tp, rfl, hp⟩ := tri_of hp0
  simp only [Tri.val]
  have bb_1 := alloc_below w (.cells #[.bool tp.s, .slice tp.a1 tp.n1 tp.c1, .slice tp.a2 tp.n2 tp.c2] 37)
  have X_1 := BoxIs.new (hp)
  obtain ⟨W_1, hW_1⟩ : ∃ W, w.alloc (.cells #[.bool tp.s, .slice tp.a1 tp.n1 tp.c1, .slice tp.a2 tp.n2 tp.c2] 37) = W := ⟨_, rfl⟩
  obtain ⟨b_p, hb_p⟩ : ∃ b, w.heap.size = b := ⟨_, rfl⟩
  rw [hW_1] at bb_1 X_1
  rw [hb_p] at X_1
  have X_1_ := X_1
  have tb_1 := bb_1
  have hg_p : w.heap.size ≤ b_p := by rw [← hb_p]; exact Nat.le_refl _
  have HG_p := hide hg_p
  have bb_2 := alloc_below W_1 (.cells #[.bool false, .slice none 0 0, .slice none 0 0] 37)
  have X_2 := BoxIs.new (w := W_1) (t := zTri) (q := 0) (rat_zero _)
  obtain ⟨W_2, hW_2⟩ : ∃ W, W_1.alloc (.cells #[.bool false, .slice none 0 0, .slice none 0 0] 37) = W := ⟨_, rfl⟩
  obtain ⟨b_R, hb_R⟩ : ∃ b, W_1.heap.size = b := ⟨_, rfl⟩
  have X_2_ : BoxIs W_2 b_R zTri 0 := by rw [← hW_2, ← hb_R]; exact X_2
  rw [hW_2] at bb_2
  have tb_2 := below_step tb_1 bb_2
  have hg_R : w.heap.size ≤ b_R := by rw [← hb_R]; exact tb_1.size
  have HG_R := hide hg_R
  have HX_p := hide (fun W (hW : Below W_2.heap.size W_2 W) => (X_1_.keep bb_2).keep hW)
  have HX_R := hide (fun W (hW : Below W_2.heap.size W_2 W) => X_2_.keep hW)
  have HBW := hide (fun W (hW : Below W_2.heap.size W_2 W) => below_step tb_2 hW)
  have HB0 := hide tb_2
  clear bb_1 X_1 X_1_ tb_1 bb_2 X_2 X_2_ tb_2 hg_p hg_R
  have HIC := hide (ichance_any _ q 1 W_2 (hp.below (unhide HB0)) hq (by decide) (by rw [KKe]; decide))
  rw [hic] at HIC
  simp only [Tri.val] at HIC
  obtain ⟨JB, hJB⟩ : ∃ J : Nat, J = 40000000 := ⟨_, rfl⟩
  have hm : RS (((1 : Int) : Rat) - q) 3 := (one_RSi.sub' hq).mono (by decide)
  have hpw := fun k (hk : k ≤ b) => (pwr_RS hm k).mono (show k * 3 + 1 ≤ 301 by omega)
  have hrf : RS (Rsk.pwr (((1 : Int) : Rat) - q) b) 301 := hpw b (Nat.le_refl _)
  have hsz : szr 301 15 ≤ 30000000 := by simp [szr]
  have hrv := fun m (hm : m ≤ n) => (rwv_RS (b := b) hq hrf (by decide) m).mono (Nat.le_trans (szr_mono 301 (show m ≤ 15 by omega)) hsz)
  have HJ : Hid (JB + JB + 1 ≤ KK) := show _ ≤ _ by rw [KKe]; omega
  have HR1 : Hid (RS ((1 : Int) : Rat) JB) := one_RSi.mono (by omega)
  have HRQ : Hid (RS q JB) := hq.mono (by omega)
  have HRM : Hid (RS (((1 : Int) : Rat) - q) JB) := hm.mono (by omega)
  have HRPW : Hid (∀ k, k ≤ b → RS (Rsk.pwr (((1 : Int) : Rat) - q) k) JB) := fun k hk => (hpw k hk).mono (by omega)
  obtain ⟨f, hf⟩ : ∃ f, Rsk.pwr (((1 : Int) : Rat) - q) b = f := ⟨_, rfl⟩
  rw [hf] at hrf hrv ⊢
  have HVF := hide hf
  have HRF : Hid (RS f JB) := hrf.mono (by omega)
  have HRV : Hid (∀ m, m ≤ n → RS (Rsk.rwv q f b m) JB) := fun m hm => (hrv m hm).mono (by omega)
  have HRVQ : Hid (∀ m, m ≤ n → RS (Rsk.rwv q f b m * q) JB) := fun m hm => ((hrv m hm).mul hq).mono (by omega)
  have HRL : Hid (∀ m, m ≤ n → RS (Rsk.rwv q f b m * q * f) JB) := fun m hm => (((hrv m hm).mul hq).mul hrf).mono (by omega)
  obtain ⟨N, hN⟩ : ∃ N, n + 1 = N := ⟨_, rfl⟩
  have HN := hide hN
  have jN : (n : Int) + 1 = (N : Int) := by omega
  have HQM : Hid (∀ W : World, _) := fun W => make_ratios ((n : Int) + 1) (by omega) (by omega) W
  have eN : ((n : Int) + 1).toNat = N := by omega
  rw [eN, jN] at HQM
  have jw : IntKind.i64.wrap (N : Int) = (N : Int) := by rw [IntKind.wrap_i64]; omega
  have g1 : ¬ (n : Int) < 0 := by omega
  have g2 : ¬ (100 : Int) < (n : Int) := by omega
  have g3 : ¬ (b : Int) < 1 := by omega
  have g4 : ¬ (100 : Int) < (b : Int) := by omega
  have HB100 : Hid (1 ≤ b ∧ b ≤ 100) := ⟨hb1, hb2⟩
  have ⟨c0, c1, c2⟩ := (unhide HX_p _ (Below.refl _ _)).cells _ (Below.refl _ _)
  clear hp hp0 hq hic hJB hm hpw hrf hsz hrv hf hN eN
  go_enter Tryz.func24, Tryz.ntmps24
  go_wp2_with fail
  clear hW_1 hb_p hW_2 hb_R c0 c1 c2
  refine (unhide HIC).mono ?_
  rintro e w1 ⟨rfl, hb1'⟩
  have HB1 := hide hb1'
  have HC5 : Hid (∀ W, Below w1.heap.size w1 W → (fun w' : World => w'.cell? ⟨b_p, 0, none⟩ = some (.bool tp.s) ∧ w'.cell? ⟨b_p, 1, none⟩ = some (.slice tp.a1 tp.n1 tp.c1) ∧ w'.cell? ⟨b_p, 2, none⟩ = some (.slice tp.a2 tp.n2 tp.c2)) W) := fun W hW => (unhide HX_p _ (below_step hb1' hW)).cells _ (Below.refl _ _)
  have HTP1 := hide (unhide HX_p _ hb1').2
  clear hb1' HIC
  go_wp2_with fail
  refine wp_region_hold (fun w' : World => w'.cell? ⟨b_p, 0, none⟩ = some (.bool tp.s) ∧ w'.cell? ⟨b_p, 1, none⟩ = some (.slice tp.a1 tp.n1 tp.c1) ∧ w'.cell? ⟨b_p, 2, none⟩ = some (.slice tp.a2 tp.n2 tp.c2)) (by kernel_rfl) ?_
  have bd0 : Below w1.heap.size w1 w1.drew := (Below.refl _ _).drew
  obtain ⟨Wx, hWx⟩ : ∃ W, w1.drew = W := ⟨_, rfl⟩
  rw [hWx] at bd0 ⊢
  have hC0 : (fun w' : World => w'.cell? ⟨b_p, 0, none⟩ = some (.bool tp.s) ∧ w'.cell? ⟨b_p, 1, none⟩ = some (.slice tp.a1 tp.n1 tp.c1) ∧ w'.cell? ⟨b_p, 2, none⟩ = some (.slice tp.a2 tp.n2 tp.c2)) Wx := unhide HC5 _ bd0
  refine wpHold_take (i := 1) (v := ?_) rfl (by kernel_rfl) (by kernel_rfl) (by kernel_rfl) (fun _ _ _ h => h) (Or.inl ⟨by rfl, ?_⟩) hC0 ?_
  rotate_left
  · intro w hSw; (try dsimp only at hSw); obtain ⟨u0, u1, u2⟩ := hSw; go_simp; (try with_reducible rfl)
  (try simp only [List.getElem_toArray, List.getElem_cons_succ, List.getElem_cons_zero])
  (try simp only [Act.put, List.setIfInBounds_toArray, List.set_cons_zero, List.set_cons_succ])
  refine wpHold_take (i := 3) (v := ?_) rfl (by kernel_rfl) (by kernel_rfl) (by kernel_rfl) (fun _ _ _ h => h) (Or.inl ⟨by rfl, ?_⟩) hC0 ?_
  rotate_left
  · intro w hSw; clear hSw; go_simp; (try with_reducible rfl)
  (try simp only [List.getElem_toArray, List.getElem_cons_succ, List.getElem_cons_zero])
  (try simp only [Act.put, List.setIfInBounds_toArray, List.set_cons_zero, List.set_cons_succ])
  refine wpHold_listed (n := 5) (L' := (fun nc nl => #[decide (1 ≤ nc), true, decide (2 ≤ nc), true, decide (3 ≤ nc), nl, false]) 0 false) (by kernel_rfl) (by kernel_rfl) ?_
  refine wpHold_name (fun a0 ha0 => ?_)
  refine chain_any3 3 (fun nc nl => #[decide (1 ≤ nc), true, decide (2 ≤ nc), true, decide (3 ≤ nc), nl, false]) (fun nc => match nc with | 0 => 0 | 1 => 2 | _ => 4) 5 1 (fun nc nl na W => ∃ s1 s2 s3 s4, na = (((a0.put (some 33) s1).put (some 35) s2).put (some 37) s3).put (some 8) s4 ∧ ThreeJ (((1 : Int) : Rat)) (((1 : Int) : Rat) - q) (Rsk.pwr (((1 : Int) : Rat) - q) b) Wx nc nl W s1 s2 s3 s4) ?_ ?_ ?_ (fun c => rfl) ?_ ?_ ?_ 4 0 false (by omega) (by rfl) _ _ ⟨undef, undef, undef, undef, by subst ha0; rfl, Below.refl _ _, fun h => absurd h (by decide), fun h => absurd h (by decide), fun h => absurd h (by decide), fun h => by cases h⟩
  · clear ha0
    intro nc nl hnc
    match nc, hnc with
    | 0, _ => cases nl <;> (show (_ : Bool) = _; kernel_rfl)
    | 1, _ => cases nl <;> (show (_ : Bool) = _; kernel_rfl)
    | 2, _ => cases nl <;> (show (_ : Bool) = _; kernel_rfl)
    | 3, _ => cases nl <;> (show (_ : Bool) = _; kernel_rfl)
  · clear ha0
    intro nc nl hnc
    match nc, hnc with
    | 0, _ => cases nl <;> (intro _; show (_ : Bool) = _; kernel_rfl)
    | 1, _ => cases nl <;> (intro _; show (_ : Bool) = _; kernel_rfl)
    | 2, _ => cases nl <;> (intro _; show (_ : Bool) = _; kernel_rfl)
    | 3, _ => cases nl <;> (intro h; first | (show (_ : Bool) = _; kernel_rfl) | exact absurd h (by decide))
  · clear ha0
    intro nc nl hnc
    match nc, hnc with
    | 0, _ => rfl
    | 1, _ => rfl
    | 2, _ => rfl
  · rintro nc nl na wv hnc ⟨s1, s2, s3, s4, rfl, J⟩
    subst ha0
    match nc, hnc, J with
    | 0, _, J =>
      refine wpOp_step rfl (fun K hK => ?_)
      (try simp only [Act.put, List.setIfInBounds_toArray, List.set_cons_zero, List.set_cons_succ] at hK ⊢)
      (try simp only [List.getElem_toArray, List.getElem_cons_succ, List.getElem_cons_zero])
      go_simp
      refine (whole_any 1 (by decide) (by decide) wv).mono ?_
      rintro e wz ⟨v, rfl, hv, hb⟩
      exact hK _ _ ⟨unhide HC5 _ (below_step bd0 (below_step J.bl hb)), v, s2, s3, s4, rfl, below_step J.bl hb, fun _ => hv, fun h => absurd h (by decide), fun h => absurd h (by decide), fun h => by
        obtain ⟨b, e1, e2, e3⟩ := J.al h
        exact ⟨b, e1, e2.keep hb, e3⟩⟩
    | 1, _, J =>
      refine wpOp_step rfl (fun K hK => ?_)
      (try simp only [Act.put, List.setIfInBounds_toArray, List.set_cons_zero, List.set_cons_succ] at hK ⊢)
      (try simp only [List.getElem_toArray, List.getElem_cons_succ, List.getElem_cons_zero])
      go_simp
      refine (subR_any s1 tp.val _ q wv (J.r1 (by decide)) ((unhide HTP1).below (below_step bd0 J.bl)) JB (unhide HR1) (unhide HRQ) (unhide HJ)).mono ?_
      rintro e wz ⟨v, rfl, hv, hb⟩
      exact hK _ _ ⟨unhide HC5 _ (below_step bd0 (below_step J.bl hb)), s1, v, s3, s4, rfl, below_step J.bl hb, fun _ => (J.r1 (by decide)).below hb, fun _ => hv, fun h => absurd h (by decide), fun h => by
        obtain ⟨b, e1, e2, e3⟩ := J.al h
        exact ⟨b, e1, e2.keep hb, e3⟩⟩
    | 2, _, J =>
      refine wpOp_step rfl (fun K hK => ?_)
      (try simp only [Act.put, List.setIfInBounds_toArray, List.set_cons_zero, List.set_cons_succ] at hK ⊢)
      (try simp only [List.getElem_toArray, List.getElem_cons_succ, List.getElem_cons_zero])
      go_simp
      refine (power_any s2 _ b JB wv (J.r2 (by decide)) (by omega) (unhide HRM) (unhide HRPW) (unhide HJ)).mono ?_
      rintro e wz ⟨v, rfl, hv, hb⟩
      exact hK _ _ ⟨unhide HC5 _ (below_step bd0 (below_step J.bl hb)), s1, s2, v, s4, rfl, below_step J.bl hb, fun _ => (J.r1 (by decide)).below hb, fun _ => (J.r2 (by decide)).below hb, fun _ => hv, fun h => by
        obtain ⟨b, e1, e2, e3⟩ := J.al h
        exact ⟨b, e1, e2.keep hb, e3⟩⟩
  · rintro nc na wv ⟨s1, s2, s3, s4, rfl, J⟩
    subst ha0
    refine wpOp_step rfl (fun K hK => ?_)
    (try simp only [Act.put, List.setIfInBounds_toArray, List.set_cons_zero, List.set_cons_succ] at hK ⊢)
    (try simp only [List.getElem_toArray, List.getElem_cons_succ, List.getElem_cons_zero])
    go_simp
    have hb := alloc_below wv (.cells #[.bool false, .slice none 0 0, .slice none 0 0] 37)
    exact hK _ _ ⟨unhide HC5 _ (below_step bd0 (below_step J.bl hb)), s1, s2, s3, .pointer (some ⟨wv.heap.size, 0, none⟩), rfl, below_step J.bl hb, fun h => (J.r1 h).below hb, fun h => (J.r2 h).below hb, fun h => (J.r3 h).below hb, fun _ => ⟨wv.heap.size, rfl, BoxIs.new (t := zTri) (rat_zero _), J.bl.size⟩⟩
  · rintro na wv ⟨s1, s2, s3, s4, rfl, J⟩
    subst ha0
    obtain ⟨b8, rfl, B10, e10⟩ := J.al rfl
    obtain ⟨t8, rfl, r0⟩ := tri_of (J.r3 (by decide))
    simp only [Tri.val]
    (try simp only [Act.put, List.setIfInBounds_toArray, List.set_cons_zero, List.set_cons_succ])
    have ⟨l0, l1, l2⟩ := B10.free
    have ⟨k0, k1, k2⟩ := B10.cells _ (Below.refl _ _)
    have NB := B10.set r0
    have e10' : w1.heap.size ≤ b8 := Nat.le_trans bd0.size e10
    have YB := (((below_step bd0 J.bl).setCell (p := ⟨b8, 0, none⟩) e10' (.bool t8.s)).setCell (p := ⟨b8, 1, none⟩) e10' (.slice t8.a1 t8.n1 t8.c1)).setCell (p := ⟨b8, 2, none⟩) e10' (.slice t8.a2 t8.n2 t8.c2)
    have HG_b8 := hide e10'
    have hCn : (fun w' : World => w'.cell? ⟨b_p, 0, none⟩ = some (.bool tp.s) ∧ w'.cell? ⟨b_p, 1, none⟩ = some (.slice tp.a1 tp.n1 tp.c1) ∧ w'.cell? ⟨b_p, 2, none⟩ = some (.slice tp.a2 tp.n2 tp.c2)) _ := unhide HC5 _ YB
    obtain ⟨Wb8, hWy⟩ : ∃ W, ((wv.setCell ⟨b8, 0, none⟩ (.bool t8.s)).setCell ⟨b8, 1, none⟩ (.slice t8.a1 t8.n1 t8.c1)).setCell ⟨b8, 2, none⟩ (.slice t8.a2 t8.n2 t8.c2) = W := ⟨_, rfl⟩
    rw [hWy] at NB YB hCn
    have HX_b8 := hide NB
    have HY_b8 := hide YB
    clear J B10 r0 hC0 YB NB e10'
    refine wpHold_one (k := 6) (by kernel_rfl) rfl (fun K hK => ?_)
    (try simp only [List.getElem_toArray, List.getElem_cons_succ, List.getElem_cons_zero])
    go_simp
    refine hK.out _ _ hCn ?_
    clear hK K
    (try simp only [Act.put, List.setIfInBounds_toArray, List.set_cons_zero, List.set_cons_succ])
    refine wpHold_done (by kernel_rfl) ?_ _
    clear hCn l0 l1 l2 k0 k1 k2 hWy e10 bd0 hWx
    rw [unhide HVF] at HX_b8
    have HB8 := hide (below_step (unhide HB1) (unhide HY_b8))
    clear HC5 HTP1 HB1
    have qm := unhide HQM Wb8
    have b0 := alloc_below Wb8 (.cells (tcells (List.replicate N zTri)).toArray 37)
    have S1 := SumsAt.start Wb8 Wb8 N (Below.refl _ _)
    rw [fill_zero (Rsk.rwv q f b)] at S1
    obtain ⟨W9, hW9⟩ : ∃ W, Wb8.alloc (.cells (tcells (List.replicate N zTri)).toArray 37) = W := ⟨_, rfl⟩
    obtain ⟨GO, hGO⟩ : ∃ G, Wb8.heap.size = G := ⟨_, rfl⟩
    rw [hW9] at qm S1 b0
    rw [hGO] at qm S1
    have S1' : SumsAt Wb8 W9 GO (List.replicate N zTri) (fill (Rsk.rwv q f b) N 0) := S1
    have HS1 := hide S1'
    have HGO : Hid (Wb8.heap.size ≤ GO) := by show _ ≤ GO; rw [← hGO]; exact Nat.le_refl _
    have HPB : Hid (∀ W, Below Wb8.heap.size Wb8 W → BoxIs W b_p tp q) := fun W hW => unhide HX_p _ (below_step (unhide HB8) hW)
    have H8B : Hid (∀ W, Below Wb8.heap.size Wb8 W → BoxIs W b8 t8 f) := fun W hW => (unhide HX_b8).keep hW
    clear S1 S1' b0 HQM
    go_wp2_with fail
    clear qm hW9 hGO
    go_loopw [43] (fun vi wr => ∃ (i : Nat) (us : List Tri), vi = .int .i64 (i : Int) ∧ i ≤ N ∧ us.length = N ∧ SumsAt Wb8 wr GO us (fill (Rsk.rwv q f b) N i)) (fun vi _ => N - (intOf vi).toNat)
    case atStart => exact ⟨0, _, rfl, Nat.zero_le _, List.length_replicate, unhide HS1⟩
    case round =>
      obtain ⟨i, us, rfl, hi, hul, S⟩ := hrel
      clear HS1
      have HS := hide S
      have HUL := hide hul
      by_cases hlt : i < N
      · have j1 : (i : Int) < (N : Int) := by omega
        have j0 : (0 : Int) ≤ (i : Int) := by omega
        have HLT := hide hlt
        have hst := Rsk.rwv_step q f b i
        by_cases hib : i < b
        · have f1 : (i : Int) < (b : Int) := by omega
          rw [if_pos hib] at hst
          have HVE : Hid (Rsk.rwv q f b i = ((1 : Int) : Rat)) := show _ = _ by rw [hst]; simp
          clear S hst hib
          go_wp2_with fail
          refine (whole_any 1 (by decide) (by decide) wr).mono ?_
          rintro e w3 ⟨v3, rfl, hv3, hb3⟩
          obtain ⟨t5, rfl, r5⟩ := tri_of hv3
          simp only [Tri.val]
          have S8 := (unhide HS).keep hb3
          have ⟨⟨y0, y1, y2⟩, g0, g1, g2⟩ := S8.cells i (by rw [unhide HUL]; exact unhide HLT)
          have FZ := S8.set i (by rw [unhide HUL]; exact unhide HLT) t5 _ r5
          obtain ⟨WA, hWA⟩ : ∃ W, ((w3.setCell ⟨GO, i * 3, none⟩ (.bool t5.s)).setCell ⟨GO, i * 3 + 1, none⟩ (.slice t5.a1 t5.n1 t5.c1)).setCell ⟨GO, i * 3 + 2, none⟩ (.slice t5.a2 t5.n2 t5.c2) = W := ⟨_, rfl⟩
          rw [hWA, ← unhide HVE, fill_set] at FZ
          have HFZ := hide FZ
          clear S8 FZ r5
          clear hv3 hb3
          go_wp2_with fail
          exact ⟨⟨i + 1, _, by go_num, unhide HLT, by rw [List.length_set]; exact unhide HUL, unhide HFZ⟩, by have := unhide HLT; simp [intOf]; omega⟩
        · have f1 : ¬ (i : Int) < (b : Int) := by omega
          rw [if_neg hib] at hst
          by_cases hie : i = b
          · have f2 : ((i : Int) == (b : Int)) = true := by rw [hie]; exact beq_self_eq_true _
            have f2' : (i : Int) = (b : Int) := by rw [hie]
            rw [if_pos hie] at hst
            have HVE : Hid (Rsk.rwv q f b i = ((1 : Int) : Rat) - f) := show _ = _ by rw [hst]; simp
            have HC15 : Hid (∀ W, Below wr.heap.size wr W → (fun w' : World => w'.cell? ⟨b8, 0, none⟩ = some (.bool t8.s) ∧ w'.cell? ⟨b8, 1, none⟩ = some (.slice t8.a1 t8.n1 t8.c1) ∧ w'.cell? ⟨b8, 2, none⟩ = some (.slice t8.a2 t8.n2 t8.c2)) W) := fun W hW => (unhide H8B _ (below_step S.bl hW)).cells _ (Below.refl _ _)
            have HT8 := hide (unhide H8B _ S.bl).2
            subst hie
            clear S hst hib
            go_wp2_with fail
            refine wp_region_till (fun w' : World => w'.cell? ⟨b8, 0, none⟩ = some (.bool t8.s) ∧ w'.cell? ⟨b8, 1, none⟩ = some (.slice t8.a1 t8.n1 t8.c1) ∧ w'.cell? ⟨b8, 2, none⟩ = some (.slice t8.a2 t8.n2 t8.c2)) 6 (by kernel_rfl) ?_
            have bd0 : Below wr.heap.size wr wr.drew := (Below.refl _ _).drew
            have hC0 : (fun w' : World => w'.cell? ⟨b8, 0, none⟩ = some (.bool t8.s) ∧ w'.cell? ⟨b8, 1, none⟩ = some (.slice t8.a1 t8.n1 t8.c1) ∧ w'.cell? ⟨b8, 2, none⟩ = some (.slice t8.a2 t8.n2 t8.c2)) wr.drew := unhide HC15 _ bd0
            refine wpTill_pure (i := 0) (v := ?_) rfl (by kernel_rfl) (by kernel_rfl) (by kernel_rfl) (by kernel_rfl) (fun _ _ _ h => h) (Or.inl ⟨by rfl, ?_⟩) (fun _ => hC0) ?_
            rotate_left
            · intro w hSw; clear hSw; go_simp; (try with_reducible rfl)
            (try simp only [List.getElem_toArray, List.getElem_cons_succ, List.getElem_cons_zero])
            (try simp only [Act.put, List.setIfInBounds_toArray, List.set_cons_zero, List.set_cons_succ])
            refine wpTill_pure (i := 1) (v := ?_) rfl (by kernel_rfl) (by kernel_rfl) (by kernel_rfl) (by kernel_rfl) (fun _ _ _ h => h) (Or.inl ⟨by rfl, ?_⟩) (fun _ => hC0) ?_
            rotate_left
            · intro w hSw; clear hSw; go_simp; (try with_reducible rfl)
            (try simp only [List.getElem_toArray, List.getElem_cons_succ, List.getElem_cons_zero])
            (try simp only [Act.put, List.setIfInBounds_toArray, List.set_cons_zero, List.set_cons_succ])
            refine wpTill_take (i := 3) (v := ?_) rfl (by kernel_rfl) (by kernel_rfl) (by kernel_rfl) (by kernel_rfl) (by kernel_rfl) (by kernel_rfl) (fun _ _ _ h => h) (Or.inl ⟨by rfl, ?_⟩) hC0 ?_
            rotate_left
            · intro w hSw; (try dsimp only at hSw); obtain ⟨u0, u1, u2⟩ := hSw; go_simp; (try with_reducible rfl)
            (try simp only [List.getElem_toArray, List.getElem_cons_succ, List.getElem_cons_zero])
            (try simp only [Act.put, List.setIfInBounds_toArray, List.set_cons_zero, List.set_cons_succ])
            refine wpTill_one (k := 2) (by kernel_rfl) rfl (fun K hK => ?_)
            (try simp only [List.getElem_toArray, List.getElem_cons_succ, List.getElem_cons_zero])
            go_simp
            refine (whole_any 1 (by decide) (by decide) _).mono ?_
            rintro e xw_1 ⟨xv_1, rfl, hv_1, hb_1⟩
            have cc_1 := below_step bd0 hb_1
            have hC_1 : (fun w' : World => w'.cell? ⟨b8, 0, none⟩ = some (.bool t8.s) ∧ w'.cell? ⟨b8, 1, none⟩ = some (.slice t8.a1 t8.n1 t8.c1) ∧ w'.cell? ⟨b8, 2, none⟩ = some (.slice t8.a2 t8.n2 t8.c2)) xw_1 := unhide HC15 _ cc_1
            refine hK.out _ _ (fun _ => hC_1) ?_
            clear hK K
            (try simp only [Act.put, List.setIfInBounds_toArray, List.set_cons_zero, List.set_cons_succ])
            refine wpTill_one (k := 4) (by kernel_rfl) rfl (fun K hK => ?_)
            (try simp only [List.getElem_toArray, List.getElem_cons_succ, List.getElem_cons_zero])
            go_simp
            refine (subR_any _ t8.val _ f _ hv_1 ((unhide HT8).below cc_1) JB (unhide HR1) (unhide HRF) (unhide HJ)).mono ?_
            rintro e xw_2 ⟨xv_2, rfl, hv_2, hb_2⟩
            have cc_2 := below_step cc_1 hb_2
            have hC_2 : (fun w' : World => w'.cell? ⟨b8, 0, none⟩ = some (.bool t8.s) ∧ w'.cell? ⟨b8, 1, none⟩ = some (.slice t8.a1 t8.n1 t8.c1) ∧ w'.cell? ⟨b8, 2, none⟩ = some (.slice t8.a2 t8.n2 t8.c2)) xw_2 := unhide HC15 _ cc_2
            refine hK.out _ _ (fun _ => hC_2) ?_
            clear hK K
            (try simp only [Act.put, List.setIfInBounds_toArray, List.set_cons_zero, List.set_cons_succ])
            refine wpTill_pure (i := 5) (v := ?_) rfl (by kernel_rfl) (by kernel_rfl) (by kernel_rfl) (by kernel_rfl) (fun _ _ _ h => h) (Or.inl ⟨by rfl, ?_⟩) (fun _ => hC_2) ?_
            rotate_left
            · intro w hSw; clear hSw; go_simp; (try with_reducible rfl)
            (try simp only [List.getElem_toArray, List.getElem_cons_succ, List.getElem_cons_zero])
            (try simp only [Act.put, List.setIfInBounds_toArray, List.set_cons_zero, List.set_cons_succ])
            obtain ⟨t5, rfl, r5⟩ := tri_of hv_2
            simp only [Tri.val]
            have S8 := (unhide HS).keep cc_2
            have ⟨⟨y0, y1, y2⟩, g0, g1, g2⟩ := S8.cells i (by rw [unhide HUL]; exact unhide HLT)
            have FZ := S8.set i (by rw [unhide HUL]; exact unhide HLT) t5 _ r5
            obtain ⟨WA, hWA⟩ : ∃ W, ((xw_2.setCell ⟨GO, i * 3, none⟩ (.bool t5.s)).setCell ⟨GO, i * 3 + 1, none⟩ (.slice t5.a1 t5.n1 t5.c1)).setCell ⟨GO, i * 3 + 2, none⟩ (.slice t5.a2 t5.n2 t5.c2) = W := ⟨_, rfl⟩
            rw [hWA, ← unhide HVE, fill_set] at FZ
            have HFZ := hide FZ
            clear S8 FZ r5
            refine wpTill_one (k := 6) (by kernel_rfl) rfl (fun K hK => ?_)
            (try simp only [List.getElem_toArray, List.getElem_cons_succ, List.getElem_cons_zero])
            go_simp
            refine hK.out _ _ (fun h => absurd (h.symm.trans (by kernel_rfl)) Bool.false_ne_true) ?_
            clear hK K
            (try simp only [Act.put, List.setIfInBounds_toArray, List.set_cons_zero, List.set_cons_succ])
            refine wpTill_done (by kernel_rfl) ?_ _
            clear hWA
            go_wp2
            exact ⟨⟨i + 1, _, by go_num, unhide HLT, by rw [List.length_set]; exact unhide HUL, unhide HFZ⟩, by have := unhide HLT; simp [intOf]; omega⟩
          · have f2 : ((i : Int) == (b : Int)) = false := by rw [beq_eq_false_iff_ne]; omega
            have f2' : ¬ (i : Int) = (b : Int) := by omega
            rw [if_neg hie] at hst
            obtain ⟨d, hd⟩ : ∃ d, i - b - 1 = d := ⟨_, rfl⟩
            obtain ⟨k, hk⟩ : ∃ k, i - 1 = k := ⟨_, rfl⟩
            rw [hd, hk] at hst
            have HVE : Hid (Rsk.rwv q f b i = Rsk.rwv q f b k - Rsk.rwv q f b d * q * f) := hst
            obtain ⟨s, hs⟩ : ∃ s, i - b = s := ⟨_, rfl⟩
            have jd1 : (i : Int) - (b : Int) = (s : Int) := by omega
            have jd2 : (s : Int) - 1 = (d : Int) := by omega
            have jk : (i : Int) - 1 = (k : Int) := by omega
            have jw1 : IntKind.i64.wrap (s : Int) = (s : Int) := by rw [IntKind.wrap_i64]; omega
            have jw2 : IntKind.i64.wrap (d : Int) = (d : Int) := by rw [IntKind.wrap_i64]; omega
            have jw3 : IntKind.i64.wrap (k : Int) = (k : Int) := by rw [IntKind.wrap_i64]; omega
            have d0 : (0 : Int) ≤ (d : Int) := by omega
            have d1 : (d : Int) < (N : Int) := by omega
            have k0 : (0 : Int) ≤ (k : Int) := by omega
            have k1 : (k : Int) < (N : Int) := by omega
            have hdi : d < i := by omega
            have hki : k < i := by omega
            have HNN := unhide HN
            have HDI : Hid (d ≤ n ∧ k ≤ n) := ⟨by omega, by omega⟩
            have ⟨⟨p0, p1, p2⟩, _⟩ := S.cells d (by omega)
            have rd := S.rat d (by omega)
            rw [fill_get hdi (by omega)] at rd
            obtain ⟨td, htd⟩ : ∃ t, us[d]! = t := ⟨_, rfl⟩
            rw [htd] at p0 p1 p2 rd
            have ⟨⟨q0, q1, q2⟩, _⟩ := S.cells k (by omega)
            have rk := S.rat k (by omega)
            rw [fill_get hki (by omega)] at rk
            obtain ⟨tk, htk⟩ : ∃ t, us[k]! = t := ⟨_, rfl⟩
            rw [htk] at q0 q1 q2 rk
            have hGl : GO < wr.heap.size := (Array.getElem?_eq_some_iff.1 S.row).1
            have HC10 : Hid (∀ W, Below wr.heap.size wr W → (fun w' : World => (w'.cell? ⟨GO, d * 3, none⟩ = some (.bool td.s) ∧ w'.cell? ⟨GO, d * 3 + 1, none⟩ = some (.slice td.a1 td.n1 td.c1) ∧ w'.cell? ⟨GO, d * 3 + 2, none⟩ = some (.slice td.a2 td.n2 td.c2)) ∧ (w'.cell? ⟨b_p, 0, none⟩ = some (.bool tp.s) ∧ w'.cell? ⟨b_p, 1, none⟩ = some (.slice tp.a1 tp.n1 tp.c1) ∧ w'.cell? ⟨b_p, 2, none⟩ = some (.slice tp.a2 tp.n2 tp.c2)) ∧ (w'.cell? ⟨b8, 0, none⟩ = some (.bool t8.s) ∧ w'.cell? ⟨b8, 1, none⟩ = some (.slice t8.a1 t8.n1 t8.c1) ∧ w'.cell? ⟨b8, 2, none⟩ = some (.slice t8.a2 t8.n2 t8.c2))) W) := fun W hW => by
              refine ⟨⟨?_, ?_, ?_⟩, (unhide HPB _ (below_step (unhide HS).bl hW)).cells _ (Below.refl _ _), (unhide H8B _ (below_step (unhide HS).bl hW)).cells _ (Below.refl _ _)⟩
              · rw [hW.cell (p := ⟨GO, d * 3, none⟩) hGl]; exact p0
              · rw [hW.cell (p := ⟨GO, d * 3 + 1, none⟩) hGl]; exact p1
              · rw [hW.cell (p := ⟨GO, d * 3 + 2, none⟩) hGl]; exact p2
            have HKC : Hid (∀ W, Below wr.heap.size wr W → W.cell? ⟨GO, k * 3, none⟩ = some (.bool tk.s) ∧ W.cell? ⟨GO, k * 3 + 1, none⟩ = some (.slice tk.a1 tk.n1 tk.c1) ∧ W.cell? ⟨GO, k * 3 + 2, none⟩ = some (.slice tk.a2 tk.n2 tk.c2)) := fun W hW => by
              refine ⟨?_, ?_, ?_⟩
              · rw [hW.cell (p := ⟨GO, k * 3, none⟩) hGl]; exact q0
              · rw [hW.cell (p := ⟨GO, k * 3 + 1, none⟩) hGl]; exact q1
              · rw [hW.cell (p := ⟨GO, k * 3 + 2, none⟩) hGl]; exact q2
            have HTD := hide rd
            have HTPr := hide (unhide HPB _ S.bl).2
            have HT8 := hide (unhide H8B _ S.bl).2
            have HTK0 := hide rk
            have hdn := (unhide HDI).1
            have hkn := (unhide HDI).2
            clear S hst hib hie hd hk hs p0 p1 p2 q0 q1 q2 rd rk htd htk hGl hdi hki HNN
            go_wp2_with fail
            refine wp_region_hold (fun w' : World => (w'.cell? ⟨GO, d * 3, none⟩ = some (.bool td.s) ∧ w'.cell? ⟨GO, d * 3 + 1, none⟩ = some (.slice td.a1 td.n1 td.c1) ∧ w'.cell? ⟨GO, d * 3 + 2, none⟩ = some (.slice td.a2 td.n2 td.c2)) ∧ (w'.cell? ⟨b_p, 0, none⟩ = some (.bool tp.s) ∧ w'.cell? ⟨b_p, 1, none⟩ = some (.slice tp.a1 tp.n1 tp.c1) ∧ w'.cell? ⟨b_p, 2, none⟩ = some (.slice tp.a2 tp.n2 tp.c2)) ∧ (w'.cell? ⟨b8, 0, none⟩ = some (.bool t8.s) ∧ w'.cell? ⟨b8, 1, none⟩ = some (.slice t8.a1 t8.n1 t8.c1) ∧ w'.cell? ⟨b8, 2, none⟩ = some (.slice t8.a2 t8.n2 t8.c2))) (by kernel_rfl) ?_
            have bd0 : Below wr.heap.size wr wr.drew := (Below.refl _ _).drew
            obtain ⟨Wx, hWx⟩ : ∃ W, wr.drew = W := ⟨_, rfl⟩
            rw [hWx] at bd0 ⊢
            have hC0 : (fun w' : World => (w'.cell? ⟨GO, d * 3, none⟩ = some (.bool td.s) ∧ w'.cell? ⟨GO, d * 3 + 1, none⟩ = some (.slice td.a1 td.n1 td.c1) ∧ w'.cell? ⟨GO, d * 3 + 2, none⟩ = some (.slice td.a2 td.n2 td.c2)) ∧ (w'.cell? ⟨b_p, 0, none⟩ = some (.bool tp.s) ∧ w'.cell? ⟨b_p, 1, none⟩ = some (.slice tp.a1 tp.n1 tp.c1) ∧ w'.cell? ⟨b_p, 2, none⟩ = some (.slice tp.a2 tp.n2 tp.c2)) ∧ (w'.cell? ⟨b8, 0, none⟩ = some (.bool t8.s) ∧ w'.cell? ⟨b8, 1, none⟩ = some (.slice t8.a1 t8.n1 t8.c1) ∧ w'.cell? ⟨b8, 2, none⟩ = some (.slice t8.a2 t8.n2 t8.c2))) Wx := unhide HC10 _ bd0
            refine wpHold_take (i := 0) (v := ?_) rfl (by kernel_rfl) (by kernel_rfl) (by kernel_rfl) (fun _ _ _ h => h) (Or.inl ⟨by rfl, ?_⟩) hC0 ?_
            rotate_left
            · intro w hSw; clear hSw; go_simp; (try with_reducible rfl)
            (try simp only [List.getElem_toArray, List.getElem_cons_succ, List.getElem_cons_zero])
            (try simp only [Act.put, List.setIfInBounds_toArray, List.set_cons_zero, List.set_cons_succ])
            refine wpHold_take (i := 1) (v := ?_) rfl (by kernel_rfl) (by kernel_rfl) (by kernel_rfl) (fun _ _ _ h => h) (Or.inl ⟨by rfl, ?_⟩) hC0 ?_
            rotate_left
            · intro w hSw; clear hSw; go_simp; (try with_reducible rfl)
            (try simp only [List.getElem_toArray, List.getElem_cons_succ, List.getElem_cons_zero])
            (try simp only [Act.put, List.setIfInBounds_toArray, List.set_cons_zero, List.set_cons_succ])
            refine wpHold_take (i := 2) (v := ?_) rfl (by kernel_rfl) (by kernel_rfl) (by kernel_rfl) (fun _ _ _ h => h) (Or.inl ⟨by rfl, ?_⟩) hC0 ?_
            rotate_left
            · intro w hSw; clear hSw; go_simp; (try with_reducible rfl)
            (try simp only [List.getElem_toArray, List.getElem_cons_succ, List.getElem_cons_zero])
            (try simp only [Act.put, List.setIfInBounds_toArray, List.set_cons_zero, List.set_cons_succ])
            refine wpHold_take (i := 3) (v := ?_) rfl (by kernel_rfl) (by kernel_rfl) (by kernel_rfl) (fun _ _ _ h => h) (Or.inl ⟨by rfl, ?_⟩) hC0 ?_
            rotate_left
            · intro w hSw; clear hSw; go_simp; (try with_reducible rfl)
            (try simp only [List.getElem_toArray, List.getElem_cons_succ, List.getElem_cons_zero])
            (try simp only [Act.put, List.setIfInBounds_toArray, List.set_cons_zero, List.set_cons_succ])
            refine wpHold_take (i := 4) (v := ?_) rfl (by kernel_rfl) (by kernel_rfl) (by kernel_rfl) (fun _ _ _ h => h) (Or.inl ⟨by rfl, ?_⟩) hC0 ?_
            rotate_left
            · intro w hSw; clear hSw; go_simp; (try with_reducible rfl)
            (try simp only [List.getElem_toArray, List.getElem_cons_succ, List.getElem_cons_zero])
            (try simp only [Act.put, List.setIfInBounds_toArray, List.set_cons_zero, List.set_cons_succ])
            refine wpHold_take (i := 5) (v := ?_) rfl (by kernel_rfl) (by kernel_rfl) (by kernel_rfl) (fun _ _ _ h => h) (Or.inl ⟨by rfl, ?_⟩) hC0 ?_
            rotate_left
            · intro w hSw; clear hSw; go_simp; (try with_reducible rfl)
            (try simp only [List.getElem_toArray, List.getElem_cons_succ, List.getElem_cons_zero])
            (try simp only [Act.put, List.setIfInBounds_toArray, List.set_cons_zero, List.set_cons_succ])
            refine wpHold_take (i := 6) (v := ?_) rfl (by kernel_rfl) (by kernel_rfl) (by kernel_rfl) (fun _ _ _ h => h) (Or.inl ⟨by rfl, ?_⟩) hC0 ?_
            rotate_left
            · intro w hSw; (try dsimp only at hSw); obtain ⟨⟨u0, u1, u2⟩, ⟨u3, u4, u5⟩, u6, u7, u8⟩ := hSw; go_simp; (try with_reducible rfl)
            (try simp only [List.getElem_toArray, List.getElem_cons_succ, List.getElem_cons_zero])
            (try simp only [Act.put, List.setIfInBounds_toArray, List.set_cons_zero, List.set_cons_succ])
            refine wpHold_take (i := 7) (v := ?_) rfl (by kernel_rfl) (by kernel_rfl) (by kernel_rfl) (fun _ _ _ h => h) (Or.inl ⟨by rfl, ?_⟩) hC0 ?_
            rotate_left
            · intro w hSw; (try dsimp only at hSw); obtain ⟨⟨u0, u1, u2⟩, ⟨u3, u4, u5⟩, u6, u7, u8⟩ := hSw; go_simp; (try with_reducible rfl)
            (try simp only [List.getElem_toArray, List.getElem_cons_succ, List.getElem_cons_zero])
            (try simp only [Act.put, List.setIfInBounds_toArray, List.set_cons_zero, List.set_cons_succ])
            refine wpHold_take (i := 9) (v := ?_) rfl (by kernel_rfl) (by kernel_rfl) (by kernel_rfl) (fun _ _ _ h => h) (Or.inl ⟨by rfl, ?_⟩) hC0 ?_
            rotate_left
            · intro w hSw; (try dsimp only at hSw); obtain ⟨⟨u0, u1, u2⟩, ⟨u3, u4, u5⟩, u6, u7, u8⟩ := hSw; go_simp; (try with_reducible rfl)
            (try simp only [List.getElem_toArray, List.getElem_cons_succ, List.getElem_cons_zero])
            (try simp only [Act.put, List.setIfInBounds_toArray, List.set_cons_zero, List.set_cons_succ])
            refine wpHold_listed (n := 4) (L' := (fun nc nl => #[true, true, true, true, true, true, true, true, decide (1 ≤ nc), true, decide (2 ≤ nc), nl, false]) 0 false) (by kernel_rfl) (by kernel_rfl) ?_
            refine wpHold_name (fun a0 ha0 => ?_)
            refine two_one_any (fun nc nl => #[true, true, true, true, true, true, true, true, decide (1 ≤ nc), true, decide (2 ≤ nc), nl, false]) 8 10 11 1 (fun nc nl na W => ∃ s1 s2 s3, na = ((a0.put (some 54) s1).put (some 56) s2).put (some 11) s3 ∧ TwoJ (Rsk.rwv q f b d * q) (Rsk.rwv q f b d * q * f) Wx nc nl W s1 s2 s3) ?_ ?_ (fun l => rfl) (fun l => rfl) (fun c => rfl) ?_ ?_ ?_ ?_ 3 0 false (by omega) (by rfl) _ _ ⟨u54, u56, u11, by subst ha0; rfl, Below.refl _ _, fun h => absurd h (by decide), fun h => absurd h (by decide), fun h => by cases h⟩
            · clear ha0
              intro nc nl hnc
              match nc, hnc with
              | 0, _ => cases nl <;> (show (_ : Bool) = _; kernel_rfl)
              | 1, _ => cases nl <;> (show (_ : Bool) = _; kernel_rfl)
              | 2, _ => cases nl <;> (show (_ : Bool) = _; kernel_rfl)
            · clear ha0
              intro nc nl hnc
              match nc, hnc with
              | 0, _ => cases nl <;> (intro _; show (_ : Bool) = _; kernel_rfl)
              | 1, _ => cases nl <;> (intro _; show (_ : Bool) = _; kernel_rfl)
              | 2, _ => cases nl <;> (intro h; first | (show (_ : Bool) = _; kernel_rfl) | exact absurd h (by decide))
            · rintro nl na wv ⟨s1, s2, s3, rfl, J⟩
              subst ha0
              refine wpOp_step rfl (fun K hK => ?_)
              (try simp only [Act.put, List.setIfInBounds_toArray, List.set_cons_zero, List.set_cons_succ] at hK ⊢)
              (try simp only [List.getElem_toArray, List.getElem_cons_succ, List.getElem_cons_zero])
              go_simp
              refine (mulR_any td.val tp.val _ q wv ((unhide HTD).below (below_step bd0 J.bl)) ((unhide HTPr).below (below_step bd0 J.bl)) JB (unhide HRV d (by omega)) (unhide HRQ) (unhide HJ)).mono ?_
              rintro e wz ⟨v, rfl, hv, hb⟩
              exact hK _ _ ⟨unhide HC10 _ (below_step bd0 (below_step J.bl hb)), v, s2, s3, rfl, below_step J.bl hb, fun _ => hv, fun h => absurd h (by decide), fun h => by
                obtain ⟨b, e1, e2, e3⟩ := J.al h
                exact ⟨b, e1, e2.keep hb, e3⟩⟩
            · rintro nl na wv ⟨s1, s2, s3, rfl, J⟩
              subst ha0
              refine wpOp_step rfl (fun K hK => ?_)
              (try simp only [Act.put, List.setIfInBounds_toArray, List.set_cons_zero, List.set_cons_succ] at hK ⊢)
              (try simp only [List.getElem_toArray, List.getElem_cons_succ, List.getElem_cons_zero])
              go_simp
              refine (mulR_any s1 t8.val _ f wv (J.r1 (by decide)) ((unhide HT8).below (below_step bd0 J.bl)) JB (unhide HRVQ d (by omega)) (unhide HRF) (unhide HJ)).mono ?_
              rintro e wz ⟨v, rfl, hv, hb⟩
              exact hK _ _ ⟨unhide HC10 _ (below_step bd0 (below_step J.bl hb)), s1, v, s3, rfl, below_step J.bl hb, fun _ => (J.r1 (by decide)).below hb, fun _ => hv, fun h => by
                obtain ⟨b, e1, e2, e3⟩ := J.al h
                exact ⟨b, e1, e2.keep hb, e3⟩⟩
            · rintro nc na wv ⟨s1, s2, s3, rfl, J⟩
              subst ha0
              refine wpOp_step rfl (fun K hK => ?_)
              (try simp only [Act.put, List.setIfInBounds_toArray, List.set_cons_zero, List.set_cons_succ] at hK ⊢)
              (try simp only [List.getElem_toArray, List.getElem_cons_succ, List.getElem_cons_zero])
              go_simp
              have hb := alloc_below wv (.cells #[.bool false, .slice none 0 0, .slice none 0 0] 37)
              exact hK _ _ ⟨unhide HC10 _ (below_step bd0 (below_step J.bl hb)), s1, s2, .pointer (some ⟨wv.heap.size, 0, none⟩), rfl, below_step J.bl hb, fun h => (J.r1 h).below hb, fun h => (J.r2 h).below hb, fun _ => ⟨wv.heap.size, rfl, BoxIs.new (t := zTri) (rat_zero _), J.bl.size⟩⟩
            · rintro na wv ⟨s1, s2, s3, rfl, J⟩
              subst ha0
              obtain ⟨bl, rfl, B10, e10⟩ := J.al rfl
              obtain ⟨tl, rfl, r0⟩ := tri_of (J.r2 (by decide))
              simp only [Tri.val]
              (try simp only [Act.put, List.setIfInBounds_toArray, List.set_cons_zero, List.set_cons_succ])
              have ⟨l0, l1, l2⟩ := B10.free
              have ⟨k0, k1, k2⟩ := B10.cells _ (Below.refl _ _)
              have NB := B10.set r0
              have e10' : wr.heap.size ≤ bl := Nat.le_trans bd0.size e10
              have YB := (((below_step bd0 J.bl).setCell (p := ⟨bl, 0, none⟩) e10' (.bool tl.s)).setCell (p := ⟨bl, 1, none⟩) e10' (.slice tl.a1 tl.n1 tl.c1)).setCell (p := ⟨bl, 2, none⟩) e10' (.slice tl.a2 tl.n2 tl.c2)
              have HG_bl := hide e10'
              have hCn : (fun w' : World => (w'.cell? ⟨GO, d * 3, none⟩ = some (.bool td.s) ∧ w'.cell? ⟨GO, d * 3 + 1, none⟩ = some (.slice td.a1 td.n1 td.c1) ∧ w'.cell? ⟨GO, d * 3 + 2, none⟩ = some (.slice td.a2 td.n2 td.c2)) ∧ (w'.cell? ⟨b_p, 0, none⟩ = some (.bool tp.s) ∧ w'.cell? ⟨b_p, 1, none⟩ = some (.slice tp.a1 tp.n1 tp.c1) ∧ w'.cell? ⟨b_p, 2, none⟩ = some (.slice tp.a2 tp.n2 tp.c2)) ∧ (w'.cell? ⟨b8, 0, none⟩ = some (.bool t8.s) ∧ w'.cell? ⟨b8, 1, none⟩ = some (.slice t8.a1 t8.n1 t8.c1) ∧ w'.cell? ⟨b8, 2, none⟩ = some (.slice t8.a2 t8.n2 t8.c2))) _ := unhide HC10 _ YB
              obtain ⟨Wbl, hWy⟩ : ∃ W, ((wv.setCell ⟨bl, 0, none⟩ (.bool tl.s)).setCell ⟨bl, 1, none⟩ (.slice tl.a1 tl.n1 tl.c1)).setCell ⟨bl, 2, none⟩ (.slice tl.a2 tl.n2 tl.c2) = W := ⟨_, rfl⟩
              rw [hWy] at NB YB hCn
              have HX_bl := hide NB
              have HY_bl := hide YB
              clear J B10 r0 hC0 YB NB e10'
              refine wpHold_one (k := 12) (by kernel_rfl) rfl (fun K hK => ?_)
              (try simp only [List.getElem_toArray, List.getElem_cons_succ, List.getElem_cons_zero])
              go_simp
              refine hK.out _ _ hCn ?_
              clear hK K
              (try simp only [Act.put, List.setIfInBounds_toArray, List.set_cons_zero, List.set_cons_succ])
              refine wpHold_done (by kernel_rfl) ?_ _
              clear hCn l0 l1 l2 k0 k1 k2 hWy e10 bd0 hWx
              have HTK := hide ((unhide HTK0).below (unhide HY_bl))
              have HTL := hide (unhide HX_bl).2
              have HS2 := hide ((unhide HS).keep (unhide HY_bl))
              have HC11 : Hid (∀ W, Below Wbl.heap.size Wbl W → (fun w' : World => (w'.cell? ⟨GO, k * 3, none⟩ = some (.bool tk.s) ∧ w'.cell? ⟨GO, k * 3 + 1, none⟩ = some (.slice tk.a1 tk.n1 tk.c1) ∧ w'.cell? ⟨GO, k * 3 + 2, none⟩ = some (.slice tk.a2 tk.n2 tk.c2)) ∧ (w'.cell? ⟨bl, 0, none⟩ = some (.bool tl.s) ∧ w'.cell? ⟨bl, 1, none⟩ = some (.slice tl.a1 tl.n1 tl.c1) ∧ w'.cell? ⟨bl, 2, none⟩ = some (.slice tl.a2 tl.n2 tl.c2))) W) := fun W hW => ⟨unhide HKC W (below_step (unhide HY_bl) hW), (unhide HX_bl).cells W hW⟩
              clear HC10 HTD HTPr HT8 HTK0
              go_wp2_with fail
              refine wp_region_till (fun w' : World => (w'.cell? ⟨GO, k * 3, none⟩ = some (.bool tk.s) ∧ w'.cell? ⟨GO, k * 3 + 1, none⟩ = some (.slice tk.a1 tk.n1 tk.c1) ∧ w'.cell? ⟨GO, k * 3 + 2, none⟩ = some (.slice tk.a2 tk.n2 tk.c2)) ∧ (w'.cell? ⟨bl, 0, none⟩ = some (.bool tl.s) ∧ w'.cell? ⟨bl, 1, none⟩ = some (.slice tl.a1 tl.n1 tl.c1) ∧ w'.cell? ⟨bl, 2, none⟩ = some (.slice tl.a2 tl.n2 tl.c2))) 10 (by kernel_rfl) ?_
              have bd0 : Below Wbl.heap.size Wbl Wbl.drew := (Below.refl _ _).drew
              obtain ⟨Wd, hWd⟩ : ∃ W, Wbl.drew = W := ⟨_, rfl⟩
              rw [hWd] at bd0 ⊢
              have hC0 : (fun w' : World => (w'.cell? ⟨GO, k * 3, none⟩ = some (.bool tk.s) ∧ w'.cell? ⟨GO, k * 3 + 1, none⟩ = some (.slice tk.a1 tk.n1 tk.c1) ∧ w'.cell? ⟨GO, k * 3 + 2, none⟩ = some (.slice tk.a2 tk.n2 tk.c2)) ∧ (w'.cell? ⟨bl, 0, none⟩ = some (.bool tl.s) ∧ w'.cell? ⟨bl, 1, none⟩ = some (.slice tl.a1 tl.n1 tl.c1) ∧ w'.cell? ⟨bl, 2, none⟩ = some (.slice tl.a2 tl.n2 tl.c2))) Wd := unhide HC11 _ bd0
              refine wpTill_pure (i := 0) (v := ?_) rfl (by kernel_rfl) (by kernel_rfl) (by kernel_rfl) (by kernel_rfl) (fun _ _ _ h => h) (Or.inl ⟨by rfl, ?_⟩) (fun _ => hC0) ?_
              rotate_left
              · intro w hSw; clear hSw; go_simp; (try with_reducible rfl)
              (try simp only [List.getElem_toArray, List.getElem_cons_succ, List.getElem_cons_zero])
              (try simp only [Act.put, List.setIfInBounds_toArray, List.set_cons_zero, List.set_cons_succ])
              refine wpTill_pure (i := 1) (v := ?_) rfl (by kernel_rfl) (by kernel_rfl) (by kernel_rfl) (by kernel_rfl) (fun _ _ _ h => h) (Or.inl ⟨by rfl, ?_⟩) (fun _ => hC0) ?_
              rotate_left
              · intro w hSw; clear hSw; go_simp; (try with_reducible rfl)
              (try simp only [List.getElem_toArray, List.getElem_cons_succ, List.getElem_cons_zero])
              (try simp only [Act.put, List.setIfInBounds_toArray, List.set_cons_zero, List.set_cons_succ])
              refine wpTill_pure (i := 2) (v := ?_) rfl (by kernel_rfl) (by kernel_rfl) (by kernel_rfl) (by kernel_rfl) (fun _ _ _ h => h) (Or.inl ⟨by rfl, ?_⟩) (fun _ => hC0) ?_
              rotate_left
              · intro w hSw; clear hSw; go_simp; (try with_reducible rfl)
              (try simp only [List.getElem_toArray, List.getElem_cons_succ, List.getElem_cons_zero])
              (try simp only [Act.put, List.setIfInBounds_toArray, List.set_cons_zero, List.set_cons_succ])
              refine wpTill_pure (i := 3) (v := ?_) rfl (by kernel_rfl) (by kernel_rfl) (by kernel_rfl) (by kernel_rfl) (fun _ _ _ h => h) (Or.inl ⟨by rfl, ?_⟩) (fun _ => hC0) ?_
              rotate_left
              · intro w hSw; clear hSw; go_simp; (try with_reducible rfl)
              (try simp only [List.getElem_toArray, List.getElem_cons_succ, List.getElem_cons_zero])
              (try simp only [Act.put, List.setIfInBounds_toArray, List.set_cons_zero, List.set_cons_succ])
              refine wpTill_pure (i := 4) (v := ?_) rfl (by kernel_rfl) (by kernel_rfl) (by kernel_rfl) (by kernel_rfl) (fun _ _ _ h => h) (Or.inl ⟨by rfl, ?_⟩) (fun _ => hC0) ?_
              rotate_left
              · intro w hSw; clear hSw; go_simp; (try with_reducible rfl)
              (try simp only [List.getElem_toArray, List.getElem_cons_succ, List.getElem_cons_zero])
              (try simp only [Act.put, List.setIfInBounds_toArray, List.set_cons_zero, List.set_cons_succ])
              refine wpTill_pure (i := 5) (v := ?_) rfl (by kernel_rfl) (by kernel_rfl) (by kernel_rfl) (by kernel_rfl) (fun _ _ _ h => h) (Or.inl ⟨by rfl, ?_⟩) (fun _ => hC0) ?_
              rotate_left
              · intro w hSw; clear hSw; go_simp; (try with_reducible rfl)
              (try simp only [List.getElem_toArray, List.getElem_cons_succ, List.getElem_cons_zero])
              (try simp only [Act.put, List.setIfInBounds_toArray, List.set_cons_zero, List.set_cons_succ])
              refine wpTill_take (i := 6) (v := ?_) rfl (by kernel_rfl) (by kernel_rfl) (by kernel_rfl) (by kernel_rfl) (by kernel_rfl) (by kernel_rfl) (fun _ _ _ h => h) (Or.inl ⟨by rfl, ?_⟩) hC0 ?_
              rotate_left
              · intro w hSw; (try dsimp only at hSw); obtain ⟨⟨u0, u1, u2⟩, u3, u4, u5⟩ := hSw; go_simp; (try with_reducible rfl)
              (try simp only [List.getElem_toArray, List.getElem_cons_succ, List.getElem_cons_zero])
              (try simp only [Act.put, List.setIfInBounds_toArray, List.set_cons_zero, List.set_cons_succ])
              refine wpTill_take (i := 7) (v := ?_) rfl (by kernel_rfl) (by kernel_rfl) (by kernel_rfl) (by kernel_rfl) (by kernel_rfl) (by kernel_rfl) (fun _ _ _ h => h) (Or.inl ⟨by rfl, ?_⟩) hC0 ?_
              rotate_left
              · intro w hSw; (try dsimp only at hSw); obtain ⟨⟨u0, u1, u2⟩, u3, u4, u5⟩ := hSw; go_simp; (try with_reducible rfl)
              (try simp only [List.getElem_toArray, List.getElem_cons_succ, List.getElem_cons_zero])
              (try simp only [Act.put, List.setIfInBounds_toArray, List.set_cons_zero, List.set_cons_succ])
              refine wpTill_one (k := 8) (by kernel_rfl) rfl (fun K hK => ?_)
              (try simp only [List.getElem_toArray, List.getElem_cons_succ, List.getElem_cons_zero])
              go_simp
              refine (subR_any tk.val tl.val _ _ _ ((unhide HTK).below bd0) ((unhide HTL).below bd0) JB (unhide HRV k (by omega)) (unhide HRL d (by omega)) (unhide HJ)).mono ?_
              rintro e xw_1 ⟨xv_1, rfl, hv_1, hb_1⟩
              have cc_1 := below_step bd0 hb_1
              have hC_1 : (fun w' : World => (w'.cell? ⟨GO, k * 3, none⟩ = some (.bool tk.s) ∧ w'.cell? ⟨GO, k * 3 + 1, none⟩ = some (.slice tk.a1 tk.n1 tk.c1) ∧ w'.cell? ⟨GO, k * 3 + 2, none⟩ = some (.slice tk.a2 tk.n2 tk.c2)) ∧ (w'.cell? ⟨bl, 0, none⟩ = some (.bool tl.s) ∧ w'.cell? ⟨bl, 1, none⟩ = some (.slice tl.a1 tl.n1 tl.c1) ∧ w'.cell? ⟨bl, 2, none⟩ = some (.slice tl.a2 tl.n2 tl.c2))) xw_1 := unhide HC11 _ cc_1
              refine hK.out _ _ (fun _ => hC_1) ?_
              clear hK K
              (try simp only [Act.put, List.setIfInBounds_toArray, List.set_cons_zero, List.set_cons_succ])
              refine wpTill_pure (i := 9) (v := ?_) rfl (by kernel_rfl) (by kernel_rfl) (by kernel_rfl) (by kernel_rfl) (fun _ _ _ h => h) (Or.inl ⟨by rfl, ?_⟩) (fun _ => hC_1) ?_
              rotate_left
              · intro w hSw; clear hSw; go_simp; (try with_reducible rfl)
              (try simp only [List.getElem_toArray, List.getElem_cons_succ, List.getElem_cons_zero])
              (try simp only [Act.put, List.setIfInBounds_toArray, List.set_cons_zero, List.set_cons_succ])
              obtain ⟨t5, rfl, r5⟩ := tri_of hv_1
              simp only [Tri.val]
              have S8 := (unhide HS2).keep cc_1
              have ⟨⟨y0, y1, y2⟩, g0, g1, g2⟩ := S8.cells i (by rw [unhide HUL]; exact unhide HLT)
              have FZ := S8.set i (by rw [unhide HUL]; exact unhide HLT) t5 _ r5
              obtain ⟨WA, hWA⟩ : ∃ W, ((xw_1.setCell ⟨GO, i * 3, none⟩ (.bool t5.s)).setCell ⟨GO, i * 3 + 1, none⟩ (.slice t5.a1 t5.n1 t5.c1)).setCell ⟨GO, i * 3 + 2, none⟩ (.slice t5.a2 t5.n2 t5.c2) = W := ⟨_, rfl⟩
              rw [hWA, ← unhide HVE, fill_set] at FZ
              have HFZ := hide FZ
              clear S8 FZ r5
              refine wpTill_one (k := 10) (by kernel_rfl) rfl (fun K hK => ?_)
              (try simp only [List.getElem_toArray, List.getElem_cons_succ, List.getElem_cons_zero])
              go_simp
              refine hK.out _ _ (fun h => absurd (h.symm.trans (by kernel_rfl)) Bool.false_ne_true) ?_
              clear hK K
              (try simp only [Act.put, List.setIfInBounds_toArray, List.set_cons_zero, List.set_cons_succ])
              refine wpTill_done (by kernel_rfl) ?_ _
              clear hWA
              go_wp2
              exact ⟨⟨i + 1, _, by go_num, unhide HLT, by rw [List.length_set]; exact unhide HUL, unhide HFZ⟩, by have := unhide HLT; simp [intOf]; omega⟩
      · obtain rfl : i = N := by omega
        have j1 : ¬ (i : Int) < (i : Int) := by omega
        have hNN := unhide HN
        have n1 : (n : Int) < (i : Int) := by omega
        have n0 : (0 : Int) ≤ (n : Int) := by omega
        have ⟨⟨p0, p1, p2⟩, _⟩ := S.cells n (by omega)
        have r0 := S.rat n (by omega)
        rw [fill_get (by omega) (by omega)] at r0
        obtain ⟨t0, ht0⟩ : ∃ t, us[n]! = t := ⟨_, rfl⟩
        rw [ht0] at p0 p1 p2 r0
        have hbl := below_step (unhide HB8) S.bl
        have Y := unhide HX_R _ hbl
        have ⟨l0, l1, l2⟩ := Y.free
        have ⟨y0, y1, y2⟩ := Y.cells _ (Below.refl _ _)
        have FIN := Y.set r0
        have FB := (((unhide HBW _ hbl).setCell (p := ⟨b_R, 0, none⟩) (unhide HG_R) (.bool t0.s)).setCell (p := ⟨b_R, 1, none⟩) (unhide HG_R) (.slice t0.a1 t0.n1 t0.c1)).setCell (p := ⟨b_R, 2, none⟩) (unhide HG_R) (.slice t0.a2 t0.n2 t0.c2)
        obtain ⟨Wf, hWf⟩ : ∃ W, ((wr.setCell ⟨b_R, 0, none⟩ (.bool t0.s)).setCell ⟨b_R, 1, none⟩ (.slice t0.a1 t0.n1 t0.c1)).setCell ⟨b_R, 2, none⟩ (.slice t0.a2 t0.n2 t0.c2) = W := ⟨_, rfl⟩
        rw [hWf] at FIN FB
        have HFIN := hide FIN
        have HFB := hide FB
        clear Y FIN FB
        have ⟨x0, x1, x2⟩ := (unhide HFIN).cells _ (Below.refl _ _)
        clear S r0 ht0 hbl
        go_wp2
        (try simp only [Exit.inBlock, Exit.then])
        exact bodyPost_ret (v := .tuple #[.agg #[.bool t0.s, .slice t0.a1 t0.n1 t0.c1, .slice t0.a2 t0.n2 t0.c2], .nilIface]) (by simp [results, Tryz.results24, go_sem, x0, x1, x2]) rfl ⟨_, rfl, (unhide HFIN).2, unhide HFB⟩

end Go.Proofs.YtcelbgleajpenaaGreatDoor
