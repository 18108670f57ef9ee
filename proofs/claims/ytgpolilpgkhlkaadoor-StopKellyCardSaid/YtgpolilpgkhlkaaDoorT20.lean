/- The secretary. -/
import Derived.Test.YtgpolilpgkhlkaaDoorT17
import Derived.Test.YtgpolilpgkhlkaaDoorW26
namespace Go.Proofs.YtgpolilpgkhlkaaDoor
open Go.RowKit Go.Sort Go.Shelf

theorem div_RS {x y : Int} (hx : 0 ≤ x) (hx1 : x ≤ 1000000) (hy : 1 ≤ y) (hy1 : y ≤ 1000000) : RS (Rat.divInt x y) 1 := by
  have h := divInt_bd x y (by omega)
  have e : Wd.pw 1 = 18446744073709551616 := by decide
  constructor
  · rw [e]; omega
  · rw [e]; omega
/-- What is summed: r / (r + j). -/
def cvs (r k : Nat) : Rat := Bth.ps (fun j => Rat.divInt (r : Int) ((r + j : Nat) : Int)) k
theorem cvs_RS {r : Nat} (h1 : 1 ≤ r) (hr : r ≤ 1000) : ∀ k, k ≤ 1000 → RS (cvs r k) (2 * k + 1)
  | 0, _ => RS.zero.mono (by omega)
  | k + 1, hk => RS.mono ((cvs_RS h1 hr k (by omega)).add (div_RS (x := (r : Int)) (y := ((r + k : Nat) : Int)) (by omega) (by omega) (by omega) (by omega))) (by omega)
theorem sec_is {n r : Nat} (h0 : r ≠ 0) : cvs r (n - r) * Rat.divInt 1 (n : Int) = Stp.sec n r := by
  have e1 : cvs r (n - r) = (r : Rat) * Bth.ps (fun j => 1 / ((r + j : Nat) : Rat)) (n - r) := by
    unfold cvs
    rw [← Lin.ps_mul]
    exact Bth.ps_congr _ (fun j _ => by
      rw [Rat.divInt_eq_div, Rat.div_def, Rat.div_def, Rat.one_mul]
      rfl)
  have e2 : Rat.divInt 1 (n : Int) = ((n : Nat) : Rat)⁻¹ := by
    rw [Rat.divInt_eq_div, Rat.div_def]
    show (1 : Rat) * _ = _
    rw [Rat.one_mul]
    rfl
  unfold Stp.sec
  rw [if_neg h0, e1, e2, Rat.div_def]
  grind
theorem sec_zero {n : Nat} : Rat.divInt 1 (n : Int) = Stp.sec n 0 := by
  unfold Stp.sec
  rw [if_pos rfl, Rat.divInt_eq_div]
  rfl
theorem sec_RS {n r : Nat} (hn : 1 ≤ n) (hn1 : n ≤ 100) (hr : r < n) : RS (Stp.sec n r) 300 := by
  by_cases h0 : r = 0
  · subst h0
    rw [← sec_zero]
    exact (div_RS (x := 1) (y := (n : Int)) (by omega) (by omega) (by omega) (by omega)).mono (by omega)
  · rw [← sec_is h0]
    exact RS.mono ((cvs_RS (r := r) (by omega) (by omega) (n - r) (by omega)).mul (div_RS (x := 1) (y := (n : Int)) (by omega) (by omega) (by omega) (by omega))) (by omega)
theorem sec_pos {n : Nat} (hn : 1 ≤ n) : 0 < Stp.sec n 0 := by
  unfold Stp.sec
  rw [if_pos rfl, Rat.div_def, Rat.one_mul]
  exact Rat.inv_pos.2 (by exact_mod_cast hn)

set_option maxHeartbeats 16000000 in
set_option maxRecDepth 100000 in
set_option linter.unusedSimpArgs false in
theorem part_any (x y : Int) (hx : 0 ≤ x) (hx1 : x ≤ 1000000) (hy : 1 ≤ y) (hy1 : y ≤ 1000000) (w : World) : Calls Tryd.prog 65 #[.int .i64 x, .int .i64 y] w fun e w' => ∃ v, e = .returned v ∧ RatIs w' v (Rat.divInt x y) ∧ Below w.heap.size w w' := by
  have b0 := alloc_below w (.cells #[.bool false, .slice none 0 0, .slice none 0 0] 35)
  have X0 := BoxIs.new (w := w) (t := zTri) (q := 0) (rat_zero _)
  obtain ⟨W0, hW0⟩ : ∃ W, w.alloc (.cells #[.bool false, .slice none 0 0, .slice none 0 0] 35) = W := ⟨_, rfl⟩
  obtain ⟨R, hR⟩ : ∃ R, w.heap.size = R := ⟨_, rfl⟩
  have X0' : BoxIs W0 R zTri 0 := by rw [← hW0, ← hR]; exact X0
  rw [hW0] at b0
  have HX0 := hide X0'
  have HB0 := hide b0
  have HRG : Hid (w.heap.size ≤ R) := by show _ ≤ R; omega
  clear X0 X0' b0
  go_enter Tryd.func65, Tryd.ntmps65
  go_wp2_with fail
  clear hW0 hR
  refine (of_any x y (by omega) (by omega) (by omega) (by omega) (by omega) W0).mono ?_
  rintro e w1 ⟨v1, rfl, hv1, hb1⟩
  obtain ⟨tx, rfl, rx⟩ := tri_of hv1
  simp only [Tri.val]
  have b2 := alloc_below w1 (.cells #[.bool tx.s, .slice tx.a1 tx.n1 tx.c1, .slice tx.a2 tx.n2 tx.c2] 35)
  have X2 := BoxIs.new rx
  obtain ⟨W2, hW2⟩ : ∃ W, w1.alloc (.cells #[.bool tx.s, .slice tx.a1 tx.n1 tx.c1, .slice tx.a2 tx.n2 tx.c2] 35) = W := ⟨_, rfl⟩
  obtain ⟨g2, hg2⟩ : ∃ g, w1.heap.size = g := ⟨_, rfl⟩
  rw [hW2] at b2 X2
  rw [hg2] at X2
  have Y0 := ((unhide HX0).keep hb1).keep b2
  have ⟨l0, l1, l2⟩ := Y0.free
  have ⟨y0, y1, y2⟩ := Y0.cells _ (Below.refl _ _)
  have ⟨z0, z1, z2⟩ := X2.cells _ (Below.refl _ _)
  have RB := hide (rat_boxed (w0 := w) X2.2 Y0.1 (below_step (unhide HB0) (below_step hb1 b2)) (unhide HRG) (.bool tx.s) (.slice tx.a1 tx.n1 tx.c1) (.slice tx.a2 tx.n2 tx.c2))
  clear hv1 hb1 rx b2 X2 Y0
  go_wp2
  (try simp only [Exit.inBlock, Exit.then])
  have rb := unhide RB
  exact bodyPost_ret (v := .agg #[.bool tx.s, .slice tx.a1 tx.n1 tx.c1, .slice tx.a2 tx.n2 tx.c2]) (by simp [results, Tryd.results65, go_sem, y0, y1, y2]) rfl ⟨_, rfl, rb.1, rb.2⟩

set_option maxHeartbeats 16000000 in
set_option maxRecDepth 100000 in
set_option linter.unusedSimpArgs false in
theorem chosen_any (n r : Nat) (hn : 1 ≤ n) (hn1 : n ≤ 100) (hr : r < n) (w : World) : Calls Tryd.prog 44 #[.int .i64 (n : Int), .int .i64 (r : Int)] w fun e w' => ∃ v, e = .returned v ∧ RatIs w' v (Stp.sec n r) ∧ Below w.heap.size w w' := by
  have KKe : KK = 1099511627776 := rfl
  by_cases h0 : r = 0
  · have e0 : ((r : Int) == 0) = true := by rw [beq_iff_eq]; omega
    have HE : Hid (Rat.divInt 1 (n : Int) = Stp.sec n r) := by show _ = _; rw [h0]; exact sec_zero
    have b0 := alloc_below w (.cells #[.bool false, .slice none 0 0, .slice none 0 0] 35)
    have X0 := BoxIs.new (w := w) (t := zTri) (q := 0) (rat_zero _)
    obtain ⟨W0, hW0⟩ : ∃ W, w.alloc (.cells #[.bool false, .slice none 0 0, .slice none 0 0] 35) = W := ⟨_, rfl⟩
    obtain ⟨R, hR⟩ : ∃ R, w.heap.size = R := ⟨_, rfl⟩
    have X0' : BoxIs W0 R zTri 0 := by rw [← hW0, ← hR]; exact X0
    rw [hW0] at b0
    have HX0 := hide X0'
    have HB0 := hide b0
    have HRG : Hid (w.heap.size ≤ R) := by show _ ≤ R; omega
    clear X0 X0' b0 h0
    go_enter Tryd.func44, Tryd.ntmps44
    go_wp2_with fail
    clear hW0 hR
    refine (part_any 1 (n : Int) (by omega) (by omega) (by omega) (by omega) W0).mono ?_
    rintro e w1 ⟨v1, rfl, hv1, hb1⟩
    obtain ⟨tx, rfl, rx⟩ := tri_of hv1
    simp only [Tri.val]
    have Y0 := (unhide HX0).keep hb1
    have ⟨l0, l1, l2⟩ := Y0.free
    have ⟨y0, y1, y2⟩ := Y0.cells _ (Below.refl _ _)
    have RB := hide (rat_boxed (w0 := w) rx Y0.1 (below_step (unhide HB0) hb1) (unhide HRG) (.bool tx.s) (.slice tx.a1 tx.n1 tx.c1) (.slice tx.a2 tx.n2 tx.c2))
    clear hv1 hb1 rx Y0
    go_wp2
    (try simp only [Exit.inBlock, Exit.then])
    have rb := unhide RB
    exact bodyPost_ret (v := .agg #[.bool tx.s, .slice tx.a1 tx.n1 tx.c1, .slice tx.a2 tx.n2 tx.c2]) (by simp [results, Tryd.results44, go_sem, y0, y1, y2]) rfl ⟨_, rfl, by rw [← unhide HE]; exact rb.1, rb.2⟩
  have e0 : ((r : Int) == 0) = false := by rw [beq_eq_false_iff_ne]; omega
  have HE := hide (sec_is (n := n) h0)
  have hr1 : 1 ≤ r := by omega
  have hb0 : Below (w.alloc (.cells #[.bool false, .slice none 0 0, .slice none 0 0] 35)).heap.size (w.alloc (.cells #[.bool false, .slice none 0 0, .slice none 0 0] 35)) (w.alloc (.cells #[.bool false, .slice none 0 0, .slice none 0 0] 35)) := Below.refl _ _
  have HS0 := hide (BoxAt.start (t := zTri) hb0 (rat_zero _))
  obtain ⟨W1, hW1⟩ : ∃ W, w.alloc (.cells #[.bool false, .slice none 0 0, .slice none 0 0] 35) = W := ⟨_, rfl⟩
  rw [hW1] at HS0
  obtain ⟨G, hG⟩ : ∃ G, W1.heap.size = G := ⟨_, rfl⟩
  obtain ⟨R, hR⟩ : ∃ R, w.heap.size = R := ⟨_, rfl⟩
  rw [hG, hR] at HS0
  obtain ⟨W2, hW2⟩ : ∃ W, W1.alloc (.cells #[.bool false, .slice none 0 0, .slice none 0 0] 35) = W := ⟨_, rfl⟩
  have HS1 : Hid (BoxAt w W2 R G (cvs r 0) zTri) := by rw [← hW2]; exact unhide HS0
  clear HS0 hb0 h0
  go_enter Tryd.func44, Tryd.ntmps44
  go_wp2_with fail
  clear hW1 hW2 hG hR
  go_loopw [6] (fun va wr => ∃ (k : Nat) (tg : Tri), va = .int .i64 ((r + k : Nat) : Int) ∧ r + k ≤ n ∧ BoxAt w wr R G (cvs r k) tg) (fun va _ => n - (intOf va).toNat)
  case atStart => exact ⟨0, zTri, rfl, by omega, unhide HS1⟩
  case round =>
    obtain ⟨k, tg, rfl, hk, T⟩ := hrel
    clear HS1
    have HCC : Hid (∀ W, Below wr.heap.size wr W → (fun w' : World => w'.cell? ⟨G, 0, none⟩ = some (.bool tg.s) ∧ w'.cell? ⟨G, 1, none⟩ = some (.slice tg.a1 tg.n1 tg.c1) ∧ w'.cell? ⟨G, 2, none⟩ = some (.slice tg.a2 tg.n2 tg.c2)) W) := fun W hW => BoxIs.cells (q := cvs r k) ⟨T.all, T.rat⟩ W hW
    have HT := hide T
    have HR1 := hide ((cvs_RS hr1 (by omega) k (by omega)).mono (show 2 * k + 1 ≤ 300 by omega))
    have HJ : Hid (300 + 300 + 1 ≤ KK) := by show _ ≤ _; rw [KKe]; omega
    by_cases hlt : r + k < n
    · have f1 : ((r + k : Nat) : Int) < (n : Int) := by omega
      have HR2 := hide ((div_RS (x := (r : Int)) (y := ((r + k : Nat) : Int)) (by omega) (by omega) (by omega) (by omega)).mono (show 1 ≤ 300 by omega))
      have f2 : IntKind.i64.wrap (((r + k : Nat) : Int) + 1) = ((r + (k + 1) : Nat) : Int) := by rw [IntKind.wrap_i64]; omega
      clear T
      go_wp2_with fail
      refine wp_region_till (fun w' : World => w'.cell? ⟨G, 0, none⟩ = some (.bool tg.s) ∧ w'.cell? ⟨G, 1, none⟩ = some (.slice tg.a1 tg.n1 tg.c1) ∧ w'.cell? ⟨G, 2, none⟩ = some (.slice tg.a2 tg.n2 tg.c2)) 5 (by kernel_rfl) ?_
      have bd0 : Below wr.heap.size wr wr.drew := (Below.refl _ _).drew
      have hC0 : (fun w' : World => w'.cell? ⟨G, 0, none⟩ = some (.bool tg.s) ∧ w'.cell? ⟨G, 1, none⟩ = some (.slice tg.a1 tg.n1 tg.c1) ∧ w'.cell? ⟨G, 2, none⟩ = some (.slice tg.a2 tg.n2 tg.c2)) wr.drew := unhide HCC _ bd0
      refine wpTill_take (i := 0) (v := ?_) rfl (by kernel_rfl) (by kernel_rfl) (by kernel_rfl) (by kernel_rfl) (by kernel_rfl) (by kernel_rfl) (fun _ _ _ h => h) (Or.inl ⟨by rfl, ?_⟩) hC0 ?_
      rotate_left
      · intro w hSw; (try dsimp only at hSw); obtain ⟨u0, u1, u2⟩ := hSw; go_simp; (try with_reducible rfl)
      (try simp only [List.getElem_toArray, List.getElem_cons_succ, List.getElem_cons_zero])
      (try simp only [Act.put, List.setIfInBounds_toArray, List.set_cons_zero, List.set_cons_succ])
      refine wpTill_pure (i := 1) (v := ?_) rfl (by kernel_rfl) (by kernel_rfl) (by kernel_rfl) (by kernel_rfl) (fun _ _ _ h => h) (Or.inl ⟨by rfl, ?_⟩) (fun _ => hC0) ?_
      rotate_left
      · intro w hSw; clear hSw; go_simp; (try with_reducible rfl)
      (try simp only [List.getElem_toArray, List.getElem_cons_succ, List.getElem_cons_zero])
      (try simp only [Act.put, List.setIfInBounds_toArray, List.set_cons_zero, List.set_cons_succ])
      refine wpTill_pure (i := 2) (v := ?_) rfl (by kernel_rfl) (by kernel_rfl) (by kernel_rfl) (by kernel_rfl) (fun _ _ _ h => h) (Or.inl ⟨by rfl, ?_⟩) (fun _ => hC0) ?_
      rotate_left
      · intro w hSw; clear hSw; go_simp; (try with_reducible rfl)
      (try simp only [List.getElem_toArray, List.getElem_cons_succ, List.getElem_cons_zero])
      (try simp only [Act.put, List.setIfInBounds_toArray, List.set_cons_zero, List.set_cons_succ])
      refine wpTill_one (k := 3) (by kernel_rfl) rfl (fun K hK => ?_)
      (try simp only [List.getElem_toArray, List.getElem_cons_succ, List.getElem_cons_zero])
      go_simp
      refine (part_any (r : Int) ((r + k : Nat) : Int) (by omega) (by omega) (by omega) (by omega) _).mono ?_
      rintro e xw_1 ⟨xv_1, rfl, hv_1, hb_1⟩
      have cc_1 := below_step bd0 hb_1
      have hC_1 : (fun w' : World => w'.cell? ⟨G, 0, none⟩ = some (.bool tg.s) ∧ w'.cell? ⟨G, 1, none⟩ = some (.slice tg.a1 tg.n1 tg.c1) ∧ w'.cell? ⟨G, 2, none⟩ = some (.slice tg.a2 tg.n2 tg.c2)) xw_1 := unhide HCC _ cc_1
      refine hK.out _ _ (fun _ => hC_1) ?_
      clear hK K
      (try simp only [Act.put, List.setIfInBounds_toArray, List.set_cons_zero, List.set_cons_succ])
      refine wpTill_one (k := 4) (by kernel_rfl) rfl (fun K hK => ?_)
      (try simp only [List.getElem_toArray, List.getElem_cons_succ, List.getElem_cons_zero])
      go_simp
      refine (addR_any tg.val _ _ _ _ ((unhide HT).rat.below cc_1) hv_1 _ (unhide HR1) (unhide HR2) (unhide HJ)).mono ?_
      rintro e xw_2 ⟨xv_2, rfl, hv_2, hb_2⟩
      have cc_2 := below_step cc_1 hb_2
      have hC_2 : (fun w' : World => w'.cell? ⟨G, 0, none⟩ = some (.bool tg.s) ∧ w'.cell? ⟨G, 1, none⟩ = some (.slice tg.a1 tg.n1 tg.c1) ∧ w'.cell? ⟨G, 2, none⟩ = some (.slice tg.a2 tg.n2 tg.c2)) xw_2 := unhide HCC _ cc_2
      refine hK.out _ _ (fun _ => hC_2) ?_
      clear hK K
      (try simp only [Act.put, List.setIfInBounds_toArray, List.set_cons_zero, List.set_cons_succ])
      obtain ⟨t9, rfl, hr9⟩ := tri_of hv_2
      have T9 := (unhide HT).keep cc_2
      have FIN := hide (T9.set hr9)
      have ⟨_, _, _, l0, l1, l2⟩ := box_cell T9.all
      have ⟨y0, y1, y2⟩ := hC_2
      simp only [Tri.val]
      clear T9 hv_1 hv_2 hr9
      refine wpTill_one (k := 5) (by kernel_rfl) rfl (fun K hK => ?_)
      (try simp only [List.getElem_toArray, List.getElem_cons_succ, List.getElem_cons_zero])
      go_simp
      refine hK.out _ _ (fun h => absurd (h.symm.trans (by kernel_rfl)) Bool.false_ne_true) ?_
      clear hK K
      (try simp only [Act.put, List.setIfInBounds_toArray, List.set_cons_zero, List.set_cons_succ])
      refine wpTill_done (by kernel_rfl) ?_ _
      clear hC0 hC_1 hC_2 cc_1 cc_2 bd0 hb_1 hb_2 y0 y1 y2 l0 l1 l2 HCC HT
      go_wp2_with fail
      exact ⟨⟨k + 1, t9, rfl, by omega, unhide FIN⟩, by simp [intOf]; omega⟩
    · have hkn : k = n - r := by omega
      have f1 : ¬ ((r + k : Nat) : Int) < (n : Int) := by omega
      have HKN := hide hkn
      have HR2 := hide ((div_RS (x := 1) (y := (n : Int)) (by omega) (by omega) (by omega) (by omega)).mono (show 1 ≤ 300 by omega))
      clear T hkn
      go_wp2_with fail
      refine wp_region_till (fun w' : World => w'.cell? ⟨G, 0, none⟩ = some (.bool tg.s) ∧ w'.cell? ⟨G, 1, none⟩ = some (.slice tg.a1 tg.n1 tg.c1) ∧ w'.cell? ⟨G, 2, none⟩ = some (.slice tg.a2 tg.n2 tg.c2)) 4 (by kernel_rfl) ?_
      have bd0 : Below wr.heap.size wr wr.drew := (Below.refl _ _).drew
      have hC0 : (fun w' : World => w'.cell? ⟨G, 0, none⟩ = some (.bool tg.s) ∧ w'.cell? ⟨G, 1, none⟩ = some (.slice tg.a1 tg.n1 tg.c1) ∧ w'.cell? ⟨G, 2, none⟩ = some (.slice tg.a2 tg.n2 tg.c2)) wr.drew := unhide HCC _ bd0
      refine wpTill_take (i := 0) (v := ?_) rfl (by kernel_rfl) (by kernel_rfl) (by kernel_rfl) (by kernel_rfl) (by kernel_rfl) (by kernel_rfl) (fun _ _ _ h => h) (Or.inl ⟨by rfl, ?_⟩) hC0 ?_
      rotate_left
      · intro w hSw; (try dsimp only at hSw); obtain ⟨u0, u1, u2⟩ := hSw; go_simp; (try with_reducible rfl)
      (try simp only [List.getElem_toArray, List.getElem_cons_succ, List.getElem_cons_zero])
      (try simp only [Act.put, List.setIfInBounds_toArray, List.set_cons_zero, List.set_cons_succ])
      refine wpTill_pure (i := 1) (v := ?_) rfl (by kernel_rfl) (by kernel_rfl) (by kernel_rfl) (by kernel_rfl) (fun _ _ _ h => h) (Or.inl ⟨by rfl, ?_⟩) (fun _ => hC0) ?_
      rotate_left
      · intro w hSw; clear hSw; go_simp; (try with_reducible rfl)
      (try simp only [List.getElem_toArray, List.getElem_cons_succ, List.getElem_cons_zero])
      (try simp only [Act.put, List.setIfInBounds_toArray, List.set_cons_zero, List.set_cons_succ])
      refine wpTill_one (k := 2) (by kernel_rfl) rfl (fun K hK => ?_)
      (try simp only [List.getElem_toArray, List.getElem_cons_succ, List.getElem_cons_zero])
      go_simp
      refine (part_any 1 (n : Int) (by omega) (by omega) (by omega) (by omega) _).mono ?_
      rintro e xw_1 ⟨xv_1, rfl, hv_1, hb_1⟩
      have cc_1 := below_step bd0 hb_1
      have hC_1 : (fun w' : World => w'.cell? ⟨G, 0, none⟩ = some (.bool tg.s) ∧ w'.cell? ⟨G, 1, none⟩ = some (.slice tg.a1 tg.n1 tg.c1) ∧ w'.cell? ⟨G, 2, none⟩ = some (.slice tg.a2 tg.n2 tg.c2)) xw_1 := unhide HCC _ cc_1
      refine hK.out _ _ (fun _ => hC_1) ?_
      clear hK K
      (try simp only [Act.put, List.setIfInBounds_toArray, List.set_cons_zero, List.set_cons_succ])
      refine wpTill_one (k := 3) (by kernel_rfl) rfl (fun K hK => ?_)
      (try simp only [List.getElem_toArray, List.getElem_cons_succ, List.getElem_cons_zero])
      go_simp
      refine (mulR_any tg.val _ _ _ _ ((unhide HT).rat.below cc_1) hv_1 _ (unhide HR1) (unhide HR2) (unhide HJ)).mono ?_
      rintro e xw_2 ⟨xv_2, rfl, hv_2, hb_2⟩
      have cc_2 := below_step cc_1 hb_2
      have hC_2 : (fun w' : World => w'.cell? ⟨G, 0, none⟩ = some (.bool tg.s) ∧ w'.cell? ⟨G, 1, none⟩ = some (.slice tg.a1 tg.n1 tg.c1) ∧ w'.cell? ⟨G, 2, none⟩ = some (.slice tg.a2 tg.n2 tg.c2)) xw_2 := unhide HCC _ cc_2
      refine hK.out _ _ (fun _ => hC_2) ?_
      clear hK K
      (try simp only [Act.put, List.setIfInBounds_toArray, List.set_cons_zero, List.set_cons_succ])
      obtain ⟨t9, rfl, hr9⟩ := tri_of hv_2
      have T9 := (unhide HT).keep cc_2
      have ⟨y0, y1, y2, l0, l1, l2⟩ := box_cell T9.res
      have RB := hide (rat_boxed (w0 := w) hr9 T9.res T9.bl T9.rl (.bool t9.s) (.slice t9.a1 t9.n1 t9.c1) (.slice t9.a2 t9.n2 t9.c2))
      simp only [Tri.val]
      clear T9 hv_1 hv_2 hr9
      refine wpTill_one (k := 4) (by kernel_rfl) rfl (fun K hK => ?_)
      (try simp only [List.getElem_toArray, List.getElem_cons_succ, List.getElem_cons_zero])
      go_simp
      refine hK.out _ _ (fun h => absurd (h.symm.trans (by kernel_rfl)) Bool.false_ne_true) ?_
      clear hK K
      (try simp only [Act.put, List.setIfInBounds_toArray, List.set_cons_zero, List.set_cons_succ])
      refine wpTill_done (by kernel_rfl) ?_ _
      clear hC0 hC_1 hC_2 cc_1 cc_2 bd0 hb_1 hb_2 l0 l1 l2 HCC HT
      go_wp2
      (try simp only [Exit.inBlock, Exit.then])
      have rb := unhide RB
      exact bodyPost_ret (v := .agg #[.bool t9.s, .slice t9.a1 t9.n1 t9.c1, .slice t9.a2 t9.n2 t9.c2]) (by simp [results, Tryd.results44, go_sem, y0, y1, y2]) rfl ⟨_, rfl, by rw [← unhide HE, ← unhide HKN]; exact rb.1, rb.2⟩

set_option maxHeartbeats 16000000 in
set_option maxRecDepth 100000 in
set_option linter.unusedSimpArgs false in
theorem mayCome_any (n : Nat) (hn : 1 ≤ n) (hn1 : n ≤ 100) (w : World) : Calls Tryd.prog 43 #[.int .i64 (n : Int)] w fun e w' => e = .returned (.bool true) ∧ Below w.heap.size w w' := by
  have h1 : (1 : Int) ≤ (n : Int) := by omega
  have h2 : (n : Int) ≤ 100 := by omega
  go_enter Tryd.func43, Tryd.ntmps43
  go_wp2
  go_ret
  exact ⟨rfl, Below.refl _ _⟩

set_option maxHeartbeats 16000000 in
set_option maxRecDepth 100000 in
set_option linter.unusedSimpArgs false in
theorem Chosen_any (n r : Nat) (hn : 1 ≤ n) (hn1 : n ≤ 100) (hr : r < n) (w : World) : Calls Tryd.prog 21 #[.int .i64 (n : Int), .int .i64 (r : Int)] w fun e w' => ∃ v, e = .returned (.tuple #[v, .nilIface]) ∧ RatIs w' v (Stp.sec n r) ∧ Below w.heap.size w w' := by
  have f0 : ¬ (r : Int) < 0 := by omega
  have f1 : ¬ (n : Int) ≤ (r : Int) := by omega
  have b0 := alloc_below w (.cells #[.bool false, .slice none 0 0, .slice none 0 0] 35)
  have X0 := BoxIs.new (w := w) (t := zTri) (q := 0) (rat_zero _)
  obtain ⟨W0, hW0⟩ : ∃ W, w.alloc (.cells #[.bool false, .slice none 0 0, .slice none 0 0] 35) = W := ⟨_, rfl⟩
  obtain ⟨R, hR⟩ : ∃ R, w.heap.size = R := ⟨_, rfl⟩
  have X0' : BoxIs W0 R zTri 0 := by rw [← hW0, ← hR]; exact X0
  rw [hW0] at b0
  have HX0 := hide X0'
  have HB0 := hide b0
  have HRG : Hid (w.heap.size ≤ R) := by show _ ≤ R; omega
  clear X0 X0' b0
  go_enter Tryd.func21, Tryd.ntmps21
  go_wp2_with fail
  clear hW0 hR
  refine (mayCome_any n hn hn1 W0).mono ?_
  rintro e w1 ⟨rfl, hb1⟩
  have HX1 := hide ((unhide HX0).keep hb1)
  have HB1 := hide (below_step (unhide HB0) hb1)
  clear hb1 HX0 HB0
  go_wp2_with fail
  refine (chosen_any n r hn hn1 hr w1).mono ?_
  rintro e w2 ⟨v2, rfl, hv2, hb2⟩
  obtain ⟨tx, rfl, rx⟩ := tri_of hv2
  simp only [Tri.val]
  have Y0 := (unhide HX1).keep hb2
  have ⟨l0, l1, l2⟩ := Y0.free
  have ⟨y0, y1, y2⟩ := Y0.cells _ (Below.refl _ _)
  have RB := hide (rat_boxed (w0 := w) rx Y0.1 (below_step (unhide HB1) hb2) (unhide HRG) (.bool tx.s) (.slice tx.a1 tx.n1 tx.c1) (.slice tx.a2 tx.n2 tx.c2))
  clear hv2 hb2 rx Y0
  go_wp2
  (try simp only [Exit.inBlock, Exit.then])
  have rb := unhide RB
  exact bodyPost_ret (v := .tuple #[.agg #[.bool tx.s, .slice tx.a1 tx.n1 tx.c1, .slice tx.a2 tx.n2 tx.c2], .nilIface]) (by simp [results, Tryd.results21, go_sem, y0, y1, y2]) rfl ⟨_, rfl, rb.1, rb.2⟩

/-- The best of the first i. -/
def SecInv (n i b : Nat) (L : Rat) : Prop := (i = 0 ∧ b = 0 ∧ L = 0) ∨ (b < i ∧ L = Stp.sec n b ∧ ∀ r, r < i → Stp.sec n r ≤ L)
theorem SecInv.RS {n i b : Nat} {L : Rat} (h : SecInv n i b L) (hn : 1 ≤ n) (hn1 : n ≤ 100) (hi : i ≤ n) : Go.Proofs.YtgpolilpgkhlkaaDoor.RS L 300 := by
  rcases h with ⟨_, _, rfl⟩ | ⟨h1, rfl, _⟩
  · exact RS.zero.mono (by omega)
  · exact sec_RS hn hn1 (by omega)
theorem SecInv.more {n i b : Nat} {L : Rat} (h : SecInv n i b L) (hlt : L < Stp.sec n i) : SecInv n (i + 1) i (Stp.sec n i) := by
  refine Or.inr ⟨by omega, rfl, fun r hr => ?_⟩
  by_cases e : r = i
  · rw [e]; exact Rat.le_refl
  · rcases h with ⟨rfl, _⟩ | ⟨_, _, h3⟩
    · omega
    · exact Rat.le_trans (h3 r (by omega)) (Rat.le_of_lt hlt)
theorem SecInv.less {n i b : Nat} {L : Rat} (h : SecInv n i b L) (hn : 1 ≤ n) (hlt : ¬ L < Stp.sec n i) : SecInv n (i + 1) b L := by
  rcases h with ⟨rfl, rfl, rfl⟩ | ⟨h1, h2, h3⟩
  · exact absurd (sec_pos hn) hlt
  · refine Or.inr ⟨by omega, h2, fun r hr => ?_⟩
    by_cases e : r = i
    · rw [e]; exact Rat.not_lt.1 hlt
    · exact h3 r (by omega)
set_option maxHeartbeats 16000000 in
set_option maxRecDepth 100000 in
set_option linter.unusedSimpArgs false in
theorem Secretary_any (n : Nat) (hn : 1 ≤ n) (hn1 : n ≤ 100) (w : World) : Calls Tryd.prog 20 #[.int .i64 (n : Int)] w fun e w' => ∃ (b : Nat) (v : Value), e = .returned (.tuple #[.int .i64 (b : Int), v, .nilIface]) ∧ b < n ∧ RatIs w' v (Stp.sec n b) ∧ (∀ r, r < n → Stp.sec n r ≤ Stp.sec n b) ∧ Below w.heap.size w w' := by
  have KKe : KK = 1099511627776 := rfl
  have b0 := alloc_below w (.cells #[.bool false, .slice none 0 0, .slice none 0 0] 35)
  obtain ⟨W0, hW0⟩ : ∃ W, w.alloc (.cells #[.bool false, .slice none 0 0, .slice none 0 0] 35) = W := ⟨_, rfl⟩
  obtain ⟨R, hR⟩ : ∃ R, w.heap.size = R := ⟨_, rfl⟩
  have HB0 : Hid (Below (w.alloc (.cells #[.bool false, .slice none 0 0, .slice none 0 0] 35)).heap.size (w.alloc (.cells #[.bool false, .slice none 0 0, .slice none 0 0] 35)) W0) := by show Below _ _ _; rw [hW0]; exact Below.refl _ _
  have HW0 := hide hW0
  have HRR := hide hR
  go_enter Tryd.func20, Tryd.ntmps20
  go_wp2_with fail
  clear hW0 hR b0
  refine (mayCome_any n hn hn1 W0).mono ?_
  rintro e w1 ⟨rfl, hb1⟩
  have hB1 : Below (w.alloc (.cells #[.bool false, .slice none 0 0, .slice none 0 0] 35)).heap.size (w.alloc (.cells #[.bool false, .slice none 0 0, .slice none 0 0] 35)) w1 := below_step (unhide HB0) hb1
  have HS0 := hide (BoxAt.start (t := zTri) hB1 (rat_zero _))
  rw [unhide HRR] at HS0
  obtain ⟨G, hG⟩ : ∃ G, w1.heap.size = G := ⟨_, rfl⟩
  rw [hG] at HS0
  obtain ⟨W2, hW2⟩ : ∃ W, w1.alloc (.cells #[.bool false, .slice none 0 0, .slice none 0 0] 35) = W := ⟨_, rfl⟩
  have HS1 : Hid (BoxAt w W2 R G 0 zTri) := by rw [← hW2]; exact unhide HS0
  have bc := box_cell (unhide HS1).all
  have y0 : W2.cell? ⟨G, 0, none⟩ = some (.bool false) := bc.1
  have y1 : W2.cell? ⟨G, 1, none⟩ = some (.slice none 0 0) := bc.2.1
  have y2 : W2.cell? ⟨G, 2, none⟩ = some (.slice none 0 0) := bc.2.2.1
  have l0 := bc.2.2.2.1
  have l1 := bc.2.2.2.2.1
  have l2 := bc.2.2.2.2.2
  have FSET := (unhide HS1).set (t' := zTri) (q' := 0) (rat_zero _)
  obtain ⟨W3, hW3⟩ : ∃ W, ((W2.setCell ⟨G, 0, none⟩ (.bool false)).setCell ⟨G, 1, none⟩ (.slice none 0 0)).setCell ⟨G, 2, none⟩ (.slice none 0 0) = W := ⟨_, rfl⟩
  have HS2 : Hid (BoxAt w W3 R G 0 zTri) := by rw [← hW3]; exact FSET
  clear HS0 HS1 hB1 hb1 HB0 HW0 HRR bc FSET
  go_wp2_with fail
  clear hG hW2 hW3 y0 y1 y2 l0 l1 l2
  go_loopw [5, 16] (fun vb vi wr => ∃ (i b : Nat) (L : Rat) (tg : Tri), vb = .int .i64 (b : Int) ∧ vi = .int .i64 (i : Int) ∧ i ≤ n ∧ SecInv n i b L ∧ BoxAt w wr R G L tg) (fun _ vi _ => n - (intOf vi).toNat)
  case atStart => exact ⟨0, 0, 0, zTri, rfl, rfl, Nat.zero_le _, Or.inl ⟨rfl, rfl, rfl⟩, unhide HS2⟩
  case round =>
    obtain ⟨i, b, L, tg, rfl, rfl, hi, hS, T⟩ := hrel
    clear HS2
    have HT := hide T
    have HS := hide hS
    have HRL := hide (hS.RS hn hn1 hi)
    by_cases hlt : i < n
    · have f1 : (i : Int) < (n : Int) := by omega
      clear T hS
      go_wp2_with fail
      refine (chosen_any n i hn hn1 hlt wr).mono ?_
      rintro e w2 ⟨v2, rfl, hv2, hb2⟩
      obtain ⟨ts, rfl, rs⟩ := tri_of hv2
      simp only [Tri.val]
      have b3 := alloc_below w2 (.cells #[.bool ts.s, .slice ts.a1 ts.n1 ts.c1, .slice ts.a2 ts.n2 ts.c2] 35)
      have X3 := BoxIs.new rs
      have T3 := ((unhide HT).keep hb2).keep b3
      obtain ⟨W3, hW3⟩ : ∃ W, w2.alloc (.cells #[.bool ts.s, .slice ts.a1 ts.n1 ts.c1, .slice ts.a2 ts.n2 ts.c2] 35) = W := ⟨_, rfl⟩
      obtain ⟨gs, hgs⟩ : ∃ g, w2.heap.size = g := ⟨_, rfl⟩
      rw [hW3] at X3 T3
      rw [hgs] at X3
      have HX3 := hide X3
      have HT3 := hide T3
      have ⟨z0, z1, z2⟩ := X3.cells _ (Below.refl _ _)
      have ⟨g0, g1, g2, _, _, _⟩ := box_cell T3.all
      have HCM := hide (cmpR_all ts.val tg.val (Stp.sec n i) L W3 X3.2 T3.rat 300 (sec_RS hn hn1 hlt) (unhide HRL) (by rw [KKe]; omega))
      clear hv2 hb2 rs b3 X3 T3 HT
      by_cases hc : L < Stp.sec n i
      · rw [cmpv_gt hc] at HCM
        have HS4 := hide ((unhide HS).more hc)
        clear hc
        go_wp2_with fail
        refine (unhide HCM).mono ?_
        rintro e W4 ⟨rfl, hb4⟩
        have HT4 := hide ((unhide HT3).keep hb4)
        have X4 := (unhide HX3).keep hb4
        have HXS := hide X4
        have HCC : Hid (∀ W, Below W4.heap.size W4 W → (fun w' : World => (w'.cell? ⟨gs, 0, none⟩ = some (.bool ts.s) ∧ w'.cell? ⟨gs, 1, none⟩ = some (.slice ts.a1 ts.n1 ts.c1) ∧ w'.cell? ⟨gs, 2, none⟩ = some (.slice ts.a2 ts.n2 ts.c2)) ∧ (w'.cell? ⟨G, 0, none⟩ = some (.bool tg.s) ∧ w'.cell? ⟨G, 1, none⟩ = some (.slice tg.a1 tg.n1 tg.c1) ∧ w'.cell? ⟨G, 2, none⟩ = some (.slice tg.a2 tg.n2 tg.c2))) W) := fun W hW => ⟨X4.cells W hW, BoxIs.cells (q := L) ⟨(unhide HT4).all, (unhide HT4).rat⟩ W hW⟩
        clear X4 hb4 HCM HX3 HT3 z0 z1 z2 g0 g1 g2 hW3 hgs
        go_wp2_with fail
        refine wp_region_till (fun w' : World => (w'.cell? ⟨gs, 0, none⟩ = some (.bool ts.s) ∧ w'.cell? ⟨gs, 1, none⟩ = some (.slice ts.a1 ts.n1 ts.c1) ∧ w'.cell? ⟨gs, 2, none⟩ = some (.slice ts.a2 ts.n2 ts.c2)) ∧ (w'.cell? ⟨G, 0, none⟩ = some (.bool tg.s) ∧ w'.cell? ⟨G, 1, none⟩ = some (.slice tg.a1 tg.n1 tg.c1) ∧ w'.cell? ⟨G, 2, none⟩ = some (.slice tg.a2 tg.n2 tg.c2))) 3 (by kernel_rfl) ?_
        have bd0 : Below W4.heap.size W4 W4.drew := (Below.refl _ _).drew
        obtain ⟨W4d, hW4d⟩ : ∃ W, W4.drew = W := ⟨_, rfl⟩
        rw [hW4d] at bd0 ⊢
        have hC0 : (fun w' : World => (w'.cell? ⟨gs, 0, none⟩ = some (.bool ts.s) ∧ w'.cell? ⟨gs, 1, none⟩ = some (.slice ts.a1 ts.n1 ts.c1) ∧ w'.cell? ⟨gs, 2, none⟩ = some (.slice ts.a2 ts.n2 ts.c2)) ∧ (w'.cell? ⟨G, 0, none⟩ = some (.bool tg.s) ∧ w'.cell? ⟨G, 1, none⟩ = some (.slice tg.a1 tg.n1 tg.c1) ∧ w'.cell? ⟨G, 2, none⟩ = some (.slice tg.a2 tg.n2 tg.c2))) W4d := unhide HCC _ bd0
        refine wpTill_pure (i := 0) (v := ?_) rfl (by kernel_rfl) (by kernel_rfl) (by kernel_rfl) (by kernel_rfl) (fun _ _ _ h => h) (Or.inl ⟨by rfl, ?_⟩) (fun _ => hC0) ?_
        rotate_left
        · intro w hSw; clear hSw; go_simp; (try with_reducible rfl)
        (try simp only [List.getElem_toArray, List.getElem_cons_succ, List.getElem_cons_zero])
        (try simp only [Act.put, List.setIfInBounds_toArray, List.set_cons_zero, List.set_cons_succ])
        refine wpTill_take (i := 1) (v := ?_) rfl (by kernel_rfl) (by kernel_rfl) (by kernel_rfl) (by kernel_rfl) (by kernel_rfl) (by kernel_rfl) (fun _ _ _ h => h) (Or.inl ⟨by rfl, ?_⟩) hC0 ?_
        rotate_left
        · intro w hSw; (try dsimp only at hSw); obtain ⟨⟨u0, u1, u2⟩, u3, u4, u5⟩ := hSw; go_simp; (try with_reducible rfl)
        (try simp only [List.getElem_toArray, List.getElem_cons_succ, List.getElem_cons_zero])
        (try simp only [Act.put, List.setIfInBounds_toArray, List.set_cons_zero, List.set_cons_succ])
        refine wpTill_pure (i := 2) (v := ?_) rfl (by kernel_rfl) (by kernel_rfl) (by kernel_rfl) (by kernel_rfl) (fun _ _ _ h => h) (Or.inl ⟨by rfl, ?_⟩) (fun _ => hC0) ?_
        rotate_left
        · intro w hSw; clear hSw; go_simp; (try with_reducible rfl)
        (try simp only [List.getElem_toArray, List.getElem_cons_succ, List.getElem_cons_zero])
        (try simp only [Act.put, List.setIfInBounds_toArray, List.set_cons_zero, List.set_cons_succ])
        have T9 := (unhide HT4).keep bd0
        have FIN := hide (T9.set ((unhide HXS).2.below bd0))
        have ⟨_, _, _, l0, l1, l2⟩ := box_cell T9.all
        have ⟨_, y0, y1, y2⟩ := hC0
        clear T9
        refine wpTill_one (k := 3) (by kernel_rfl) rfl (fun K hK => ?_)
        (try simp only [List.getElem_toArray, List.getElem_cons_succ, List.getElem_cons_zero])
        go_simp
        refine hK.out _ _ (fun h => absurd (h.symm.trans (by kernel_rfl)) Bool.false_ne_true) ?_
        clear hK K
        (try simp only [Act.put, List.setIfInBounds_toArray, List.set_cons_zero, List.set_cons_succ])
        refine wpTill_done (by kernel_rfl) ?_ _
        clear hC0 bd0 y0 y1 y2 l0 l1 l2 HCC hW4d
        go_wp2_with fail
        exact ⟨⟨i + 1, i, _, ts, rfl, by go_num, hlt, unhide HS4, unhide FIN⟩, by simp [intOf]; omega⟩
      · have hy := cmpv_le (Rat.not_lt.1 hc)
        obtain ⟨y, hy'⟩ : ∃ y, cmpv (Stp.sec n i) L = y := ⟨_, rfl⟩
        rw [hy'] at HCM hy
        have hy2 : ¬ 0 < y := by omega
        have HS4 := hide ((unhide HS).less hn hc)
        clear hc hy hy'
        go_wp2_with fail
        refine (unhide HCM).mono ?_
        rintro e W4 ⟨rfl, hb4⟩
        have HT4 := hide ((unhide HT3).keep hb4)
        clear hb4 HCM HX3 HT3 z0 z1 z2 g0 g1 g2 hW3 hgs
        go_wp2_with fail
        exact ⟨⟨i + 1, b, L, tg, rfl, by go_num, hlt, unhide HS4, unhide HT4⟩, by simp [intOf]; omega⟩
    · obtain rfl : i = n := by omega
      have f1 : ¬ (i : Int) < (i : Int) := by omega
      have HCC : Hid (∀ W, Below wr.heap.size wr W → (fun w' : World => (w'.cell? ⟨G, 0, none⟩ = some (.bool tg.s) ∧ w'.cell? ⟨G, 1, none⟩ = some (.slice tg.a1 tg.n1 tg.c1) ∧ w'.cell? ⟨G, 2, none⟩ = some (.slice tg.a2 tg.n2 tg.c2))) W) := fun W hW => BoxIs.cells (q := L) ⟨T.all, T.rat⟩ W hW
      clear T hS
      go_wp2_with fail
      refine wp_region_till (fun w' : World => (w'.cell? ⟨G, 0, none⟩ = some (.bool tg.s) ∧ w'.cell? ⟨G, 1, none⟩ = some (.slice tg.a1 tg.n1 tg.c1) ∧ w'.cell? ⟨G, 2, none⟩ = some (.slice tg.a2 tg.n2 tg.c2))) 3 (by kernel_rfl) ?_
      have bd0 : Below wr.heap.size wr wr.drew := (Below.refl _ _).drew
      obtain ⟨Wd, hWd⟩ : ∃ W, wr.drew = W := ⟨_, rfl⟩
      rw [hWd] at bd0 ⊢
      have hC0 : (fun w' : World => (w'.cell? ⟨G, 0, none⟩ = some (.bool tg.s) ∧ w'.cell? ⟨G, 1, none⟩ = some (.slice tg.a1 tg.n1 tg.c1) ∧ w'.cell? ⟨G, 2, none⟩ = some (.slice tg.a2 tg.n2 tg.c2))) Wd := unhide HCC _ bd0
      refine wpTill_pure (i := 0) (v := ?_) rfl (by kernel_rfl) (by kernel_rfl) (by kernel_rfl) (by kernel_rfl) (fun _ _ _ h => h) (Or.inl ⟨by rfl, ?_⟩) (fun _ => hC0) ?_
      rotate_left
      · intro w hSw; clear hSw; go_simp; (try with_reducible rfl)
      (try simp only [List.getElem_toArray, List.getElem_cons_succ, List.getElem_cons_zero])
      (try simp only [Act.put, List.setIfInBounds_toArray, List.set_cons_zero, List.set_cons_succ])
      refine wpTill_take (i := 1) (v := ?_) rfl (by kernel_rfl) (by kernel_rfl) (by kernel_rfl) (by kernel_rfl) (by kernel_rfl) (by kernel_rfl) (fun _ _ _ h => h) (Or.inl ⟨by rfl, ?_⟩) hC0 ?_
      rotate_left
      · intro w hSw; (try dsimp only at hSw); obtain ⟨u0, u1, u2⟩ := hSw; go_simp; (try with_reducible rfl)
      (try simp only [List.getElem_toArray, List.getElem_cons_succ, List.getElem_cons_zero])
      (try simp only [Act.put, List.setIfInBounds_toArray, List.set_cons_zero, List.set_cons_succ])
      refine wpTill_pure (i := 2) (v := ?_) rfl (by kernel_rfl) (by kernel_rfl) (by kernel_rfl) (by kernel_rfl) (fun _ _ _ h => h) (Or.inl ⟨by rfl, ?_⟩) (fun _ => hC0) ?_
      rotate_left
      · intro w hSw; clear hSw; go_simp; (try with_reducible rfl)
      (try simp only [List.getElem_toArray, List.getElem_cons_succ, List.getElem_cons_zero])
      (try simp only [Act.put, List.setIfInBounds_toArray, List.set_cons_zero, List.set_cons_succ])
      have T9 := (unhide HT).keep bd0
      have ⟨y0, y1, y2, l0, l1, l2⟩ := box_cell T9.res
      have RB := hide (rat_boxed (w0 := w) T9.rat T9.res T9.bl T9.rl (.bool tg.s) (.slice tg.a1 tg.n1 tg.c1) (.slice tg.a2 tg.n2 tg.c2))
      clear T9
      refine wpTill_one (k := 3) (by kernel_rfl) rfl (fun K hK => ?_)
      (try simp only [List.getElem_toArray, List.getElem_cons_succ, List.getElem_cons_zero])
      go_simp
      refine hK.out _ _ (fun h => absurd (h.symm.trans (by kernel_rfl)) Bool.false_ne_true) ?_
      clear hK K
      (try simp only [Act.put, List.setIfInBounds_toArray, List.set_cons_zero, List.set_cons_succ])
      refine wpTill_pure (i := 4) (v := ?_) rfl (by kernel_rfl) (by kernel_rfl) (by kernel_rfl) (by kernel_rfl) (fun _ _ _ h => h) (Or.inl ⟨by rfl, ?_⟩) (fun h => absurd (h.symm.trans (by kernel_rfl)) Bool.false_ne_true) ?_
      rotate_left
      · intro w hSw; clear hSw; go_simp; (try with_reducible rfl)
      (try simp only [List.getElem_toArray, List.getElem_cons_succ, List.getElem_cons_zero])
      (try simp only [Act.put, List.setIfInBounds_toArray, List.set_cons_zero, List.set_cons_succ])
      refine wpTill_done (by kernel_rfl) ?_ _
      clear hC0 bd0 l0 l1 l2 HCC hWd
      go_wp2
      (try simp only [Exit.inBlock, Exit.then])
      have rb := unhide RB
      rcases unhide HS with ⟨h1, _⟩ | ⟨h1, h2, h3⟩
      · omega
      exact bodyPost_ret (v := .tuple #[.int .i64 (b : Int), .agg #[.bool tg.s, .slice tg.a1 tg.n1 tg.c1, .slice tg.a2 tg.n2 tg.c2], .nilIface]) (by simp [results, Tryd.results20, go_sem, y0, y1, y2]) rfl ⟨b, _, rfl, h1, by rw [← h2]; exact rb.1, fun r hr => by rw [← h2]; exact h3 r hr, rb.2⟩

end Go.Proofs.YtgpolilpgkhlkaaDoor
