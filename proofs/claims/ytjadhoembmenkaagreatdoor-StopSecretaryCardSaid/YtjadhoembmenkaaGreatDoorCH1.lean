/- The program's Chosen and Secretary, at every argument. -/
import Derived.WalkKit
import Derived.Test.YtjadhoembmenkaaGreatDoorA14
import Derived.Test.YtjadhoembmenkaaGreatDoorA15
import Derived.Test.YtjadhoembmenkaaGreatDoorA12
import Derived.Test.YtjadhoembmenkaaGreatDoorV2
import Derived.Test.YtjadhoembmenkaaGreatDoorX1
import Derived.Test.YtjadhoembmenkaaGreatDoorA16
namespace Go.Proofs.YtjadhoembmenkaaGreatDoor.Bth

/-- How likely each number is, for one another. -/
def pe (u d : Nat → Rat) : Nat → Rat
  | 0 => 1
  | n + 1 => pe u d n * u n / d n
/-- The first numbers together. -/
def ps (f : Nat → Rat) : Nat → Rat
  | 0 => 0
  | k + 1 => ps f k + f k

theorem ps_congr {f g : Nat → Rat} (k : Nat) (h : ∀ j, j < k → f j = g j) : ps f k = ps g k := by
  induction k with
  | zero => rfl
  | succ k ih => show ps f k + f k = ps g k + g k; rw [ih (fun j hj => h j (by omega)), h k (by omega)]
/-! Erlang -/
end Go.Proofs.YtjadhoembmenkaaGreatDoor.Bth
/-! Kaufman and Roberts -/
namespace Go.Proofs.YtjadhoembmenkaaGreatDoor.Bth
end Go.Proofs.YtjadhoembmenkaaGreatDoor.Bth
namespace Go.Proofs.YtjadhoembmenkaaGreatDoor.Lin
open Bth

theorem ps_mul (c : Rat) (f : Nat → Rat) (k : Nat) : ps (fun j => c * f j) k = c * ps f k := by
  induction k with
  | zero => show (0 : Rat) = c * 0; grind
  | succ k ih => show ps _ k + _ = c * (ps f k + f k); rw [ih]; grind
end Go.Proofs.YtjadhoembmenkaaGreatDoor.Lin
namespace Go.Proofs.YtjadhoembmenkaaGreatDoor.Stp
open Bth Lin

/-- The chance of the best one, where r are let go. -/
def sec (n r : Nat) : Rat := if r = 0 then 1 / (n : Rat) else (r : Rat) / (n : Rat) * ps (fun j => 1 / ((r + j : Nat) : Rat)) (n - r)
end Go.Proofs.YtjadhoembmenkaaGreatDoor.Stp
namespace Go.Proofs.YtjadhoembmenkaaGreatDoor
open Go.RowKit Go.Sort Go.Shelf Go.Dd

theorem divInt_bd (x y : Int) (hy : y ≠ 0) : (Rat.divInt x y).num.natAbs ≤ x.natAbs ∧ (Rat.divInt x y).den ≤ y.natAbs := by
  obtain ⟨m, hm, h1, h2⟩ := Rat.divInt_num_den (n := x) (d := y) (n' := (Rat.divInt x y).num) (d' := (Rat.divInt x y).den) (z' := (Rat.divInt x y).den_nz) (c := (Rat.divInt x y).reduced) hy rfl
  have hmn : 1 ≤ m.natAbs := by omega
  have e1 : x.natAbs = (Rat.divInt x y).num.natAbs * m.natAbs := by rw [← Int.natAbs_mul, ← h1]
  have e2 : y.natAbs = (Rat.divInt x y).den * m.natAbs := by
    have : y.natAbs = ((Rat.divInt x y).den * m).natAbs := by rw [← h2]
    rw [this, Int.natAbs_mul, Int.natAbs_natCast]
  rw [e1, e2]
  exact ⟨Nat.le_mul_of_pos_right _ hmn, Nat.le_mul_of_pos_right _ hmn⟩

end Go.Proofs.YtjadhoembmenkaaGreatDoor
namespace Go.Proofs.YtjadhoembmenkaaGreatDoor
open Go.RowKit Go.Sort Go.Shelf

theorem RS.sub' {a b : Rat} {i j : Nat} (ha : RS a i) (hb : RS b j) : RS (a - b) (i + j + 1) := by
  rw [Rat.sub_eq_add_neg]; exact ha.add hb.neg
theorem RS.div' {a b : Rat} {i j : Nat} (ha : RS a i) (hb : RS b j) (hz : b.num ≠ 0) : RS (a / b) (i + j) := by
  rw [Rat.div_def]; exact ha.mul (hb.inv hz)

end Go.Proofs.YtjadhoembmenkaaGreatDoor
namespace Go.Proofs.YtjadhoembmenkaaGreatDoor
open Go.RowKit Go.Sort Go.Shelf

theorem div_RS {x y : Int} (hx : 0 ≤ x) (hx1 : x ≤ 1000000) (hy : 1 ≤ y) (hy1 : y ≤ 1000000) : RS (Rat.divInt x y) 1 := by
  have h := divInt_bd x y (by omega)
  have e : Wd.pw 1 = 18446744073709551616 := by decide
  constructor
  · rw [e]; omega
  · rw [e]; omega
/-- What is summed: r / (r + j). -/
def cvs (r k : Nat) : Rat := Bth.ps (fun j => Rat.divInt (r : Int) ((r + j : Nat) : Int)) k
theorem cvs_RS {r : Nat} (h1 : 1 ≤ r) (hr : r ≤ 1000) : ∀ k, k ≤ 1000 → RS (cvs r k) (2 * k + 1)
  | 0, _ => RS.zero.mono (by omega)
  | k + 1, hk => RS.mono ((cvs_RS h1 hr k (by omega)).add (div_RS (x := (r : Int)) (y := ((r + k : Nat) : Int)) (by omega) (by omega) (by omega) (by omega))) (by omega)
theorem sec_is {n r : Nat} (h0 : r ≠ 0) : cvs r (n - r) * Rat.divInt 1 (n : Int) = Stp.sec n r := by
  have e1 : cvs r (n - r) = (r : Rat) * Bth.ps (fun j => 1 / ((r + j : Nat) : Rat)) (n - r) := by
    unfold cvs
    rw [← Lin.ps_mul]
    exact Bth.ps_congr _ (fun j _ => by
      rw [Rat.divInt_eq_div, Rat.div_def, Rat.div_def, Rat.one_mul]
      rfl)
  have e2 : Rat.divInt 1 (n : Int) = ((n : Nat) : Rat)⁻¹ := by
    rw [Rat.divInt_eq_div, Rat.div_def]
    show (1 : Rat) * _ = _
    rw [Rat.one_mul]
    rfl
  unfold Stp.sec
  rw [if_neg h0, e1, e2, Rat.div_def]
  grind
theorem sec_zero {n : Nat} : Rat.divInt 1 (n : Int) = Stp.sec n 0 := by
  unfold Stp.sec
  rw [if_pos rfl, Rat.divInt_eq_div]
  rfl
theorem sec_RS {n r : Nat} (hn : 1 ≤ n) (hn1 : n ≤ 100) (hr : r < n) : RS (Stp.sec n r) 300 := by
  by_cases h0 : r = 0
  · subst h0
    rw [← sec_zero]
    exact (div_RS (x := 1) (y := (n : Int)) (by omega) (by omega) (by omega) (by omega)).mono (by omega)
  · rw [← sec_is h0]
    exact RS.mono ((cvs_RS (r := r) (by omega) (by omega) (n - r) (by omega)).mul (div_RS (x := 1) (y := (n : Int)) (by omega) (by omega) (by omega) (by omega))) (by omega)
theorem sec_pos {n : Nat} (hn : 1 ≤ n) : 0 < Stp.sec n 0 := by
  unfold Stp.sec
  rw [if_pos rfl, Rat.div_def, Rat.one_mul]
  exact Rat.inv_pos.2 (by exact_mod_cast hn)
set_option maxHeartbeats 16000000 in
set_option maxRecDepth 100000 in
set_option linter.unusedSimpArgs false in
theorem part_any (x y : Int) (hx : 0 ≤ x) (hx1 : x ≤ 1000000) (hy : 1 ≤ y) (hy1 : y ≤ 1000000) (w : World) : Calls Tryz.prog 49 #[.int .i64 x, .int .i64 y] w fun e w' => ∃ v, e = .returned v ∧ RatIs w' v (Rat.divInt x y) ∧ Below w.heap.size w w' := by
  have b0 := alloc_below w (.cells #[.bool false, .slice none 0 0, .slice none 0 0] 29)
  have X0 := BoxIs.new (w := w) (t := zTri) (q := 0) (rat_zero _)
  obtain ⟨W0, hW0⟩ : ∃ W, w.alloc (.cells #[.bool false, .slice none 0 0, .slice none 0 0] 29) = W := ⟨_, rfl⟩
  obtain ⟨R, hR⟩ : ∃ R, w.heap.size = R := ⟨_, rfl⟩
  have X0' : BoxIs W0 R zTri 0 := by rw [← hW0, ← hR]; exact X0
  rw [hW0] at b0
  have HX0 := hide X0'
  have HB0 := hide b0
  have HRG : Hid (w.heap.size ≤ R) := by show _ ≤ R; omega
  clear X0 X0' b0
  go_enter Tryz.func49, Tryz.ntmps49
  go_wp2_with fail
  clear hW0 hR
  refine (of_any x y (by omega) (by omega) (by omega) (by omega) (by omega) W0).mono ?_
  rintro e w1 ⟨v1, rfl, hv1, hb1⟩
  obtain ⟨tx, rfl, rx⟩ := tri_of hv1
  simp only [Tri.val]
  have b2 := alloc_below w1 (.cells #[.bool tx.s, .slice tx.a1 tx.n1 tx.c1, .slice tx.a2 tx.n2 tx.c2] 29)
  have X2 := BoxIs.new rx
  obtain ⟨W2, hW2⟩ : ∃ W, w1.alloc (.cells #[.bool tx.s, .slice tx.a1 tx.n1 tx.c1, .slice tx.a2 tx.n2 tx.c2] 29) = W := ⟨_, rfl⟩
  obtain ⟨g2, hg2⟩ : ∃ g, w1.heap.size = g := ⟨_, rfl⟩
  rw [hW2] at b2 X2
  rw [hg2] at X2
  have Y0 := ((unhide HX0).keep hb1).keep b2
  have ⟨l0, l1, l2⟩ := Y0.free
  have ⟨y0, y1, y2⟩ := Y0.cells _ (Below.refl _ _)
  have ⟨z0, z1, z2⟩ := X2.cells _ (Below.refl _ _)
  have RB := hide (rat_boxed (w0 := w) X2.2 Y0.1 (below_step (unhide HB0) (below_step hb1 b2)) (unhide HRG) (.bool tx.s) (.slice tx.a1 tx.n1 tx.c1) (.slice tx.a2 tx.n2 tx.c2))
  clear hv1 hb1 rx b2 X2 Y0
  go_wp2
  (try simp only [Exit.inBlock, Exit.then])
  have rb := unhide RB
  exact bodyPost_ret (v := .agg #[.bool tx.s, .slice tx.a1 tx.n1 tx.c1, .slice tx.a2 tx.n2 tx.c2]) (by simp [results, Tryz.results49, go_sem, y0, y1, y2]) rfl ⟨_, rfl, rb.1, rb.2⟩
set_option maxHeartbeats 16000000 in
set_option maxRecDepth 100000 in
set_option linter.unusedSimpArgs false in
theorem chosen_any (n r : Nat) (hn : 1 ≤ n) (hn1 : n ≤ 100) (hr : r < n) (w : World) : Calls Tryz.prog 26 #[.int .i64 (n : Int), .int .i64 (r : Int)] w fun e w' => ∃ v, e = .returned v ∧ RatIs w' v (Stp.sec n r) ∧ Below w.heap.size w w' := by
  have KKe : KK = 1099511627776 := rfl
  by_cases h0 : r = 0
  · have e0 : ((r : Int) == 0) = true := by rw [beq_iff_eq]; omega
    have HE : Hid (Rat.divInt 1 (n : Int) = Stp.sec n r) := by show _ = _; rw [h0]; exact sec_zero
    have b0 := alloc_below w (.cells #[.bool false, .slice none 0 0, .slice none 0 0] 29)
    have X0 := BoxIs.new (w := w) (t := zTri) (q := 0) (rat_zero _)
    obtain ⟨W0, hW0⟩ : ∃ W, w.alloc (.cells #[.bool false, .slice none 0 0, .slice none 0 0] 29) = W := ⟨_, rfl⟩
    obtain ⟨R, hR⟩ : ∃ R, w.heap.size = R := ⟨_, rfl⟩
    have X0' : BoxIs W0 R zTri 0 := by rw [← hW0, ← hR]; exact X0
    rw [hW0] at b0
    have HX0 := hide X0'
    have HB0 := hide b0
    have HRG : Hid (w.heap.size ≤ R) := by show _ ≤ R; omega
    clear X0 X0' b0 h0
    go_enter Tryz.func26, Tryz.ntmps26
    go_wp2_with fail
    clear hW0 hR
    refine (part_any 1 (n : Int) (by omega) (by omega) (by omega) (by omega) W0).mono ?_
    rintro e w1 ⟨v1, rfl, hv1, hb1⟩
    obtain ⟨tx, rfl, rx⟩ := tri_of hv1
    simp only [Tri.val]
    have Y0 := (unhide HX0).keep hb1
    have ⟨l0, l1, l2⟩ := Y0.free
    have ⟨y0, y1, y2⟩ := Y0.cells _ (Below.refl _ _)
    have RB := hide (rat_boxed (w0 := w) rx Y0.1 (below_step (unhide HB0) hb1) (unhide HRG) (.bool tx.s) (.slice tx.a1 tx.n1 tx.c1) (.slice tx.a2 tx.n2 tx.c2))
    clear hv1 hb1 rx Y0
    go_wp2
    (try simp only [Exit.inBlock, Exit.then])
    have rb := unhide RB
    exact bodyPost_ret (v := .agg #[.bool tx.s, .slice tx.a1 tx.n1 tx.c1, .slice tx.a2 tx.n2 tx.c2]) (by simp [results, Tryz.results26, go_sem, y0, y1, y2]) rfl ⟨_, rfl, by rw [← unhide HE]; exact rb.1, rb.2⟩
  have e0 : ((r : Int) == 0) = false := by rw [beq_eq_false_iff_ne]; omega
  have HE := hide (sec_is (n := n) h0)
  have hr1 : 1 ≤ r := by omega
  have hb0 : Below (w.alloc (.cells #[.bool false, .slice none 0 0, .slice none 0 0] 29)).heap.size (w.alloc (.cells #[.bool false, .slice none 0 0, .slice none 0 0] 29)) (w.alloc (.cells #[.bool false, .slice none 0 0, .slice none 0 0] 29)) := Below.refl _ _
  have HS0 := hide (BoxAt.start (t := zTri) hb0 (rat_zero _))
  obtain ⟨W1, hW1⟩ : ∃ W, w.alloc (.cells #[.bool false, .slice none 0 0, .slice none 0 0] 29) = W := ⟨_, rfl⟩
  rw [hW1] at HS0
  obtain ⟨G, hG⟩ : ∃ G, W1.heap.size = G := ⟨_, rfl⟩
  obtain ⟨R, hR⟩ : ∃ R, w.heap.size = R := ⟨_, rfl⟩
  rw [hG, hR] at HS0
  obtain ⟨W2, hW2⟩ : ∃ W, W1.alloc (.cells #[.bool false, .slice none 0 0, .slice none 0 0] 29) = W := ⟨_, rfl⟩
  have HS1 : Hid (BoxAt w W2 R G (cvs r 0) zTri) := by rw [← hW2]; exact unhide HS0
  clear HS0 hb0 h0
  go_enter Tryz.func26, Tryz.ntmps26
  go_wp2_with fail
  clear hW1 hW2 hG hR
  go_loopw [6] (fun va wr => ∃ (k : Nat) (tg : Tri), va = .int .i64 ((r + k : Nat) : Int) ∧ r + k ≤ n ∧ BoxAt w wr R G (cvs r k) tg) (fun va _ => n - (intOf va).toNat)
  case atStart => exact ⟨0, zTri, rfl, by omega, unhide HS1⟩
  case round =>
    obtain ⟨k, tg, rfl, hk, T⟩ := hrel
    clear HS1
    have HCC : Hid (∀ W, Below wr.heap.size wr W → (fun w' : World => w'.cell? ⟨G, 0, none⟩ = some (.bool tg.s) ∧ w'.cell? ⟨G, 1, none⟩ = some (.slice tg.a1 tg.n1 tg.c1) ∧ w'.cell? ⟨G, 2, none⟩ = some (.slice tg.a2 tg.n2 tg.c2)) W) := fun W hW => BoxIs.cells (q := cvs r k) ⟨T.all, T.rat⟩ W hW
    have HT := hide T
    have HR1 := hide ((cvs_RS hr1 (by omega) k (by omega)).mono (show 2 * k + 1 ≤ 300 by omega))
    have HJ : Hid (300 + 300 + 1 ≤ KK) := by show _ ≤ _; rw [KKe]; omega
    by_cases hlt : r + k < n
    · have f1 : ((r + k : Nat) : Int) < (n : Int) := by omega
      have HR2 := hide ((div_RS (x := (r : Int)) (y := ((r + k : Nat) : Int)) (by omega) (by omega) (by omega) (by omega)).mono (show 1 ≤ 300 by omega))
      have f2 : IntKind.i64.wrap (((r + k : Nat) : Int) + 1) = ((r + (k + 1) : Nat) : Int) := by rw [IntKind.wrap_i64]; omega
      clear T
      go_wp2_with fail
      refine wp_region_till (fun w' : World => w'.cell? ⟨G, 0, none⟩ = some (.bool tg.s) ∧ w'.cell? ⟨G, 1, none⟩ = some (.slice tg.a1 tg.n1 tg.c1) ∧ w'.cell? ⟨G, 2, none⟩ = some (.slice tg.a2 tg.n2 tg.c2)) 5 (by kernel_rfl) ?_
      have bd0 : Below wr.heap.size wr wr.drew := (Below.refl _ _).drew
      have hC0 : (fun w' : World => w'.cell? ⟨G, 0, none⟩ = some (.bool tg.s) ∧ w'.cell? ⟨G, 1, none⟩ = some (.slice tg.a1 tg.n1 tg.c1) ∧ w'.cell? ⟨G, 2, none⟩ = some (.slice tg.a2 tg.n2 tg.c2)) wr.drew := unhide HCC _ bd0
      refine wpTill_take (i := 0) (v := ?_) rfl (by kernel_rfl) (by kernel_rfl) (by kernel_rfl) (by kernel_rfl) (by kernel_rfl) (by kernel_rfl) (fun _ _ _ h => h) (Or.inl ⟨by rfl, ?_⟩) hC0 ?_
      rotate_left
      · intro w hSw; (try dsimp only at hSw); obtain ⟨u0, u1, u2⟩ := hSw; go_simp; (try with_reducible rfl)
      (try simp only [List.getElem_toArray, List.getElem_cons_succ, List.getElem_cons_zero])
      (try simp only [Act.put, List.setIfInBounds_toArray, List.set_cons_zero, List.set_cons_succ])
      refine wpTill_pure (i := 1) (v := ?_) rfl (by kernel_rfl) (by kernel_rfl) (by kernel_rfl) (by kernel_rfl) (fun _ _ _ h => h) (Or.inl ⟨by rfl, ?_⟩) (fun _ => hC0) ?_
      rotate_left
      · intro w hSw; clear hSw; go_simp; (try with_reducible rfl)
      (try simp only [List.getElem_toArray, List.getElem_cons_succ, List.getElem_cons_zero])
      (try simp only [Act.put, List.setIfInBounds_toArray, List.set_cons_zero, List.set_cons_succ])
      refine wpTill_pure (i := 2) (v := ?_) rfl (by kernel_rfl) (by kernel_rfl) (by kernel_rfl) (by kernel_rfl) (fun _ _ _ h => h) (Or.inl ⟨by rfl, ?_⟩) (fun _ => hC0) ?_
      rotate_left
      · intro w hSw; clear hSw; go_simp; (try with_reducible rfl)
      (try simp only [List.getElem_toArray, List.getElem_cons_succ, List.getElem_cons_zero])
      (try simp only [Act.put, List.setIfInBounds_toArray, List.set_cons_zero, List.set_cons_succ])
      refine wpTill_one (k := 3) (by kernel_rfl) rfl (fun K hK => ?_)
      (try simp only [List.getElem_toArray, List.getElem_cons_succ, List.getElem_cons_zero])
      go_simp
      refine (part_any (r : Int) ((r + k : Nat) : Int) (by omega) (by omega) (by omega) (by omega) _).mono ?_
      rintro e xw_1 ⟨xv_1, rfl, hv_1, hb_1⟩
      have cc_1 := below_step bd0 hb_1
      have hC_1 : (fun w' : World => w'.cell? ⟨G, 0, none⟩ = some (.bool tg.s) ∧ w'.cell? ⟨G, 1, none⟩ = some (.slice tg.a1 tg.n1 tg.c1) ∧ w'.cell? ⟨G, 2, none⟩ = some (.slice tg.a2 tg.n2 tg.c2)) xw_1 := unhide HCC _ cc_1
      refine hK.out _ _ (fun _ => hC_1) ?_
      clear hK K
      (try simp only [Act.put, List.setIfInBounds_toArray, List.set_cons_zero, List.set_cons_succ])
      refine wpTill_one (k := 4) (by kernel_rfl) rfl (fun K hK => ?_)
      (try simp only [List.getElem_toArray, List.getElem_cons_succ, List.getElem_cons_zero])
      go_simp
      refine (addR_any tg.val _ _ _ _ ((unhide HT).rat.below cc_1) hv_1 _ (unhide HR1) (unhide HR2) (unhide HJ)).mono ?_
      rintro e xw_2 ⟨xv_2, rfl, hv_2, hb_2⟩
      have cc_2 := below_step cc_1 hb_2
      have hC_2 : (fun w' : World => w'.cell? ⟨G, 0, none⟩ = some (.bool tg.s) ∧ w'.cell? ⟨G, 1, none⟩ = some (.slice tg.a1 tg.n1 tg.c1) ∧ w'.cell? ⟨G, 2, none⟩ = some (.slice tg.a2 tg.n2 tg.c2)) xw_2 := unhide HCC _ cc_2
      refine hK.out _ _ (fun _ => hC_2) ?_
      clear hK K
      (try simp only [Act.put, List.setIfInBounds_toArray, List.set_cons_zero, List.set_cons_succ])
      obtain ⟨t9, rfl, hr9⟩ := tri_of hv_2
      have T9 := (unhide HT).keep cc_2
      have FIN := hide (T9.set hr9)
      have ⟨_, _, _, l0, l1, l2⟩ := box_cell T9.all
      have ⟨y0, y1, y2⟩ := hC_2
      simp only [Tri.val]
      clear T9 hv_1 hv_2 hr9
      refine wpTill_one (k := 5) (by kernel_rfl) rfl (fun K hK => ?_)
      (try simp only [List.getElem_toArray, List.getElem_cons_succ, List.getElem_cons_zero])
      go_simp
      refine hK.out _ _ (fun h => absurd (h.symm.trans (by kernel_rfl)) Bool.false_ne_true) ?_
      clear hK K
      (try simp only [Act.put, List.setIfInBounds_toArray, List.set_cons_zero, List.set_cons_succ])
      refine wpTill_done (by kernel_rfl) ?_ _
      clear hC0 hC_1 hC_2 cc_1 cc_2 bd0 hb_1 hb_2 y0 y1 y2 l0 l1 l2 HCC HT
      go_wp2_with fail
      exact ⟨⟨k + 1, t9, rfl, by omega, unhide FIN⟩, by simp [intOf]; omega⟩
    · have hkn : k = n - r := by omega
      have f1 : ¬ ((r + k : Nat) : Int) < (n : Int) := by omega
      have HKN := hide hkn
      have HR2 := hide ((div_RS (x := 1) (y := (n : Int)) (by omega) (by omega) (by omega) (by omega)).mono (show 1 ≤ 300 by omega))
      clear T hkn
      go_wp2_with fail
      refine wp_region_till (fun w' : World => w'.cell? ⟨G, 0, none⟩ = some (.bool tg.s) ∧ w'.cell? ⟨G, 1, none⟩ = some (.slice tg.a1 tg.n1 tg.c1) ∧ w'.cell? ⟨G, 2, none⟩ = some (.slice tg.a2 tg.n2 tg.c2)) 4 (by kernel_rfl) ?_
      have bd0 : Below wr.heap.size wr wr.drew := (Below.refl _ _).drew
      have hC0 : (fun w' : World => w'.cell? ⟨G, 0, none⟩ = some (.bool tg.s) ∧ w'.cell? ⟨G, 1, none⟩ = some (.slice tg.a1 tg.n1 tg.c1) ∧ w'.cell? ⟨G, 2, none⟩ = some (.slice tg.a2 tg.n2 tg.c2)) wr.drew := unhide HCC _ bd0
      refine wpTill_take (i := 0) (v := ?_) rfl (by kernel_rfl) (by kernel_rfl) (by kernel_rfl) (by kernel_rfl) (by kernel_rfl) (by kernel_rfl) (fun _ _ _ h => h) (Or.inl ⟨by rfl, ?_⟩) hC0 ?_
      rotate_left
      · intro w hSw; (try dsimp only at hSw); obtain ⟨u0, u1, u2⟩ := hSw; go_simp; (try with_reducible rfl)
      (try simp only [List.getElem_toArray, List.getElem_cons_succ, List.getElem_cons_zero])
      (try simp only [Act.put, List.setIfInBounds_toArray, List.set_cons_zero, List.set_cons_succ])
      refine wpTill_pure (i := 1) (v := ?_) rfl (by kernel_rfl) (by kernel_rfl) (by kernel_rfl) (by kernel_rfl) (fun _ _ _ h => h) (Or.inl ⟨by rfl, ?_⟩) (fun _ => hC0) ?_
      rotate_left
      · intro w hSw; clear hSw; go_simp; (try with_reducible rfl)
      (try simp only [List.getElem_toArray, List.getElem_cons_succ, List.getElem_cons_zero])
      (try simp only [Act.put, List.setIfInBounds_toArray, List.set_cons_zero, List.set_cons_succ])
      refine wpTill_one (k := 2) (by kernel_rfl) rfl (fun K hK => ?_)
      (try simp only [List.getElem_toArray, List.getElem_cons_succ, List.getElem_cons_zero])
      go_simp
      refine (part_any 1 (n : Int) (by omega) (by omega) (by omega) (by omega) _).mono ?_
      rintro e xw_1 ⟨xv_1, rfl, hv_1, hb_1⟩
      have cc_1 := below_step bd0 hb_1
      have hC_1 : (fun w' : World => w'.cell? ⟨G, 0, none⟩ = some (.bool tg.s) ∧ w'.cell? ⟨G, 1, none⟩ = some (.slice tg.a1 tg.n1 tg.c1) ∧ w'.cell? ⟨G, 2, none⟩ = some (.slice tg.a2 tg.n2 tg.c2)) xw_1 := unhide HCC _ cc_1
      refine hK.out _ _ (fun _ => hC_1) ?_
      clear hK K
      (try simp only [Act.put, List.setIfInBounds_toArray, List.set_cons_zero, List.set_cons_succ])
      refine wpTill_one (k := 3) (by kernel_rfl) rfl (fun K hK => ?_)
      (try simp only [List.getElem_toArray, List.getElem_cons_succ, List.getElem_cons_zero])
      go_simp
      refine (mulR_any tg.val _ _ _ _ ((unhide HT).rat.below cc_1) hv_1 _ (unhide HR1) (unhide HR2) (unhide HJ)).mono ?_
      rintro e xw_2 ⟨xv_2, rfl, hv_2, hb_2⟩
      have cc_2 := below_step cc_1 hb_2
      have hC_2 : (fun w' : World => w'.cell? ⟨G, 0, none⟩ = some (.bool tg.s) ∧ w'.cell? ⟨G, 1, none⟩ = some (.slice tg.a1 tg.n1 tg.c1) ∧ w'.cell? ⟨G, 2, none⟩ = some (.slice tg.a2 tg.n2 tg.c2)) xw_2 := unhide HCC _ cc_2
      refine hK.out _ _ (fun _ => hC_2) ?_
      clear hK K
      (try simp only [Act.put, List.setIfInBounds_toArray, List.set_cons_zero, List.set_cons_succ])
      obtain ⟨t9, rfl, hr9⟩ := tri_of hv_2
      have T9 := (unhide HT).keep cc_2
      have ⟨y0, y1, y2, l0, l1, l2⟩ := box_cell T9.res
      have RB := hide (rat_boxed (w0 := w) hr9 T9.res T9.bl T9.rl (.bool t9.s) (.slice t9.a1 t9.n1 t9.c1) (.slice t9.a2 t9.n2 t9.c2))
      simp only [Tri.val]
      clear T9 hv_1 hv_2 hr9
      refine wpTill_one (k := 4) (by kernel_rfl) rfl (fun K hK => ?_)
      (try simp only [List.getElem_toArray, List.getElem_cons_succ, List.getElem_cons_zero])
      go_simp
      refine hK.out _ _ (fun h => absurd (h.symm.trans (by kernel_rfl)) Bool.false_ne_true) ?_
      clear hK K
      (try simp only [Act.put, List.setIfInBounds_toArray, List.set_cons_zero, List.set_cons_succ])
      refine wpTill_done (by kernel_rfl) ?_ _
      clear hC0 hC_1 hC_2 cc_1 cc_2 bd0 hb_1 hb_2 l0 l1 l2 HCC HT
      go_wp2
      (try simp only [Exit.inBlock, Exit.then])
      have rb := unhide RB
      exact bodyPost_ret (v := .agg #[.bool t9.s, .slice t9.a1 t9.n1 t9.c1, .slice t9.a2 t9.n2 t9.c2]) (by simp [results, Tryz.results26, go_sem, y0, y1, y2]) rfl ⟨_, rfl, by rw [← unhide HE, ← unhide HKN]; exact rb.1, rb.2⟩
set_option maxHeartbeats 16000000 in
set_option maxRecDepth 100000 in
set_option linter.unusedSimpArgs false in
theorem mayCome_all (n : Int) (_h0 : -9223372036854775808 ≤ n) (_h1 : n ≤ 9223372036854775807) (w : World) : Calls Tryz.prog 25 #[.int .i64 n] w fun e w' => e = .returned (.bool (decide (1 ≤ n) && decide (n ≤ 100))) ∧ Below w.heap.size w w' := by
  by_cases c1 : 1 ≤ n
  · by_cases c2 : n ≤ 100
    · have e1 : (decide (1 ≤ n) && decide (n ≤ 100)) = true := by simp [c1, c2]
      rw [e1]
      go_enter Tryz.func25, Tryz.ntmps25
      go_wp2
      go_ret
      exact ⟨rfl, Below.refl _ _⟩
    · have e1 : (decide (1 ≤ n) && decide (n ≤ 100)) = false := by simp [c2]
      have c3 : decide (n ≤ 100) = false := by simp [c2]
      rw [e1]
      go_enter Tryz.func25, Tryz.ntmps25
      go_wp2
      go_ret
      exact ⟨rfl, Below.refl _ _⟩
  · have e1 : (decide (1 ≤ n) && decide (n ≤ 100)) = false := by simp [c1]
    have c3 : decide (1 ≤ n) = false := by simp [c1]
    rw [e1]
    go_enter Tryz.func25, Tryz.ntmps25
    go_wp2
    go_ret
    exact ⟨rfl, Below.refl _ _⟩

theorem mayCome_any (n : Nat) (hn : 1 ≤ n) (hn1 : n ≤ 100) (w : World) : Calls Tryz.prog 25 #[.int .i64 (n : Int)] w fun e w' => e = .returned (.bool true) ∧ Below w.heap.size w w' :=
  (mayCome_all (n : Int) (by omega) (by omega) w).mono fun e w' h => by
    obtain ⟨rfl, hb⟩ := h
    have e1 : (decide ((1 : Int) ≤ (n : Int)) && decide ((n : Int) ≤ 100)) = true := by rw [decide_eq_true (by omega), decide_eq_true (by omega)]; rfl
    rw [e1]
    exact ⟨rfl, hb⟩
set_option maxHeartbeats 16000000 in
set_option maxRecDepth 100000 in
set_option linter.unusedSimpArgs false in
theorem Chosen_any (n r : Nat) (hn : 1 ≤ n) (hn1 : n ≤ 100) (hr : r < n) (w : World) : Calls Tryz.prog 8 #[.int .i64 (n : Int), .int .i64 (r : Int)] w fun e w' => ∃ v, e = .returned (.tuple #[v, .nilIface]) ∧ RatIs w' v (Stp.sec n r) ∧ Below w.heap.size w w' := by
  have f0 : ¬ (r : Int) < 0 := by omega
  have f1 : ¬ (n : Int) ≤ (r : Int) := by omega
  have b0 := alloc_below w (.cells #[.bool false, .slice none 0 0, .slice none 0 0] 29)
  have X0 := BoxIs.new (w := w) (t := zTri) (q := 0) (rat_zero _)
  obtain ⟨W0, hW0⟩ : ∃ W, w.alloc (.cells #[.bool false, .slice none 0 0, .slice none 0 0] 29) = W := ⟨_, rfl⟩
  obtain ⟨R, hR⟩ : ∃ R, w.heap.size = R := ⟨_, rfl⟩
  have X0' : BoxIs W0 R zTri 0 := by rw [← hW0, ← hR]; exact X0
  rw [hW0] at b0
  have HX0 := hide X0'
  have HB0 := hide b0
  have HRG : Hid (w.heap.size ≤ R) := by show _ ≤ R; omega
  clear X0 X0' b0
  go_enter Tryz.func8, Tryz.ntmps8
  go_wp2_with fail
  clear hW0 hR
  refine (mayCome_any n hn hn1 W0).mono ?_
  rintro e w1 ⟨rfl, hb1⟩
  have HX1 := hide ((unhide HX0).keep hb1)
  have HB1 := hide (below_step (unhide HB0) hb1)
  clear hb1 HX0 HB0
  go_wp2_with fail
  refine (chosen_any n r hn hn1 hr w1).mono ?_
  rintro e w2 ⟨v2, rfl, hv2, hb2⟩
  obtain ⟨tx, rfl, rx⟩ := tri_of hv2
  simp only [Tri.val]
  have Y0 := (unhide HX1).keep hb2
  have ⟨l0, l1, l2⟩ := Y0.free
  have ⟨y0, y1, y2⟩ := Y0.cells _ (Below.refl _ _)
  have RB := hide (rat_boxed (w0 := w) rx Y0.1 (below_step (unhide HB1) hb2) (unhide HRG) (.bool tx.s) (.slice tx.a1 tx.n1 tx.c1) (.slice tx.a2 tx.n2 tx.c2))
  clear hv2 hb2 rx Y0
  go_wp2
  (try simp only [Exit.inBlock, Exit.then])
  have rb := unhide RB
  exact bodyPost_ret (v := .tuple #[.agg #[.bool tx.s, .slice tx.a1 tx.n1 tx.c1, .slice tx.a2 tx.n2 tx.c2], .nilIface]) (by simp [results, Tryz.results8, go_sem, y0, y1, y2]) rfl ⟨_, rfl, rb.1, rb.2⟩
set_option maxHeartbeats 16000000 in
set_option maxRecDepth 100000 in
set_option linter.unusedSimpArgs false in
theorem Chosen_err (n r : Int) (h0 : -9223372036854775808 ≤ n) (h1 : n ≤ 9223372036854775807) (h2 : -9223372036854775808 ≤ r) (h3 : r ≤ 9223372036854775807) (hbad : ¬ (1 ≤ n ∧ n ≤ 100 ∧ 0 ≤ r ∧ r < n)) (w : World) : Calls Tryz.prog 8 #[.int .i64 n, .int .i64 r] w fun e w' => e = .returned (.tuple #[.agg #[.bool false, .slice none 0 0, .slice none 0 0], .iface 22 (.int .i64 2)]) ∧ Below w.heap.size w w' := by
  have b0 := alloc_below w (.cells #[.bool false, .slice none 0 0, .slice none 0 0] 29)
  have X0 := BoxIs.new (w := w) (t := zTri) (q := 0) (rat_zero _)
  obtain ⟨W0, hW0⟩ : ∃ W, w.alloc (.cells #[.bool false, .slice none 0 0, .slice none 0 0] 29) = W := ⟨_, rfl⟩
  obtain ⟨R, hR⟩ : ∃ R, w.heap.size = R := ⟨_, rfl⟩
  have X0' : BoxIs W0 R zTri 0 := by rw [← hW0, ← hR]; exact X0
  rw [hW0] at b0
  have HX0 := hide X0'
  have HB0 := hide b0
  have HRG : Hid (w.heap.size ≤ R) := by show _ ≤ R; omega
  have HMC := hide (mayCome_all n h0 h1 W0)
  have FIN : Hid (∀ W, Below W0.heap.size W0 W → (W.frozen? ⟨R, 0, none⟩ = false ∧ W.frozen? ⟨R, 1, none⟩ = false ∧ W.frozen? ⟨R, 2, none⟩ = false) ∧ (W.cell? ⟨R, 0, none⟩ = some (.bool false) ∧ W.cell? ⟨R, 1, none⟩ = some (.slice none 0 0) ∧ W.cell? ⟨R, 2, none⟩ = some (.slice none 0 0)) ∧ Below w.heap.size w (((W.setCell ⟨R, 0, none⟩ (.bool false)).setCell ⟨R, 1, none⟩ (.slice none 0 0)).setCell ⟨R, 2, none⟩ (.slice none 0 0))) := fun W hW => by
    have Y := (unhide HX0).keep hW
    exact ⟨Y.free, Y.cells _ (Below.refl _ _), (((below_step (unhide HB0) hW).setCell (p := ⟨R, 0, none⟩) (unhide HRG) _).setCell (p := ⟨R, 1, none⟩) (unhide HRG) _).setCell (p := ⟨R, 2, none⟩) (unhide HRG) _⟩
  clear X0 X0' b0
  go_enter Tryz.func8, Tryz.ntmps8
  go_wp2_with fail
  clear hW0 hR
  refine (unhide HMC).mono ?_
  rintro e w1 ⟨rfl, hb1⟩
  have ⟨⟨l0, l1, l2⟩, ⟨y0, y1, y2⟩, hB⟩ := unhide FIN w1 hb1
  have HBB := hide hB
  clear hb1 hB HMC
  by_cases c1 : 1 ≤ n ∧ n ≤ 100
  rotate_left
  · have e1 : (decide (1 ≤ n) && decide (n ≤ 100)) = false := by
      by_cases c : 1 ≤ n
      · have : ¬ n ≤ 100 := fun x => c1 ⟨c, x⟩
        simp [this]
      · simp [c]
    rw [e1]
    clear c1 e1 hbad
    go_wp2
    exact bodyPost_ret (v := .tuple #[.agg #[.bool false, .slice none 0 0, .slice none 0 0], .iface 22 (.int .i64 2)]) (by simp [results, Tryz.results8, go_sem, y0, y1, y2]) rfl ⟨rfl, unhide HBB⟩
  have e1 : (decide (1 ≤ n) && decide (n ≤ 100)) = true := by simp [c1.1, c1.2]
  rw [e1]
  by_cases c2 : r < 0
  · clear e1 hbad
    go_wp2
    exact bodyPost_ret (v := .tuple #[.agg #[.bool false, .slice none 0 0, .slice none 0 0], .iface 22 (.int .i64 2)]) (by simp [results, Tryz.results8, go_sem, y0, y1, y2]) rfl ⟨rfl, unhide HBB⟩
  · have c3 : n ≤ r := by
      by_cases c : n ≤ r
      · exact c
      · exact absurd ⟨c1.1, c1.2, by omega, by omega⟩ hbad
    clear e1 hbad
    go_wp2
    exact bodyPost_ret (v := .tuple #[.agg #[.bool false, .slice none 0 0, .slice none 0 0], .iface 22 (.int .i64 2)]) (by simp [results, Tryz.results8, go_sem, y0, y1, y2]) rfl ⟨rfl, unhide HBB⟩

end Go.Proofs.YtjadhoembmenkaaGreatDoor
