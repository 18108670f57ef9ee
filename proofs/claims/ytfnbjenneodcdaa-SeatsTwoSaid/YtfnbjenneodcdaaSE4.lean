/- seats.sold: what a class that comes first brings. -/
import Derived.Test.YtfnbjenneodcdaaSE3
namespace Go.Proofs.Ytfnbjenneodcdaa
open Go.RowKit Go.Sort Go.Shelf

/-- A law's cells, by its length. -/
theorem LawIs.open {w : World} {l : Sl} {qs : List Rat} {n : Nat} (h : LawIs w l.val qs) (hl : qs.length = n) (hp : 0 < n) : ∃ b o, l.a = some ⟨b, o, none⟩ ∧ b < w.heap.size ∧ ∀ j, j < n → ∃ t : Tri, w.cell? ⟨b, o + j * 3, none⟩ = some (.bool t.s) ∧ w.cell? ⟨b, o + j * 3 + 1, none⟩ = some (.slice t.a1 t.n1 t.c1) ∧ w.cell? ⟨b, o + j * 3 + 2, none⟩ = some (.slice t.a2 t.n2 t.c2) ∧ RatIs w t.val qs[j]! := by
  obtain ⟨a, c, e, _, _, h3⟩ := h
  obtain ⟨b, o, ea, hlt, hc⟩ := h3 (by omega)
  have e1 : l.a = a := by injection e
  refine ⟨b, o, by rw [e1, ea], hlt, fun j hj => ?_⟩
  obtain ⟨s, a1, a2, n1, c1, n2, c2, k0, k1, k2, r⟩ := hc j (by omega)
  exact ⟨⟨s, a1, a2, n1, c1, n2, c2⟩, k0, k1, k2, r⟩
/-- A fresh row of fractions. -/
def RowPost (w : World) (qs : List Rat) (e : Ending) (w' : World) : Prop := ∃ g n, e = .returned (.slice (some ⟨g, 0, none⟩) n n) ∧ n = qs.length ∧ w.heap.size ≤ g ∧ LawIs w' (.slice (some ⟨g, 0, none⟩) n n) qs ∧ Below w.heap.size w w'
theorem LawIs.cap {w : World} {l : Sl} {qs : List Rat} {n : Nat} (h : LawIs w l.val qs) (e : qs.length = n) : n ≤ l.c ∧ l.c ≤ 9223372036854775807 := by
  obtain ⟨a, c, e', i1, i2, _⟩ := h
  have e1 : l.c = c := by injection e'
  rw [e1]; exact ⟨by omega, i2⟩
theorem egSold : ∀ (args : Array Value) (w : World), (callFunc 19 args).run Try.prog w = .ok (.enter 19 args) w := by
  intro args w
  go_simp

set_option maxHeartbeats 16000000 in
set_option maxRecDepth 100000 in
set_option linter.unusedSimpArgs false in
theorem sold1_any (fb bb sb : Nat) (p : Int) (a : Option Addr) (c M s n J : Nat) (V : Nat → Rat) (w : World) (hlt : fb < w.heap.size ∧ bb < w.heap.size ∧ sb < w.heap.size) (kf : w.cell? ⟨fb, 0, none⟩ = some (.int .i64 p)) (kb : w.cell? ⟨bb, 0, none⟩ = some (.slice a M c)) (ks : w.cell? ⟨sb, 0, none⟩ = some (.int .i64 (s : Int))) (h : LawIs w (Sl.val (a, M, c)) (row V M)) (hsM : s < M) (hM : M ≤ 100) (hn : n ≤ s) (hp1 : 1 ≤ p) (hp2 : p ≤ 100000) (rV : ∀ i, i < M → RS (V i) J) (hJ : J ≤ 10000000) :
    Calls Try.prog 19 #[.int .i64 (n : Int), .pointer (some ⟨fb, 0, none⟩), .pointer (some ⟨bb, 0, none⟩), .pointer (some ⟨sb, 0, none⟩)] w fun e w' => ∃ v, e = .returned v ∧ RatIs w' v ((p : Rat) * ((n : Int) : Rat) + V (s - n)) ∧ Below w.heap.size w w' := by
  obtain ⟨k, hk⟩ : ∃ k, s - n = k := ⟨_, rfl⟩
  have hkM : k < M := by omega
  have hw2 : IntKind.i64.wrap ((s : Int) - (n : Int)) = (k : Int) := by rw [IntKind.wrap_i64]; omega
  have hpn : p * (n : Int) ≤ 100000 * 100 := Int.mul_le_mul hp2 (by omega) (by omega) (by omega)
  have hpn0 : 0 ≤ p * (n : Int) := Int.mul_nonneg (by omega) (by omega)
  have hxc : (p : Rat) * ((n : Int) : Rat) = ((p * (n : Int) : Int) : Rat) := (Rat.intCast_mul _ _).symm
  rw [hk, hxc]
  obtain ⟨x, hx⟩ : ∃ x, p * (n : Int) = x := ⟨_, rfl⟩
  have hw1 : IntKind.i64.wrap (p * (n : Int)) = x := by rw [hx, IntKind.wrap_i64]; omega
  rw [hx] at hpn hpn0 ⊢
  have HRX : Hid (RS ((x : Int) : Rat) (J + 2)) := by
    have e : Wd.pw 1 = 18446744073709551616 := Wd.pw_one
    have : RS ((x : Int) : Rat) 1 := by
      refine ⟨?_, ?_⟩
      · rw [e]; show ((x.natAbs : Nat) : Int) < _; omega
      · rw [e]; show ((1 : Nat) : Int) < _; decide
    exact this.mono (by omega)
  have HRV : Hid (RS (V k) (J + 2)) := (rV k hkM).mono (by omega)
  have HJ : Hid ((J + 2) + (J + 2) + 1 ≤ KK) := by show _ ≤ _; rw [KKe]; omega
  have HWH : Hid (∀ W, Calls Try.prog 14 #[.int .i64 x] W fun e w' => ∃ v, e = .returned v ∧ RatIs w' v ((x : Int) : Rat) ∧ Below W.heap.size W w') := fun W => whole_any x (by omega) (by omega) W
  have b0 := alloc_below w (.cells #[.bool false, .slice none 0 0, .slice none 0 0] 48)
  have X0 := BoxIs.new (w := w) (t := zTri) (q := 0) (rat_zero _)
  obtain ⟨W0, hW0⟩ : ∃ W, w.alloc (.cells #[.bool false, .slice none 0 0, .slice none 0 0] 48) = W := ⟨_, rfl⟩
  obtain ⟨R, hR⟩ : ∃ R, w.heap.size = R := ⟨_, rfl⟩
  have X0' : BoxIs W0 R zTri 0 := by rw [← hW0, ← hR]; exact X0
  rw [hW0] at b0
  have HX : Hid (∀ W, Below W0.heap.size W0 W → BoxIs W R zTri 0) := fun W hW => X0'.keep hW
  have HBW : Hid (∀ W, Below W0.heap.size W0 W → Below w.heap.size w W) := fun W hW => below_step b0 hW
  have HG : Hid (w.heap.size ≤ R) := by show _ ≤ R; rw [hR]; exact Nat.le_refl _
  have HB0 := hide b0
  clear X0 X0' b0
  obtain ⟨ba, oa, ea, hba, Hba⟩ := h.open (row_length V M) (by omega)
  obtain ⟨ta, q0, q1, q2, rt⟩ := Hba k hkM
  rw [row_get hkM] at rt
  have ea : a = some ⟨ba, oa, none⟩ := ea
  have bd1 := unhide HBW W0 (Below.refl _ _)
  have HCC : Hid (∀ W, Below W0.heap.size W0 W → (fun w' : World => w'.cell? ⟨fb, 0, none⟩ = some (.int .i64 p) ∧ w'.cell? ⟨bb, 0, none⟩ = some (.slice a M c) ∧ w'.cell? ⟨sb, 0, none⟩ = some (.int .i64 (s : Int)) ∧ w'.cell? ⟨ba, oa + k * 3, none⟩ = some (.bool ta.s) ∧ w'.cell? ⟨ba, oa + k * 3 + 1, none⟩ = some (.slice ta.a1 ta.n1 ta.c1) ∧ w'.cell? ⟨ba, oa + k * 3 + 2, none⟩ = some (.slice ta.a2 ta.n2 ta.c2)) W) := fun W hW => by
    have h2 := below_step bd1 hW
    refine ⟨?_, ?_, ?_, ?_, ?_, ?_⟩
    · rw [h2.cell (p := ⟨fb, 0, none⟩) hlt.1]; exact kf
    · rw [h2.cell (p := ⟨bb, 0, none⟩) hlt.2.1]; exact kb
    · rw [h2.cell (p := ⟨sb, 0, none⟩) hlt.2.2]; exact ks
    · rw [h2.cell (p := ⟨ba, oa + k * 3, none⟩) hba]; exact q0
    · rw [h2.cell (p := ⟨ba, oa + k * 3 + 1, none⟩) hba]; exact q1
    · rw [h2.cell (p := ⟨ba, oa + k * 3 + 2, none⟩) hba]; exact q2
  have HTA := hide (rt.below bd1)
  have k0 : (0 : Int) ≤ (k : Int) := by omega
  have k1 : (k : Int) < (M : Int) := by omega
  subst ea
  clear h Hba q0 q1 q2 rt kf kb ks hlt hn hsM hpn hpn0 hp1 hp2 rV bd1 hk hxc hba hx hJ
  go_enter Try.func19, Try.ntmps19
  go_wp2_with fail
  clear hW0 hR
  refine wp_region_till (fun w' : World => w'.cell? ⟨fb, 0, none⟩ = some (.int .i64 p) ∧ w'.cell? ⟨bb, 0, none⟩ = some (.slice (some ⟨ba, oa, none⟩) M c) ∧ w'.cell? ⟨sb, 0, none⟩ = some (.int .i64 (s : Int)) ∧ w'.cell? ⟨ba, oa + k * 3, none⟩ = some (.bool ta.s) ∧ w'.cell? ⟨ba, oa + k * 3 + 1, none⟩ = some (.slice ta.a1 ta.n1 ta.c1) ∧ w'.cell? ⟨ba, oa + k * 3 + 2, none⟩ = some (.slice ta.a2 ta.n2 ta.c2)) 12 (by kernel_rfl) ?_
  have bd0 : Below W0.heap.size W0 W0.drew := (Below.refl _ _).drew
  have hC0 : (fun w' : World => w'.cell? ⟨fb, 0, none⟩ = some (.int .i64 p) ∧ w'.cell? ⟨bb, 0, none⟩ = some (.slice (some ⟨ba, oa, none⟩) M c) ∧ w'.cell? ⟨sb, 0, none⟩ = some (.int .i64 (s : Int)) ∧ w'.cell? ⟨ba, oa + k * 3, none⟩ = some (.bool ta.s) ∧ w'.cell? ⟨ba, oa + k * 3 + 1, none⟩ = some (.slice ta.a1 ta.n1 ta.c1) ∧ w'.cell? ⟨ba, oa + k * 3 + 2, none⟩ = some (.slice ta.a2 ta.n2 ta.c2)) W0.drew := unhide HCC _ bd0
  refine wpTill_pure (i := 0) (v := ?_) rfl (by kernel_rfl) (by kernel_rfl) (by kernel_rfl) (by kernel_rfl) (fun _ _ _ h => h) (Or.inl ⟨by rfl, ?_⟩) (fun _ => hC0) ?_
  rotate_left
  · intro w hSw; clear hSw; go_simp; (try with_reducible rfl)
  (try simp only [List.getElem_toArray, List.getElem_cons_succ, List.getElem_cons_zero])
  (try simp only [Act.put, List.setIfInBounds_toArray, List.set_cons_zero, List.set_cons_succ])
  refine wpTill_take (i := 1) (v := ?_) rfl (by kernel_rfl) (by kernel_rfl) (by kernel_rfl) (by kernel_rfl) (by kernel_rfl) (by kernel_rfl) (fun _ _ _ h => h) (Or.inl ⟨by rfl, ?_⟩) hC0 ?_
  rotate_left
  · intro w hSw; (try dsimp only at hSw); obtain ⟨u0, u1, u2, u3, u4, u5⟩ := hSw; go_simp; (try with_reducible rfl)
  (try simp only [List.getElem_toArray, List.getElem_cons_succ, List.getElem_cons_zero])
  (try simp only [Act.put, List.setIfInBounds_toArray, List.set_cons_zero, List.set_cons_succ])
  refine wpTill_pure (i := 2) (v := ?_) rfl (by kernel_rfl) (by kernel_rfl) (by kernel_rfl) (by kernel_rfl) (fun _ _ _ h => h) (Or.inl ⟨by rfl, ?_⟩) (fun _ => hC0) ?_
  rotate_left
  · intro w hSw; clear hSw; go_simp; (try with_reducible rfl)
  (try simp only [List.getElem_toArray, List.getElem_cons_succ, List.getElem_cons_zero])
  (try simp only [Act.put, List.setIfInBounds_toArray, List.set_cons_zero, List.set_cons_succ])
  refine wpTill_pure (i := 3) (v := ?_) rfl (by kernel_rfl) (by kernel_rfl) (by kernel_rfl) (by kernel_rfl) (fun _ _ _ h => h) (Or.inl ⟨by rfl, ?_⟩) (fun _ => hC0) ?_
  rotate_left
  · intro w hSw; clear hSw; go_simp; (try with_reducible rfl)
  (try simp only [List.getElem_toArray, List.getElem_cons_succ, List.getElem_cons_zero])
  (try simp only [Act.put, List.setIfInBounds_toArray, List.set_cons_zero, List.set_cons_succ])
  refine wpTill_take (i := 5) (v := ?_) rfl (by kernel_rfl) (by kernel_rfl) (by kernel_rfl) (by kernel_rfl) (by kernel_rfl) (by kernel_rfl) (fun _ _ _ h => h) (Or.inl ⟨by rfl, ?_⟩) hC0 ?_
  rotate_left
  · intro w hSw; (try dsimp only at hSw); obtain ⟨u0, u1, u2, u3, u4, u5⟩ := hSw; go_simp; (try with_reducible rfl)
  (try simp only [List.getElem_toArray, List.getElem_cons_succ, List.getElem_cons_zero])
  (try simp only [Act.put, List.setIfInBounds_toArray, List.set_cons_zero, List.set_cons_succ])
  refine wpTill_take (i := 6) (v := ?_) rfl (by kernel_rfl) (by kernel_rfl) (by kernel_rfl) (by kernel_rfl) (by kernel_rfl) (by kernel_rfl) (fun _ _ _ h => h) (Or.inl ⟨by rfl, ?_⟩) hC0 ?_
  rotate_left
  · intro w hSw; (try dsimp only at hSw); obtain ⟨u0, u1, u2, u3, u4, u5⟩ := hSw; go_simp; (try with_reducible rfl)
  (try simp only [List.getElem_toArray, List.getElem_cons_succ, List.getElem_cons_zero])
  (try simp only [Act.put, List.setIfInBounds_toArray, List.set_cons_zero, List.set_cons_succ])
  refine wpTill_pure (i := 7) (v := ?_) rfl (by kernel_rfl) (by kernel_rfl) (by kernel_rfl) (by kernel_rfl) (fun _ _ _ h => h) (Or.inl ⟨by rfl, ?_⟩) (fun _ => hC0) ?_
  rotate_left
  · intro w hSw; clear hSw; go_simp; (try with_reducible rfl)
  (try simp only [List.getElem_toArray, List.getElem_cons_succ, List.getElem_cons_zero])
  (try simp only [Act.put, List.setIfInBounds_toArray, List.set_cons_zero, List.set_cons_succ])
  refine wpTill_pure (i := 8) (v := ?_) rfl (by kernel_rfl) (by kernel_rfl) (by kernel_rfl) (by kernel_rfl) (fun _ _ _ h => h) (Or.inl ⟨by rfl, ?_⟩) (fun _ => hC0) ?_
  rotate_left
  · intro w hSw; clear hSw; go_simp; (try with_reducible rfl)
  (try simp only [List.getElem_toArray, List.getElem_cons_succ, List.getElem_cons_zero])
  (try simp only [Act.put, List.setIfInBounds_toArray, List.set_cons_zero, List.set_cons_succ])
  refine wpTill_pure (i := 9) (v := ?_) rfl (by kernel_rfl) (by kernel_rfl) (by kernel_rfl) (by kernel_rfl) (fun _ _ _ h => h) (Or.inl ⟨by rfl, ?_⟩) (fun _ => hC0) ?_
  rotate_left
  · intro w hSw; clear hSw; go_simp; (try with_reducible rfl)
  (try simp only [List.getElem_toArray, List.getElem_cons_succ, List.getElem_cons_zero])
  (try simp only [Act.put, List.setIfInBounds_toArray, List.set_cons_zero, List.set_cons_succ])
  refine wpTill_take (i := 10) (v := ?_) rfl (by kernel_rfl) (by kernel_rfl) (by kernel_rfl) (by kernel_rfl) (by kernel_rfl) (by kernel_rfl) (fun _ _ _ h => h) (Or.inl ⟨by rfl, ?_⟩) hC0 ?_
  rotate_left
  · intro w hSw; (try dsimp only at hSw); obtain ⟨u0, u1, u2, u3, u4, u5⟩ := hSw; go_simp; (try with_reducible rfl)
  (try simp only [List.getElem_toArray, List.getElem_cons_succ, List.getElem_cons_zero])
  (try simp only [Act.put, List.setIfInBounds_toArray, List.set_cons_zero, List.set_cons_succ])
  refine wpTill_one (k := 4) (by kernel_rfl) rfl (fun K hK => ?_)
  (try simp only [List.getElem_toArray, List.getElem_cons_succ, List.getElem_cons_zero])
  go_simp
  refine (unhide HWH _).mono ?_
  rintro e xw_1 ⟨xv_1, rfl, hv_1, hb_1⟩
  have cc_1 := below_step bd0 hb_1
  have hC_1 : (fun w' : World => w'.cell? ⟨fb, 0, none⟩ = some (.int .i64 p) ∧ w'.cell? ⟨bb, 0, none⟩ = some (.slice (some ⟨ba, oa, none⟩) M c) ∧ w'.cell? ⟨sb, 0, none⟩ = some (.int .i64 (s : Int)) ∧ w'.cell? ⟨ba, oa + k * 3, none⟩ = some (.bool ta.s) ∧ w'.cell? ⟨ba, oa + k * 3 + 1, none⟩ = some (.slice ta.a1 ta.n1 ta.c1) ∧ w'.cell? ⟨ba, oa + k * 3 + 2, none⟩ = some (.slice ta.a2 ta.n2 ta.c2)) xw_1 := unhide HCC _ cc_1
  refine hK.out _ _ (fun _ => hC_1) ?_
  clear hK K
  (try simp only [Act.put, List.setIfInBounds_toArray, List.set_cons_zero, List.set_cons_succ])
  refine wpTill_one (k := 11) (by kernel_rfl) rfl (fun K hK => ?_)
  (try simp only [List.getElem_toArray, List.getElem_cons_succ, List.getElem_cons_zero])
  go_simp
  refine (addR_any xv_1 ta.val _ _ _ hv_1 ((unhide HTA).below cc_1) (J + 2) (unhide HRX) (unhide HRV) (unhide HJ)).mono ?_
  rintro e xw_2 ⟨xv_2, rfl, hv_2, hb_2⟩
  have cc_2 := below_step cc_1 hb_2
  have hC_2 : (fun w' : World => w'.cell? ⟨fb, 0, none⟩ = some (.int .i64 p) ∧ w'.cell? ⟨bb, 0, none⟩ = some (.slice (some ⟨ba, oa, none⟩) M c) ∧ w'.cell? ⟨sb, 0, none⟩ = some (.int .i64 (s : Int)) ∧ w'.cell? ⟨ba, oa + k * 3, none⟩ = some (.bool ta.s) ∧ w'.cell? ⟨ba, oa + k * 3 + 1, none⟩ = some (.slice ta.a1 ta.n1 ta.c1) ∧ w'.cell? ⟨ba, oa + k * 3 + 2, none⟩ = some (.slice ta.a2 ta.n2 ta.c2)) xw_2 := unhide HCC _ cc_2
  refine hK.out _ _ (fun _ => hC_2) ?_
  clear hK K
  (try simp only [Act.put, List.setIfInBounds_toArray, List.set_cons_zero, List.set_cons_succ])
  obtain ⟨t5, rfl, r5⟩ := tri_of hv_2
  simp only [Tri.val]
  have Y := unhide HX _ cc_2
  have ⟨l0, l1, l2⟩ := Y.free
  have ⟨y0, y1, y2⟩ := Y.cells _ (Below.refl _ _)
  have FIN := Y.set r5
  have FB := (((unhide HBW _ cc_2).setCell (p := ⟨R, 0, none⟩) (unhide HG) (.bool t5.s)).setCell (p := ⟨R, 1, none⟩) (unhide HG) (.slice t5.a1 t5.n1 t5.c1)).setCell (p := ⟨R, 2, none⟩) (unhide HG) (.slice t5.a2 t5.n2 t5.c2)
  obtain ⟨Wf, hWf⟩ : ∃ W, ((xw_2.setCell ⟨R, 0, none⟩ (.bool t5.s)).setCell ⟨R, 1, none⟩ (.slice t5.a1 t5.n1 t5.c1)).setCell ⟨R, 2, none⟩ (.slice t5.a2 t5.n2 t5.c2) = W := ⟨_, rfl⟩
  rw [hWf] at FIN FB
  have HFIN := hide FIN
  have HFB := hide FB
  clear Y FIN FB
  refine wpTill_one (k := 12) (by kernel_rfl) rfl (fun K hK => ?_)
  (try simp only [List.getElem_toArray, List.getElem_cons_succ, List.getElem_cons_zero])
  go_simp
  refine hK.out _ _ (fun h => absurd (h.symm.trans (by kernel_rfl)) Bool.false_ne_true) ?_
  clear hK K
  (try simp only [Act.put, List.setIfInBounds_toArray, List.set_cons_zero, List.set_cons_succ])
  refine wpTill_done (by kernel_rfl) ?_ _
  clear HCC HTA hC0 hC_1 hC_2 cc_1 cc_2 bd0 hb_1 hb_2 hv_1 l0 l1 l2 y0 y1 y2 hWf
  have ⟨x0, x1, x2⟩ := (unhide HFIN).cells _ (Below.refl _ _)
  go_wp2
  (try simp only [Exit.inBlock, Exit.then])
  exact bodyPost_ret (v := .agg #[.bool t5.s, .slice t5.a1 t5.n1 t5.c1, .slice t5.a2 t5.n2 t5.c2]) (by simp [results, Try.results19, go_sem, x0, x1, x2]) rfl ⟨_, rfl, (unhide HFIN).2, unhide HFB⟩

set_option maxHeartbeats 16000000 in
set_option maxRecDepth 100000 in
set_option linter.unusedSimpArgs false in
theorem sold_any (p : Int) (fa : Option Addr) (fc : Nat) (qs : List Rat) (a : Option Addr) (c M k ln J : Nat) (V : Nat → Rat) (w : World) (hf : LawIs w (Sl.val (fa, ln, fc)) qs) (hK : qs.length = ln) (hK8 : ln ≤ 8) (rq : ∀ j, j < ln → RS qs[j]! 1) (h : LawIs w (Sl.val (a, M, c)) (row V M)) (hM1 : 1 ≤ M) (hM : M ≤ 100) (hk : k ≤ 1000) (hp1 : 1 ≤ p) (hp2 : p ≤ 100000) (rV : ∀ i, i < M → RS (V i) J) (hJ : J ≤ 1000000) :
    Calls Try.prog 10 #[.agg #[.int .i64 p, .slice fa ln fc], .slice a M c, .int .i64 (k : Int)] w (RowPost w (row (Sea.sd (p : Rat) (fun i => qs[i]!) ln V k) M)) := by
  have b0 := alloc_below w (.cells #[.int .i64 p, .slice fa ln fc] 39)
  have n0 := heap_alloc_new w (.cells #[.int .i64 p, .slice fa ln fc] 39)
  obtain ⟨Wa, hWa⟩ : ∃ W, w.alloc (.cells #[.int .i64 p, .slice fa ln fc] 39) = W := ⟨_, rfl⟩
  obtain ⟨fb, hfb⟩ : ∃ b, w.heap.size = b := ⟨_, rfl⟩
  rw [hWa] at b0 n0
  rw [hfb] at n0
  have hf1 := (Array.getElem?_eq_some_iff.1 n0).1
  have b1 := alloc_below Wa (.cells #[.slice a M c] 36)
  have n1 := heap_alloc_new Wa (.cells #[.slice a M c] 36)
  obtain ⟨W0, hW0⟩ : ∃ W, Wa.alloc (.cells #[.slice a M c] 36) = W := ⟨_, rfl⟩
  obtain ⟨bb, hbb⟩ : ∃ b, Wa.heap.size = b := ⟨_, rfl⟩
  rw [hW0] at b1 n1
  rw [hbb] at n1
  have n0' : W0.heap[fb]? = _ := (b1.block fb hf1).trans n0
  have hf2 : fb < W0.heap.size := (Array.getElem?_eq_some_iff.1 n0').1
  have hb2 : bb < W0.heap.size := (Array.getElem?_eq_some_iff.1 n1).1
  have HB0 := hide (below_step b0 b1)
  have HN0 := hide n0'
  have HN1 := hide n1
  have HLT := hide (And.intro hf2 hb2)
  have c0 : W0.cell? ⟨bb, 0, none⟩ = some (.slice a M c) := by simp [World.cell?, n1]
  have qm := make_ratios (M : Int) (by omega) (by omega) W0
  rw [Int.toNat_natCast] at qm
  have S0 := SumsAt.start w W0 M (unhide HB0)
  obtain ⟨W1, hW1⟩ : ∃ W, W0.alloc (.cells (tcells (List.replicate M zTri)).toArray 48) = W := ⟨_, rfl⟩
  obtain ⟨GO, hGO⟩ : ∃ G, W0.heap.size = G := ⟨_, rfl⟩
  rw [hW1] at qm S0
  rw [hGO] at qm
  obtain ⟨f, hf_⟩ : ∃ f : Nat → Rat, Sea.sd (p : Rat) (fun i => qs[i]!) ln V k = f := ⟨_, rfl⟩
  rw [hf_]
  have HFV : Hid (∀ s, Sea.mn (fun i => qs[i]!) ln (s - k) (fun n => (p : Rat) * ((n : Int) : Rat) + V (s - n)) = f s) := fun s => by rw [← hf_]; rfl
  have S0' : SumsAt w W1 GO (List.replicate M zTri) (fill f M 0) := by rw [← hGO, ← fill_zero]; exact S0
  have HS0 := hide S0'
  have HB1 : Hid (Below W0.heap.size W0 W1) := by rw [← hW1]; exact alloc_below _ _
  have HGO : Hid (w.heap.size ≤ GO) := by show _ ≤ GO; rw [← hGO]; exact (unhide HB0).size
  have HGW : Hid (W0.heap.size ≤ GO) := by show _ ≤ GO; rw [← hGO]; exact Nat.le_refl _
  have HF := hide hf
  have HV := hide h
  have HRV := hide rV
  have HRQ := hide rq
  have HKQ := hide hK
  have HNB := hide (show ln ≤ 8 ∧ M ≤ 100 ∧ k ≤ 1000 ∧ 1 ≤ p ∧ p ≤ 100000 ∧ J ≤ 1000000 from ⟨hK8, hM, hk, hp1, hp2, hJ⟩)
  clear b0 b1 n0 n1 n0' hf1 hf2 hb2 S0 S0' hf h rV rq hf_ hK
  go_enter Try.func10, Try.ntmps10
  go_wp2_with fail
  clear hWa hfb hW0 hbb qm hW1 hGO c0
  go_loopw [14] (fun vi wr => ∃ (i : Nat) (ws : List Tri), vi = .int .i64 (i : Int) ∧ i ≤ M ∧ ws.length = M ∧ SumsAt w wr GO ws (fill f M i) ∧ Below W0.heap.size W0 wr) (fun vi _ => M - (intOf vi).toNat)
  case atStart => exact ⟨0, _, rfl, Nat.zero_le _, List.length_replicate, unhide HS0, unhide HB1⟩
  case round =>
    obtain ⟨i, ws, rfl, hi, hws, T, hbw⟩ := hrel
    clear HS0 HB1
    by_cases hlt : i < M
    · have j1 : (i : Int) < (M : Int) := by omega
      have j0 : (0 : Int) ≤ (i : Int) := by omega
      obtain ⟨d, hd⟩ : ∃ d, (i : Int) - (k : Int) = d := ⟨_, rfl⟩
      obtain ⟨tt, htt⟩ : ∃ tt, i - k = tt := ⟨_, rfl⟩
      have hwd : IntKind.i64.wrap ((i : Int) - (k : Int)) = d := by rw [hd, IntKind.wrap_i64]; omega
      have hmx1 : (if d < 0 then 0 else d) = (tt : Int) := by split <;> omega
      have hmx2 : max d 0 = (tt : Int) := by omega
      have bS := alloc_below wr (.cells #[.int .i64 (i : Int)] 3)
      have nS := heap_alloc_new wr (.cells #[.int .i64 (i : Int)] 3)
      have T5 := T.keep bS
      obtain ⟨W5, hW5⟩ : ∃ W, wr.alloc (.cells #[.int .i64 (i : Int)] 3) = W := ⟨_, rfl⟩
      obtain ⟨sb, hsb⟩ : ∃ b, wr.heap.size = b := ⟨_, rfl⟩
      rw [hW5] at bS nS T5
      rw [hsb] at nS
      have hsl : sb < W5.heap.size := (Array.getElem?_eq_some_iff.1 nS).1
      have HB5 := hide (below_step hbw bS)
      have HNS := hide nS
      have HSL := hide hsl
      have HCS : Hid (∀ W, Below W5.heap.size W5 W → W.cell? ⟨sb, 0, none⟩ = some (.int .i64 (i : Int)) ∧ W.cell? ⟨fb, 1, none⟩ = some (.slice fa ln fc) ∧ W.cell? ⟨fb, 0, none⟩ = some (.int .i64 p) ∧ W.cell? ⟨bb, 0, none⟩ = some (.slice a M c)) := fun W hW => by
        have k1 : W.heap[sb]? = _ := (hW.block sb (unhide HSL)).trans (unhide HNS)
        have h3 := below_step (unhide HB5) hW
        have k2 : W.heap[fb]? = _ := (h3.block fb (unhide HLT).1).trans (unhide HN0)
        have k3 : W.heap[bb]? = _ := (h3.block bb (unhide HLT).2).trans (unhide HN1)
        simp [World.cell?, k1, k2, k3]
      have HCC : Hid (∀ W, Below W5.heap.size W5 W → (fun w' : World => w'.cell? ⟨sb, 0, none⟩ = some (.int .i64 (i : Int)) ∧ w'.cell? ⟨fb, 1, none⟩ = some (.slice fa ln fc)) W) := fun W hW => ⟨(unhide HCS W hW).1, (unhide HCS W hW).2.1⟩
      have HMN : Hid (∀ W, Below W5.heap.size W5 W → Calls Try.prog 18 #[.slice fa ln fc, .int .i64 (tt : Int), .func (.func 19) #[] #[.pointer (some ⟨fb, 0, none⟩), .pointer (some ⟨bb, 0, none⟩), .pointer (some ⟨sb, 0, none⟩)]] W fun e w' => ∃ v, e = .returned v ∧ RatIs w' v (f i) ∧ Below W.heap.size W w') := fun W hW => by
        obtain ⟨g1_, g2_, g3_, g4_, g5_, g6_⟩ := unhide HNB
        have h3 := below_step (unhide HB0) (below_step (unhide HB5) hW)
        have hm := smn_any (.slice fa ln fc) qs tt (J + 3) 19 #[.pointer (some ⟨fb, 0, none⟩), .pointer (some ⟨bb, 0, none⟩), .pointer (some ⟨sb, 0, none⟩)] (fun n => (p : Rat) * ((n : Int) : Rat) + V (i - n)) W ((unhide HF).below h3) (fun j hj => unhide HRQ j (by rw [← unhide HKQ]; exact hj)) (by rw [unhide HKQ]; exact g1_) (by omega) (by omega) (fun j hj => by
          have : RS (((j : Nat) : Int) : Rat) 1 := RS_nat (by rw [unhide HKQ] at hj; omega)
          have e : Wd.pw 1 = 18446744073709551616 := Wd.pw_one
          have hp : RS ((p : Int) : Rat) 1 := by
            refine ⟨?_, ?_⟩
            · rw [e]; show ((p.natAbs : Nat) : Int) < _; omega
            · rw [e]; show ((1 : Nat) : Int) < _; decide
          exact ((hp.mul this).add (unhide HRV (i - j) (by omega))).mono (by omega)) egSold (fun j hj W' hW' => by
          have h4 := below_step hW hW'
          obtain ⟨q1_, q2_, q3_, q4_⟩ := unhide HCS _ h4
          have hjt : j ≤ tt := Nat.le_trans hj (Nat.min_le_left _ _)
          exact sold1_any fb bb sb p a c M i j J V W' ⟨Nat.lt_of_lt_of_le (unhide HLT).1 (below_step (unhide HB5) h4).size, Nat.lt_of_lt_of_le (unhide HLT).2 (below_step (unhide HB5) h4).size, Nat.lt_of_lt_of_le (unhide HSL) h4.size⟩ q3_ q4_ q1_ ((unhide HV).below (below_step h3 hW')) hlt g2_ (by omega) g4_ g5_ (unhide HRV) (by omega))
        rw [unhide HKQ, ← htt, unhide HFV] at hm
        rw [← htt]
        exact hm
      have HS5 := hide T5
      have HUL := hide hws
      clear T T5 hws bS nS hsl hd htt hbw
      go_wp2_with fail
      clear hW5 hsb
      refine wp_region_till (fun w' : World => w'.cell? ⟨sb, 0, none⟩ = some (.int .i64 (i : Int)) ∧ w'.cell? ⟨fb, 1, none⟩ = some (.slice fa ln fc)) 11 (by kernel_rfl) ?_
      have bd0 : Below W5.heap.size W5 W5.drew := (Below.refl _ _).drew
      have hC0 : (fun w' : World => w'.cell? ⟨sb, 0, none⟩ = some (.int .i64 (i : Int)) ∧ w'.cell? ⟨fb, 1, none⟩ = some (.slice fa ln fc)) W5.drew := unhide HCC _ bd0
      refine wpTill_pure (i := 0) (v := ?_) rfl (by kernel_rfl) (by kernel_rfl) (by kernel_rfl) (by kernel_rfl) (fun _ _ _ h => h) (Or.inl ⟨by rfl, ?_⟩) (fun _ => hC0) ?_
      rotate_left
      · intro w hSw; clear hSw; go_simp; (try with_reducible rfl)
      (try simp only [List.getElem_toArray, List.getElem_cons_succ, List.getElem_cons_zero])
      (try simp only [Act.put, List.setIfInBounds_toArray, List.set_cons_zero, List.set_cons_succ])
      refine wpTill_take (i := 1) (v := ?_) rfl (by kernel_rfl) (by kernel_rfl) (by kernel_rfl) (by kernel_rfl) (by kernel_rfl) (by kernel_rfl) (fun _ _ _ h => h) (Or.inl ⟨by rfl, ?_⟩) hC0 ?_
      rotate_left
      · intro w hSw; (try dsimp only at hSw); obtain ⟨u0, u1⟩ := hSw; go_simp; (try with_reducible rfl)
      (try simp only [List.getElem_toArray, List.getElem_cons_succ, List.getElem_cons_zero])
      (try simp only [Act.put, List.setIfInBounds_toArray, List.set_cons_zero, List.set_cons_succ])
      refine wpTill_pure (i := 2) (v := ?_) rfl (by kernel_rfl) (by kernel_rfl) (by kernel_rfl) (by kernel_rfl) (fun _ _ _ h => h) (Or.inl ⟨by rfl, ?_⟩) (fun _ => hC0) ?_
      rotate_left
      · intro w hSw; clear hSw; go_simp; (try with_reducible rfl)
      (try simp only [List.getElem_toArray, List.getElem_cons_succ, List.getElem_cons_zero])
      (try simp only [Act.put, List.setIfInBounds_toArray, List.set_cons_zero, List.set_cons_succ])
      refine wpTill_take (i := 3) (v := ?_) rfl (by kernel_rfl) (by kernel_rfl) (by kernel_rfl) (by kernel_rfl) (by kernel_rfl) (by kernel_rfl) (fun _ _ _ h => h) (Or.inl ⟨by rfl, ?_⟩) hC0 ?_
      rotate_left
      · intro w hSw; (try dsimp only at hSw); obtain ⟨u0, u1⟩ := hSw; go_simp; (try with_reducible rfl)
      (try simp only [List.getElem_toArray, List.getElem_cons_succ, List.getElem_cons_zero])
      (try simp only [Act.put, List.setIfInBounds_toArray, List.set_cons_zero, List.set_cons_succ])
      refine wpTill_take (i := 4) (v := ?_) rfl (by kernel_rfl) (by kernel_rfl) (by kernel_rfl) (by kernel_rfl) (by kernel_rfl) (by kernel_rfl) (fun _ _ _ h => h) (Or.inl ⟨by rfl, ?_⟩) hC0 ?_
      rotate_left
      · intro w hSw; (try dsimp only at hSw); obtain ⟨u0, u1⟩ := hSw; go_simp; (try with_reducible rfl)
      (try simp only [List.getElem_toArray, List.getElem_cons_succ, List.getElem_cons_zero])
      (try simp only [Act.put, List.setIfInBounds_toArray, List.set_cons_zero, List.set_cons_succ])
      refine wpTill_pure (i := 5) (v := ?_) rfl (by kernel_rfl) (by kernel_rfl) (by kernel_rfl) (by kernel_rfl) (fun _ _ _ h => h) (Or.inl ⟨by rfl, ?_⟩) (fun _ => hC0) ?_
      rotate_left
      · intro w hSw; clear hSw; go_simp; (try with_reducible rfl)
      (try simp only [List.getElem_toArray, List.getElem_cons_succ, List.getElem_cons_zero])
      (try simp only [Act.put, List.setIfInBounds_toArray, List.set_cons_zero, List.set_cons_succ])
      refine wpTill_pure (i := 6) (v := ?_) rfl (by kernel_rfl) (by kernel_rfl) (by kernel_rfl) (by kernel_rfl) (fun _ _ _ h => h) (Or.inl ⟨by rfl, ?_⟩) (fun _ => hC0) ?_
      rotate_left
      · intro w hSw; clear hSw; go_simp; (try with_reducible rfl)
      (try simp only [List.getElem_toArray, List.getElem_cons_succ, List.getElem_cons_zero])
      (try simp only [Act.put, List.setIfInBounds_toArray, List.set_cons_zero, List.set_cons_succ])
      refine wpTill_pure (i := 7) (v := ?_) rfl (by kernel_rfl) (by kernel_rfl) (by kernel_rfl) (by kernel_rfl) (fun _ _ _ h => h) (Or.inl ⟨by rfl, ?_⟩) (fun _ => hC0) ?_
      rotate_left
      · intro w hSw; clear hSw; go_simp; (try with_reducible rfl)
      (try simp only [List.getElem_toArray, List.getElem_cons_succ, List.getElem_cons_zero])
      (try simp only [Act.put, List.setIfInBounds_toArray, List.set_cons_zero, List.set_cons_succ])
      refine wpTill_pure (i := 8) (v := ?_) rfl (by kernel_rfl) (by kernel_rfl) (by kernel_rfl) (by kernel_rfl) (fun _ _ _ h => h) (Or.inl ⟨by rfl, ?_⟩) (fun _ => hC0) ?_
      rotate_left
      · intro w hSw; clear hSw; go_simp; (try with_reducible rfl)
      (try simp only [List.getElem_toArray, List.getElem_cons_succ, List.getElem_cons_zero])
      (try simp only [Act.put, List.setIfInBounds_toArray, List.set_cons_zero, List.set_cons_succ])
      refine wpTill_one (k := 9) (by kernel_rfl) rfl (fun K hK => ?_)
      (try simp only [List.getElem_toArray, List.getElem_cons_succ, List.getElem_cons_zero])
      go_simp
      refine (unhide HMN _ bd0).mono ?_
      rintro e xw_1 ⟨xv_1, rfl, hv_1, hb_1⟩
      have cc_1 := below_step bd0 hb_1
      have hC_1 : (fun w' : World => w'.cell? ⟨sb, 0, none⟩ = some (.int .i64 (i : Int)) ∧ w'.cell? ⟨fb, 1, none⟩ = some (.slice fa ln fc)) xw_1 := unhide HCC _ cc_1
      refine hK.out _ _ (fun _ => hC_1) ?_
      clear hK K
      (try simp only [Act.put, List.setIfInBounds_toArray, List.set_cons_zero, List.set_cons_succ])
      refine wpTill_pure (i := 10) (v := ?_) rfl (by kernel_rfl) (by kernel_rfl) (by kernel_rfl) (by kernel_rfl) (fun _ _ _ h => h) (Or.inl ⟨by rfl, ?_⟩) (fun _ => hC_1) ?_
      rotate_left
      · intro w hSw; clear hSw; go_simp; (try with_reducible rfl)
      (try simp only [List.getElem_toArray, List.getElem_cons_succ, List.getElem_cons_zero])
      (try simp only [Act.put, List.setIfInBounds_toArray, List.set_cons_zero, List.set_cons_succ])
      obtain ⟨t5, rfl, r5⟩ := tri_of hv_1
      simp only [Tri.val]
      have S8 := (unhide HS5).keep cc_1
      have ⟨⟨y0, y1, y2⟩, g0, g1, g2⟩ := S8.cells i (by rw [unhide HUL]; exact hlt)
      have FZ := S8.set i (by rw [unhide HUL]; exact hlt) t5 _ r5
      obtain ⟨W9, hW9⟩ : ∃ W, ((xw_1.setCell ⟨GO, i * 3, none⟩ (.bool t5.s)).setCell ⟨GO, i * 3 + 1, none⟩ (.slice t5.a1 t5.n1 t5.c1)).setCell ⟨GO, i * 3 + 2, none⟩ (.slice t5.a2 t5.n2 t5.c2) = W := ⟨_, rfl⟩
      rw [hW9, fill_set] at FZ
      have HFZ := hide FZ
      clear S8 FZ r5 hv_1
      refine wpTill_one (k := 11) (by kernel_rfl) rfl (fun K hK => ?_)
      (try simp only [List.getElem_toArray, List.getElem_cons_succ, List.getElem_cons_zero])
      go_simp
      refine hK.out _ _ (fun h => absurd (h.symm.trans (by kernel_rfl)) Bool.false_ne_true) ?_
      clear hK K
      (try simp only [Act.put, List.setIfInBounds_toArray, List.set_cons_zero, List.set_cons_succ])
      refine wpTill_done (by kernel_rfl) ?_ _
      have HBF := hide (below_step (unhide HB5) cc_1)
      clear HCC HCS HMN y0 y1 y2 g0 g1 g2 hC0 hC_1 bd0 hb_1 hmx1 hmx2 hwd
      have HBZ : Hid (Below W0.heap.size W0 W9) := by
        have hg : W0.heap.size ≤ GO := unhide HGW
        show Below _ _ W9
        rw [← hW9]
        exact ((((unhide HBF).setCell (p := ⟨GO, i * 3, none⟩) hg _).setCell (p := ⟨GO, i * 3 + 1, none⟩) hg _).setCell (p := ⟨GO, i * 3 + 2, none⟩) hg _)
      clear hW9 cc_1
      go_wp2_with fail
      exact ⟨⟨i + 1, _, by go_num, hlt, by rw [List.length_set]; exact unhide HUL, unhide HFZ, unhide HBZ⟩, by simp [intOf]; omega⟩
    · obtain rfl : i = M := by omega
      have j1 : ¬ (i : Int) < (i : Int) := by omega
      have hlaw := T.law (by omega)
      rw [hws] at hlaw
      have HLW : Hid (LawIs wr (.slice (some ⟨GO, 0, none⟩) i i) (row f i)) := hlaw
      have HBL := hide T.bl
      clear T hlaw hws hbw
      go_wp2
      go_ret
      exact ⟨GO, _, rfl, (row_length _ _).symm, unhide HGO, unhide HLW, unhide HBL⟩
end Go.Proofs.Ytfnbjenneodcdaa
