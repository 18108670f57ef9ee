/- Renewals: Comes; what fails at 1 or 2. -/
import Derived.Test.YtpopcfclpemlaaaDoorRN3
import Derived.Test.YtpopcfclpemlaaaDoorRN4
import Derived.Test.YtpopcfclpemlaaaDoorA13
import Derived.Test.YtpopcfclpemlaaaDoorA14
namespace Go.Proofs.YtpopcfclpemlaaaDoor
open Go.RowKit Go.Sort Go.Shelf

theorem rtc_ok {qs : List Rat} {up : Nat} (hk : rnc qs = 0) (hu : up ≤ 100) : rtc qs (up : Int) = 0 := by
  unfold rtc
  rw [if_pos hk, if_neg (by omega)]
set_option maxHeartbeats 16000000 in
set_option maxRecDepth 100000 in
set_option linter.unusedSimpArgs false in
theorem rComes_ok (v : Value) (qs : List Rat) (J JJ up N : Nat) (w : World) (h : LawIs w v qs) (hq : ∀ j, j < qs.length → RS qs[j]! J) (hk : rnc qs = 0) (hN : up + 1 = N) (hup : up ≤ 100) (hJ1 : 1 ≤ J) (hJC : 102 * (J + 1) + J ≤ JJ) (hJJ : ubd J up + J ≤ JJ) (hJ : JJ + JJ + 1 ≤ KK) :
    Calls Tryd.prog 60 #[v, .int .i64 (up : Int)] w (RowNil w (row (Rnw.u (xq qs)) N) N) := by
  obtain ⟨hA, ht, hl1, hl2⟩ := rnc_age hk
  have m1 := Nat.mul_le_mul_right (J + 1) hl2
  have HC := hide (rtime_any v qs J (up : Int) w h hq (by omega))
  rw [rtc_ok hk hup, errV_zero] at HC
  have HCO : Hid (∀ W, Below w.heap.size w W → Calls Tryd.prog 59 #[v, .int .i64 (up : Int)] W (DivPost W (row (Rnw.u (xq qs)) N) N)) := fun W hW => comes_any v qs J JJ up N W (h.below hW) hq (by omega) (by omega) hN (by omega) hJ1 hJJ hJ
  obtain ⟨f, hf⟩ : ∃ f, Rnw.u (xq qs) = f := ⟨_, rfl⟩
  rw [hf] at HCO ⊢
  obtain ⟨a, c, rfl, -⟩ := h
  clear hq hk hJC hJJ hJ hA ht hl1 hl2 m1 hf
  generalize qs.length = nq at *
  go_enter Tryd.func60, Tryd.ntmps60
  go_wp2_with fail
  refine (unhide HC).mono ?_
  rintro e w1 ⟨rfl, hb1⟩
  have HB1 := hide hb1
  clear hb1 HC
  go_wp2_with fail
  refine (unhide HCO w1 (unhide HB1)).mono ?_
  rintro e w2 ⟨G, us, rfl, hul, hgl, S⟩
  have HS := hide (S.rebase (unhide HB1))
  have HU := hide hul
  have HG : Hid (w.heap.size ≤ G) := Nat.le_trans (unhide HB1).size hgl
  clear S hul hgl HCO
  go_wp2
  go_ret2
  exact ⟨G, us, rfl, unhide HU, unhide HG, unhide HS⟩

theorem law_three {w : World} {g : Nat} {ta tb tc : Tri} {qa qb qc : Rat} (h : w.heap[g]? = some (.cells #[.bool ta.s, .slice ta.a1 ta.n1 ta.c1, .slice ta.a2 ta.n2 ta.c2, .bool tb.s, .slice tb.a1 tb.n1 tb.c1, .slice tb.a2 tb.n2 tb.c2, .bool tc.s, .slice tc.a1 tc.n1 tc.c1, .slice tc.a2 tc.n2 tc.c2] 31)) (ra : RatIs w ta.val qa) (rb : RatIs w tb.val qb) (rc : RatIs w tc.val qc) : LawIs w (.slice (some ⟨g, 0, none⟩) 3 3) [qa, qb, qc] := by
  refine ⟨_, _, rfl, Nat.le_refl _, by decide, fun _ => ⟨g, 0, rfl, (Array.getElem?_eq_some_iff.1 h).1, fun j hj => ?_⟩⟩
  match j, hj with
  | 0, _ => exact ⟨ta.s, ta.a1, ta.a2, ta.n1, ta.c1, ta.n2, ta.c2, by simp [World.cell?, h], by simp [World.cell?, h], by simp [World.cell?, h], ra⟩
  | 1, _ => exact ⟨tb.s, tb.a1, tb.a2, tb.n1, tb.c1, tb.n2, tb.c2, by simp [World.cell?, h], by simp [World.cell?, h], by simp [World.cell?, h], rb⟩
  | 2, _ => exact ⟨tc.s, tc.a1, tc.a2, tc.n1, tc.c1, tc.n2, tc.c2, by simp [World.cell?, h], by simp [World.cell?, h], by simp [World.cell?, h], rc⟩
def lstq : List Rat := [((0 : Int) : Rat), Rat.divInt 1 2, Rat.divInt 1 2]
theorem lst_rs : ∀ j, j < lstq.length → RS lstq[j]! 1 := fun j hj => by
  have hj : j < 3 := hj
  match j, hj with
  | 0, _ => exact ⟨by decide +kernel, by decide +kernel⟩
  | 1, _ => exact ⟨by decide +kernel, by decide +kernel⟩
  | 2, _ => exact ⟨by decide +kernel, by decide +kernel⟩
theorem lst_rnc : rnc lstq = 0 := by
  have hc : chk lstq = 0 := by
    unfold chk
    have b : ¬ ∃ j, j < lstq.length ∧ (lstq[j]!).num < 0 := fun ⟨j, hj, h⟩ => by
      have hj : j < 3 := hj
      match j, hj with
      | 0, _ => exact absurd h (by decide +kernel)
      | 1, _ => exact absurd h (by decide +kernel)
      | 2, _ => exact absurd h (by decide +kernel)
    have c : qsum lstq lstq.length = 1 := by decide +kernel
    rw [if_neg (by decide), if_neg b, if_pos c]
  unfold rnc
  rw [if_pos hc, if_neg (by decide +kernel)]
theorem lst_u : Rnw.u (xq lstq) 2 = Rat.divInt 3 4 := by decide +kernel
theorem lst_text : qtext (Rat.divInt 3 4) = [51, 47, 52] := by decide +kernel
set_option maxHeartbeats 16000000 in
set_option maxRecDepth 100000 in
set_option linter.unusedSimpArgs false in
theorem lasting_any (w : World) (htab : Tab w) : Calls Tryd.prog 29 #[] w fun e w' => e = .returned (.bool true) ∧ Below w.heap.size w w' := by
  have KKe : KK = 1099511627776 := rfl
  have HTB := hide htab
  clear htab
  go_enter Tryd.func29, Tryd.ntmps29
  go_wp2_with fail
  refine (of_any 1 2 (by decide) (by decide) (by decide) (by decide) (by decide) w).mono ?_
  rintro e w1 ⟨v1, rfl, hv1, hb1⟩
  obtain ⟨th, rfl, r1⟩ := tri_of hv1
  simp only [Tri.val]
  have b1 := alloc_below w1 (.cells #[.bool th.s, .slice th.a1 th.n1 th.c1, .slice th.a2 th.n2 th.c2] 31)
  have X1 := BoxIs.new r1
  obtain ⟨W1, hW1⟩ : ∃ W, w1.alloc (.cells #[.bool th.s, .slice th.a1 th.n1 th.c1, .slice th.a2 th.n2 th.c2] 31) = W := ⟨_, rfl⟩
  obtain ⟨gh, hgh⟩ : ∃ g, w1.heap.size = g := ⟨_, rfl⟩
  rw [hW1] at b1 X1
  rw [hgh] at X1
  have HB := hide (below_step hb1 b1)
  have HXh := hide X1
  have HCC : Hid (∀ W, Below W1.heap.size W1 W → (fun w' : World => w'.cell? ⟨gh, 0, none⟩ = some (.bool th.s) ∧ w'.cell? ⟨gh, 1, none⟩ = some (.slice th.a1 th.n1 th.c1) ∧ w'.cell? ⟨gh, 2, none⟩ = some (.slice th.a2 th.n2 th.c2)) W) := fun W hW => (unhide HXh).cells W hW
  clear hv1 hb1 r1 b1 X1
  go_wp2_with fail
  clear hW1 hgh
  refine wp_region_hold (fun w' : World => w'.cell? ⟨gh, 0, none⟩ = some (.bool th.s) ∧ w'.cell? ⟨gh, 1, none⟩ = some (.slice th.a1 th.n1 th.c1) ∧ w'.cell? ⟨gh, 2, none⟩ = some (.slice th.a2 th.n2 th.c2)) (by kernel_rfl) ?_
  have bd0 : Below W1.heap.size W1 W1.drew := (Below.refl _ _).drew
  have hC0 : (fun w' : World => w'.cell? ⟨gh, 0, none⟩ = some (.bool th.s) ∧ w'.cell? ⟨gh, 1, none⟩ = some (.slice th.a1 th.n1 th.c1) ∧ w'.cell? ⟨gh, 2, none⟩ = some (.slice th.a2 th.n2 th.c2)) W1.drew := unhide HCC _ bd0
  refine wpHold_take (i := 1) (v := ?_) rfl (by kernel_rfl) (by kernel_rfl) (by kernel_rfl) (fun _ _ _ h => h) (Or.inl ⟨by rfl, ?_⟩) hC0 ?_
  rotate_left
  · intro w hSw; (try dsimp only at hSw); obtain ⟨u0, u1, u2⟩ := hSw; go_simp; (try with_reducible rfl)
  (try simp only [List.getElem_toArray, List.getElem_cons_succ, List.getElem_cons_zero])
  (try simp only [Act.put, List.setIfInBounds_toArray, List.set_cons_zero, List.set_cons_succ])
  refine wpHold_take (i := 2) (v := ?_) rfl (by kernel_rfl) (by kernel_rfl) (by kernel_rfl) (fun _ _ _ h => h) (Or.inl ⟨by rfl, ?_⟩) hC0 ?_
  rotate_left
  · intro w hSw; (try dsimp only at hSw); obtain ⟨u0, u1, u2⟩ := hSw; go_simp; (try with_reducible rfl)
  (try simp only [List.getElem_toArray, List.getElem_cons_succ, List.getElem_cons_zero])
  (try simp only [Act.put, List.setIfInBounds_toArray, List.set_cons_zero, List.set_cons_succ])
  refine wpHold_one (k := 0) (by kernel_rfl) rfl (fun K hK => ?_)
  (try simp only [List.getElem_toArray, List.getElem_cons_succ, List.getElem_cons_zero])
  go_simp
  refine (whole_any 0 (by decide) (by decide) _).mono ?_
  rintro e xw_1 ⟨xv_1, rfl, hv_1, hb_1⟩
  have cc_1 := below_step bd0 hb_1
  have hC_1 : (fun w' : World => w'.cell? ⟨gh, 0, none⟩ = some (.bool th.s) ∧ w'.cell? ⟨gh, 1, none⟩ = some (.slice th.a1 th.n1 th.c1) ∧ w'.cell? ⟨gh, 2, none⟩ = some (.slice th.a2 th.n2 th.c2)) xw_1 := unhide HCC _ cc_1
  refine hK.out _ _ hC_1 ?_
  clear hK K
  (try simp only [Act.put, List.setIfInBounds_toArray, List.set_cons_zero, List.set_cons_succ])
  obtain ⟨tz, rfl, rz⟩ := tri_of hv_1
  simp only [Tri.val]
  refine wpHold_one (k := 3) (by kernel_rfl) rfl (fun K hK => ?_)
  (try simp only [List.getElem_toArray, List.getElem_cons_succ, List.getElem_cons_zero])
  go_simp
  have bA := alloc_below xw_1 (.cells #[.bool tz.s, .slice tz.a1 tz.n1 tz.c1, .slice tz.a2 tz.n2 tz.c2, .bool th.s, .slice th.a1 th.n1 th.c1, .slice th.a2 th.n2 th.c2, .bool th.s, .slice th.a1 th.n1 th.c1, .slice th.a2 th.n2 th.c2] 31)
  have nA := heap_alloc_new xw_1 (.cells #[.bool tz.s, .slice tz.a1 tz.n1 tz.c1, .slice tz.a2 tz.n2 tz.c2, .bool th.s, .slice th.a1 th.n1 th.c1, .slice th.a2 th.n2 th.c2, .bool th.s, .slice th.a1 th.n1 th.c1, .slice th.a2 th.n2 th.c2] 31)
  have cA := below_step cc_1 bA
  have hCA : (fun w' : World => w'.cell? ⟨gh, 0, none⟩ = some (.bool th.s) ∧ w'.cell? ⟨gh, 1, none⟩ = some (.slice th.a1 th.n1 th.c1) ∧ w'.cell? ⟨gh, 2, none⟩ = some (.slice th.a2 th.n2 th.c2)) (xw_1.alloc (.cells #[.bool tz.s, .slice tz.a1 tz.n1 tz.c1, .slice tz.a2 tz.n2 tz.c2, .bool th.s, .slice th.a1 th.n1 th.c1, .slice th.a2 th.n2 th.c2, .bool th.s, .slice th.a1 th.n1 th.c1, .slice th.a2 th.n2 th.c2] 31)) := unhide HCC _ cA
  refine hK.out _ _ hCA ?_
  clear hK K
  (try simp only [Act.put, List.setIfInBounds_toArray, List.set_cons_zero, List.set_cons_succ])
  obtain ⟨WA, hWA⟩ : ∃ W, xw_1.alloc (.cells #[.bool tz.s, .slice tz.a1 tz.n1 tz.c1, .slice tz.a2 tz.n2 tz.c2, .bool th.s, .slice th.a1 th.n1 th.c1, .slice th.a2 th.n2 th.c2, .bool th.s, .slice th.a1 th.n1 th.c1, .slice th.a2 th.n2 th.c2] 31) = W := ⟨_, rfl⟩
  obtain ⟨gA, hgA⟩ : ∃ b, xw_1.heap.size = b := ⟨_, rfl⟩
  rw [hWA] at bA nA cA hCA
  rw [hgA] at nA
  (try rw [hWA])
  (try rw [hgA])
  have LA := law_three nA (rz.below bA) ((unhide HXh).2.below cA) ((unhide HXh).2.below cA)
  refine wpHold_one (k := 4) (by kernel_rfl) rfl (fun K hK => ?_)
  (try simp only [List.getElem_toArray, List.getElem_cons_succ, List.getElem_cons_zero])
  go_simp
  refine (rComes_ok (.slice (some ⟨gA, 0, none⟩) 3 3) lstq 1 1000 2 3 WA LA lst_rs lst_rnc rfl (by decide) (by decide) (by decide) (by decide) (by decide)).mono ?_
  rintro e xw_2 ⟨G, us, rfl, hul, hgl, S⟩
  have hb_2 := S.bl
  have cc_2 := below_step cA hb_2
  have hC_2 : (fun w' : World => w'.cell? ⟨gh, 0, none⟩ = some (.bool th.s) ∧ w'.cell? ⟨gh, 1, none⟩ = some (.slice th.a1 th.n1 th.c1) ∧ w'.cell? ⟨gh, 2, none⟩ = some (.slice th.a2 th.n2 th.c2)) xw_2 := unhide HCC _ cc_2
  refine hK.out _ _ hC_2 ?_
  clear hK K
  (try simp only [Act.put, List.setIfInBounds_toArray, List.set_cons_zero, List.set_cons_succ])
  refine wpHold_take (i := 5) (v := ?_) rfl (by kernel_rfl) (by kernel_rfl) (by kernel_rfl) (fun _ _ _ h => h) (Or.inl ⟨by rfl, ?_⟩) hC_2 ?_
  rotate_left
  · intro w hSw; clear hSw; go_simp; (try with_reducible rfl)
  (try simp only [List.getElem_toArray, List.getElem_cons_succ, List.getElem_cons_zero])
  (try simp only [Act.put, List.setIfInBounds_toArray, List.set_cons_zero, List.set_cons_succ])
  refine wpHold_take (i := 6) (v := ?_) rfl (by kernel_rfl) (by kernel_rfl) (by kernel_rfl) (fun _ _ _ h => h) (Or.inl ⟨by rfl, ?_⟩) hC_2 ?_
  rotate_left
  · intro w hSw; clear hSw; go_simp; (try with_reducible rfl)
  (try simp only [List.getElem_toArray, List.getElem_cons_succ, List.getElem_cons_zero])
  (try simp only [Act.put, List.setIfInBounds_toArray, List.set_cons_zero, List.set_cons_succ])
  refine wpHold_take (i := 7) (v := ?_) rfl (by kernel_rfl) (by kernel_rfl) (by kernel_rfl) (fun _ _ _ h => h) (Or.inl ⟨by rfl, ?_⟩) hC_2 ?_
  rotate_left
  · intro w hSw; clear hSw; go_simp; (try with_reducible rfl)
  (try simp only [List.getElem_toArray, List.getElem_cons_succ, List.getElem_cons_zero])
  (try simp only [Act.put, List.setIfInBounds_toArray, List.set_cons_zero, List.set_cons_succ])
  refine wpHold_take (i := 8) (v := ?_) rfl (by kernel_rfl) (by kernel_rfl) (by kernel_rfl) (fun _ _ _ h => h) (Or.inl ⟨by rfl, ?_⟩) hC_2 ?_
  rotate_left
  · intro w hSw; clear hSw; go_simp; (try with_reducible rfl)
  (try simp only [List.getElem_toArray, List.getElem_cons_succ, List.getElem_cons_zero])
  (try simp only [Act.put, List.setIfInBounds_toArray, List.set_cons_zero, List.set_cons_succ])
  refine wpHold_take (i := 9) (v := ?_) rfl (by kernel_rfl) (by kernel_rfl) (by kernel_rfl) (fun _ _ _ h => h) (Or.inl ⟨by rfl, ?_⟩) hC_2 ?_
  rotate_left
  · intro w hSw; clear hSw; go_simp; (try with_reducible rfl)
  (try simp only [List.getElem_toArray, List.getElem_cons_succ, List.getElem_cons_zero])
  (try simp only [Act.put, List.setIfInBounds_toArray, List.set_cons_zero, List.set_cons_succ])
  refine wpHold_done (by kernel_rfl) ?_ _
  have HB2 := hide (below_step (unhide HB) cc_2)
  have ⟨⟨k0, k1, k2⟩, _⟩ := S.cells 2 (by omega)
  have r := S.rat 2 (by omega)
  rw [row_get (by decide), lst_u] at r
  obtain ⟨tq, htq⟩ : ∃ t, us[2]! = t := ⟨_, rfl⟩
  rw [htq] at k0 k1 k2 r
  have j0 : xw_2.cell? ⟨G, 6, none⟩ = some (.bool tq.s) := k0
  have j1 : xw_2.cell? ⟨G, 7, none⟩ = some (.slice tq.a1 tq.n1 tq.c1) := k1
  have j2 : xw_2.cell? ⟨G, 8, none⟩ = some (.slice tq.a2 tq.n2 tq.c2) := k2
  have HTX := hide (textR_any tq.val (Rat.divInt 3 4) xw_2 r 1 ⟨by decide +kernel, by decide +kernel⟩ (by rw [KKe]; omega) (tab_below (unhide HTB) (unhide HB2)))
  rw [lst_text] at HTX
  simp only [Tri.val] at HTX
  clear S k0 k1 k2 r hul hgl hb_2 hb_1 hC_2 cc_2 cA hCA bA nA LA hWA hgA bd0 hC0 hC_1 cc_1 HCC HXh hv_1 rz htq
  go_wp2_with fail
  refine (unhide HTX).mono ?_
  rintro e w5 ⟨rfl, hb5⟩
  have HB5 := hide (below_step (unhide HB2) hb5)
  clear hb5 j0 j1 j2
  go_wp2
  go_ret
  exact ⟨rfl, unhide HB5⟩

end Go.Proofs.YtpopcfclpemlaaaDoor
