/- What is left, and half the squares. -/
import Derived.Test.YtbboacmjbffmhaaGreatDoorS3
namespace Go.Proofs.YtbboacmjbffmhaaGreatDoor
open Go.RowKit Go.Sort Go.Shelf

/-- A row of the call's own, where another row is written. -/
theorem SumsAt.apart {w wr : World} {g g2 : Nat} {us us2 : List Tri} {qs : List Rat} {T : TypeId} (h : SumsAt w wr g us qs) (hg : wr.heap[g2]? = some (.cells (tcells us2).toArray T)) (hne : g ≠ g2) (hge : w.heap.size ≤ g2) (i0 i1 i2 : Nat) (x0 x1 x2 : Value) :
    SumsAt w (((wr.setCell ⟨g2, i0, none⟩ x0).setCell ⟨g2, i1, none⟩ x1).setCell ⟨g2, i2, none⟩ x2) g us qs :=
  ⟨by rw [Below.heap_setCell _ _ _ _ hne, Below.heap_setCell _ _ _ _ hne, Below.heap_setCell _ _ _ _ hne]; exact h.row, h.len, fun j hj => (h.rat j hj).rowed hg _ _ _ _ _ _, ((h.bl.setCell hge _).setCell hge _).setCell hge _, h.gl⟩
theorem SumsAt.rebase {w w1 wr : World} {g : Nat} {us : List Tri} {qs : List Rat} (h : SumsAt w1 wr g us qs) (hb : Below w.heap.size w w1) : SumsAt w wr g us qs :=
  ⟨h.row, h.len, h.rat, below_step hb h.bl, Nat.le_trans hb.size h.gl⟩
/-- What loads says: a row of its own. -/
def LoadsPost (w : World) (ks : List (Rat × List Rat)) (e : Ending) (w' : World) : Prop := ∃ G us, e = .returned (.slice (some ⟨G, 0, none⟩) ks.length ks.length) ∧ SumsAt w w' G us (row (ldC ks) ks.length)

set_option maxHeartbeats 8000000 in
set_option maxRecDepth 100000 in
set_option linter.unusedSimpArgs false in
theorem sloads_any (v vm : Value) (ks : List (Rat × List Rat)) (w : World) (h : ClassesAre w v ks) (hm : LawIs w vm (row (mo 1 ks) ks.length)) (sm : SmC ks) (hl : ks.length ≤ 6) :
    Calls Tryz.prog 40 #[v, vm] w (LoadsPost w ks) := by
  have KKe : KK = 1099511627776 := rfl
  obtain ⟨a, c, rfl, h1, h2, h3⟩ := h
  obtain ⟨am, cm, rfl, m1, m2, m3⟩ := hm
  rw [row_length] at m1 m3 ⊢
  have H3 := hide h3
  have HM3 := hide m3
  have HSM := hide sm
  have qmk := make_ratios (ks.length : Int) (by omega) (by omega) w
  rw [Int.toNat_natCast] at qmk
  have S0 := SumsAt.start w w ks.length (Below.refl _ _)
  rw [fill_zero (ldC ks) ks.length] at S0
  obtain ⟨W0, hW0⟩ : ∃ W, w.alloc (.cells (tcells (List.replicate ks.length zTri)).toArray 42) = W := ⟨_, rfl⟩
  obtain ⟨G, hG⟩ : ∃ G, w.heap.size = G := ⟨_, rfl⟩
  rw [hW0, hG] at qmk S0
  have HS0 := hide S0
  clear S0 hW0 hG h3 m3 sm
  go_enter Tryz.func40, Tryz.ntmps40
  go_wp2_with fail
  clear qmk
  go_loopw [13] (fun vi wr => ∃ (i : Nat) (us : List Tri), vi = .int .i64 (i : Int) ∧ i ≤ ks.length ∧ SumsAt w wr G us (fill (ldC ks) ks.length i)) (fun vi _ => ks.length - (intOf vi).toNat)
  case atStart => exact ⟨0, _, rfl, Nat.zero_le _, unhide HS0⟩
  case round =>
    obtain ⟨i, us, rfl, hi, S⟩ := hrel
    have hul : us.length = ks.length := by rw [S.len, fill_length]
    clear HS0
    by_cases hlt : i < ks.length
    · have HBL := hide S.bl
      obtain ⟨b, o, rfl, hblt, hcs⟩ := unhide H3 (by omega)
      obtain ⟨tk, lk, ⟨k0, k1, k2, k3⟩, kr⟩ := hcs i hlt
      rw [← (unhide HBL).cell (p := ⟨b, o + i * 4, none⟩) hblt] at k0
      rw [← (unhide HBL).cell (p := ⟨b, o + i * 4 + 1, none⟩) hblt] at k1
      rw [← (unhide HBL).cell (p := ⟨b, o + i * 4 + 2, none⟩) hblt] at k2
      rw [← (unhide HBL).cell (p := ⟨b, o + i * 4 + 3, none⟩) hblt] at k3
      have Y0 := CBox.new (kr.below (unhide HBL))
      have HBA := hide (alloc_below wr (.cells #[.bool tk.s, .slice tk.a1 tk.n1 tk.c1, .slice tk.a2 tk.n2 tk.c2, .slice lk.a lk.n lk.c] 45))
      obtain ⟨W2, hW2⟩ : ∃ W, wr.alloc (.cells #[.bool tk.s, .slice tk.a1 tk.n1 tk.c1, .slice tk.a2 tk.n2 tk.c2, .slice lk.a lk.n lk.c] 45) = W := ⟨_, rfl⟩
      obtain ⟨bk, hbk⟩ : ∃ g, wr.heap.size = g := ⟨_, rfl⟩
      rw [hW2] at Y0 HBA
      rw [hbk] at Y0
      have HY1 := hide Y0
      have e1 : (i : Int) < (ks.length : Int) := by omega
      have e0 : (0 : Int) ≤ (i : Int) := by omega
      have ⟨c0, c1, c2, c3⟩ := Y0.cells _ (Below.refl _ _)
      clear Y0 kr hcs
      have HS1 := hide (S.keep (unhide HBA))
      obtain ⟨bm, om, rfl, hbm, hcm⟩ := unhide HM3 (by omega)
      obtain ⟨xs, xp1, xp2, xn1, xd1, xn2, xd2, xk0, xk1, xk2, xr⟩ := hcm i hlt
      obtain ⟨tm, rfl, rfl, rfl, rfl, rfl, rfl, rfl⟩ : ∃ t : Tri, xs = t.s ∧ xp1 = t.a1 ∧ xp2 = t.a2 ∧ xn1 = t.n1 ∧ xd1 = t.c1 ∧ xn2 = t.n2 ∧ xd2 = t.c2 := ⟨⟨xs, xp1, xp2, xn1, xd1, xn2, xd2⟩, rfl, rfl, rfl, rfl, rfl, rfl, rfl⟩
      rw [row_get hlt] at xr
      have HRM := hide (xr.below (unhide HS1).bl)
      have HCC : Hid (∀ W, Below W2.heap.size W2 W → (fun w' : World => (w'.cell? ⟨bk, 0, none⟩ = some (.bool tk.s) ∧ w'.cell? ⟨bk, 1, none⟩ = some (.slice tk.a1 tk.n1 tk.c1) ∧ w'.cell? ⟨bk, 2, none⟩ = some (.slice tk.a2 tk.n2 tk.c2) ∧ w'.cell? ⟨bk, 3, none⟩ = some (.slice lk.a lk.n lk.c)) ∧ (w'.cell? ⟨bm, om + i * 3, none⟩ = some (.bool tm.s) ∧ w'.cell? ⟨bm, om + i * 3 + 1, none⟩ = some (.slice tm.a1 tm.n1 tm.c1) ∧ w'.cell? ⟨bm, om + i * 3 + 2, none⟩ = some (.slice tm.a2 tm.n2 tm.c2))) W) := fun W hW => by
        have bc := below_step (unhide HS1).bl hW
        refine ⟨(unhide HY1).cells W hW, ?_⟩
        rw [bc.cell (p := ⟨bm, om + i * 3, none⟩) hbm, bc.cell (p := ⟨bm, om + i * 3 + 1, none⟩) hbm, bc.cell (p := ⟨bm, om + i * 3 + 2, none⟩) hbm]; exact ⟨xk0, xk1, xk2⟩
      have HMU : Hid (∀ W, Below W2.heap.size W2 W → Calls Tryz.prog 13 #[.agg #[.bool tk.s, .slice tk.a1 tk.n1 tk.c1, .slice tk.a2 tk.n2 tk.c2], .agg #[.bool tm.s, .slice tm.a1 tm.n1 tm.c1, .slice tm.a2 tm.n2 tm.c2]] W fun e w' => ∃ v, e = .returned v ∧ RatIs w' v (ldC ks i) ∧ Below W.heap.size W w') := fun W hW => mulR_any tk.val tm.val _ _ W ((unhide HY1).2.1.below hW) ((unhide HRM).below hW) 40 ((unhide HSM i hlt).1.mono (by omega)) (mo_RS (unhide HSM) (by omega) hlt) (by rw [KKe]; omega)
      clear S HBL xr xk0 xk1 xk2 hcm
      go_wp2_with fail
      clear hW2 hbk k0 k1 k2 k3 c0 c1 c2 c3
      refine wp_region_till (fun w' : World => (w'.cell? ⟨bk, 0, none⟩ = some (.bool tk.s) ∧ w'.cell? ⟨bk, 1, none⟩ = some (.slice tk.a1 tk.n1 tk.c1) ∧ w'.cell? ⟨bk, 2, none⟩ = some (.slice tk.a2 tk.n2 tk.c2) ∧ w'.cell? ⟨bk, 3, none⟩ = some (.slice lk.a lk.n lk.c)) ∧ (w'.cell? ⟨bm, om + i * 3, none⟩ = some (.bool tm.s) ∧ w'.cell? ⟨bm, om + i * 3 + 1, none⟩ = some (.slice tm.a1 tm.n1 tm.c1) ∧ w'.cell? ⟨bm, om + i * 3 + 2, none⟩ = some (.slice tm.a2 tm.n2 tm.c2))) 10 (by kernel_rfl) ?_
      have bd0 : Below W2.heap.size W2 W2.drew := (Below.refl _ _).drew
      have hC0 : (fun w' : World => (w'.cell? ⟨bk, 0, none⟩ = some (.bool tk.s) ∧ w'.cell? ⟨bk, 1, none⟩ = some (.slice tk.a1 tk.n1 tk.c1) ∧ w'.cell? ⟨bk, 2, none⟩ = some (.slice tk.a2 tk.n2 tk.c2) ∧ w'.cell? ⟨bk, 3, none⟩ = some (.slice lk.a lk.n lk.c)) ∧ (w'.cell? ⟨bm, om + i * 3, none⟩ = some (.bool tm.s) ∧ w'.cell? ⟨bm, om + i * 3 + 1, none⟩ = some (.slice tm.a1 tm.n1 tm.c1) ∧ w'.cell? ⟨bm, om + i * 3 + 2, none⟩ = some (.slice tm.a2 tm.n2 tm.c2))) W2.drew := unhide HCC _ bd0
      refine wpTill_pure (i := 0) (v := ?_) rfl (by kernel_rfl) (by kernel_rfl) (by kernel_rfl) (by kernel_rfl) (fun _ _ _ h => h) (Or.inl ⟨by rfl, ?_⟩) (fun _ => hC0) ?_
      rotate_left
      · intro w hSw; clear hSw; go_simp; (try with_reducible rfl)
      (try simp only [List.getElem_toArray, List.getElem_cons_succ, List.getElem_cons_zero])
      (try simp only [Act.put, List.setIfInBounds_toArray, List.set_cons_zero, List.set_cons_succ])
      refine wpTill_pure (i := 1) (v := ?_) rfl (by kernel_rfl) (by kernel_rfl) (by kernel_rfl) (by kernel_rfl) (fun _ _ _ h => h) (Or.inl ⟨by rfl, ?_⟩) (fun _ => hC0) ?_
      rotate_left
      · intro w hSw; clear hSw; go_simp; (try with_reducible rfl)
      (try simp only [List.getElem_toArray, List.getElem_cons_succ, List.getElem_cons_zero])
      (try simp only [Act.put, List.setIfInBounds_toArray, List.set_cons_zero, List.set_cons_succ])
      refine wpTill_pure (i := 2) (v := ?_) rfl (by kernel_rfl) (by kernel_rfl) (by kernel_rfl) (by kernel_rfl) (fun _ _ _ h => h) (Or.inl ⟨by rfl, ?_⟩) (fun _ => hC0) ?_
      rotate_left
      · intro w hSw; clear hSw; go_simp; (try with_reducible rfl)
      (try simp only [List.getElem_toArray, List.getElem_cons_succ, List.getElem_cons_zero])
      (try simp only [Act.put, List.setIfInBounds_toArray, List.set_cons_zero, List.set_cons_succ])
      refine wpTill_take (i := 3) (v := ?_) rfl (by kernel_rfl) (by kernel_rfl) (by kernel_rfl) (by kernel_rfl) (by kernel_rfl) (by kernel_rfl) (fun _ _ _ h => h) (Or.inl ⟨by rfl, ?_⟩) hC0 ?_
      rotate_left
      · intro w hSw; (try dsimp only at hSw); obtain ⟨⟨z0, z1, z2, z3⟩, z4, z5, z6⟩ := hSw; go_simp; (try with_reducible rfl)
      (try simp only [List.getElem_toArray, List.getElem_cons_succ, List.getElem_cons_zero])
      (try simp only [Act.put, List.setIfInBounds_toArray, List.set_cons_zero, List.set_cons_succ])
      refine wpTill_pure (i := 4) (v := ?_) rfl (by kernel_rfl) (by kernel_rfl) (by kernel_rfl) (by kernel_rfl) (fun _ _ _ h => h) (Or.inl ⟨by rfl, ?_⟩) (fun _ => hC0) ?_
      rotate_left
      · intro w hSw; clear hSw; go_simp; (try with_reducible rfl)
      (try simp only [List.getElem_toArray, List.getElem_cons_succ, List.getElem_cons_zero])
      (try simp only [Act.put, List.setIfInBounds_toArray, List.set_cons_zero, List.set_cons_succ])
      refine wpTill_pure (i := 5) (v := ?_) rfl (by kernel_rfl) (by kernel_rfl) (by kernel_rfl) (by kernel_rfl) (fun _ _ _ h => h) (Or.inl ⟨by rfl, ?_⟩) (fun _ => hC0) ?_
      rotate_left
      · intro w hSw; clear hSw; go_simp; (try with_reducible rfl)
      (try simp only [List.getElem_toArray, List.getElem_cons_succ, List.getElem_cons_zero])
      (try simp only [Act.put, List.setIfInBounds_toArray, List.set_cons_zero, List.set_cons_succ])
      refine wpTill_pure (i := 6) (v := ?_) rfl (by kernel_rfl) (by kernel_rfl) (by kernel_rfl) (by kernel_rfl) (fun _ _ _ h => h) (Or.inl ⟨by rfl, ?_⟩) (fun _ => hC0) ?_
      rotate_left
      · intro w hSw; clear hSw; go_simp; (try with_reducible rfl)
      (try simp only [List.getElem_toArray, List.getElem_cons_succ, List.getElem_cons_zero])
      (try simp only [Act.put, List.setIfInBounds_toArray, List.set_cons_zero, List.set_cons_succ])
      refine wpTill_take (i := 7) (v := ?_) rfl (by kernel_rfl) (by kernel_rfl) (by kernel_rfl) (by kernel_rfl) (by kernel_rfl) (by kernel_rfl) (fun _ _ _ h => h) (Or.inl ⟨by rfl, ?_⟩) hC0 ?_
      rotate_left
      · intro w hSw; (try dsimp only at hSw); obtain ⟨⟨z0, z1, z2, z3⟩, z4, z5, z6⟩ := hSw; go_simp; (try with_reducible rfl)
      (try simp only [List.getElem_toArray, List.getElem_cons_succ, List.getElem_cons_zero])
      (try simp only [Act.put, List.setIfInBounds_toArray, List.set_cons_zero, List.set_cons_succ])
      refine wpTill_one (k := 8) (by kernel_rfl) rfl (fun K hK => ?_)
      (try simp only [List.getElem_toArray, List.getElem_cons_succ, List.getElem_cons_zero])
      go_simp
      refine (unhide HMU _ bd0).mono ?_
      rintro e xw_1 ⟨xv_1, rfl, hv_1, hb_1⟩
      have cc_1 := below_step bd0 hb_1
      have hC_1 : (fun w' : World => (w'.cell? ⟨bk, 0, none⟩ = some (.bool tk.s) ∧ w'.cell? ⟨bk, 1, none⟩ = some (.slice tk.a1 tk.n1 tk.c1) ∧ w'.cell? ⟨bk, 2, none⟩ = some (.slice tk.a2 tk.n2 tk.c2) ∧ w'.cell? ⟨bk, 3, none⟩ = some (.slice lk.a lk.n lk.c)) ∧ (w'.cell? ⟨bm, om + i * 3, none⟩ = some (.bool tm.s) ∧ w'.cell? ⟨bm, om + i * 3 + 1, none⟩ = some (.slice tm.a1 tm.n1 tm.c1) ∧ w'.cell? ⟨bm, om + i * 3 + 2, none⟩ = some (.slice tm.a2 tm.n2 tm.c2))) xw_1 := unhide HCC _ cc_1
      refine hK.out _ _ (fun _ => hC_1) ?_
      clear hK K
      (try simp only [Act.put, List.setIfInBounds_toArray, List.set_cons_zero, List.set_cons_succ])
      refine wpTill_pure (i := 9) (v := ?_) rfl (by kernel_rfl) (by kernel_rfl) (by kernel_rfl) (by kernel_rfl) (fun _ _ _ h => h) (Or.inl ⟨by rfl, ?_⟩) (fun _ => hC_1) ?_
      rotate_left
      · intro w hSw; clear hSw; go_simp; (try with_reducible rfl)
      (try simp only [List.getElem_toArray, List.getElem_cons_succ, List.getElem_cons_zero])
      (try simp only [Act.put, List.setIfInBounds_toArray, List.set_cons_zero, List.set_cons_succ])
      obtain ⟨tn, rfl, rn⟩ := tri_of hv_1
      simp only [Tri.val]
      have S8 := (unhide HS1).keep cc_1
      have ⟨⟨y0, y1, y2⟩, l0, l1, l2⟩ := S8.cells i (by omega)
      have FZ := S8.set i (by omega) tn _ rn
      rw [fill_set (ldC ks)] at FZ
      obtain ⟨W9, hW9⟩ : ∃ W, ((xw_1.setCell ⟨G, i * 3, none⟩ (.bool tn.s)).setCell ⟨G, i * 3 + 1, none⟩ (.slice tn.a1 tn.n1 tn.c1)).setCell ⟨G, i * 3 + 2, none⟩ (.slice tn.a2 tn.n2 tn.c2) = W := ⟨_, rfl⟩
      rw [hW9] at FZ
      have HFS := hide FZ
      clear S8 FZ rn hv_1 hb_1
      refine wpTill_one (k := 10) (by kernel_rfl) rfl (fun K hK => ?_)
      (try simp only [List.getElem_toArray, List.getElem_cons_succ, List.getElem_cons_zero])
      go_simp
      refine hK.out _ _ (fun h => absurd (h.symm.trans (by kernel_rfl)) Bool.false_ne_true) ?_
      clear hK K
      (try simp only [Act.put, List.setIfInBounds_toArray, List.set_cons_zero, List.set_cons_succ])
      refine wpTill_done (by kernel_rfl) ?_ _
      clear l0 l1 l2 y0 y1 y2 hW9 hC0 hC_1 cc_1 bd0 HCC HMU
      go_wp2_with fail
      exact ⟨⟨i + 1, _, by go_num, hlt, unhide HFS⟩, by simp [intOf]; omega⟩
    · obtain rfl : i = ks.length := by omega
      have e1 : ¬ (ks.length : Int) < (ks.length : Int) := by omega
      have HLW : Hid (SumsAt w wr G us (row (ldC ks) ks.length)) := S
      clear S
      go_wp2
      go_ret
      exact ⟨_, _, rfl, unhide HLW⟩
end Go.Proofs.YtbboacmjbffmhaaGreatDoor
