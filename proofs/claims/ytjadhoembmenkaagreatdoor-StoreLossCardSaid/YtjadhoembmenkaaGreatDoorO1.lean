/- store.mean: the mean of what each amount costs. -/
import Derived.Test.YtjadhoembmenkaaGreatDoorWB
namespace Go.Proofs.YtjadhoembmenkaaGreatDoor
open Go.RowKit Go.Sort Go.Shelf

def rsum (qs : List Rat) (F : Nat → Rat) : Nat → Rat
  | 0 => 0
  | k + 1 => rsum qs F k + qs[k]! * F k
theorem rsum_RS {qs : List Rat} {J JF : Nat} {F : Nat → Rat} (h : ∀ j, j < qs.length → RS qs[j]! J) (hF : ∀ j, j < qs.length → RS (F j) JF) (k : Nat) (hk : k ≤ qs.length) : RS (rsum qs F k) (k * (J + JF + 1) + 1) := by
  induction k with
  | zero => exact RS.zero.mono (by omega)
  | succ k ih => exact ((ih (by omega)).add ((h k (by omega)).mul (hF k (by omega)))).mono (by rw [Nat.succ_mul]; omega)

set_option maxHeartbeats 8000000 in
set_option maxRecDepth 100000 in
set_option linter.unusedSimpArgs false in
theorem smean_any (v : Value) (qs : List Rat) (J JF : Nat) (fk : Nat) (bd : Array Value) (F : Nat → Rat) (w : World) (h : LawIs w v qs) (hq : ∀ j, j < qs.length → RS qs[j]! J) (hJ : 4 * (qs.length * (J + JF + 1) + J + JF + 10) ≤ KK) (hF : ∀ j, j < qs.length → RS (F j) JF) (heg : ∀ args w, (callFunc fk args).run Tryz.prog w = .ok (.enter fk args) w)
    (hc : ∀ (j : Nat), j < qs.length → ∀ W, Below w.heap.size w W → Calls Tryz.prog fk (#[.int .i64 (j : Int)] ++ bd) W fun e w' => ∃ v, e = .returned v ∧ RatIs w' v (F j) ∧ Below W.heap.size W w') :
    Calls Tryz.prog 35 #[v, .func (.func fk) #[] bd] w fun e w' => ∃ v, e = .returned v ∧ RatIs w' v (rsum qs F qs.length) ∧ Below w.heap.size w w' := by
  have HL := hide h
  obtain ⟨a, c, rfl, h1, h2, h3⟩ := h
  have H3 := hide h3
  have HQ := hide hq
  have HF := hide hF
  have HC := hide hc
  clear h3 hq hF hc
  have hb0 : Below (w.alloc (.cells #[.bool false, .slice none 0 0, .slice none 0 0] 29)).heap.size (w.alloc (.cells #[.bool false, .slice none 0 0, .slice none 0 0] 29)) (w.alloc (.cells #[.bool false, .slice none 0 0, .slice none 0 0] 29)) := Below.refl _ _
  have HS0 := hide (BoxAt.start (t := zTri) hb0 (rat_zero _))
  obtain ⟨G, hG⟩ : ∃ G, (w.alloc (.cells #[.bool false, .slice none 0 0, .slice none 0 0] 29)).heap.size = G := ⟨_, rfl⟩
  have HG := hide hG
  have hG1 : w.heap.size + 1 = G := by rw [← hG, alloc_heap, Array.size_push]
  rw [hG] at HS0
  clear hb0 hG
  go_enter Tryz.func35, Tryz.ntmps35
  go_wp2_with fail
  go_loopw [10] (fun vi wr => ∃ (i : Nat) (t : Tri), vi = .int .i64 i ∧ i ≤ qs.length ∧ BoxAt w wr w.heap.size G (rsum qs F i) t) (fun vi _ => qs.length - (intOf vi).toNat)
  case atStart => exact ⟨0, zTri, rfl, Nat.zero_le _, unhide HS0⟩
  case round =>
    obtain ⟨i, t, rfl, hi, T⟩ := hrel
    clear HS0
    by_cases hlt : i < qs.length
    · obtain ⟨b, o, rfl, hblt, hcs⟩ := unhide H3 (by omega)
      obtain ⟨s', p1, p2, m1, d1, m2, d2, k0, k1, k2, r⟩ := hcs i hlt
      obtain ⟨tx, rfl, rfl, rfl, rfl, rfl, rfl, rfl⟩ : ∃ t : Tri, s' = t.s ∧ p1 = t.a1 ∧ p2 = t.a2 ∧ m1 = t.n1 ∧ d1 = t.c1 ∧ m2 = t.n2 ∧ d2 = t.c2 := ⟨⟨s', p1, p2, m1, d1, m2, d2⟩, rfl, rfl, rfl, rfl, rfl, rfl, rfl⟩
      rw [← T.bl.cell (p := ⟨b, o + i * 3, none⟩) hblt] at k0
      rw [← T.bl.cell (p := ⟨b, o + i * 3 + 1, none⟩) hblt] at k1
      rw [← T.bl.cell (p := ⟨b, o + i * 3 + 2, none⟩) hblt] at k2
      have rx : RatIs wr tx.val qs[i]! := r.below T.bl
      have T5 := T.keep (alloc_below wr (.cells #[.bool tx.s, .slice tx.a1 tx.n1 tx.c1, .slice tx.a2 tx.n2 tx.c2] 29))
      have X5 := BoxIs.new rx
      have hi0 : (0 : Int) ≤ (i : Int) := by omega
      have hi1 : (i : Int) < (qs.length : Int) := by omega
      obtain ⟨W5, hW5⟩ : ∃ W, wr.alloc (.cells #[.bool tx.s, .slice tx.a1 tx.n1 tx.c1, .slice tx.a2 tx.n2 tx.c2] 29) = W := ⟨_, rfl⟩
      obtain ⟨gx, hgx⟩ : ∃ g, wr.heap.size = g := ⟨_, rfl⟩
      rw [hW5] at T5 X5
      rw [hgx] at X5
      have HT5 := hide T5
      have HX5 := hide X5
      have bd0 : Below W5.heap.size W5 W5.drew := (Below.refl _ _).drew
      have HCC : Hid (∀ W, Below W5.heap.size W5 W → (fun w' : World => (w'.cell? ⟨G, 0, none⟩ = some (.bool t.s) ∧ w'.cell? ⟨G, 1, none⟩ = some (.slice t.a1 t.n1 t.c1) ∧ w'.cell? ⟨G, 2, none⟩ = some (.slice t.a2 t.n2 t.c2)) ∧ w'.cell? ⟨gx, 0, none⟩ = some (.bool tx.s) ∧ w'.cell? ⟨gx, 1, none⟩ = some (.slice tx.a1 tx.n1 tx.c1) ∧ w'.cell? ⟨gx, 2, none⟩ = some (.slice tx.a2 tx.n2 tx.c2)) W) := fun W hW => ⟨BoxIs.cells (q := rsum qs F i) ⟨T5.all, T5.rat⟩ W hW, X5.cells W hW⟩
      have HBW : Hid (∀ W, Below W5.heap.size W5 W → Below w.heap.size w W) := fun W hW => below_step T5.bl hW
      have rs1 := rsum_RS (unhide HQ) (unhide HF) i (by omega)
      have rs2 := unhide HQ i hlt
      have rs3 := unhide HF i hlt
      have hmi := Nat.mul_le_mul_right (J + JF + 1) hi
      have HR1 := hide (rs1.mono (show i * (J + JF + 1) + 1 ≤ qs.length * (J + JF + 1) + J + JF + 5 by omega))
      have HR2 := hide (rs2.mono (show J ≤ qs.length * (J + JF + 1) + J + JF + 5 by omega))
      have HR3 := hide (rs3.mono (show JF ≤ qs.length * (J + JF + 1) + J + JF + 5 by omega))
      have HR4 := hide ((rs2.mul rs3).mono (show J + JF ≤ qs.length * (J + JF + 1) + J + JF + 5 by omega))
      have hJ2 : (qs.length * (J + JF + 1) + J + JF + 5) + (qs.length * (J + JF + 1) + J + JF + 5) + 1 ≤ KK := by omega
      have HJ2 := hide hJ2
      clear T T5 X5 r rx hcs rs1 rs2 rs3 hmi hJ2
      go_wp2_with fail
      clear hW5 hgx k0 k1 k2
      refine wp_region_till (fun w' : World => (w'.cell? ⟨G, 0, none⟩ = some (.bool t.s) ∧ w'.cell? ⟨G, 1, none⟩ = some (.slice t.a1 t.n1 t.c1) ∧ w'.cell? ⟨G, 2, none⟩ = some (.slice t.a2 t.n2 t.c2)) ∧ w'.cell? ⟨gx, 0, none⟩ = some (.bool tx.s) ∧ w'.cell? ⟨gx, 1, none⟩ = some (.slice tx.a1 tx.n1 tx.c1) ∧ w'.cell? ⟨gx, 2, none⟩ = some (.slice tx.a2 tx.n2 tx.c2)) 7 (by kernel_rfl) ?_
      have hC0 : (fun w' : World => (w'.cell? ⟨G, 0, none⟩ = some (.bool t.s) ∧ w'.cell? ⟨G, 1, none⟩ = some (.slice t.a1 t.n1 t.c1) ∧ w'.cell? ⟨G, 2, none⟩ = some (.slice t.a2 t.n2 t.c2)) ∧ w'.cell? ⟨gx, 0, none⟩ = some (.bool tx.s) ∧ w'.cell? ⟨gx, 1, none⟩ = some (.slice tx.a1 tx.n1 tx.c1) ∧ w'.cell? ⟨gx, 2, none⟩ = some (.slice tx.a2 tx.n2 tx.c2)) W5.drew := unhide HCC _ bd0
      refine wpTill_take (i := 0) (v := ?_) rfl (by kernel_rfl) (by kernel_rfl) (by kernel_rfl) (by kernel_rfl) (by kernel_rfl) (by kernel_rfl) (fun _ _ _ h => h) (Or.inl ⟨by rfl, ?_⟩) hC0 ?_
      rotate_left
      · intro w hSw; (try dsimp only at hSw); obtain ⟨⟨z0, z1, z2⟩, z3, z4, z5⟩ := hSw; go_simp; (try with_reducible rfl)
      (try simp only [List.getElem_toArray, List.getElem_cons_succ, List.getElem_cons_zero])
      (try simp only [Act.put, List.setIfInBounds_toArray, List.set_cons_zero, List.set_cons_succ])
      refine wpTill_take (i := 1) (v := ?_) rfl (by kernel_rfl) (by kernel_rfl) (by kernel_rfl) (by kernel_rfl) (by kernel_rfl) (by kernel_rfl) (fun _ _ _ h => h) (Or.inl ⟨by rfl, ?_⟩) hC0 ?_
      rotate_left
      · intro w hSw; (try dsimp only at hSw); obtain ⟨⟨z0, z1, z2⟩, z3, z4, z5⟩ := hSw; go_simp; (try with_reducible rfl)
      (try simp only [List.getElem_toArray, List.getElem_cons_succ, List.getElem_cons_zero])
      (try simp only [Act.put, List.setIfInBounds_toArray, List.set_cons_zero, List.set_cons_succ])
      refine wpTill_pure (i := 2) (v := ?_) rfl (by kernel_rfl) (by kernel_rfl) (by kernel_rfl) (by kernel_rfl) (fun _ _ _ h => h) (Or.inl ⟨by rfl, ?_⟩) (fun _ => hC0) ?_
      rotate_left
      · intro w hSw; clear hSw; go_simp; (try with_reducible rfl)
      (try simp only [List.getElem_toArray, List.getElem_cons_succ, List.getElem_cons_zero])
      (try simp only [Act.put, List.setIfInBounds_toArray, List.set_cons_zero, List.set_cons_succ])
      refine wpTill_pure (i := 3) (v := ?_) rfl (by kernel_rfl) (by kernel_rfl) (by kernel_rfl) (by kernel_rfl) (fun _ _ _ h => h) (Or.inl ⟨by rfl, ?_⟩) (fun _ => hC0) ?_
      rotate_left
      · intro w hSw; clear hSw; go_simp; (try with_reducible rfl)
      (try simp only [List.getElem_toArray, List.getElem_cons_succ, List.getElem_cons_zero])
      (try simp only [Act.put, List.setIfInBounds_toArray, List.set_cons_zero, List.set_cons_succ])
      refine wpTill_one (k := 4) (by kernel_rfl) rfl (fun K hK => ?_)
      (try simp only [List.getElem_toArray, List.getElem_cons_succ, List.getElem_cons_zero])
      go_simp
      refine (unhide HC i hlt _ (unhide HBW _ bd0)).mono ?_
      rintro e w7 ⟨v7, rfl, hv7, hb7⟩
      have b7 := below_step bd0 hb7
      have hC7 : (fun w' : World => (w'.cell? ⟨G, 0, none⟩ = some (.bool t.s) ∧ w'.cell? ⟨G, 1, none⟩ = some (.slice t.a1 t.n1 t.c1) ∧ w'.cell? ⟨G, 2, none⟩ = some (.slice t.a2 t.n2 t.c2)) ∧ w'.cell? ⟨gx, 0, none⟩ = some (.bool tx.s) ∧ w'.cell? ⟨gx, 1, none⟩ = some (.slice tx.a1 tx.n1 tx.c1) ∧ w'.cell? ⟨gx, 2, none⟩ = some (.slice tx.a2 tx.n2 tx.c2)) w7 := unhide HCC _ b7
      have HMU := hide (mulR_any _ _ _ _ w7 ((unhide HX5).2.below b7) hv7 _ (unhide HR2) (unhide HR3) (unhide HJ2))
      refine hK.out _ _ (fun _ => hC7) ?_
      clear hK K
      (try simp only [Act.put, List.setIfInBounds_toArray, List.set_cons_zero, List.set_cons_succ])
      refine wpTill_one (k := 5) (by kernel_rfl) rfl (fun K hK => ?_)
      (try simp only [List.getElem_toArray, List.getElem_cons_succ, List.getElem_cons_zero])
      go_simp
      refine (unhide HMU).mono ?_
      rintro e w8 ⟨v8, rfl, hv8, hb8⟩
      have b8 := below_step b7 hb8
      have hC8 : (fun w' : World => (w'.cell? ⟨G, 0, none⟩ = some (.bool t.s) ∧ w'.cell? ⟨G, 1, none⟩ = some (.slice t.a1 t.n1 t.c1) ∧ w'.cell? ⟨G, 2, none⟩ = some (.slice t.a2 t.n2 t.c2)) ∧ w'.cell? ⟨gx, 0, none⟩ = some (.bool tx.s) ∧ w'.cell? ⟨gx, 1, none⟩ = some (.slice tx.a1 tx.n1 tx.c1) ∧ w'.cell? ⟨gx, 2, none⟩ = some (.slice tx.a2 tx.n2 tx.c2)) w8 := unhide HCC _ b8
      have HAD := hide (addR_any _ _ _ _ w8 ((unhide HT5).rat.below b8) hv8 _ (unhide HR1) (unhide HR4) (unhide HJ2))
      refine hK.out _ _ (fun _ => hC8) ?_
      clear hK K
      (try simp only [Act.put, List.setIfInBounds_toArray, List.set_cons_zero, List.set_cons_succ])
      refine wpTill_one (k := 6) (by kernel_rfl) rfl (fun K hK => ?_)
      (try simp only [List.getElem_toArray, List.getElem_cons_succ, List.getElem_cons_zero])
      go_simp
      refine (unhide HAD).mono ?_
      rintro e w9 ⟨v9, rfl, hv9, hb9⟩
      have b9 := below_step b8 hb9
      have hC9 : (fun w' : World => (w'.cell? ⟨G, 0, none⟩ = some (.bool t.s) ∧ w'.cell? ⟨G, 1, none⟩ = some (.slice t.a1 t.n1 t.c1) ∧ w'.cell? ⟨G, 2, none⟩ = some (.slice t.a2 t.n2 t.c2)) ∧ w'.cell? ⟨gx, 0, none⟩ = some (.bool tx.s) ∧ w'.cell? ⟨gx, 1, none⟩ = some (.slice tx.a1 tx.n1 tx.c1) ∧ w'.cell? ⟨gx, 2, none⟩ = some (.slice tx.a2 tx.n2 tx.c2)) w9 := unhide HCC _ b9
      obtain ⟨t9, rfl, hr9⟩ := tri_of hv9
      have T9 := (unhide HT5).keep b9
      have FIN := hide (T9.set hr9)
      have ⟨_, _, _, l0, l1, l2⟩ := box_cell T9.all
      have ⟨⟨y0, y1, y2⟩, _⟩ := hC9
      simp only [Tri.val]
      clear T9 hv9 hr9 hv8 hv7
      refine hK.out _ _ (fun _ => hC9) ?_
      clear hK K
      (try simp only [Act.put, List.setIfInBounds_toArray, List.set_cons_zero, List.set_cons_succ])
      refine wpTill_one (k := 7) (by kernel_rfl) rfl (fun K hK => ?_)
      (try simp only [List.getElem_toArray, List.getElem_cons_succ, List.getElem_cons_zero])
      go_simp
      refine hK.out _ _ (fun h => absurd (h.symm.trans (by kernel_rfl)) Bool.false_ne_true) ?_
      clear hK K
      (try simp only [Act.put, List.setIfInBounds_toArray, List.set_cons_zero, List.set_cons_succ])
      refine wpTill_done (by kernel_rfl) ?_ _
      clear hC0 hC7 hC8 hC9 bd0 b7 b8 b9 hb7 hb8 hb9 y0 y1 y2 l0 l1 l2
      go_wp2_with fail
      exact ⟨⟨i + 1, t9, by go_num, hlt, unhide FIN⟩, by simp [intOf]; omega⟩
    · obtain rfl : i = qs.length := by omega
      have hlt' : ¬ (qs.length : Int) < (qs.length : Int) := by omega
      have ⟨g0, g1, g2, f0, f1, f2⟩ := box_cell T.all
      have ⟨h0, h1', h2', l0, l1, l2⟩ := box_cell T.res
      have rb := rat_boxed (w0 := w) T.rat T.res T.bl (Nat.le_refl _) (.bool t.s) (.slice t.a1 t.n1 t.c1) (.slice t.a2 t.n2 t.c2)
      have RB := hide rb
      clear T rb H3 HQ
      go_wp2
      (try simp only [Exit.inBlock, Exit.then])
      have rb := unhide RB
      exact bodyPost_ret (v := .agg #[.bool t.s, .slice t.a1 t.n1 t.c1, .slice t.a2 t.n2 t.c2]) (by simp [results, Tryz.results35, go_sem, h0, h1', h2']) rfl ⟨_, rfl, rb.1, rb.2⟩
end Go.Proofs.YtjadhoembmenkaaGreatDoor
