/- plain.Law; the checker's own sum. -/
import Derived.Test.YtdicbnchkfclaaaDoorB8
namespace Go.Proofs.YtdicbnchkfclaaaDoor
open Go.RowKit Go.Sort Go.Shelf

set_option maxHeartbeats 1000000 in
theorem law_any (v : Value) (ps : List (Int × Int)) (w : World) (h : PairsAre w v ps) (hl : ps.length ≤ 1099511627776) :
    Calls Tryd.prog 10 #[v] w fun e w' => ∃ v, e = .returned v ∧ LawIs w' v (pqs ps) ∧ Below w.heap.size w w' := by
  have HF := hide (fs_any v ps w h hl)
  clear h
  go_enter Tryd.func10, Tryd.ntmps10
  go_wp2_with fail
  refine (unhide HF).mono ?_
  rintro e w2 ⟨v2, rfl, hv2, hb2⟩
  have HV := hide hv2
  obtain ⟨a, c, rfl, _, _, _⟩ := hv2
  go_wp2
  go_ret
  exact ⟨_, rfl, unhide HV, hb2⟩

/-- A fraction in a box g of the call's own, and the result's empty box r. -/
structure BoxAt (w wr : World) (r g : Nat) (q : Rat) (t : Tri) : Prop where
  res : wr.heap[r]? = some (.cells #[.bool false, .slice none 0 0, .slice none 0 0] 36)
  all : wr.heap[g]? = some (.cells #[.bool t.s, .slice t.a1 t.n1 t.c1, .slice t.a2 t.n2 t.c2] 36)
  rat : RatIs wr (.agg #[.bool t.s, .slice t.a1 t.n1 t.c1, .slice t.a2 t.n2 t.c2]) q
  bl : Below w.heap.size w wr
  rl : w.heap.size ≤ r
  gl : w.heap.size ≤ g
  ne : r ≠ g

theorem BoxAt.keep {w wr w' : World} {r g : Nat} {q : Rat} {t : Tri} (h : BoxAt w wr r g q t) (hb : Below wr.heap.size wr w') : BoxAt w w' r g q t := by
  have l1 := (Array.getElem?_eq_some_iff.1 h.res).1
  have l2 := (Array.getElem?_eq_some_iff.1 h.all).1
  exact ⟨by rw [hb.block _ l1]; exact h.res, by rw [hb.block _ l2]; exact h.all, h.rat.below hb, below_step h.bl hb, h.rl, h.gl, h.ne⟩

theorem BoxAt.set {w wr : World} {r g : Nat} {q q' : Rat} {t t' : Tri} (h : BoxAt w wr r g q t) (hr : RatIs wr t'.val q') :
    BoxAt w (((wr.setCell ⟨g, 0, none⟩ (.bool t'.s)).setCell ⟨g, 1, none⟩ (.slice t'.a1 t'.n1 t'.c1)).setCell ⟨g, 2, none⟩ (.slice t'.a2 t'.n2 t'.c2)) r g q' t' := by
  have rb := rat_boxed (w0 := w) hr h.all h.bl h.gl (.bool t'.s) (.slice t'.a1 t'.n1 t'.c1) (.slice t'.a2 t'.n2 t'.c2)
  refine ⟨?_, box_set h.all, rb.1, rb.2, h.rl, h.gl, h.ne⟩
  rw [Below.heap_setCell _ _ _ _ h.ne, Below.heap_setCell _ _ _ _ h.ne, Below.heap_setCell _ _ _ _ h.ne]
  exact h.res

theorem BoxAt.start {w w1 : World} {q : Rat} {t : Tri} (hb : Below (w.alloc (.cells #[.bool false, .slice none 0 0, .slice none 0 0] 36)).heap.size (w.alloc (.cells #[.bool false, .slice none 0 0, .slice none 0 0] 36)) w1) (h : RatIs w1 t.val q) :
    BoxAt w (w1.alloc (.cells #[.bool t.s, .slice t.a1 t.n1 t.c1, .slice t.a2 t.n2 t.c2] 36)) w.heap.size w1.heap.size q t := by
  have hsz : w.heap.size < w1.heap.size := by have := hb.size; rw [alloc_heap, Array.size_push] at this; omega
  have hb1 := below_step (alloc_below w _) hb
  refine ⟨?_, heap_alloc_new w1 _, h.below (alloc_below w1 _), below_step hb1 (alloc_below w1 _), Nat.le_refl _, by omega, by omega⟩
  rw [show (w1.alloc (Obj.cells #[Value.bool t.s, Value.slice t.a1 t.n1 t.c1, Value.slice t.a2 t.n2 t.c2] 36)).heap[w.heap.size]? = w1.heap[w.heap.size]? from heap_alloc_old w1 _ hsz, hb.block _ (by rw [alloc_heap, Array.size_push]; omega)]
  exact heap_alloc_new w _

set_option maxHeartbeats 4000000 in
set_option maxRecDepth 100000 in
set_option linter.unusedSimpArgs false in
theorem fsum_any (v : Value) (qs : List Rat) (J : Nat) (w : World) (h : LawIs w v qs) (hq : ∀ j, j < qs.length → RS qs[j]! J) (hJ : (qs.length * (J + 1) + 1 + J) + (qs.length * (J + 1) + 1 + J) + 1 ≤ KK) :
    Calls Tryd.prog 21 #[v] w fun e w' => ∃ v, e = .returned v ∧ RatIs w' v (qsum qs qs.length) ∧ Below w.heap.size w w' := by
  have HL := hide h
  obtain ⟨a, c, rfl, h1, h2, h3⟩ := h
  have H3 := hide h3
  have HQ := hide hq
  clear h3 hq
  go_enter Tryd.func21, Tryd.ntmps21
  go_wp2_with fail
  refine (whole_any 0 (by decide) (by decide) _).mono ?_
  rintro e w1 ⟨v1, rfl, hv1, hb1⟩
  obtain ⟨t, rfl, hr1⟩ := tri_of hv1
  have HS0 := hide (BoxAt.start hb1 hr1)
  obtain ⟨G, hG⟩ : ∃ G, w1.heap.size = G := ⟨_, rfl⟩
  have HG := hide hG
  rw [hG] at HS0
  simp only [Tri.val]
  clear hv1 hr1 hb1 hG
  go_wp2_with fail
  rw [unhide HG]
  go_loopw [4] (fun vi wr => ∃ (i : Nat) (t : Tri), vi = .int .i64 i ∧ i ≤ qs.length ∧ BoxAt w wr w.heap.size G (qsum qs i) t) (fun vi _ => qs.length - (intOf vi).toNat)
  case atStart => exact ⟨0, t, rfl, Nat.zero_le _, unhide HS0⟩
  case round =>
    obtain ⟨i, t, rfl, hi, T⟩ := hrel
    clear HS0
    by_cases hlt : i < qs.length
    · obtain ⟨b, o, rfl, hblt, hcs⟩ := unhide H3 (by omega)
      obtain ⟨s', b1, b2, m1, d1, m2, d2, k0, k1, k2, r⟩ := hcs i hlt
      rw [← T.bl.cell (p := ⟨b, o + i * 3, none⟩) hblt] at k0
      rw [← T.bl.cell (p := ⟨b, o + i * 3 + 1, none⟩) hblt] at k1
      rw [← T.bl.cell (p := ⟨b, o + i * 3 + 2, none⟩) hblt] at k2
      have r' := r.below T.bl
      have ⟨g0, g1, g2, f0, f1, f2⟩ := box_cell T.all
      have HAD := hide (addR_any _ _ (qsum qs i) qs[i]! wr.drew (T.rat.below (Below.refl _ _).drew) (r'.below (Below.refl _ _).drew) (qs.length * (J + 1) + 1 + J) ((qsum_RS (unhide HQ) i hi).mono (by have := Nat.mul_le_mul_right (J + 1) hi; omega)) ((unhide HQ i hlt).mono (by omega)) hJ)
      have hi0 : (0 : Int) ≤ (i : Int) := by omega
      have hi1 : (i : Int) < (qs.length : Int) := by omega
      have hblr : b < wr.drew.heap.size := Nat.lt_of_lt_of_le hblt T.bl.size
      have HT := hide T
      clear T r r' hcs H3 HQ
      go_wp2_with fail
      refine wp_region_till (fun w' => w'.cell? ⟨G, 0, none⟩ = some (.bool t.s) ∧ w'.cell? ⟨G, 1, none⟩ = some (.slice t.a1 t.n1 t.c1) ∧ w'.cell? ⟨G, 2, none⟩ = some (.slice t.a2 t.n2 t.c2) ∧ w'.cell? ⟨b, o + i * 3, none⟩ = some (.bool s') ∧ w'.cell? ⟨b, o + i * 3 + 1, none⟩ = some (.slice b1 m1 d1) ∧ w'.cell? ⟨b, o + i * 3 + 2, none⟩ = some (.slice b2 m2 d2)) 6 (by kernel_rfl) ?_
      have hC0 : (fun w' : World => w'.cell? ⟨G, 0, none⟩ = some (.bool t.s) ∧ w'.cell? ⟨G, 1, none⟩ = some (.slice t.a1 t.n1 t.c1) ∧ w'.cell? ⟨G, 2, none⟩ = some (.slice t.a2 t.n2 t.c2) ∧ w'.cell? ⟨b, o + i * 3, none⟩ = some (.bool s') ∧ w'.cell? ⟨b, o + i * 3 + 1, none⟩ = some (.slice b1 m1 d1) ∧ w'.cell? ⟨b, o + i * 3 + 2, none⟩ = some (.slice b2 m2 d2)) wr.drew := ⟨g0, g1, g2, k0, k1, k2⟩
      refine wpTill_take (i := 0) (v := ?_) rfl (by kernel_rfl) (by kernel_rfl) (by kernel_rfl) (by kernel_rfl) (by kernel_rfl) (by kernel_rfl) (fun _ _ _ h => h) (Or.inl ⟨by rfl, ?_⟩) hC0 ?_
      rotate_left
      · intro w hSw; (try dsimp only at hSw); obtain ⟨z0, z1, z2, z3, z4, z5⟩ := hSw; go_simp; (try with_reducible rfl)
      (try simp only [List.getElem_toArray, List.getElem_cons_succ, List.getElem_cons_zero])
      (try simp only [Act.put, List.setIfInBounds_toArray, List.set_cons_zero, List.set_cons_succ])
      refine wpTill_pure (i := 1) (v := ?_) rfl (by kernel_rfl) (by kernel_rfl) (by kernel_rfl) (by kernel_rfl) (fun _ _ _ h => h) (Or.inl ⟨by rfl, ?_⟩) (fun _ => hC0) ?_
      rotate_left
      · intro w hSw; clear hSw; go_simp; (try with_reducible rfl)
      (try simp only [List.getElem_toArray, List.getElem_cons_succ, List.getElem_cons_zero])
      (try simp only [Act.put, List.setIfInBounds_toArray, List.set_cons_zero, List.set_cons_succ])
      refine wpTill_pure (i := 2) (v := ?_) rfl (by kernel_rfl) (by kernel_rfl) (by kernel_rfl) (by kernel_rfl) (fun _ _ _ h => h) (Or.inl ⟨by rfl, ?_⟩) (fun _ => hC0) ?_
      rotate_left
      · intro w hSw; clear hSw; go_simp; (try with_reducible rfl)
      (try simp only [List.getElem_toArray, List.getElem_cons_succ, List.getElem_cons_zero])
      (try simp only [Act.put, List.setIfInBounds_toArray, List.set_cons_zero, List.set_cons_succ])
      refine wpTill_pure (i := 3) (v := ?_) rfl (by kernel_rfl) (by kernel_rfl) (by kernel_rfl) (by kernel_rfl) (fun _ _ _ h => h) (Or.inl ⟨by rfl, ?_⟩) (fun _ => hC0) ?_
      rotate_left
      · intro w hSw; clear hSw; go_simp; (try with_reducible rfl)
      (try simp only [List.getElem_toArray, List.getElem_cons_succ, List.getElem_cons_zero])
      (try simp only [Act.put, List.setIfInBounds_toArray, List.set_cons_zero, List.set_cons_succ])
      refine wpTill_take (i := 4) (v := ?_) rfl (by kernel_rfl) (by kernel_rfl) (by kernel_rfl) (by kernel_rfl) (by kernel_rfl) (by kernel_rfl) (fun _ _ _ h => h) (Or.inl ⟨by rfl, ?_⟩) hC0 ?_
      rotate_left
      · intro w hSw; (try dsimp only at hSw); obtain ⟨z0, z1, z2, z3, z4, z5⟩ := hSw; go_simp; (try with_reducible rfl)
      (try simp only [List.getElem_toArray, List.getElem_cons_succ, List.getElem_cons_zero])
      (try simp only [Act.put, List.setIfInBounds_toArray, List.set_cons_zero, List.set_cons_succ])
      refine wpTill_one (k := 5) (by kernel_rfl) rfl (fun K hK => ?_)
      (try simp only [List.getElem_toArray, List.getElem_cons_succ, List.getElem_cons_zero])
      go_simp
      refine (unhide HAD).mono ?_
      rintro e w5 ⟨v5, rfl, hv5, hb5⟩
      have T5 := (unhide HT).keep (below_step (Below.refl _ _).drew hb5)
      obtain ⟨t5, rfl, hr5⟩ := tri_of hv5
      have ⟨k0', k1', k2', l0, l1, l2⟩ := box_cell T5.all
      have FIN := hide (T5.set hr5)
      have hC5 : (fun w' : World => w'.cell? ⟨G, 0, none⟩ = some (.bool t.s) ∧ w'.cell? ⟨G, 1, none⟩ = some (.slice t.a1 t.n1 t.c1) ∧ w'.cell? ⟨G, 2, none⟩ = some (.slice t.a2 t.n2 t.c2) ∧ w'.cell? ⟨b, o + i * 3, none⟩ = some (.bool s') ∧ w'.cell? ⟨b, o + i * 3 + 1, none⟩ = some (.slice b1 m1 d1) ∧ w'.cell? ⟨b, o + i * 3 + 2, none⟩ = some (.slice b2 m2 d2)) w5 := ⟨k0', k1', k2', by rw [hb5.cell (p := ⟨b, o + i * 3, none⟩) hblr]; exact k0, by rw [hb5.cell (p := ⟨b, o + i * 3 + 1, none⟩) hblr]; exact k1, by rw [hb5.cell (p := ⟨b, o + i * 3 + 2, none⟩) hblr]; exact k2⟩
      simp only [Tri.val]
      clear T5 hv5 hr5 HAD g0 g1 g2 f0 f1 f2
      refine hK.out _ _ (fun _ => hC5) ?_
      clear hK K
      (try simp only [Act.put, List.setIfInBounds_toArray, List.set_cons_zero, List.set_cons_succ])
      refine wpTill_one (k := 6) (by kernel_rfl) rfl (fun K hK => ?_)
      (try simp only [List.getElem_toArray, List.getElem_cons_succ, List.getElem_cons_zero])
      go_simp
      refine hK.out _ _ (fun h => absurd (h.symm.trans (by kernel_rfl)) Bool.false_ne_true) ?_
      clear hK K
      (try simp only [Act.put, List.setIfInBounds_toArray, List.set_cons_zero, List.set_cons_succ])
      refine wpTill_done (by kernel_rfl) ?_ _
      clear hC0 hC5 k0 k1 k2 k0' k1' k2' HT hb5
      go_wp2_with fail
      exact ⟨⟨i + 1, t5, by go_num, hlt, unhide FIN⟩, by simp [intOf]; omega⟩
    · obtain rfl : i = qs.length := by omega
      have ⟨g0, g1, g2, f0, f1, f2⟩ := box_cell T.all
      have ⟨h0, h1', h2', l0, l1, l2⟩ := box_cell T.res
      have rb := rat_boxed (w0 := w) T.rat T.res T.bl (Nat.le_refl _) (.bool t.s) (.slice t.a1 t.n1 t.c1) (.slice t.a2 t.n2 t.c2)
      have RB := hide rb
      clear T rb H3 HQ
      go_wp2
      (try simp only [Exit.inBlock, Exit.then])
      have rb := unhide RB
      exact bodyPost_ret (v := .agg #[.bool t.s, .slice t.a1 t.n1 t.c1, .slice t.a2 t.n2 t.c2]) (by simp [results, Tryd.results21, go_sem, h0, h1', h2']) rfl ⟨_, rfl, rb.1, rb.2⟩
end Go.Proofs.YtdicbnchkfclaaaDoor
