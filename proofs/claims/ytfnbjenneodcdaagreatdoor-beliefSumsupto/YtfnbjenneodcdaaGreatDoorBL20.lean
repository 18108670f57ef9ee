/- Hidden states: mean, divided. -/
import Derived.Test.YtfnbjenneodcdaaGreatDoorBL4
namespace Go.Proofs.YtfnbjenneodcdaaGreatDoor
open Go.RowKit Go.Sort Go.Shelf

theorem mn_RS {qs xs : List Rat} {J : Nat} (h1 : ∀ i, i < qs.length → RS qs[i]! J) (h2 : ∀ i, i < qs.length → RS xs[i]! J) : ∀ k, k ≤ qs.length → RS (Bth.ps (fun j => qs[j]! * xs[j]!) k) (k * (J + J + 1) + 1)
  | 0, _ => RS.mono RS.zero (by omega)
  | k + 1, hk => by
    have a := mn_RS h1 h2 k (by omega)
    have b := (h1 k (by omega)).mul (h2 k (by omega))
    have c := a.add b
    exact c.mono (by rw [Nat.add_mul]; omega)
theorem SumsAt.rebase {w w1 wr : World} {g : Nat} {us : List Tri} {qs : List Rat} (h : SumsAt w1 wr g us qs) (hb : Below w.heap.size w w1) : SumsAt w wr g us qs :=
  ⟨h.row, h.len, h.rat, below_step hb h.bl, Nat.le_trans hb.size h.gl⟩
/-- A row of fractions of the call's own. -/
def DivPost (w : World) (qs : List Rat) (n : Nat) (e : Ending) (w' : World) : Prop := ∃ g us, e = .returned (.slice (some ⟨g, 0, none⟩) n n) ∧ us.length = n ∧ w.heap.size ≤ g ∧ SumsAt w w' g us qs
theorem LawIs.cap {w : World} {l : Sl} {qs : List Rat} {n : Nat} (h : LawIs w l.val qs) (e : qs.length = n) : n ≤ l.c ∧ l.c ≤ 9223372036854775807 := by
  obtain ⟨a, c, e', i1, i2, _⟩ := h
  have e1 : l.c = c := by injection e'
  rw [e1]; exact ⟨by omega, i2⟩

set_option maxHeartbeats 16000000 in
set_option maxRecDepth 100000 in
set_option linter.unusedSimpArgs false in
theorem bmean_any (l1 l2 : Sl) (qs xs : List Rat) (n J0 JB : Nat) (w : World) (h1 : LawIs w l1.val qs) (h2 : LawIs w l2.val xs) (e1 : qs.length = n) (e2 : xs.length = n) (hn1 : 1 ≤ n) (hn8 : n ≤ 1000) (r1 : ∀ i, i < n → RS qs[i]! J0) (r2 : ∀ i, i < n → RS xs[i]! J0) (hJ0 : n * (J0 + J0 + 1) + 1 + J0 + J0 ≤ JB) (hJ : JB + JB + 1 ≤ KK) :
    Calls Tryz.prog 51 #[.slice l1.a n l1.c, .slice l2.a n l2.c] w fun e w' => ∃ v, e = .returned v ∧ RatIs w' v (Blf.mn n (fun j => qs[j]!) (fun j => xs[j]!)) ∧ Below w.heap.size w w' := by
  have HJ := hide hJ
  obtain ⟨hc11, hc12⟩ := h1.cap e1
  obtain ⟨hc21, hc22⟩ := h2.cap e2
  have HPS : Hid (∀ k, k ≤ n → RS (Bth.ps (fun j => qs[j]! * xs[j]!) k) JB) := fun k hk => by
    have := mn_RS (qs := qs) (xs := xs) (fun i hi => r1 i (by omega)) (fun i hi => r2 i (by omega)) k (by omega)
    have h3 : k * (J0 + J0 + 1) ≤ n * (J0 + J0 + 1) := Nat.mul_le_mul_right _ hk
    exact this.mono (by omega)
  have HQA : Hid (∀ i, i < n → RS qs[i]! JB) := fun i hi => (r1 i hi).mono (by omega)
  have HQB : Hid (∀ i, i < n → RS xs[i]! JB) := fun i hi => (r2 i hi).mono (by omega)
  have HQP : Hid (∀ i, i < n → RS (qs[i]! * xs[i]!) JB) := fun i hi => ((r1 i hi).mul (r2 i hi)).mono (by omega)
  have b0 := alloc_below w (.cells #[.bool false, .slice none 0 0, .slice none 0 0] 26)
  have X0 := BoxIs.new (w := w) (t := zTri) (q := 0) (rat_zero _)
  obtain ⟨W0, hW0⟩ : ∃ W, w.alloc (.cells #[.bool false, .slice none 0 0, .slice none 0 0] 26) = W := ⟨_, rfl⟩
  obtain ⟨R, hR⟩ : ∃ R, w.heap.size = R := ⟨_, rfl⟩
  have X0' : BoxIs W0 R zTri 0 := by rw [← hW0, ← hR]; exact X0
  rw [hW0] at b0
  have HX : Hid (∀ W, Below W0.heap.size W0 W → BoxIs W R zTri 0) := fun W hW => X0'.keep hW
  have HBW : Hid (∀ W, Below W0.heap.size W0 W → Below w.heap.size w W) := fun W hW => below_step b0 hW
  have HG : Hid (w.heap.size ≤ R) := by show _ ≤ R; rw [hR]; exact Nat.le_refl _
  have HB0 := hide b0
  clear X0 X0' b0
  obtain ⟨ba, oa, ea, hba, Hba⟩ : ∃ b o, l1.a = some ⟨b, o, none⟩ ∧ b < W0.heap.size ∧ Hid (∀ j, j < n → ∃ t : Tri, W0.cell? ⟨b, o + j * 3, none⟩ = some (.bool t.s) ∧ W0.cell? ⟨b, o + j * 3 + 1, none⟩ = some (.slice t.a1 t.n1 t.c1) ∧ W0.cell? ⟨b, o + j * 3 + 2, none⟩ = some (.slice t.a2 t.n2 t.c2) ∧ RatIs W0 t.val qs[j]!) := (h1.below (unhide HB0)).open e1 hn1
  have HLba := hide hba
  obtain ⟨bb, ob, eb, hbb, Hbb⟩ : ∃ b o, l2.a = some ⟨b, o, none⟩ ∧ b < W0.heap.size ∧ Hid (∀ j, j < n → ∃ t : Tri, W0.cell? ⟨b, o + j * 3, none⟩ = some (.bool t.s) ∧ W0.cell? ⟨b, o + j * 3 + 1, none⟩ = some (.slice t.a1 t.n1 t.c1) ∧ W0.cell? ⟨b, o + j * 3 + 2, none⟩ = some (.slice t.a2 t.n2 t.c2) ∧ RatIs W0 t.val xs[j]!) := (h2.below (unhide HB0)).open e2 hn1
  have HLbb := hide hbb
  have b1 := alloc_below W0 (.cells #[.bool false, .slice none 0 0, .slice none 0 0] 26)
  have X1 := BoxIs.new (w := W0) (t := zTri) (q := 0) (rat_zero _)
  obtain ⟨W1, hW1⟩ : ∃ W, W0.alloc (.cells #[.bool false, .slice none 0 0, .slice none 0 0] 26) = W := ⟨_, rfl⟩
  obtain ⟨bS, hbS⟩ : ∃ R, W0.heap.size = R := ⟨_, rfl⟩
  have HX1 : Hid (BoxIs W1 bS zTri (Bth.ps (fun j => qs[j]! * xs[j]!) 0)) := by show BoxIs W1 bS zTri 0; rw [← hW1, ← hbS]; exact X1
  rw [hW1] at b1
  have HB1 := hide b1
  have HGS : Hid (W0.heap.size ≤ bS) := by show _ ≤ bS; rw [hbS]; exact Nat.le_refl _
  have HV : Hid (Blf.mn n (fun j => qs[j]!) (fun j => xs[j]!) = Bth.ps (fun j => qs[j]! * xs[j]!) n) := rfl
  obtain ⟨q, hq⟩ : ∃ q, Blf.mn n (fun j => qs[j]!) (fun j => xs[j]!) = q := ⟨_, rfl⟩
  rw [hq] at HV ⊢
  rw [ea, eb]
  clear h1 h2 e1 e2 r1 r2 hJ hJ0 ea eb hba hbb b1 X1 hq
  go_enter Tryz.func51, Tryz.ntmps51
  go_wp2_with fail
  clear hW0 hR hW1 hbS
  go_loopw [10] (fun vi wr => ∃ (k : Nat) (ts : Tri), vi = .int .i64 (k : Int) ∧ k ≤ n ∧ BoxIs wr bS ts (Bth.ps (fun j => qs[j]! * xs[j]!) k) ∧ Below W0.heap.size W0 wr) (fun vi _ => n - (intOf vi).toNat)
  case atStart => exact ⟨0, zTri, rfl, Nat.zero_le _, unhide HX1, unhide HB1⟩
  case round =>
    obtain ⟨k, ts, rfl, hk, hX, hb⟩ := hrel
    clear HX1 HB1
    by_cases hlt : k < n
    · have j1 : (k : Int) < (n : Int) := by omega
      have j0 : (0 : Int) ≤ (k : Int) := by omega
      obtain ⟨ta, ka0, ka1, ka2, ra⟩ := unhide Hba k hlt
      obtain ⟨tb, kb0, kb1, kb2, rb⟩ := unhide Hbb k hlt
      rw [← hb.cell (p := ⟨ba, oa + k * 3, none⟩) (unhide HLba)] at ka0
      rw [← hb.cell (p := ⟨ba, oa + k * 3 + 1, none⟩) (unhide HLba)] at ka1
      rw [← hb.cell (p := ⟨ba, oa + k * 3 + 2, none⟩) (unhide HLba)] at ka2
      have b7_ := alloc_below wr (.cells #[.bool ta.s, .slice ta.a1 ta.n1 ta.c1, .slice ta.a2 ta.n2 ta.c2] 26)
      have X7 := BoxIs.new (ra.below hb)
      obtain ⟨W7, hW7⟩ : ∃ W, wr.alloc (.cells #[.bool ta.s, .slice ta.a1 ta.n1 ta.c1, .slice ta.a2 ta.n2 ta.c2] 26) = W := ⟨_, rfl⟩
      obtain ⟨b7, hb7⟩ : ∃ g, wr.heap.size = g := ⟨_, rfl⟩
      rw [hW7] at b7_ X7
      rw [hb7] at X7
      have HB7 := hide (below_step hb b7_)
      have HX7 := hide X7
      have HXS := hide (hX.keep b7_)
      have HTB := hide (rb.below (unhide HB7))
      have HCC : Hid (∀ W, Below W7.heap.size W7 W → (fun w' : World => (w'.cell? ⟨bS, 0, none⟩ = some (.bool ts.s) ∧ w'.cell? ⟨bS, 1, none⟩ = some (.slice ts.a1 ts.n1 ts.c1) ∧ w'.cell? ⟨bS, 2, none⟩ = some (.slice ts.a2 ts.n2 ts.c2)) ∧ (w'.cell? ⟨b7, 0, none⟩ = some (.bool ta.s) ∧ w'.cell? ⟨b7, 1, none⟩ = some (.slice ta.a1 ta.n1 ta.c1) ∧ w'.cell? ⟨b7, 2, none⟩ = some (.slice ta.a2 ta.n2 ta.c2)) ∧ (w'.cell? ⟨bb, ob + k * 3, none⟩ = some (.bool tb.s) ∧ w'.cell? ⟨bb, ob + k * 3 + 1, none⟩ = some (.slice tb.a1 tb.n1 tb.c1) ∧ w'.cell? ⟨bb, ob + k * 3 + 2, none⟩ = some (.slice tb.a2 tb.n2 tb.c2))) W) := fun W hW => by
        have h2 := below_step (unhide HB7) hW
        refine ⟨(unhide HXS).cells W hW, (unhide HX7).cells W hW, ?_, ?_, ?_⟩
        · rw [h2.cell (p := ⟨bb, ob + k * 3, none⟩) (unhide HLbb)]; exact kb0
        · rw [h2.cell (p := ⟨bb, ob + k * 3 + 1, none⟩) (unhide HLbb)]; exact kb1
        · rw [h2.cell (p := ⟨bb, ob + k * 3 + 2, none⟩) (unhide HLbb)]; exact kb2
      have HRA := hide (unhide HQA k hlt)
      have HRB := hide (unhide HQB k hlt)
      have HRP := hide (unhide HQP k hlt)
      have HRS := hide (unhide HPS k hk)
      clear hX hb b7_ X7 kb0 kb1 kb2 ra rb
      go_wp2_with fail
      clear hW7 hb7 ka0 ka1 ka2
      refine wp_region_till (fun w' : World => (w'.cell? ⟨bS, 0, none⟩ = some (.bool ts.s) ∧ w'.cell? ⟨bS, 1, none⟩ = some (.slice ts.a1 ts.n1 ts.c1) ∧ w'.cell? ⟨bS, 2, none⟩ = some (.slice ts.a2 ts.n2 ts.c2)) ∧ (w'.cell? ⟨b7, 0, none⟩ = some (.bool ta.s) ∧ w'.cell? ⟨b7, 1, none⟩ = some (.slice ta.a1 ta.n1 ta.c1) ∧ w'.cell? ⟨b7, 2, none⟩ = some (.slice ta.a2 ta.n2 ta.c2)) ∧ (w'.cell? ⟨bb, ob + k * 3, none⟩ = some (.bool tb.s) ∧ w'.cell? ⟨bb, ob + k * 3 + 1, none⟩ = some (.slice tb.a1 tb.n1 tb.c1) ∧ w'.cell? ⟨bb, ob + k * 3 + 2, none⟩ = some (.slice tb.a2 tb.n2 tb.c2))) 8 (by kernel_rfl) ?_
      have bd0 : Below W7.heap.size W7 W7.drew := (Below.refl _ _).drew
      have hC0 : (fun w' : World => (w'.cell? ⟨bS, 0, none⟩ = some (.bool ts.s) ∧ w'.cell? ⟨bS, 1, none⟩ = some (.slice ts.a1 ts.n1 ts.c1) ∧ w'.cell? ⟨bS, 2, none⟩ = some (.slice ts.a2 ts.n2 ts.c2)) ∧ (w'.cell? ⟨b7, 0, none⟩ = some (.bool ta.s) ∧ w'.cell? ⟨b7, 1, none⟩ = some (.slice ta.a1 ta.n1 ta.c1) ∧ w'.cell? ⟨b7, 2, none⟩ = some (.slice ta.a2 ta.n2 ta.c2)) ∧ (w'.cell? ⟨bb, ob + k * 3, none⟩ = some (.bool tb.s) ∧ w'.cell? ⟨bb, ob + k * 3 + 1, none⟩ = some (.slice tb.a1 tb.n1 tb.c1) ∧ w'.cell? ⟨bb, ob + k * 3 + 2, none⟩ = some (.slice tb.a2 tb.n2 tb.c2))) W7.drew := unhide HCC _ bd0
      refine wpTill_take (i := 0) (v := ?_) rfl (by kernel_rfl) (by kernel_rfl) (by kernel_rfl) (by kernel_rfl) (by kernel_rfl) (by kernel_rfl) (fun _ _ _ h => h) (Or.inl ⟨by rfl, ?_⟩) hC0 ?_
      rotate_left
      · intro w hSw; (try dsimp only at hSw); obtain ⟨⟨u0, u1, u2⟩, ⟨u3, u4, u5⟩, ⟨u6, u7, u8⟩⟩ := hSw; go_simp; (try with_reducible rfl)
      (try simp only [List.getElem_toArray, List.getElem_cons_succ, List.getElem_cons_zero])
      (try simp only [Act.put, List.setIfInBounds_toArray, List.set_cons_zero, List.set_cons_succ])
      refine wpTill_take (i := 1) (v := ?_) rfl (by kernel_rfl) (by kernel_rfl) (by kernel_rfl) (by kernel_rfl) (by kernel_rfl) (by kernel_rfl) (fun _ _ _ h => h) (Or.inl ⟨by rfl, ?_⟩) hC0 ?_
      rotate_left
      · intro w hSw; (try dsimp only at hSw); obtain ⟨⟨u0, u1, u2⟩, ⟨u3, u4, u5⟩, ⟨u6, u7, u8⟩⟩ := hSw; go_simp; (try with_reducible rfl)
      (try simp only [List.getElem_toArray, List.getElem_cons_succ, List.getElem_cons_zero])
      (try simp only [Act.put, List.setIfInBounds_toArray, List.set_cons_zero, List.set_cons_succ])
      refine wpTill_pure (i := 2) (v := ?_) rfl (by kernel_rfl) (by kernel_rfl) (by kernel_rfl) (by kernel_rfl) (fun _ _ _ h => h) (Or.inl ⟨by rfl, ?_⟩) (fun _ => hC0) ?_
      rotate_left
      · intro w hSw; clear hSw; go_simp; (try with_reducible rfl)
      (try simp only [List.getElem_toArray, List.getElem_cons_succ, List.getElem_cons_zero])
      (try simp only [Act.put, List.setIfInBounds_toArray, List.set_cons_zero, List.set_cons_succ])
      refine wpTill_pure (i := 3) (v := ?_) rfl (by kernel_rfl) (by kernel_rfl) (by kernel_rfl) (by kernel_rfl) (fun _ _ _ h => h) (Or.inl ⟨by rfl, ?_⟩) (fun _ => hC0) ?_
      rotate_left
      · intro w hSw; clear hSw; go_simp; (try with_reducible rfl)
      (try simp only [List.getElem_toArray, List.getElem_cons_succ, List.getElem_cons_zero])
      (try simp only [Act.put, List.setIfInBounds_toArray, List.set_cons_zero, List.set_cons_succ])
      refine wpTill_pure (i := 4) (v := ?_) rfl (by kernel_rfl) (by kernel_rfl) (by kernel_rfl) (by kernel_rfl) (fun _ _ _ h => h) (Or.inl ⟨by rfl, ?_⟩) (fun _ => hC0) ?_
      rotate_left
      · intro w hSw; clear hSw; go_simp; (try with_reducible rfl)
      (try simp only [List.getElem_toArray, List.getElem_cons_succ, List.getElem_cons_zero])
      (try simp only [Act.put, List.setIfInBounds_toArray, List.set_cons_zero, List.set_cons_succ])
      refine wpTill_take (i := 5) (v := ?_) rfl (by kernel_rfl) (by kernel_rfl) (by kernel_rfl) (by kernel_rfl) (by kernel_rfl) (by kernel_rfl) (fun _ _ _ h => h) (Or.inl ⟨by rfl, ?_⟩) hC0 ?_
      rotate_left
      · intro w hSw; (try dsimp only at hSw); obtain ⟨⟨u0, u1, u2⟩, ⟨u3, u4, u5⟩, ⟨u6, u7, u8⟩⟩ := hSw; go_simp; (try with_reducible rfl)
      (try simp only [List.getElem_toArray, List.getElem_cons_succ, List.getElem_cons_zero])
      (try simp only [Act.put, List.setIfInBounds_toArray, List.set_cons_zero, List.set_cons_succ])
      refine wpTill_one (k := 6) (by kernel_rfl) rfl (fun K hK => ?_)
      (try simp only [List.getElem_toArray, List.getElem_cons_succ, List.getElem_cons_zero])
      go_simp
      refine (mulR_any ta.val tb.val _ _ _ ((unhide HX7).2.below bd0) ((unhide HTB).below bd0) JB (unhide HRA) (unhide HRB) (unhide HJ)).mono ?_
      rintro e xw_1 ⟨xv_1, rfl, hv_1, hb_1⟩
      have cc_1 := below_step bd0 hb_1
      have hC_1 : (fun w' : World => (w'.cell? ⟨bS, 0, none⟩ = some (.bool ts.s) ∧ w'.cell? ⟨bS, 1, none⟩ = some (.slice ts.a1 ts.n1 ts.c1) ∧ w'.cell? ⟨bS, 2, none⟩ = some (.slice ts.a2 ts.n2 ts.c2)) ∧ (w'.cell? ⟨b7, 0, none⟩ = some (.bool ta.s) ∧ w'.cell? ⟨b7, 1, none⟩ = some (.slice ta.a1 ta.n1 ta.c1) ∧ w'.cell? ⟨b7, 2, none⟩ = some (.slice ta.a2 ta.n2 ta.c2)) ∧ (w'.cell? ⟨bb, ob + k * 3, none⟩ = some (.bool tb.s) ∧ w'.cell? ⟨bb, ob + k * 3 + 1, none⟩ = some (.slice tb.a1 tb.n1 tb.c1) ∧ w'.cell? ⟨bb, ob + k * 3 + 2, none⟩ = some (.slice tb.a2 tb.n2 tb.c2))) xw_1 := unhide HCC _ cc_1
      refine hK.out _ _ (fun _ => hC_1) ?_
      clear hK K
      (try simp only [Act.put, List.setIfInBounds_toArray, List.set_cons_zero, List.set_cons_succ])
      refine wpTill_one (k := 7) (by kernel_rfl) rfl (fun K hK => ?_)
      (try simp only [List.getElem_toArray, List.getElem_cons_succ, List.getElem_cons_zero])
      go_simp
      refine (addR_any ts.val _ _ _ _ ((unhide HXS).2.below cc_1) hv_1 JB (unhide HRS) (unhide HRP) (unhide HJ)).mono ?_
      rintro e xw_2 ⟨xv_2, rfl, hv_2, hb_2⟩
      have cc_2 := below_step cc_1 hb_2
      have hC_2 : (fun w' : World => (w'.cell? ⟨bS, 0, none⟩ = some (.bool ts.s) ∧ w'.cell? ⟨bS, 1, none⟩ = some (.slice ts.a1 ts.n1 ts.c1) ∧ w'.cell? ⟨bS, 2, none⟩ = some (.slice ts.a2 ts.n2 ts.c2)) ∧ (w'.cell? ⟨b7, 0, none⟩ = some (.bool ta.s) ∧ w'.cell? ⟨b7, 1, none⟩ = some (.slice ta.a1 ta.n1 ta.c1) ∧ w'.cell? ⟨b7, 2, none⟩ = some (.slice ta.a2 ta.n2 ta.c2)) ∧ (w'.cell? ⟨bb, ob + k * 3, none⟩ = some (.bool tb.s) ∧ w'.cell? ⟨bb, ob + k * 3 + 1, none⟩ = some (.slice tb.a1 tb.n1 tb.c1) ∧ w'.cell? ⟨bb, ob + k * 3 + 2, none⟩ = some (.slice tb.a2 tb.n2 tb.c2))) xw_2 := unhide HCC _ cc_2
      refine hK.out _ _ (fun _ => hC_2) ?_
      clear hK K
      (try simp only [Act.put, List.setIfInBounds_toArray, List.set_cons_zero, List.set_cons_succ])
      obtain ⟨t5, rfl, r5⟩ := tri_of hv_2
      simp only [Tri.val]
      have Y := (unhide HXS).keep cc_2
      have ⟨l0, l1, l2⟩ := Y.free
      have ⟨y0, y1, y2⟩ := Y.cells _ (Below.refl _ _)
      have NB := Y.set r5
      have YB := (((below_step (unhide HB7) cc_2).setCell (p := ⟨bS, 0, none⟩) (unhide HGS) (.bool t5.s)).setCell (p := ⟨bS, 1, none⟩) (unhide HGS) (.slice t5.a1 t5.n1 t5.c1)).setCell (p := ⟨bS, 2, none⟩) (unhide HGS) (.slice t5.a2 t5.n2 t5.c2)
      obtain ⟨W9, hW9⟩ : ∃ W, ((xw_2.setCell ⟨bS, 0, none⟩ (.bool t5.s)).setCell ⟨bS, 1, none⟩ (.slice t5.a1 t5.n1 t5.c1)).setCell ⟨bS, 2, none⟩ (.slice t5.a2 t5.n2 t5.c2) = W := ⟨_, rfl⟩
      rw [hW9] at NB YB
      have HNB := hide NB
      have HYB := hide YB
      clear Y NB YB r5 hv_1 hv_2
      refine wpTill_one (k := 8) (by kernel_rfl) rfl (fun K hK => ?_)
      (try simp only [List.getElem_toArray, List.getElem_cons_succ, List.getElem_cons_zero])
      go_simp
      refine hK.out _ _ (fun h => absurd (h.symm.trans (by kernel_rfl)) Bool.false_ne_true) ?_
      clear hK K
      (try simp only [Act.put, List.setIfInBounds_toArray, List.set_cons_zero, List.set_cons_succ])
      refine wpTill_done (by kernel_rfl) ?_ _
      clear HCC HTB HX7 HXS HB7 y0 y1 y2 l0 l1 l2 hW9 hC0 hC_1 hC_2 cc_1 cc_2 bd0 hb_1 hb_2
      go_wp2_with fail
      exact ⟨⟨k + 1, t5, by go_num, hlt, unhide HNB, unhide HYB⟩, by simp [intOf]; omega⟩
    · obtain rfl : k = n := by omega
      have j1 : ¬ (k : Int) < (k : Int) := by omega
      have ⟨z0, z1, z2⟩ := hX.cells _ (Below.refl _ _)
      have Y := unhide HX _ hb
      have ⟨l0, l1, l2⟩ := Y.free
      have ⟨y0, y1, y2⟩ := Y.cells _ (Below.refl _ _)
      have FIN := Y.set hX.2
      have FB := (((unhide HBW _ hb).setCell (p := ⟨R, 0, none⟩) (unhide HG) (.bool ts.s)).setCell (p := ⟨R, 1, none⟩) (unhide HG) (.slice ts.a1 ts.n1 ts.c1)).setCell (p := ⟨R, 2, none⟩) (unhide HG) (.slice ts.a2 ts.n2 ts.c2)
      obtain ⟨Wf, hWf⟩ : ∃ W, ((wr.setCell ⟨R, 0, none⟩ (.bool ts.s)).setCell ⟨R, 1, none⟩ (.slice ts.a1 ts.n1 ts.c1)).setCell ⟨R, 2, none⟩ (.slice ts.a2 ts.n2 ts.c2) = W := ⟨_, rfl⟩
      rw [hWf] at FIN FB
      have HFIN := hide FIN
      have HFB := hide FB
      have ⟨x0, x1, x2⟩ := FIN.cells _ (Below.refl _ _)
      clear Y FIN FB hX hb
      go_wp2
      (try simp only [Exit.inBlock, Exit.then])
      exact bodyPost_ret (v := .agg #[.bool ts.s, .slice ts.a1 ts.n1 ts.c1, .slice ts.a2 ts.n2 ts.c2]) (by simp [results, Tryz.results51, go_sem, x0, x1, x2]) rfl ⟨_, rfl, by rw [unhide HV]; exact (unhide HFIN).2, unhide HFB⟩

set_option maxHeartbeats 16000000 in
set_option maxRecDepth 100000 in
set_option linter.unusedSimpArgs false in
theorem divided2_any (l : Sl) (vq : Value) (qs : List Rat) (q : Rat) (n J0 : Nat) (w : World) (h : LawIs w l.val qs) (e1 : qs.length = n) (hq : RatIs w vq q) (hn1 : 1 ≤ n) (hn8 : n ≤ 1000) (r1 : ∀ i, i < n → RS qs[i]! J0) (rq : RS q J0) (hz : q ≠ 0) (hJ : J0 + J0 + 1 ≤ KK) :
    Calls Tryz.prog 48 #[.slice l.a n l.c, vq] w (DivPost w (row (fun i => qs[i]! / q) n) n) := by
  obtain ⟨hc11, hc12⟩ := h.cap e1
  obtain ⟨tq, rfl, rq_⟩ := tri_of hq
  simp only [Tri.val]
  have HNZ : Hid (q.num ≠ 0) := fun e => hz (Rat.num_eq_zero.1 e)
  have HQA := hide r1
  have HQQ := hide rq
  have HJ := hide hJ
  have b0 := alloc_below w (.cells #[.bool tq.s, .slice tq.a1 tq.n1 tq.c1, .slice tq.a2 tq.n2 tq.c2] 26)
  have X0 := BoxIs.new rq_
  obtain ⟨W0, hW0⟩ : ∃ W, w.alloc (.cells #[.bool tq.s, .slice tq.a1 tq.n1 tq.c1, .slice tq.a2 tq.n2 tq.c2] 26) = W := ⟨_, rfl⟩
  obtain ⟨b3, hb3⟩ : ∃ R, w.heap.size = R := ⟨_, rfl⟩
  rw [hW0] at b0 X0
  rw [hb3] at X0
  have HX0 := hide X0
  have HB0 := hide b0
  obtain ⟨ba, oa, ea, hba, Hba⟩ : ∃ b o, l.a = some ⟨b, o, none⟩ ∧ b < W0.heap.size ∧ Hid (∀ j, j < n → ∃ t : Tri, W0.cell? ⟨b, o + j * 3, none⟩ = some (.bool t.s) ∧ W0.cell? ⟨b, o + j * 3 + 1, none⟩ = some (.slice t.a1 t.n1 t.c1) ∧ W0.cell? ⟨b, o + j * 3 + 2, none⟩ = some (.slice t.a2 t.n2 t.c2) ∧ RatIs W0 t.val qs[j]!) := (h.below (unhide HB0)).open e1 hn1
  have HLba := hide hba
  have qm2 := make_ratios (n : Int) (by omega) (by omega) W0
  rw [Int.toNat_natCast] at qm2
  have S3 := SumsAt.start W0 W0 n (Below.refl _ _)
  obtain ⟨f, hf⟩ : ∃ f : Nat → Rat, (fun i => qs[i]! / q) = f := ⟨_, rfl⟩
  rw [hf]
  have HF : Hid (∀ i, qs[i]! / q = f i) := fun i => by rw [← hf]
  obtain ⟨W1, hW1⟩ : ∃ W, W0.alloc (.cells (tcells (List.replicate n zTri)).toArray 26) = W := ⟨_, rfl⟩
  obtain ⟨GO, hGO⟩ : ∃ G, W0.heap.size = G := ⟨_, rfl⟩
  rw [hW1] at qm2 S3
  rw [hGO] at qm2
  have S3' : SumsAt W0 W1 GO (List.replicate n zTri) (fill f n 0) := by rw [← hGO, ← fill_zero]; exact S3
  have HS3 := hide S3'
  have HGO : Hid (w.heap.size ≤ GO) := by show _ ≤ GO; rw [← hGO]; exact (unhide HB0).size
  rw [ea]
  clear h e1 hq rq_ r1 rq hz hJ b0 X0 ea hba S3 S3' hf
  go_enter Tryz.func48, Tryz.ntmps48
  go_wp2_with fail
  clear hW0 hb3 qm2 hW1 hGO
  go_loopw [12] (fun vj wr => ∃ (j : Nat) (ws : List Tri), vj = .int .i64 (j : Int) ∧ j ≤ n ∧ ws.length = n ∧ SumsAt W0 wr GO ws (fill f n j)) (fun vj _ => n - (intOf vj).toNat)
  case atStart => exact ⟨0, _, rfl, Nat.zero_le _, List.length_replicate, unhide HS3⟩
  case round =>
    obtain ⟨j, ws, rfl, hj, hws, T3⟩ := hrel
    clear HS3
    by_cases hlt : j < n
    · have j1 : (j : Int) < (n : Int) := by omega
      have j0 : (0 : Int) ≤ (j : Int) := by omega
      have hbW := T3.bl
      obtain ⟨ta, ka0, ka1, ka2, ra⟩ := unhide Hba j hlt
      have HCC : Hid (∀ W, Below wr.heap.size wr W → (fun w' : World => (w'.cell? ⟨ba, oa + j * 3, none⟩ = some (.bool ta.s) ∧ w'.cell? ⟨ba, oa + j * 3 + 1, none⟩ = some (.slice ta.a1 ta.n1 ta.c1) ∧ w'.cell? ⟨ba, oa + j * 3 + 2, none⟩ = some (.slice ta.a2 ta.n2 ta.c2)) ∧ (w'.cell? ⟨b3, 0, none⟩ = some (.bool tq.s) ∧ w'.cell? ⟨b3, 1, none⟩ = some (.slice tq.a1 tq.n1 tq.c1) ∧ w'.cell? ⟨b3, 2, none⟩ = some (.slice tq.a2 tq.n2 tq.c2))) W) := fun W hW => by
        have h2 := below_step hbW hW
        refine ⟨⟨?_, ?_, ?_⟩, (unhide HX0).cells W h2⟩
        · rw [h2.cell (p := ⟨ba, oa + j * 3, none⟩) (unhide HLba)]; exact ka0
        · rw [h2.cell (p := ⟨ba, oa + j * 3 + 1, none⟩) (unhide HLba)]; exact ka1
        · rw [h2.cell (p := ⟨ba, oa + j * 3 + 2, none⟩) (unhide HLba)]; exact ka2
      have HTA := hide (ra.below hbW)
      have HTQ := hide ((unhide HX0).2.below hbW)
      have HQV := hide (unhide HF j)
      have HS5 := hide T3
      have HUL := hide hws
      clear T3 hws hbW ka0 ka1 ka2 ra
      go_wp2_with fail
      refine wp_region_till (fun w' : World => (w'.cell? ⟨ba, oa + j * 3, none⟩ = some (.bool ta.s) ∧ w'.cell? ⟨ba, oa + j * 3 + 1, none⟩ = some (.slice ta.a1 ta.n1 ta.c1) ∧ w'.cell? ⟨ba, oa + j * 3 + 2, none⟩ = some (.slice ta.a2 ta.n2 ta.c2)) ∧ (w'.cell? ⟨b3, 0, none⟩ = some (.bool tq.s) ∧ w'.cell? ⟨b3, 1, none⟩ = some (.slice tq.a1 tq.n1 tq.c1) ∧ w'.cell? ⟨b3, 2, none⟩ = some (.slice tq.a2 tq.n2 tq.c2))) 12 (by kernel_rfl) ?_
      have bd0 : Below wr.heap.size wr wr.drew := (Below.refl _ _).drew
      obtain ⟨Wd, hWd⟩ : ∃ W, wr.drew = W := ⟨_, rfl⟩
      rw [hWd] at bd0 ⊢
      have hC0 : (fun w' : World => (w'.cell? ⟨ba, oa + j * 3, none⟩ = some (.bool ta.s) ∧ w'.cell? ⟨ba, oa + j * 3 + 1, none⟩ = some (.slice ta.a1 ta.n1 ta.c1) ∧ w'.cell? ⟨ba, oa + j * 3 + 2, none⟩ = some (.slice ta.a2 ta.n2 ta.c2)) ∧ (w'.cell? ⟨b3, 0, none⟩ = some (.bool tq.s) ∧ w'.cell? ⟨b3, 1, none⟩ = some (.slice tq.a1 tq.n1 tq.c1) ∧ w'.cell? ⟨b3, 2, none⟩ = some (.slice tq.a2 tq.n2 tq.c2))) Wd := unhide HCC _ bd0
      refine wpTill_pure (i := 0) (v := ?_) rfl (by kernel_rfl) (by kernel_rfl) (by kernel_rfl) (by kernel_rfl) (fun _ _ _ h => h) (Or.inl ⟨by rfl, ?_⟩) (fun _ => hC0) ?_
      rotate_left
      · intro w hSw; clear hSw; go_simp; (try with_reducible rfl)
      (try simp only [List.getElem_toArray, List.getElem_cons_succ, List.getElem_cons_zero])
      (try simp only [Act.put, List.setIfInBounds_toArray, List.set_cons_zero, List.set_cons_succ])
      refine wpTill_pure (i := 1) (v := ?_) rfl (by kernel_rfl) (by kernel_rfl) (by kernel_rfl) (by kernel_rfl) (fun _ _ _ h => h) (Or.inl ⟨by rfl, ?_⟩) (fun _ => hC0) ?_
      rotate_left
      · intro w hSw; clear hSw; go_simp; (try with_reducible rfl)
      (try simp only [List.getElem_toArray, List.getElem_cons_succ, List.getElem_cons_zero])
      (try simp only [Act.put, List.setIfInBounds_toArray, List.set_cons_zero, List.set_cons_succ])
      refine wpTill_pure (i := 2) (v := ?_) rfl (by kernel_rfl) (by kernel_rfl) (by kernel_rfl) (by kernel_rfl) (fun _ _ _ h => h) (Or.inl ⟨by rfl, ?_⟩) (fun _ => hC0) ?_
      rotate_left
      · intro w hSw; clear hSw; go_simp; (try with_reducible rfl)
      (try simp only [List.getElem_toArray, List.getElem_cons_succ, List.getElem_cons_zero])
      (try simp only [Act.put, List.setIfInBounds_toArray, List.set_cons_zero, List.set_cons_succ])
      refine wpTill_pure (i := 3) (v := ?_) rfl (by kernel_rfl) (by kernel_rfl) (by kernel_rfl) (by kernel_rfl) (fun _ _ _ h => h) (Or.inl ⟨by rfl, ?_⟩) (fun _ => hC0) ?_
      rotate_left
      · intro w hSw; clear hSw; go_simp; (try with_reducible rfl)
      (try simp only [List.getElem_toArray, List.getElem_cons_succ, List.getElem_cons_zero])
      (try simp only [Act.put, List.setIfInBounds_toArray, List.set_cons_zero, List.set_cons_succ])
      refine wpTill_pure (i := 4) (v := ?_) rfl (by kernel_rfl) (by kernel_rfl) (by kernel_rfl) (by kernel_rfl) (fun _ _ _ h => h) (Or.inl ⟨by rfl, ?_⟩) (fun _ => hC0) ?_
      rotate_left
      · intro w hSw; clear hSw; go_simp; (try with_reducible rfl)
      (try simp only [List.getElem_toArray, List.getElem_cons_succ, List.getElem_cons_zero])
      (try simp only [Act.put, List.setIfInBounds_toArray, List.set_cons_zero, List.set_cons_succ])
      refine wpTill_take (i := 5) (v := ?_) rfl (by kernel_rfl) (by kernel_rfl) (by kernel_rfl) (by kernel_rfl) (by kernel_rfl) (by kernel_rfl) (fun _ _ _ h => h) (Or.inl ⟨by rfl, ?_⟩) hC0 ?_
      rotate_left
      · intro w hSw; (try dsimp only at hSw); obtain ⟨⟨u0, u1, u2⟩, ⟨u3, u4, u5⟩⟩ := hSw; go_simp; (try with_reducible rfl)
      (try simp only [List.getElem_toArray, List.getElem_cons_succ, List.getElem_cons_zero])
      (try simp only [Act.put, List.setIfInBounds_toArray, List.set_cons_zero, List.set_cons_succ])
      refine wpTill_take (i := 6) (v := ?_) rfl (by kernel_rfl) (by kernel_rfl) (by kernel_rfl) (by kernel_rfl) (by kernel_rfl) (by kernel_rfl) (fun _ _ _ h => h) (Or.inl ⟨by rfl, ?_⟩) hC0 ?_
      rotate_left
      · intro w hSw; (try dsimp only at hSw); obtain ⟨⟨u0, u1, u2⟩, ⟨u3, u4, u5⟩⟩ := hSw; go_simp; (try with_reducible rfl)
      (try simp only [List.getElem_toArray, List.getElem_cons_succ, List.getElem_cons_zero])
      (try simp only [Act.put, List.setIfInBounds_toArray, List.set_cons_zero, List.set_cons_succ])
      refine wpTill_one (k := 7) (by kernel_rfl) rfl (fun K hK => ?_)
      (try simp only [List.getElem_toArray, List.getElem_cons_succ, List.getElem_cons_zero])
      go_simp
      refine (divR_any ta.val tq.val _ _ _ ((unhide HTA).below bd0) ((unhide HTQ).below bd0) J0 (unhide HQA j hlt) (unhide HQQ) (unhide HJ) (unhide HNZ)).mono ?_
      rintro e xw_1 ⟨xv_1, rfl, hv_1, hb_1⟩
      have cc_1 := below_step bd0 hb_1
      have hC_1 : (fun w' : World => (w'.cell? ⟨ba, oa + j * 3, none⟩ = some (.bool ta.s) ∧ w'.cell? ⟨ba, oa + j * 3 + 1, none⟩ = some (.slice ta.a1 ta.n1 ta.c1) ∧ w'.cell? ⟨ba, oa + j * 3 + 2, none⟩ = some (.slice ta.a2 ta.n2 ta.c2)) ∧ (w'.cell? ⟨b3, 0, none⟩ = some (.bool tq.s) ∧ w'.cell? ⟨b3, 1, none⟩ = some (.slice tq.a1 tq.n1 tq.c1) ∧ w'.cell? ⟨b3, 2, none⟩ = some (.slice tq.a2 tq.n2 tq.c2))) xw_1 := unhide HCC _ cc_1
      refine hK.out _ _ (fun _ => hC_1) ?_
      clear hK K
      (try simp only [Act.put, List.setIfInBounds_toArray, List.set_cons_zero, List.set_cons_succ])
      obtain ⟨t5, rfl, r5⟩ := tri_of hv_1
      simp only [Tri.val]
      refine wpTill_pure (i := 8) (v := ?_) rfl (by kernel_rfl) (by kernel_rfl) (by kernel_rfl) (by kernel_rfl) (fun _ _ _ h => h) (Or.inl ⟨by rfl, ?_⟩) (fun _ => hC_1) ?_
      rotate_left
      · intro w hSw; clear hSw; go_simp; (try with_reducible rfl)
      (try simp only [List.getElem_toArray, List.getElem_cons_succ, List.getElem_cons_zero])
      (try simp only [Act.put, List.setIfInBounds_toArray, List.set_cons_zero, List.set_cons_succ])
      refine wpTill_pure (i := 9) (v := ?_) rfl (by kernel_rfl) (by kernel_rfl) (by kernel_rfl) (by kernel_rfl) (fun _ _ _ h => h) (Or.inl ⟨by rfl, ?_⟩) (fun _ => hC_1) ?_
      rotate_left
      · intro w hSw; clear hSw; go_simp; (try with_reducible rfl)
      (try simp only [List.getElem_toArray, List.getElem_cons_succ, List.getElem_cons_zero])
      (try simp only [Act.put, List.setIfInBounds_toArray, List.set_cons_zero, List.set_cons_succ])
      refine wpTill_pure (i := 10) (v := ?_) rfl (by kernel_rfl) (by kernel_rfl) (by kernel_rfl) (by kernel_rfl) (fun _ _ _ h => h) (Or.inl ⟨by rfl, ?_⟩) (fun _ => hC_1) ?_
      rotate_left
      · intro w hSw; clear hSw; go_simp; (try with_reducible rfl)
      (try simp only [List.getElem_toArray, List.getElem_cons_succ, List.getElem_cons_zero])
      (try simp only [Act.put, List.setIfInBounds_toArray, List.set_cons_zero, List.set_cons_succ])
      refine wpTill_pure (i := 11) (v := ?_) rfl (by kernel_rfl) (by kernel_rfl) (by kernel_rfl) (by kernel_rfl) (fun _ _ _ h => h) (Or.inl ⟨by rfl, ?_⟩) (fun _ => hC_1) ?_
      rotate_left
      · intro w hSw; clear hSw; go_simp; (try with_reducible rfl)
      (try simp only [List.getElem_toArray, List.getElem_cons_succ, List.getElem_cons_zero])
      (try simp only [Act.put, List.setIfInBounds_toArray, List.set_cons_zero, List.set_cons_succ])
      have S8 := (unhide HS5).keep cc_1
      have ⟨⟨y0, y1, y2⟩, g0, g1, g2⟩ := S8.cells j (by rw [unhide HUL]; exact hlt)
      have FZ := S8.set j (by rw [unhide HUL]; exact hlt) t5 _ r5
      obtain ⟨W9, hW9⟩ : ∃ W, ((xw_1.setCell ⟨GO, j * 3, none⟩ (.bool t5.s)).setCell ⟨GO, j * 3 + 1, none⟩ (.slice t5.a1 t5.n1 t5.c1)).setCell ⟨GO, j * 3 + 2, none⟩ (.slice t5.a2 t5.n2 t5.c2) = W := ⟨_, rfl⟩
      rw [hW9, unhide HQV, fill_set] at FZ
      have HFZ := hide FZ
      clear S8 FZ r5 hv_1
      refine wpTill_one (k := 12) (by kernel_rfl) rfl (fun K hK => ?_)
      (try simp only [List.getElem_toArray, List.getElem_cons_succ, List.getElem_cons_zero])
      go_simp
      refine hK.out _ _ (fun h => absurd (h.symm.trans (by kernel_rfl)) Bool.false_ne_true) ?_
      clear hK K
      (try simp only [Act.put, List.setIfInBounds_toArray, List.set_cons_zero, List.set_cons_succ])
      refine wpTill_done (by kernel_rfl) ?_ _
      clear HCC HTA HTQ y0 y1 y2 g0 g1 g2 hW9 hC0 hC_1 cc_1 bd0 hb_1 hWd
      go_wp2_with fail
      exact ⟨⟨j + 1, _, by go_num, hlt, by rw [List.length_set]; exact unhide HUL, unhide HFZ⟩, by simp [intOf]; omega⟩
    · obtain rfl : j = n := by omega
      have j1 : ¬ (j : Int) < (j : Int) := by omega
      have hlaw := T3.law (by omega)
      rw [hws] at hlaw
      have HLW : Hid (LawIs wr (.slice (some ⟨GO, 0, none⟩) j j) (row f j)) := hlaw
      have HT3 := hide (T3.rebase (unhide HB0))
      have HWS := hide hws
      clear T3 hlaw hws HLW
      go_wp2
      go_ret
      exact ⟨GO, _, rfl, unhide HWS, unhide HGO, unhide HT3⟩

theorem divided_any (l : Sl) (vq : Value) (qs : List Rat) (q : Rat) (n J0 : Nat) (w : World) (h : LawIs w l.val qs) (e1 : qs.length = n) (hq : RatIs w vq q) (hn1 : 1 ≤ n) (hn8 : n ≤ 1000) (r1 : ∀ i, i < n → RS qs[i]! J0) (rq : RS q J0) (hz : q ≠ 0) (hJ : J0 + J0 + 1 ≤ KK) :
    Calls Tryz.prog 48 #[.slice l.a n l.c, vq] w (RowPost w (row (fun i => qs[i]! / q) n)) := by
  refine (divided2_any l vq qs q n J0 w h e1 hq hn1 hn8 r1 rq hz hJ).mono ?_
  rintro e w' ⟨g, us, rfl, hu, hg, hS⟩
  have hl := hS.law (by omega)
  rw [hu] at hl
  exact ⟨g, n, rfl, (row_length _ _).symm, hg, hl, hS.bl⟩
end Go.Proofs.YtfnbjenneodcdaaGreatDoor
