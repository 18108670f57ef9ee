/- Hidden states: mean, divided. -/
import Derived.Test.YtfnbjenneodcdaaGreatDoorBL4
namespace Go.Proofs.YtfnbjenneodcdaaGreatDoor
open Go.RowKit Go.Sort Go.Shelf

theorem mn_RS {qs xs : List Rat} {J : Nat} (h1 : ∀ i, i < qs.length → RS qs[i]! J) (h2 : ∀ i, i < qs.length → RS xs[i]! J) : ∀ k, k ≤ qs.length → RS (Bth.ps (fun j => qs[j]! * xs[j]!) k) (k * (J + J + 1) + 1)
  | 0, _ => RS.mono RS.zero (by omega)
  | k + 1, hk => by
    have a := mn_RS h1 h2 k (by omega)
    have b := (h1 k (by omega)).mul (h2 k (by omega))
    have c := a.add b
    exact c.mono (by rw [Nat.add_mul]; omega)
theorem SumsAt.rebase {w w1 wr : World} {g : Nat} {us : List Tri} {qs : List Rat} (h : SumsAt w1 wr g us qs) (hb : Below w.heap.size w w1) : SumsAt w wr g us qs :=
  ⟨h.row, h.len, h.rat, below_step hb h.bl, Nat.le_trans hb.size h.gl⟩
/-- A row of fractions of the call's own. -/
def DivPost (w : World) (qs : List Rat) (n : Nat) (e : Ending) (w' : World) : Prop := ∃ g us, e = .returned (.slice (some ⟨g, 0, none⟩) n n) ∧ us.length = n ∧ w.heap.size ≤ g ∧ SumsAt w w' g us qs
theorem LawIs.cap {w : World} {l : Sl} {qs : List Rat} {n : Nat} (h : LawIs w l.val qs) (e : qs.length = n) : n ≤ l.c ∧ l.c ≤ 9223372036854775807 := by
  obtain ⟨a, c, e', i1, i2, _⟩ := h
  have e1 : l.c = c := by injection e'
  rw [e1]; exact ⟨by omega, i2⟩

set_option maxHeartbeats 16000000 in
set_option maxRecDepth 100000 in
set_option linter.unusedSimpArgs false in
theorem bmean_any (l1 l2 : Sl) (qs xs : List Rat) (n J0 JB : Nat) (w : World) (h1 : LawIs w l1.val qs) (h2 : LawIs w l2.val xs) (e1 : qs.length = n) (e2 : xs.length = n) (hn1 : 1 ≤ n) (hn8 : n ≤ 1000) (r1 : ∀ i, i < n → RS qs[i]! J0) (r2 : ∀ i, i < n → RS xs[i]! J0) (hJ0 : n * (J0 + J0 + 1) + 1 + J0 + J0 ≤ JB) (hJ : JB + JB + 1 ≤ KK) :
    Calls Tryz.prog 51 #[.slice l1.a n l1.c, .slice l2.a n l2.c] w fun e w' => ∃ v, e = .returned v ∧ RatIs w' v (Blf.mn n (fun j => qs[j]!) (fun j => xs[j]!)) ∧ Below w.heap.size w w' := by
  have HJ := hide hJ
  obtain ⟨hc11, hc12⟩ := h1.cap e1
  obtain ⟨hc21, hc22⟩ := h2.cap e2
  have HPS : Hid (∀ k, k ≤ n → RS (Bth.ps (fun j => qs[j]! * xs[j]!) k) JB) := fun k hk => by
    have := mn_RS (qs := qs) (xs := xs) (fun i hi => r1 i (by omega)) (fun i hi => r2 i (by omega)) k (by omega)
    have h3 : k * (J0 + J0 + 1) ≤ n * (J0 + J0 + 1) := Nat.mul_le_mul_right _ hk
    exact this.mono (by omega)
  have HQA : Hid (∀ i, i < n → RS qs[i]! JB) := fun i hi => (r1 i hi).mono (by omega)
  have HQB : Hid (∀ i, i < n → RS xs[i]! JB) := fun i hi => (r2 i hi).mono (by omega)
  have HQP : Hid (∀ i, i < n → RS (qs[i]! * xs[i]!) JB) := fun i hi => ((r1 i hi).mul (r2 i hi)).mono (by omega)
  have b0 := alloc_below w (.cells #[.bool false, .slice none 0 0, .slice none 0 0] 26)
  have X0 := BoxIs.new (w := w) (t := zTri) (q := 0) (rat_zero _)
  obtain ⟨W0, hW0⟩ : ∃ W, w.alloc (.cells #[.bool false, .slice none 0 0, .slice none 0 0] 26) = W := ⟨_, rfl⟩
  obtain ⟨R, hR⟩ : ∃ R, w.heap.size = R := ⟨_, rfl⟩
  have X0' : BoxIs W0 R zTri 0 := by rw [← hW0, ← hR]; exact X0
  rw [hW0] at b0
  have HX : Hid (∀ W, Below W0.heap.size W0 W → BoxIs W R zTri 0) := fun W hW => X0'.keep hW
  have HBW : Hid (∀ W, Below W0.heap.size W0 W → Below w.heap.size w W) := fun W hW => below_step b0 hW
  have HG : Hid (w.heap.size ≤ R) := by show _ ≤ R; rw [hR]; exact Nat.le_refl _
  have HB0 := hide b0
  clear X0 X0' b0
  obtain ⟨ba, oa, ea, hba, Hba⟩ : ∃ b o, l1.a = some ⟨b, o, none⟩ ∧ b < W0.heap.size ∧ Hid (∀ j, j < n → ∃ t : Tri, W0.cell? ⟨b, o + j * 3, none⟩ = some (.bool t.s) ∧ W0.cell? ⟨b, o + j * 3 + 1, none⟩ = some (.slice t.a1 t.n1 t.c1) ∧ W0.cell? ⟨b, o + j * 3 + 2, none⟩ = some (.slice t.a2 t.n2 t.c2) ∧ RatIs W0 t.val qs[j]!) := (h1.below (unhide HB0)).open e1 hn1
  have HLba := hide hba
  obtain ⟨bb, ob, eb, hbb, Hbb⟩ : ∃ b o, l2.a = some ⟨b, o, none⟩ ∧ b < W0.heap.size ∧ Hid (∀ j, j < n → ∃ t : Tri, W0.cell? ⟨b, o + j * 3, none⟩ = some (.bool t.s) ∧ W0.cell? ⟨b, o + j * 3 + 1, none⟩ = some (.slice t.a1 t.n1 t.c1) ∧ W0.cell? ⟨b, o + j * 3 + 2, none⟩ = some (.slice t.a2 t.n2 t.c2) ∧ RatIs W0 t.val xs[j]!) := (h2.below (unhide HB0)).open e2 hn1
  have HLbb := hide hbb
  have b1 := alloc_below W0 (.cells #[.bool false, .slice none 0 0, .slice none 0 0] 26)
  have X1 := BoxIs.new (w := W0) (t := zTri) (q := 0) (rat_zero _)
  obtain ⟨W1, hW1⟩ : ∃ W, W0.alloc (.cells #[.bool false, .slice none 0 0, .slice none 0 0] 26) = W := ⟨_, rfl⟩
  obtain ⟨bS, hbS⟩ : ∃ R, W0.heap.size = R := ⟨_, rfl⟩
  have HX1 : Hid (BoxIs W1 bS zTri (Bth.ps (fun j => qs[j]! * xs[j]!) 0)) := by show BoxIs W1 bS zTri 0; rw [← hW1, ← hbS]; exact X1
  rw [hW1] at b1
  have HB1 := hide b1
  have HGS : Hid (W0.heap.size ≤ bS) := by show _ ≤ bS; rw [hbS]; exact Nat.le_refl _
  have HV : Hid (Blf.mn n (fun j => qs[j]!) (fun j => xs[j]!) = Bth.ps (fun j => qs[j]! * xs[j]!) n) := rfl
  obtain ⟨q, hq⟩ : ∃ q, Blf.mn n (fun j => qs[j]!) (fun j => xs[j]!) = q := ⟨_, rfl⟩
  rw [hq] at HV ⊢
  rw [ea, eb]
  clear h1 h2 e1 e2 r1 r2 hJ hJ0 ea eb hba hbb b1 X1 hq
  go_enter Tryz.func51, Tryz.ntmps51
  go_wp2_with fail
  clear hW0 hR hW1 hbS
  go_loopw [10] (fun vi wr => ∃ (k : Nat) (ts : Tri), vi = .int .i64 (k : Int) ∧ k ≤ n ∧ BoxIs wr bS ts (Bth.ps (fun j => qs[j]! * xs[j]!) k) ∧ Below W0.heap.size W0 wr) (fun vi _ => n - (intOf vi).toNat)
  case atStart => exact ⟨0, zTri, rfl, Nat.zero_le _, unhide HX1, unhide HB1⟩
  case round =>
    obtain ⟨k, ts, rfl, hk, hX, hb⟩ := hrel
    clear HX1 HB1
    by_cases hlt : k < n
    · have j1 : (k : Int) < (n : Int) := by omega
      have j0 : (0 : Int) ≤ (k : Int) := by omega
      obtain ⟨ta, ka0, ka1, ka2, ra⟩ := unhide Hba k hlt
      obtain ⟨tb, kb0, kb1, kb2, rb⟩ := unhide Hbb k hlt
      rw [← hb.cell (p := ⟨ba, oa + k * 3, none⟩) (unhide HLba)] at ka0
      rw [← hb.cell (p := ⟨ba, oa + k * 3 + 1, none⟩) (unhide HLba)] at ka1
      rw [← hb.cell (p := ⟨ba, oa + k * 3 + 2, none⟩) (unhide HLba)] at ka2
      have b7_ := alloc_below wr (.cells #[.bool ta.s, .slice ta.a1 ta.n1 ta.c1, .slice ta.a2 ta.n2 ta.c2] 26)
      have X7 := BoxIs.new (ra.below hb)
      obtain ⟨W7, hW7⟩ : ∃ W, wr.alloc (.cells #[.bool ta.s, .slice ta.a1 ta.n1 ta.c1, .slice ta.a2 ta.n2 ta.c2] 26) = W := ⟨_, rfl⟩
      obtain ⟨b7, hb7⟩ : ∃ g, wr.heap.size = g := ⟨_, rfl⟩
      rw [hW7] at b7_ X7
      rw [hb7] at X7
      have HB7 := hide (below_step hb b7_)
      have HX7 := hide X7
      have HXS := hide (hX.keep b7_)
      have HTB := hide (rb.below (unhide HB7))
      have HCC : Hid (∀ W, Below W7.heap.size W7 W → (fun w' : World => (w'.cell? ⟨bS, 0, none⟩ = some (.bool ts.s) ∧ w'.cell? ⟨bS, 1, none⟩ = some (.slice ts.a1 ts.n1 ts.c1) ∧ w'.cell? ⟨bS, 2, none⟩ = some (.slice ts.a2 ts.n2 ts.c2)) ∧ (w'.cell? ⟨b7, 0, none⟩ = some (.bool ta.s) ∧ w'.cell? ⟨b7, 1, none⟩ = some (.slice ta.a1 ta.n1 ta.c1) ∧ w'.cell? ⟨b7, 2, none⟩ = some (.slice ta.a2 ta.n2 ta.c2)) ∧ (w'.cell? ⟨bb, ob + k * 3, none⟩ = some (.bool tb.s) ∧ w'.cell? ⟨bb, ob + k * 3 + 1, none⟩ = some (.slice tb.a1 tb.n1 tb.c1) ∧ w'.cell? ⟨bb, ob + k * 3 + 2, none⟩ = some (.slice tb.a2 tb.n2 tb.c2))) W) := fun W hW => by
        have h2 := below_step (unhide HB7) hW
        refine ⟨(unhide HXS).cells W hW, (unhide HX7).cells W hW, ?_, ?_, ?_⟩
        · rw [h2.cell (p := ⟨bb, ob + k * 3, none⟩) (unhide HLbb)]; exact kb0
        · rw [h2.cell (p := ⟨bb, ob + k * 3 + 1, none⟩) (unhide HLbb)]; exact kb1
        · rw [h2.cell (p := ⟨bb, ob + k * 3 + 2, none⟩) (unhide HLbb)]; exact kb2
      have HRA := hide (unhide HQA k hlt)
      have HRB := hide (unhide HQB k hlt)
      have HRP := hide (unhide HQP k hlt)
      have HRS := hide (unhide HPS k hk)
      clear hX hb b7_ X7 kb0 kb1 kb2 ra rb
      go_wp2_with fail
      clear hW7 hb7 ka0 ka1 ka2
      refine wp_region_till (fun w' : World => (w'.cell? ⟨bS, 0, none⟩ = some (.bool ts.s) ∧ w'.cell? ⟨bS, 1, none⟩ = some (.slice ts.a1 ts.n1 ts.c1) ∧ w'.cell? ⟨bS, 2, none⟩ = some (.slice ts.a2 ts.n2 ts.c2)) ∧ (w'.cell? ⟨b7, 0, none⟩ = some (.bool ta.s) ∧ w'.cell? ⟨b7, 1, none⟩ = some (.slice ta.a1 ta.n1 ta.c1) ∧ w'.cell? ⟨b7, 2, none⟩ = some (.slice ta.a2 ta.n2 ta.c2)) ∧ (w'.cell? ⟨bb, ob + k * 3, none⟩ = some (.bool tb.s) ∧ w'.cell? ⟨bb, ob + k * 3 + 1, none⟩ = some (.slice tb.a1 tb.n1 tb.c1) ∧ w'.cell? ⟨bb, ob + k * 3 + 2, none⟩ = some (.slice tb.a2 tb.n2 tb.c2))) 8 (by kernel_rfl) ?_
      have bd0 : Below W7.heap.size W7 W7.drew := (Below.refl _ _).drew
      have hC0 : (fun w' : World => (w'.cell? ⟨bS, 0, none⟩ = some (.bool ts.s) ∧ w'.cell? ⟨bS, 1, none⟩ = some (.slice ts.a1 ts.n1 ts.c1) ∧ w'.cell? ⟨bS, 2, none⟩ = some (.slice ts.a2 ts.n2 ts.c2)) ∧ (w'.cell? ⟨b7, 0, none⟩ = some (.bool ta.s) ∧ w'.cell? ⟨b7, 1, none⟩ = some (.slice ta.a1 ta.n1 ta.c1) ∧ w'.cell? ⟨b7, 2, none⟩ = some (.slice ta.a2 ta.n2 ta.c2)) ∧ (w'.cell? ⟨bb, ob + k * 3, none⟩ = some (.bool tb.s) ∧ w'.cell? ⟨bb, ob + k * 3 + 1, none⟩ = some (.slice tb.a1 tb.n1 tb.c1) ∧ w'.cell? ⟨bb, ob + k * 3 + 2, none⟩ = some (.slice tb.a2 tb.n2 tb.c2))) W7.drew := unhide HCC _ bd0
      refine wpTill_take (i := 0) (v := ?_) rfl (by kernel_rfl) (by kernel_rfl) (by kernel_rfl) (by kernel_rfl) (by kernel_rfl) (by kernel_rfl) (fun _ _ _ h => h) (Or.inl ⟨by rfl, ?_⟩) hC0 ?_
      rotate_left
      · intro w hSw; (try dsimp only at hSw); obtain ⟨⟨u0, u1, u2⟩, ⟨u3, u4, u5⟩, ⟨u6, u7, u8⟩⟩ := hSw; go_simp; (try with_reducible rfl)
      (try simp only [List.getElem_toArray, List.getElem_cons_succ, List.getElem_cons_zero])
      (try simp only [Act.put, List.setIfInBounds_toArray, List.set_cons_zero, List.set_cons_succ])
      refine wpTill_take (i := 1) (v := ?_) rfl (by kernel_rfl) (by kernel_rfl) (by kernel_rfl) (by kernel_rfl) (by kernel_rfl) (by kernel_rfl) (fun _ _ _ h => h) (Or.inl ⟨by rfl, ?_⟩) hC0 ?_
      rotate_left
      · intro w hSw; (try dsimp only at hSw); obtain ⟨⟨u0, u1, u2⟩, ⟨u3, u4, u5⟩, ⟨u6, u7, u8⟩⟩ := hSw; go_simp; (try with_reducible rfl)
      (try simp only [List.getElem_toArray, List.getElem_cons_succ, List.getElem_cons_zero])
      (try simp only [Act.put, List.setIfInBounds_toArray, List.set_cons_zero, List.set_cons_succ])
      refine wpTill_pure (i := 2) (v := ?_) rfl (by kernel_rfl) (by kernel_rfl) (by kernel_rfl) (by kernel_rfl) (fun _ _ _ h => h) (Or.inl ⟨by rfl, ?_⟩) (fun _ => hC0) ?_
      rotate_left
      · intro w hSw; clear hSw; go_simp; (try with_reducible rfl)
      (try simp only [List.getElem_toArray, List.getElem_cons_succ, List.getElem_cons_zero])
      (try simp only [Act.put, List.setIfInBounds_toArray, List.set_cons_zero, List.set_cons_succ])
      refine wpTill_pure (i := 3) (v := ?_) rfl (by kernel_rfl) (by kernel_rfl) (by kernel_rfl) (by kernel_rfl) (fun _ _ _ h => h) (Or.inl ⟨by rfl, ?_⟩) (fun _ => hC0) ?_
      rotate_left
      · intro w hSw; clear hSw; go_simp; (try with_reducible rfl)
      (try simp only [List.getElem_toArray, List.getElem_cons_succ, List.getElem_cons_zero])
      (try simp only [Act.put, List.setIfInBounds_toArray, List.set_cons_zero, List.set_cons_succ])
      refine wpTill_pure (i := 4) (v := ?_) rfl (by kernel_rfl) (by kernel_rfl) (by kernel_rfl) (by kernel_rfl) (fun _ _ _ h => h) (Or.inl ⟨by rfl, ?_⟩) (fun _ => hC0) ?_
      rotate_left
      · intro w hSw; clear hSw; go_simp; (try with_reducible rfl)
      (try simp only [List.getElem_toArray, List.getElem_cons_succ, List.getElem_cons_zero])
      (try simp only [Act.put, List.setIfInBounds_toArray, List.set_cons_zero, List.set_cons_succ])
      refine wpTill_take (i := 5) (v := ?_) rfl (by kernel_rfl) (by kernel_rfl) (by kernel_rfl) (by kernel_rfl) (by kernel_rfl) (by kernel_rfl) (fun _ _ _ h => h) (Or.inl ⟨by rfl, ?_⟩) hC0 ?_
      rotate_left
      · intro w hSw; (try dsimp only at hSw); obtain ⟨⟨u0, u1, u2⟩, ⟨u3, u4, u5⟩, ⟨u6, u7, u8⟩⟩ := hSw; go_simp; (try with_reducible rfl)
      (try simp only [List.getElem_toArray, List.getElem_cons_succ, List.getElem_cons_zero])
      (try simp only [Act.put, List.setIfInBounds_toArray, List.set_cons_zero, List.set_cons_succ])
      refine wpTill_one (k := 6) (by kernel_rfl) rfl (fun K hK => ?_)
      (try simp only [List.getElem_toArray, List.getElem_cons_succ, List.getElem_cons_zero])
      go_simp
      refine (mulR_any ta.val tb.val _ _ _ ((unhide HX7).2.below bd0) ((unhide HTB).below bd0) JB (unhide HRA) (unhide HRB) (unhide HJ)).mono ?_
      rintro e xw_1 ⟨xv_1, rfl, hv_1, hb_1⟩
      have cc_1 := below_step bd0 hb_1
      have hC_1 : (fun w' : World => (w'.cell? ⟨bS, 0, none⟩ = some (.bool ts.s) ∧ w'.cell? ⟨bS, 1, none⟩ = some (.slice ts.a1 ts.n1 ts.c1) ∧ w'.cell? ⟨bS, 2, none⟩ = some (.slice ts.a2 ts.n2 ts.c2)) ∧ (w'.cell? ⟨b7, 0, none⟩ = some (.bool ta.s) ∧ w'.cell? ⟨b7, 1, none⟩ = some (.slice ta.a1 ta.n1 ta.c1) ∧ w'.cell? ⟨b7, 2, none⟩ = some (.slice ta.a2 ta.n2 ta.c2)) ∧ (w'.cell? ⟨bb, ob + k * 3, none⟩ = some (.bool tb.s) ∧ w'.cell? ⟨bb, ob + k * 3 + 1, none⟩ = some (.slice tb.a1 tb.n1 tb.c1) ∧ w'.cell? ⟨bb, ob + k * 3 + 2, none⟩ = some (.slice tb.a2 tb.n2 tb.c2))) xw_1 := unhide HCC _ cc_1
      refine hK.out _ _ (fun _ => hC_1) ?_
      clear hK K
      (try simp only [Act.put, List.setIfInBounds_toArray, List.set_cons_zero, List.set_cons_succ])
      refine wpTill_one (k := 7) (by kernel_rfl) rfl (fun K hK => ?_)
      (try simp only [List.getElem_toArray, List.getElem_cons_succ, List.getElem_cons_zero])
      go_simp
      refine (addR_any ts.val _ _ _ _ ((unhide HXS).2.below cc_1) hv_1 JB (unhide HRS) (unhide HRP) (unhide HJ)).mono ?_
      rintro e xw_2 ⟨xv_2, rfl, hv_2, hb_2⟩
      have cc_2 := below_step cc_1 hb_2
      have hC_2 : (fun w' : World => (w'.cell? ⟨bS, 0, none⟩ = some (.bool ts.s) ∧ w'.cell? ⟨bS, 1, none⟩ = some (.slice ts.a1 ts.n1 ts.c1) ∧ w'.cell? ⟨bS, 2, none⟩ = some (.slice ts.a2 ts.n2 ts.c2)) ∧ (w'.cell? ⟨b7, 0, none⟩ = some (.bool ta.s) ∧ w'.cell? ⟨b7, 1, none⟩ = some (.slice ta.a1 ta.n1 ta.c1) ∧ w'.cell? ⟨b7, 2, none⟩ = some (.slice ta.a2 ta.n2 ta.c2)) ∧ (w'.cell? ⟨bb, ob + k * 3, none⟩ = some (.bool tb.s) ∧ w'.cell? ⟨bb, ob + k * 3 + 1, none⟩ = some (.slice tb.a1 tb.n1 tb.c1) ∧ w'.cell? ⟨bb, ob + k * 3 + 2, none⟩ = some (.slice tb.a2 tb.n2 tb.c2))) xw_2 := unhide HCC _ cc_2
      refine hK.out _ _ (fun _ => hC_2) ?_
      clear hK K
      (try simp only [Act.put, List.setIfInBounds_toArray, List.set_cons_zero, List.set_cons_succ])
      obtain ⟨t5, rfl, r5⟩ := tri_of hv_2
      simp only [Tri.val]
      have Y := (unhide HXS).keep cc_2
      have ⟨l0, l1, l2⟩ := Y.free
      have ⟨y0, y1, y2⟩ := Y.cells _ (Below.refl _ _)
      have NB := Y.set r5
      have YB := (((below_step (unhide HB7) cc_2).setCell (p := ⟨bS, 0, none⟩) (unhide HGS) (.bool t5.s)).setCell (p := ⟨bS, 1, none⟩) (unhide HGS) (.slice t5.a1 t5.n1 t5.c1)).setCell (p := ⟨bS, 2, none⟩) (unhide HGS) (.slice t5.a2 t5.n2 t5.c2)
      obtain ⟨W9, hW9⟩ : ∃ W, ((xw_2.setCell ⟨bS, 0, none⟩ (.bool t5.s)).setCell ⟨bS, 1, none⟩ (.slice t5.a1 t5.n1 t5.c1)).setCell ⟨bS, 2, none⟩ (.slice t5.a2 t5.n2 t5.c2) = W := ⟨_, rfl⟩
      rw [hW9] at NB YB
      have HNB := hide NB
      have HYB := hide YB
      clear Y NB YB r5 hv_1 hv_2
      refine wpTill_one (k := 8) (by kernel_rfl) rfl (fun K hK => ?_)
      (try simp only [List.getElem_toArray, List.getElem_cons_succ, List.getElem_cons_zero])
      go_simp
      refine hK.out _ _ (fun h => absurd (h.symm.trans (by kernel_rfl)) Bool.false_ne_true) ?_
      clear hK K
      (try simp only [Act.put, List.setIfInBounds_toArray, List.set_cons_zero, List.set_cons_succ])
      refine wpTill_done (by kernel_rfl) ?_ _
      clear HCC HTB HX7 HXS HB7 y0 y1 y2 l0 l1 l2 hW9 hC0 hC_1 hC_2 cc_1 cc_2 bd0 hb_1 hb_2
      go_wp2_with fail
      exact ⟨⟨k + 1, t5, by go_num, hlt, unhide HNB, unhide HYB⟩, by simp [intOf]; omega⟩
    · obtain rfl : k = n := by omega
      have j1 : ¬ (k : Int) < (k : Int) := by omega
      have ⟨z0, z1, z2⟩ := hX.cells _ (Below.refl _ _)
      have Y := unhide HX _ hb
      have ⟨l0, l1, l2⟩ := Y.free
      have ⟨y0, y1, y2⟩ := Y.cells _ (Below.refl _ _)
      have FIN := Y.set hX.2
      have FB := (((unhide HBW _ hb).setCell (p := ⟨R, 0, none⟩) (unhide HG) (.bool ts.s)).setCell (p := ⟨R, 1, none⟩) (unhide HG) (.slice ts.a1 ts.n1 ts.c1)).setCell (p := ⟨R, 2, none⟩) (unhide HG) (.slice ts.a2 ts.n2 ts.c2)
      obtain ⟨Wf, hWf⟩ : ∃ W, ((wr.setCell ⟨R, 0, none⟩ (.bool ts.s)).setCell ⟨R, 1, none⟩ (.slice ts.a1 ts.n1 ts.c1)).setCell ⟨R, 2, none⟩ (.slice ts.a2 ts.n2 ts.c2) = W := ⟨_, rfl⟩
      rw [hWf] at FIN FB
      have HFIN := hide FIN
      have HFB := hide FB
      have ⟨x0, x1, x2⟩ := FIN.cells _ (Below.refl _ _)
      clear Y FIN FB hX hb
      go_wp2
      (try simp only [Exit.inBlock, Exit.then])
      exact bodyPost_ret (v := .agg #[.bool ts.s, .slice ts.a1 ts.n1 ts.c1, .slice ts.a2 ts.n2 ts.c2]) (by simp [results, Tryz.results51, go_sem, x0, x1, x2]) rfl ⟨_, rfl, by rw [unhide HV]; exact (unhide HFIN).2, unhide HFB⟩

set_option maxHeartbeats 16000000 in
set_option maxRecDepth 100000 in
set_option linter.unusedSimpArgs false in
theorem divided2_any (l : Sl) (vq : Value) (qs : List Rat) (q : Rat) (n J0 : Nat) (w : World) (h : LawIs w l.val qs) (e1 : qs.length = n) (hq : RatIs w vq q) (hn1 : 1 ≤ n) (hn8 : n ≤ 1000) (r1 : ∀ i, i < n → RS qs[i]! J0) (rq : RS q J0) (hz : q ≠ 0) (hJ : J0 + J0 + 1 ≤ KK) :
    Calls Tryz.prog 48 #[.slice l.a n l.c, vq] w (DivPost w (row (fun i => qs[i]! / q) n) n) := by
  obtain ⟨hc11, hc12⟩ := h.cap e1
  obtain ⟨tq, rfl, rq_⟩ := tri_of hq
  simp only [Tri.val]
  have HNZ : Hid (q.num ≠ 0) := fun e => hz (Rat.num_eq_zero.1 e)
  have HQA := hide r1
  have HQQ := hide rq
  have HJ := hide hJ
  have b0 := alloc_below w (.cells #[.bool tq.s, .slice tq.a1 tq.n1 tq.c1, .slice tq.a2 tq.n2 tq.c2] 26)
  have X0 := BoxIs.new rq_
  obtain ⟨W0, hW0⟩ : ∃ W, w.alloc (.cells #[.bool tq.s, .slice tq.a1 tq.n1 tq.c1, .slice tq.a2 tq.n2 tq.c2] 26) = W := ⟨_, rfl⟩
  obtain ⟨b3, hb3⟩ : ∃ R, w.heap.size = R := ⟨_, rfl⟩
  rw [hW0] at b0 X0
  rw [hb3] at X0
  have HX0 := hide X0
  have HB0 := hide b0
  obtain ⟨ba, oa, ea, hba, Hba⟩ : ∃ b o, l.a = some ⟨b, o, none⟩ ∧ b < W0.heap.size ∧ Hid (∀ j, j < n → ∃ t : Tri, W0.cell? ⟨b, o + j * 3, none⟩ = some (.bool t.s) ∧ W0.cell? ⟨b, o + j * 3 + 1, none⟩ = some (.slice t.a1 t.n1 t.c1) ∧ W0.cell? ⟨b, o + j * 3 + 2, none⟩ = some (.slice t.a2 t.n2 t.c2) ∧ RatIs W0 t.val qs[j]!) := (h.below (unhide HB0)).open e1 hn1
  have HLba := hide hba
  have qm2 := make_ratios (n : Int) (by omega) (by omega) W0
  rw [Int.toNat_natCast] at qm2
  have S3 := SumsAt.start W0 W0 n (Below.refl _ _)
  obtain ⟨f, hf⟩ : ∃ f : Nat → Rat, (fun i => qs[i]! / q) = f := ⟨_, rfl⟩
  rw [hf]
  have HF : Hid (∀ i, qs[i]! / q = f i) := fun i => by rw [← hf]
  obtain ⟨W1, hW1⟩ : ∃ W, W0.alloc (.cells (tcells (List.replicate n zTri)).toArray 26) = W := ⟨_, rfl⟩
  obtain ⟨GO, hGO⟩ : ∃ G, W0.heap.size = G := ⟨_, rfl⟩
  rw [hW1] at qm2 S3
  rw [hGO] at qm2
  have S3' : SumsAt W0 W1 GO (List.replicate n zTri) (fill f n 0) := by rw [← hGO, ← fill_zero]; exact S3
  have HS3 := hide S3'
  have HGO : Hid (w.heap.size ≤ GO) := by show _ ≤ GO; rw [← hGO]; exact (unhide HB0).size
  rw [ea]
  clear h e1 hq rq_ r1 rq hz hJ b0 X0 ea hba S3 S3' hf
  go_enter Tryz.func48, Tryz.ntmps48
  go_wp2_with fail
  clear hW0 hb3 qm2 hW1 hGO
  go_loopw [12] (fun vj wr => ∃ (j : Nat) (ws : List Tri), vj = .int .i64 (j : Int) ∧ j ≤ n ∧ ws.length = n ∧ SumsAt W0 wr GO ws (fill f n j)) (fun vj _ => n - (intOf vj).toNat)
  case atStart => exact ⟨0, _, rfl, Nat.zero_le _, List.length_replicate, unhide HS3⟩
  case round =>
    obtain ⟨j, ws, rfl, hj, hws, T3⟩ := hrel
    clear HS3
    by_cases hlt : j < n
    · have j1 : (j : Int) < (n : Int) := by omega
      have j0 : (0 : Int) ≤ (j : Int) := by omega
      have hbW := T3.bl
      obtain ⟨ta, ka0, ka1, ka2, ra⟩ := unhide Hba j hlt
      have HCC : Hid (∀ W, Below wr.heap.size wr W → (fun w' : World => (w'.cell? ⟨ba, oa + j * 3, none⟩ = some (.bool ta.s) ∧ w'.cell? ⟨ba, oa + j * 3 + 1, none⟩ = some (.slice ta.a1 ta.n1 ta.c1) ∧ w'.cell? ⟨ba, oa + j * 3 + 2, none⟩ = some (.slice ta.a2 ta.n2 ta.c2)) ∧ (w'.cell? ⟨b3, 0, none⟩ = some (.bool tq.s) ∧ w'.cell? ⟨b3, 1, none⟩ = some (.slice tq.a1 tq.n1 tq.c1) ∧ w'.cell? ⟨b3, 2, none⟩ = some (.slice tq.a2 tq.n2 tq.c2))) W) := fun W hW => by
        have h2 := below_step hbW hW
        refine ⟨⟨?_, ?_, ?_⟩, (unhide HX0).cells W h2⟩
        · rw [h2.cell (p := ⟨ba, oa + j * 3, none⟩) (unhide HLba)]; exact ka0
        · rw [h2.cell (p := ⟨ba, oa + j * 3 + 1, none⟩) (unhide HLba)]; exact ka1
        · rw [h2.cell (p := ⟨ba, oa + j * 3 + 2, none⟩) (unhide HLba)]; exact ka2
      have HTA := hide (ra.below hbW)
      have HTQ := hide ((unhide HX0).2.below hbW)
      have HQV := hide (unhide HF j)
      have HS5 := hide T3
      have HUL := hide hws
      clear T3 hws hbW ka0 ka1 ka2 ra
      go_wp2_with fail
      refine wp_region_till (fun w' : World => (w'.cell? ⟨ba, oa + j * 3, none⟩ = some (.bool ta.s) ∧ w'.cell? ⟨ba, oa + j * 3 + 1, none⟩ = some (.slice ta.a1 ta.n1 ta.c1) ∧ w'.cell? ⟨ba, oa + j * 3 + 2, none⟩ = some (.slice ta.a2 ta.n2 ta.c2)) ∧ (w'.cell? ⟨b3, 0, none⟩ = some (.bool tq.s) ∧ w'.cell? ⟨b3, 1, none⟩ = some (.slice tq.a1 tq.n1 tq.c1) ∧ w'.cell? ⟨b3, 2, none⟩ = some (.slice tq.a2 tq.n2 tq.c2))) 12 (by kernel_rfl) ?_
      have bd0 : Below wr.heap.size wr wr.drew := (Below.refl _ _).drew
      obtain ⟨Wd, hWd⟩ : ∃ W, wr.drew = W := ⟨_, rfl⟩
      rw [hWd] at bd0 ⊢
      have hC0 : (fun w' : World => (w'.cell? ⟨ba, oa + j * 3, none⟩ = some (.bool ta.s) ∧ w'.cell? ⟨ba, oa + j * 3 + 1, none⟩ = some (.slice ta.a1 ta.n1 ta.c1) ∧ w'.cell? ⟨ba, oa + j * 3 + 2, none⟩ = some (.slice ta.a2 ta.n2 ta.c2)) ∧ (w'.cell? ⟨b3, 0, none⟩ = some (.bool tq.s) ∧ w'.cell? ⟨b3, 1, none⟩ = some (.slice tq.a1 tq.n1 tq.c1) ∧ w'.cell? ⟨b3, 2, none⟩ = some (.slice tq.a2 tq.n2 tq.c2))) Wd := unhide HCC _ bd0
      refine wpTill_pure (i := 0) (v := ?_) rfl (by kernel_rfl) (by kernel_rfl) (by kernel_rfl) (by kernel_rfl) (fun _ _ _ h => h) (Or.inl ⟨by rfl, ?_⟩) (fun _ => hC0) ?_
      rotate_left
      · intro w hSw; clear hSw; go_simp; (try with_reducible rfl)
      (try simp only [List.getElem_toArray, List.getElem_cons_succ, List.getElem_cons_zero])
      (try simp only [Act.put, List.setIfInBounds_toArray, List.set_cons_zero, List.set_cons_succ])
      refine wpTill_pure (i := 1) (v := ?_) rfl (by kernel_rfl) (by kernel_rfl) (by kernel_rfl) (by kernel_rfl) (fun _ _ _ h => h) (Or.inl ⟨by rfl, ?_⟩) (fun _ => hC0) ?_
      rotate_left
      · intro w hSw; clear hSw; go_simp; (try with_reducible rfl)
      (try simp only [List.getElem_toArray, List.getElem_cons_succ, List.getElem_cons_zero])
      (try simp only [Act.put, List.setIfInBounds_toArray, List.set_cons_zero, List.set_cons_succ])
      refine wpTill_pure (i := 2) (v := ?_) rfl (by kernel_rfl) (by kernel_rfl) (by kernel_rfl) (by kernel_rfl) (fun _ _ _ h => h) (Or.inl ⟨by rfl, ?_⟩) (fun _ => hC0) ?_
      rotate_left
      · intro w hSw; clear hSw; go_simp; (try with_reducible rfl)
      (try simp only [List.getElem_toArray, List.getElem_cons_succ, List.getElem_cons_zero])
      (try simp only [Act.put, List.setIfInBounds_toArray, List.set_cons_zero, List.set_cons_succ])
      refine wpTill_pure (i := 3) (v := ?_) rfl (by kernel_rfl) (by kernel_rfl) (by kernel_rfl) (by kernel_rfl) (fun _ _ _ h => h) (Or.inl ⟨by rfl, ?_⟩) (fun _ => hC0) ?_
      rotate_left
      · intro w hSw; clear hSw; go_simp; (try with_reducible rfl)
      (try simp only [List.getElem_toArray, List.getElem_cons_succ, List.getElem_cons_zero])
      (try simp only [Act.put, List.setIfInBounds_toArray, List.set_cons_zero, List.set_cons_succ])
      refine wpTill_pure (i := 4) (v := ?_) rfl (by kernel_rfl) (by kernel_rfl) (by kernel_rfl) (by kernel_rfl) (fun _ _ _ h => h) (Or.inl ⟨by rfl, ?_⟩) (fun _ => hC0) ?_
      rotate_left
      · intro w hSw; clear hSw; go_simp; (try with_reducible rfl)
      (try simp only [List.getElem_toArray, List.getElem_cons_succ, List.getElem_cons_zero])
      (try simp only [Act.put, List.setIfInBounds_toArray, List.set_cons_zero, List.set_cons_succ])
      refine wpTill_take (i := 5) (v := ?_) rfl (by kernel_rfl) (by kernel_rfl) (by kernel_rfl) (by kernel_rfl) (by kernel_rfl) (by kernel_rfl) (fun _ _ _ h => h) (Or.inl ⟨by rfl, ?_⟩) hC0 ?_
      rotate_left
      · intro w hSw; (try dsimp only at hSw); obtain ⟨⟨u0, u1, u2⟩, ⟨u3, u4, u5⟩⟩ := hSw; go_simp; (try with_reducible rfl)
      (try simp only [List.getElem_toArray, List.getElem_cons_succ, List.getElem_cons_zero])
      (try simp only [Act.put, List.setIfInBounds_toArray, List.set_cons_zero, List.set_cons_succ])
      refine wpTill_take (i := 6) (v := ?_) rfl (by kernel_rfl) (by kernel_rfl) (by kernel_rfl) (by kernel_rfl) (by kernel_rfl) (by kernel_rfl) (fun _ _ _ h => h) (Or.inl ⟨by rfl, ?_⟩) hC0 ?_
      rotate_left
      · intro w hSw; (try dsimp only at hSw); obtain ⟨⟨u0, u1, u2⟩, ⟨u3, u4, u5⟩⟩ := hSw; go_simp; (try with_reducible rfl)
      (try simp only [List.getElem_toArray, List.getElem_cons_succ, List.getElem_cons_zero])
      (try simp only [Act.put, List.setIfInBounds_toArray, List.set_cons_zero, List.set_cons_succ])
      refine wpTill_one (k := 7) (by kernel_rfl) rfl (fun K hK => ?_)
      (try simp only [List.getElem_toArray, List.getElem_cons_succ, List.getElem_cons_zero])
      go_simp
      refine (divR_any ta.val tq.val _ _ _ ((unhide HTA).below bd0) ((unhide HTQ).below bd0) J0 (unhide HQA j hlt) (unhide HQQ) (unhide HJ) (unhide HNZ)).mono ?_
      rintro e xw_1 ⟨xv_1, rfl, hv_1, hb_1⟩
      have cc_1 := below_step bd0 hb_1
      have hC_1 : (fun w' : World => (w'.cell? ⟨ba, oa + j * 3, none⟩ = some (.bool ta.s) ∧ w'.cell? ⟨ba, oa + j * 3 + 1, none⟩ = some (.slice ta.a1 ta.n1 ta.c1) ∧ w'.cell? ⟨ba, oa + j * 3 + 2, none⟩ = some (.slice ta.a2 ta.n2 ta.c2)) ∧ (w'.cell? ⟨b3, 0, none⟩ = some (.bool tq.s) ∧ w'.cell? ⟨b3, 1, none⟩ = some (.slice tq.a1 tq.n1 tq.c1) ∧ w'.cell? ⟨b3, 2, none⟩ = some (.slice tq.a2 tq.n2 tq.c2))) xw_1 := unhide HCC _ cc_1
      refine hK.out _ _ (fun _ => hC_1) ?_
      clear hK K
      (try simp only [Act.put, List.setIfInBounds_toArray, List.set_cons_zero, List.set_cons_succ])
      obtain ⟨t5, rfl, r5⟩ := tri_of hv_1
      simp only [Tri.val]
      refine wpTill_pure (i := 8) (v := ?_) rfl (by kernel_rfl) (by kernel_rfl) (by kernel_rfl) (by kernel_rfl) (fun _ _ _ h => h) (Or.inl ⟨by rfl, ?_⟩) (fun _ => hC_1) ?_
      rotate_left
      · intro w hSw; clear hSw; go_simp; (try with_reducible rfl)
      (try simp only [List.getElem_toArray, List.getElem_cons_succ, List.getElem_cons_zero])
      (try simp only [Act.put, List.setIfInBounds_toArray, List.set_cons_zero, List.set_cons_succ])
      refine wpTill_pure (i := 9) (v := ?_) rfl (by kernel_rfl) (by kernel_rfl) (by kernel_rfl) (by kernel_rfl) (fun _ _ _ h => h) (Or.inl ⟨by rfl, ?_⟩) (fun _ => hC_1) ?_
      rotate_left
      · intro w hSw; clear hSw; go_simp; (try with_reducible rfl)
      (try simp only [List.getElem_toArray, List.getElem_cons_succ, List.getElem_cons_zero])
      (try simp only [Act.put, List.setIfInBounds_toArray, List.set_cons_zero, List.set_cons_succ])
      refine wpTill_pure (i := 10) (v := ?_) rfl (by kernel_rfl) (by kernel_rfl) (by kernel_rfl) (by kernel_rfl) (fun _ _ _ h => h) (Or.inl ⟨by rfl, ?_⟩) (fun _ => hC_1) ?_
      rotate_left
      · intro w hSw; clear hSw; go_simp; (try with_reducible rfl)
      (try simp only [List.getElem_toArray, List.getElem_cons_succ, List.getElem_cons_zero])
      (try simp only [Act.put, List.setIfInBounds_toArray, List.set_cons_zero, List.set_cons_succ])
      refine wpTill_pure (i := 11) (v := ?_) rfl (by kernel_rfl) (by kernel_rfl) (by kernel_rfl) (by kernel_rfl) (fun _ _ _ h => h) (Or.inl ⟨by rfl, ?_⟩) (fun _ => hC_1) ?_
      rotate_left
      · intro w hSw; clear hSw; go_simp; (try with_reducible rfl)
      (try simp only [List.getElem_toArray, List.getElem_cons_succ, List.getElem_cons_zero])
      (try simp only [Act.put, List.setIfInBounds_toArray, List.set_cons_zero, List.set_cons_succ])
      have S8 := (unhide HS5).keep cc_1
      have ⟨⟨y0, y1, y2⟩, g0, g1, g2⟩ := S8.cells j (by rw [unhide HUL]; exact hlt)
      have FZ := S8.set j (by rw [unhide HUL]; exact hlt) t5 _ r5
      obtain ⟨W9, hW9⟩ : ∃ W, ((xw_1.setCell ⟨GO, j * 3, none⟩ (.bool t5.s)).setCell ⟨GO, j * 3 + 1, none⟩ (.slice t5.a1 t5.n1 t5.c1)).setCell ⟨GO, j * 3 + 2, none⟩ (.slice t5.a2 t5.n2 t5.c2) = W := ⟨_, rfl⟩
      rw [hW9, unhide HQV, fill_set] at FZ
      have HFZ := hide FZ
      clear S8 FZ r5 hv_1
      refine wpTill_one (k := 12) (by kernel_rfl) rfl (fun K hK => ?_)
      (try simp only [List.getElem_toArray, List.getElem_cons_succ, List.getElem_cons_zero])
      go_simp
      refine hK.out _ _ (fun h => absurd (h.symm.trans (by kernel_rfl)) Bool.false_ne_true) ?_
      clear hK K
      (try simp only [Act.put, List.setIfInBounds_toArray, List.set_cons_zero, List.set_cons_succ])
      refine wpTill_done (by kernel_rfl) ?_ _
      clear HCC HTA HTQ y0 y1 y2 g0 g1 g2 hW9 hC0 hC_1 cc_1 bd0 hb_1 hWd
      go_wp2_with fail
      exact ⟨⟨j + 1, _, by go_num, hlt, by rw [List.length_set]; exact unhide HUL, unhide HFZ⟩, by simp [intOf]; omega⟩
    · obtain rfl : j = n := by omega
      have j1 : ¬ (j : Int) < (j : Int) := by omega
      have hlaw := T3.law (by omega)
      rw [hws] at hlaw
      have HLW : Hid (LawIs wr (.slice (some ⟨GO, 0, none⟩) j j) (row f j)) := hlaw
      have HT3 := hide (T3.rebase (unhide HB0))
      have HWS := hide hws
      clear T3 hlaw hws HLW
      go_wp2
      go_ret
      exact ⟨GO, _, rfl, unhide HWS, unhide HGO, unhide HT3⟩

theorem divided_any (l : Sl) (vq : Value) (qs : List Rat) (q : Rat) (n J0 : Nat) (w : World) (h : LawIs w l.val qs) (e1 : qs.length = n) (hq : RatIs w vq q) (hn1 : 1 ≤ n) (hn8 : n ≤ 1000) (r1 : ∀ i, i < n → RS qs[i]! J0) (rq : RS q J0) (hz : q ≠ 0) (hJ : J0 + J0 + 1 ≤ KK) :
    Calls Tryz.prog 48 #[.slice l.a n l.c, vq] w (RowPost w (row (fun i => qs[i]! / q) n)) := by
  refine (divided2_any l vq qs q n J0 w h e1 hq hn1 hn8 r1 rq hz hJ).mono ?_
  rintro e w' ⟨g, us, rfl, hu, hg, hS⟩
  have hl := hS.law (by omega)
  rw [hu] at hl
  exact ⟨g, n, rfl, (row_length _ _).symm, hg, hl, hS.bl⟩
end Go.Proofs.YtfnbjenneodcdaaGreatDoor
/- Hidden states: following, seen. -/
namespace Go.Proofs.YtfnbjenneodcdaaGreatDoor
open Go.RowKit Go.Sort Go.Shelf

theorem row_setq {f g : Nat → Rat} {n j : Nat} {v : Rat} (hj : j < n) (h1 : g j = v) (h2 : ∀ i, i < n → i ≠ j → g i = f i) : (row f n).set j v = row g n := by
  refine row_eq (by rw [List.length_set, row_length]) (fun i hi => ?_)
  rw [List.getElem!_eq_getElem?_getD, List.getElem?_set]
  by_cases e : j = i
  · subst e
    rw [if_pos rfl, if_pos (by rw [row_length]; exact hj)]
    exact h1.symm
  · rw [if_neg e, ← List.getElem!_eq_getElem?_getD, row_get hi]
    exact (h2 i hi (Ne.symm e)).symm
/-- So many rows, and so many places of the next, are added up. -/
def fpt (x : Nat → Rat) (p : Nat → Nat → Rat) (k j i : Nat) : Rat := if i < j then Bth.ps (fun a => x a * p a i) (k + 1) else Bth.ps (fun a => x a * p a i) k
theorem fpt_next (x : Nat → Rat) (p : Nat → Nat → Rat) (k n : Nat) : row (fpt x p k n) n = row (fpt x p (k + 1) 0) n := row_congr (fun i hi => by
  unfold fpt
  rw [if_pos hi, if_neg (Nat.not_lt_zero _)])
theorem fpt_RS {x : Nat → Rat} {p : Nat → Nat → Rat} {n J : Nat} (hx : ∀ a, a < n → RS (x a) J) (hp : ∀ a i, a < n → i < n → RS (p a i) 1) {i : Nat} (hi : i < n) : ∀ k, k ≤ n → RS (Bth.ps (fun a => x a * p a i) k) (k * (J + 2) + 1)
  | 0, _ => RS.mono RS.zero (by omega)
  | k + 1, hk => by
    have a := fpt_RS hx hp hi k (by omega)
    have b := (hx k (by omega)).mul (hp k i (by omega) hi)
    exact (a.add b).mono (by rw [Nat.add_mul]; omega)

set_option maxHeartbeats 16000000 in
set_option maxRecDepth 100000 in
set_option linter.unusedSimpArgs false in
theorem following_any (v : Value) (l : Sl) (fs : List Rat) (P G : List (List Rat)) (xs : List Rat) (J JB : Nat) (w : World) (h : HmIs w v fs P G) (gm : GoodH fs P G) (sm : SmHm fs P G) (hx : LawIs w l.val xs) (hxl : xs.length = fs.length) (hr : ∀ i, i < fs.length → RS xs[i]! J) (hJ1 : 1 ≤ J) (hJB : 8 * (J + 2) + 1 + J + 1 ≤ JB) (hJ : JB + JB + 1 ≤ KK) :
    Calls Tryz.prog 83 #[v, .slice l.a fs.length l.c] w (RowPost w (row (Blf.fol (hm fs P G) (fun i => xs[i]!)) fs.length)) := by
  have HSM := hide sm
  have HGM := hide gm
  have hn1 := gm.n1
  have hn8 := gm.n8
  obtain ⟨sf, sp, sg, rfl, hF, hP, hG⟩ := h
  have hfn := law_len hF
  have hpn := rows_len hP
  have hgn := rows_len hG
  obtain ⟨n, hn⟩ : ∃ n, fs.length = n := ⟨_, rfl⟩
  have HN := hide hn
  rw [hn] at hfn
  rw [gm.pl, hn] at hpn
  rw [gm.gl, hn] at hgn
  have X0 := HBox.new hF hP hG
  have b0 := alloc_below w (.cells #[.slice sf.a sf.n sf.c, .slice sp.a sp.n sp.c, .slice sg.a sg.n sg.c] 53)
  obtain ⟨W0, hW0⟩ : ∃ W, w.alloc (.cells #[.slice sf.a sf.n sf.c, .slice sp.a sp.n sp.c, .slice sg.a sg.n sg.c] 53) = W := ⟨_, rfl⟩
  obtain ⟨bx, hbx⟩ : ∃ b, w.heap.size = b := ⟨_, rfl⟩
  rw [hW0] at X0 b0
  rw [hbx] at X0
  have HX0 := hide X0
  have HB0 := hide b0
  have HCH : Hid (∀ W, Below W0.heap.size W0 W → (fun w' : World => w'.cell? ⟨bx, 0, none⟩ = some (.slice sf.a n sf.c) ∧ w'.cell? ⟨bx, 1, none⟩ = some (.slice sp.a n sp.c) ∧ w'.cell? ⟨bx, 2, none⟩ = some (.slice sg.a n sg.c)) W) := fun W hW => by
    have h1 := (unhide HX0).cells W hW
    rw [hfn, hpn, hgn] at h1
    exact h1
  have HIS : Hid (∀ W, Below W0.heap.size W0 W → HmIs W (.agg #[.slice sf.a n sf.c, .slice sp.a n sp.c, .slice sg.a n sg.c]) fs P G) := fun W hW => by
    have h1 := (unhide HX0).hm.below hW
    unfold hmval at h1
    rw [hfn, hpn, hgn] at h1
    exact h1
  have ⟨c0, c1, c2⟩ := unhide HCH _ (Below.refl _ _)
  have HFN := hide hfn
  have HPN := hide hpn
  have HGN := hide hgn
  unfold hmval
  rw [hfn, hpn, hgn] at hW0 ⊢
  clear hF hP hG X0 b0 hn hfn hpn hgn
  rw [unhide HN] at hn1 hn8 hxl hr ⊢
  have hcl := hx.cap hxl
  obtain ⟨hcl1, hcl2⟩ := hcl
  have HJ := hide hJ
  obtain ⟨x, hx_⟩ : ∃ x : Nat → Rat, (fun i => xs[i]!) = x := ⟨_, rfl⟩
  have HXX : Hid (∀ i, xs[i]! = x i) := fun i => by rw [← hx_]
  obtain ⟨p, hp_⟩ : ∃ p : Nat → Nat → Rat, (fun i k => (P[i]!)[k]!) = p := ⟨_, rfl⟩
  have HPP : Hid (∀ i k, (P[i]!)[k]! = p i k) := fun i k => by rw [← hp_]
  have HXR : Hid (∀ i, i < n → RS (x i) J) := fun i hi => by rw [← unhide HXX]; exact hr i hi
  have HPR : Hid (∀ i k, i < n → k < n → RS (p i k) 1) := fun i k hi hk => by
    rw [← unhide HPP]
    exact (unhide HSM).rp i k (by rw [(unhide HGM).pl, unhide HN]; exact hi) (by rw [(unhide HGM).px i (by rw [unhide HN]; exact hi), unhide HN]; exact hk)
  have HFR : Hid (∀ k j i, k < n → i < n → RS (fpt x p k j i) JB) := fun k j i hk hi => by
    have h8 : ∀ a, a ≤ 8 → a * (J + 2) ≤ 8 * (J + 2) := fun a ha => Nat.mul_le_mul_right _ ha
    unfold fpt
    split
    · have := h8 (k + 1) (by omega)
      exact (fpt_RS (unhide HXR) (unhide HPR) hi (k + 1) (by omega)).mono (by omega)
    · have := h8 k (by omega)
      exact (fpt_RS (unhide HXR) (unhide HPR) hi k (by omega)).mono (by omega)
  have HRLA : Hid (∀ i, i < n → RS (x i) JB) := fun i hi => (unhide HXR i hi).mono (by omega)
  have HRPA : Hid (∀ i k, i < n → k < n → RS (p i k) JB) := fun i k hi hk => (unhide HPR i k hi hk).mono (by omega)
  have HRMA : Hid (∀ i k, i < n → k < n → RS (x i * p i k) JB) := fun i k hi hk => ((unhide HXR i hi).mul (unhide HPR i k hi hk)).mono (by omega)
  have HFOL : Hid (row (Blf.fol (hm fs P G) (fun i => xs[i]!)) n = row (fpt x p n 0) n) := row_congr (fun i hi => by
    unfold fpt Blf.fol
    rw [if_neg (Nat.not_lt_zero _)]
    show Bth.ps (fun j => xs[j]! * (P[j]!)[i]!) fs.length = _
    rw [unhide HN]
    exact Bth.ps_congr _ (fun j _ => by rw [unhide HXX, unhide HPP]))
  rw [unhide HFOL]
  obtain ⟨ba, oa, ea, hba, Hba⟩ : ∃ b o, l.a = some ⟨b, o, none⟩ ∧ b < W0.heap.size ∧ Hid (∀ j, j < n → ∃ t : Tri, W0.cell? ⟨b, o + j * 3, none⟩ = some (.bool t.s) ∧ W0.cell? ⟨b, o + j * 3 + 1, none⟩ = some (.slice t.a1 t.n1 t.c1) ∧ W0.cell? ⟨b, o + j * 3 + 2, none⟩ = some (.slice t.a2 t.n2 t.c2) ∧ RatIs W0 t.val xs[j]!) := (hx.below (unhide HB0)).open hxl hn1
  have HLba := hide hba
  have qm2 := make_ratios (n : Int) (by omega) (by omega) W0
  rw [Int.toNat_natCast] at qm2
  have S3 := SumsAt.start W0 W0 n (Below.refl _ _)
  obtain ⟨W1, hW1⟩ : ∃ W, W0.alloc (.cells (tcells (List.replicate n zTri)).toArray 26) = W := ⟨_, rfl⟩
  obtain ⟨GO, hGO⟩ : ∃ G, W0.heap.size = G := ⟨_, rfl⟩
  rw [hW1] at qm2 S3
  rw [hGO] at qm2
  have HS3 : Hid (SumsAt W0 W1 GO (List.replicate n zTri) (row (fpt x p 0 0) n)) := by
    have e : row (fpt x p 0 0) n = List.replicate n 0 := by
      rw [fill_zero (fun _ => 0) n]
      refine (row_eq (fill_length _ _ _) (fun i hi => ?_)).symm
      rw [fill_none (Nat.zero_le _) hi]
      unfold fpt
      rw [if_neg (Nat.not_lt_zero _)]; rfl
    show SumsAt W0 W1 GO _ _
    rw [e, ← hGO]; exact S3
  have HGO : Hid (w.heap.size ≤ GO) := by show _ ≤ GO; rw [← hGO]; exact (unhide HB0).size
  rw [ea]
  clear hx hxl hr hJ1 hJB hJ hx_ hp_ ea hba S3 sm gm
  go_enter Tryz.func83, Tryz.ntmps83
  go_wp2_with fail
  clear hW0 hbx c0 c1 c2 qm2 hW1 hGO
  go_loopw [15] (fun vk wr => ∃ (k : Nat) (ws : List Tri), vk = .int .i64 (k : Int) ∧ k ≤ n ∧ ws.length = n ∧ SumsAt W0 wr GO ws (row (fpt x p k 0) n)) (fun vk _ => n - (intOf vk).toNat)
  case atStart => exact ⟨0, _, rfl, Nat.zero_le _, List.length_replicate, unhide HS3⟩
  case round =>
    obtain ⟨k, ws, rfl, hk, hws, T3⟩ := hrel
    clear HS3
    by_cases hlt : k < n
    · have j1 : (k : Int) < (n : Int) := by omega
      have j0 : (0 : Int) ≤ (k : Int) := by omega
      have hb := T3.bl
      obtain ⟨tl, ka0, ka1, ka2, ra⟩ := unhide Hba k hlt
      rw [← hb.cell (p := ⟨ba, oa + k * 3, none⟩) (unhide HLba)] at ka0
      rw [← hb.cell (p := ⟨ba, oa + k * 3 + 1, none⟩) (unhide HLba)] at ka1
      rw [← hb.cell (p := ⟨ba, oa + k * 3 + 2, none⟩) (unhide HLba)] at ka2
      rw [unhide HXX] at ra
      have b7_ := alloc_below wr (.cells #[.bool tl.s, .slice tl.a1 tl.n1 tl.c1, .slice tl.a2 tl.n2 tl.c2] 26)
      have X7 := BoxIs.new (ra.below hb)
      obtain ⟨W7, hW7⟩ : ∃ W, wr.alloc (.cells #[.bool tl.s, .slice tl.a1 tl.n1 tl.c1, .slice tl.a2 tl.n2 tl.c2] 26) = W := ⟨_, rfl⟩
      obtain ⟨b7, hb7⟩ : ∃ g, wr.heap.size = g := ⟨_, rfl⟩
      rw [hW7] at b7_ X7
      rw [hb7] at X7
      have HB7 := hide (below_step hb b7_)
      have HX70 := hide X7
      have HT7 := hide (T3.keep b7_)
      have HNE7 : Hid (GO ≠ b7) := fun e => by
        have h1 := (Array.getElem?_eq_some_iff.1 T3.row).1
        rw [e, ← hb7] at h1
        exact absurd h1 (Nat.lt_irrefl _)
      have HWS := hide hws
      have hltP : k < P.length := by rw [(unhide HGM).pl, unhide HN]; exact hlt
      obtain ⟨bp, op, mp, hpa, hbp, p0, hPl⟩ := ((unhide HX0).2.2.1).at hltP
      have hlp : (P[k]!).length = n := by rw [(unhide HGM).px k (by rw [unhide HN]; exact hlt)]; exact unhide HN
      have hmp := law_len hPl
      rw [hlp] at hmp
      rw [hmp] at p0
      obtain ⟨bf_, of_, hfa, hbf, HCF⟩ : ∃ b o, mp.a = some ⟨b, o, none⟩ ∧ b < W0.heap.size ∧ Hid (∀ j, j < n → ∃ t : Tri, W0.cell? ⟨b, o + j * 3, none⟩ = some (.bool t.s) ∧ W0.cell? ⟨b, o + j * 3 + 1, none⟩ = some (.slice t.a1 t.n1 t.c1) ∧ W0.cell? ⟨b, o + j * 3 + 2, none⟩ = some (.slice t.a2 t.n2 t.c2) ∧ RatIs W0 t.val (P[k]!)[j]!) := hPl.open hlp hn1
      have HBF := hide hbf
      rw [hfa] at p0
      rw [← (unhide HB7).cell (p := ⟨bp, op + k, none⟩) hbp] at p0
      have ⟨d0, d1, d2⟩ := unhide HCH _ (unhide HB7)
      rw [hpa] at d1
      clear T3 hws hb b7_ X7 ra hltP hpa hbp hPl hlp hmp hfa hbf
      go_wp2_with fail
      clear hW7 hb7 ka0 ka1 ka2 d0 d1 d2 p0
      obtain ⟨V, hV⟩ : ∃ V, wr = V := ⟨_, rfl⟩
      clear hV
      go_loopw [26] (fun vj wv => ∃ (j : Nat) (ws : List Tri), vj = .int .i64 (j : Int) ∧ j ≤ n ∧ ws.length = n ∧ SumsAt W0 wv GO ws (row (fpt x p k j) n) ∧ BoxIs wv b7 tl (x k)) (fun vj _ => n - (intOf vj).toNat)
      case atStart => exact ⟨0, _, rfl, Nat.zero_le _, unhide HWS, unhide HT7, unhide HX70⟩
      case round =>
        obtain ⟨j, us, rfl, hj, hus, T4, X4⟩ := hrel
        clear HX70 HT7 HWS HB7
        by_cases hltj : j < n
        · have f1 : (j : Int) < (n : Int) := by omega
          have f0 : (0 : Int) ≤ (j : Int) := by omega
          have hb := T4.bl
          obtain ⟨tp, ka0, ka1, ka2, ra⟩ := unhide HCF j hltj
          rw [← hb.cell (p := ⟨bf_, of_ + j * 3, none⟩) (unhide HBF)] at ka0
          rw [← hb.cell (p := ⟨bf_, of_ + j * 3 + 1, none⟩) (unhide HBF)] at ka1
          rw [← hb.cell (p := ⟨bf_, of_ + j * 3 + 2, none⟩) (unhide HBF)] at ka2
          rw [unhide HPP] at ra
          have b9_ := alloc_below wr (.cells #[.bool tp.s, .slice tp.a1 tp.n1 tp.c1, .slice tp.a2 tp.n2 tp.c2] 26)
          have X9 := BoxIs.new (ra.below hb)
          obtain ⟨W9, hW9⟩ : ∃ W, wr.alloc (.cells #[.bool tp.s, .slice tp.a1 tp.n1 tp.c1, .slice tp.a2 tp.n2 tp.c2] 26) = W := ⟨_, rfl⟩
          obtain ⟨b9, hb9⟩ : ∃ g, wr.heap.size = g := ⟨_, rfl⟩
          rw [hW9] at b9_ X9
          rw [hb9] at X9
          have T9 := T4.keep b9_
          have HX7 := hide (X4.keep b9_)
          have HX9 := hide X9
          have ⟨q0, _, qr⟩ : (W9.cell? ⟨GO, j * 3, none⟩ = some (.bool (us[j]!).s) ∧ W9.cell? ⟨GO, j * 3 + 1, none⟩ = some (.slice (us[j]!).a1 (us[j]!).n1 (us[j]!).c1) ∧ W9.cell? ⟨GO, j * 3 + 2, none⟩ = some (.slice (us[j]!).a2 (us[j]!).n2 (us[j]!).c2)) ∧ True ∧ RatIs W9 (us[j]!).val (fpt x p k j j) := by
            have ⟨c, _⟩ := T9.cells j (by omega)
            have r := T9.rat j (by omega)
            rw [row_get hltj] at r
            exact ⟨c, trivial, r⟩
          obtain ⟨to_, hto⟩ : ∃ t, us[j]! = t := ⟨_, rfl⟩
          rw [hto] at q0 qr
          have hGl : GO < W9.heap.size := by have := T9.row; exact (Array.getElem?_eq_some_iff.1 this).1
          have HCC : Hid (∀ W, Below W9.heap.size W9 W → (fun w' : World => (w'.cell? ⟨GO, j * 3, none⟩ = some (.bool to_.s) ∧ w'.cell? ⟨GO, j * 3 + 1, none⟩ = some (.slice to_.a1 to_.n1 to_.c1) ∧ w'.cell? ⟨GO, j * 3 + 2, none⟩ = some (.slice to_.a2 to_.n2 to_.c2)) ∧ (w'.cell? ⟨b7, 0, none⟩ = some (.bool tl.s) ∧ w'.cell? ⟨b7, 1, none⟩ = some (.slice tl.a1 tl.n1 tl.c1) ∧ w'.cell? ⟨b7, 2, none⟩ = some (.slice tl.a2 tl.n2 tl.c2)) ∧ (w'.cell? ⟨b9, 0, none⟩ = some (.bool tp.s) ∧ w'.cell? ⟨b9, 1, none⟩ = some (.slice tp.a1 tp.n1 tp.c1) ∧ w'.cell? ⟨b9, 2, none⟩ = some (.slice tp.a2 tp.n2 tp.c2))) W) := fun W hW => by
            refine ⟨⟨?_, ?_, ?_⟩, (unhide HX7).cells W hW, (unhide HX9).cells W hW⟩
            · rw [hW.cell (p := ⟨GO, j * 3, none⟩) hGl]; exact q0.1
            · rw [hW.cell (p := ⟨GO, j * 3 + 1, none⟩) hGl]; exact q0.2.1
            · rw [hW.cell (p := ⟨GO, j * 3 + 2, none⟩) hGl]; exact q0.2.2
          have HTO := hide qr
          have HRL := hide (unhide HRLA k hlt)
          have HRP := hide (unhide HRPA k j hlt hltj)
          have HRM := hide (unhide HRMA k j hlt hltj)
          have HRO := hide (unhide HFR k j j hlt hltj)
          have HQV : Hid ((row (fpt x p k j) n).set j (fpt x p k j j + x k * p k j) = row (fpt x p k (j + 1)) n) := row_setq hltj (by
            unfold fpt
            rw [if_pos (Nat.lt_succ_self _), if_neg (Nat.lt_irrefl _)]; rfl) (fun i _ hi => by
            unfold fpt
            by_cases e : i < j
            · rw [if_pos e, if_pos (by omega)]
            · rw [if_neg e, if_neg (by omega)])
          have HS5 := hide T9
          have HUL := hide hus
          have hne7 : GO ≠ b7 := unhide HNE7
          clear T4 X4 hb b9_ X9 T9 ra qr hto hGl hus q0
          go_wp2_with fail
          clear hW9 hb9 ka0 ka1 ka2
          refine wp_region_till (fun w' : World => (w'.cell? ⟨GO, j * 3, none⟩ = some (.bool to_.s) ∧ w'.cell? ⟨GO, j * 3 + 1, none⟩ = some (.slice to_.a1 to_.n1 to_.c1) ∧ w'.cell? ⟨GO, j * 3 + 2, none⟩ = some (.slice to_.a2 to_.n2 to_.c2)) ∧ (w'.cell? ⟨b7, 0, none⟩ = some (.bool tl.s) ∧ w'.cell? ⟨b7, 1, none⟩ = some (.slice tl.a1 tl.n1 tl.c1) ∧ w'.cell? ⟨b7, 2, none⟩ = some (.slice tl.a2 tl.n2 tl.c2)) ∧ (w'.cell? ⟨b9, 0, none⟩ = some (.bool tp.s) ∧ w'.cell? ⟨b9, 1, none⟩ = some (.slice tp.a1 tp.n1 tp.c1) ∧ w'.cell? ⟨b9, 2, none⟩ = some (.slice tp.a2 tp.n2 tp.c2))) 11 (by kernel_rfl) ?_
          have bd0 : Below W9.heap.size W9 W9.drew := (Below.refl _ _).drew
          have hC0 : (fun w' : World => (w'.cell? ⟨GO, j * 3, none⟩ = some (.bool to_.s) ∧ w'.cell? ⟨GO, j * 3 + 1, none⟩ = some (.slice to_.a1 to_.n1 to_.c1) ∧ w'.cell? ⟨GO, j * 3 + 2, none⟩ = some (.slice to_.a2 to_.n2 to_.c2)) ∧ (w'.cell? ⟨b7, 0, none⟩ = some (.bool tl.s) ∧ w'.cell? ⟨b7, 1, none⟩ = some (.slice tl.a1 tl.n1 tl.c1) ∧ w'.cell? ⟨b7, 2, none⟩ = some (.slice tl.a2 tl.n2 tl.c2)) ∧ (w'.cell? ⟨b9, 0, none⟩ = some (.bool tp.s) ∧ w'.cell? ⟨b9, 1, none⟩ = some (.slice tp.a1 tp.n1 tp.c1) ∧ w'.cell? ⟨b9, 2, none⟩ = some (.slice tp.a2 tp.n2 tp.c2))) W9.drew := unhide HCC _ bd0
          refine wpTill_pure (i := 0) (v := ?_) rfl (by kernel_rfl) (by kernel_rfl) (by kernel_rfl) (by kernel_rfl) (fun _ _ _ h => h) (Or.inl ⟨by rfl, ?_⟩) (fun _ => hC0) ?_
          rotate_left
          · intro w hSw; clear hSw; go_simp; (try with_reducible rfl)
          (try simp only [List.getElem_toArray, List.getElem_cons_succ, List.getElem_cons_zero])
          (try simp only [Act.put, List.setIfInBounds_toArray, List.set_cons_zero, List.set_cons_succ])
          refine wpTill_pure (i := 1) (v := ?_) rfl (by kernel_rfl) (by kernel_rfl) (by kernel_rfl) (by kernel_rfl) (fun _ _ _ h => h) (Or.inl ⟨by rfl, ?_⟩) (fun _ => hC0) ?_
          rotate_left
          · intro w hSw; clear hSw; go_simp; (try with_reducible rfl)
          (try simp only [List.getElem_toArray, List.getElem_cons_succ, List.getElem_cons_zero])
          (try simp only [Act.put, List.setIfInBounds_toArray, List.set_cons_zero, List.set_cons_succ])
          refine wpTill_pure (i := 2) (v := ?_) rfl (by kernel_rfl) (by kernel_rfl) (by kernel_rfl) (by kernel_rfl) (fun _ _ _ h => h) (Or.inl ⟨by rfl, ?_⟩) (fun _ => hC0) ?_
          rotate_left
          · intro w hSw; clear hSw; go_simp; (try with_reducible rfl)
          (try simp only [List.getElem_toArray, List.getElem_cons_succ, List.getElem_cons_zero])
          (try simp only [Act.put, List.setIfInBounds_toArray, List.set_cons_zero, List.set_cons_succ])
          refine wpTill_pure (i := 3) (v := ?_) rfl (by kernel_rfl) (by kernel_rfl) (by kernel_rfl) (by kernel_rfl) (fun _ _ _ h => h) (Or.inl ⟨by rfl, ?_⟩) (fun _ => hC0) ?_
          rotate_left
          · intro w hSw; clear hSw; go_simp; (try with_reducible rfl)
          (try simp only [List.getElem_toArray, List.getElem_cons_succ, List.getElem_cons_zero])
          (try simp only [Act.put, List.setIfInBounds_toArray, List.set_cons_zero, List.set_cons_succ])
          refine wpTill_pure (i := 4) (v := ?_) rfl (by kernel_rfl) (by kernel_rfl) (by kernel_rfl) (by kernel_rfl) (fun _ _ _ h => h) (Or.inl ⟨by rfl, ?_⟩) (fun _ => hC0) ?_
          rotate_left
          · intro w hSw; clear hSw; go_simp; (try with_reducible rfl)
          (try simp only [List.getElem_toArray, List.getElem_cons_succ, List.getElem_cons_zero])
          (try simp only [Act.put, List.setIfInBounds_toArray, List.set_cons_zero, List.set_cons_succ])
          refine wpTill_take (i := 5) (v := ?_) rfl (by kernel_rfl) (by kernel_rfl) (by kernel_rfl) (by kernel_rfl) (by kernel_rfl) (by kernel_rfl) (fun _ _ _ h => h) (Or.inl ⟨by rfl, ?_⟩) hC0 ?_
          rotate_left
          · intro w hSw; (try dsimp only at hSw); obtain ⟨⟨u0, u1, u2⟩, ⟨u3, u4, u5⟩, ⟨u6, u7, u8⟩⟩ := hSw; go_simp; (try with_reducible rfl)
          (try simp only [List.getElem_toArray, List.getElem_cons_succ, List.getElem_cons_zero])
          (try simp only [Act.put, List.setIfInBounds_toArray, List.set_cons_zero, List.set_cons_succ])
          refine wpTill_take (i := 6) (v := ?_) rfl (by kernel_rfl) (by kernel_rfl) (by kernel_rfl) (by kernel_rfl) (by kernel_rfl) (by kernel_rfl) (fun _ _ _ h => h) (Or.inl ⟨by rfl, ?_⟩) hC0 ?_
          rotate_left
          · intro w hSw; (try dsimp only at hSw); obtain ⟨⟨u0, u1, u2⟩, ⟨u3, u4, u5⟩, ⟨u6, u7, u8⟩⟩ := hSw; go_simp; (try with_reducible rfl)
          (try simp only [List.getElem_toArray, List.getElem_cons_succ, List.getElem_cons_zero])
          (try simp only [Act.put, List.setIfInBounds_toArray, List.set_cons_zero, List.set_cons_succ])
          refine wpTill_take (i := 7) (v := ?_) rfl (by kernel_rfl) (by kernel_rfl) (by kernel_rfl) (by kernel_rfl) (by kernel_rfl) (by kernel_rfl) (fun _ _ _ h => h) (Or.inl ⟨by rfl, ?_⟩) hC0 ?_
          rotate_left
          · intro w hSw; (try dsimp only at hSw); obtain ⟨⟨u0, u1, u2⟩, ⟨u3, u4, u5⟩, ⟨u6, u7, u8⟩⟩ := hSw; go_simp; (try with_reducible rfl)
          (try simp only [List.getElem_toArray, List.getElem_cons_succ, List.getElem_cons_zero])
          (try simp only [Act.put, List.setIfInBounds_toArray, List.set_cons_zero, List.set_cons_succ])
          refine wpTill_one (k := 8) (by kernel_rfl) rfl (fun K hK => ?_)
          (try simp only [List.getElem_toArray, List.getElem_cons_succ, List.getElem_cons_zero])
          go_simp
          refine (mulR_any tl.val tp.val _ _ _ ((unhide HX7).2.below bd0) ((unhide HX9).2.below bd0) JB (unhide HRL) (unhide HRP) (unhide HJ)).mono ?_
          rintro e xw_1 ⟨xv_1, rfl, hv_1, hb_1⟩
          have cc_1 := below_step bd0 hb_1
          have hC_1 : (fun w' : World => (w'.cell? ⟨GO, j * 3, none⟩ = some (.bool to_.s) ∧ w'.cell? ⟨GO, j * 3 + 1, none⟩ = some (.slice to_.a1 to_.n1 to_.c1) ∧ w'.cell? ⟨GO, j * 3 + 2, none⟩ = some (.slice to_.a2 to_.n2 to_.c2)) ∧ (w'.cell? ⟨b7, 0, none⟩ = some (.bool tl.s) ∧ w'.cell? ⟨b7, 1, none⟩ = some (.slice tl.a1 tl.n1 tl.c1) ∧ w'.cell? ⟨b7, 2, none⟩ = some (.slice tl.a2 tl.n2 tl.c2)) ∧ (w'.cell? ⟨b9, 0, none⟩ = some (.bool tp.s) ∧ w'.cell? ⟨b9, 1, none⟩ = some (.slice tp.a1 tp.n1 tp.c1) ∧ w'.cell? ⟨b9, 2, none⟩ = some (.slice tp.a2 tp.n2 tp.c2))) xw_1 := unhide HCC _ cc_1
          refine hK.out _ _ (fun _ => hC_1) ?_
          clear hK K
          (try simp only [Act.put, List.setIfInBounds_toArray, List.set_cons_zero, List.set_cons_succ])
          refine wpTill_one (k := 9) (by kernel_rfl) rfl (fun K hK => ?_)
          (try simp only [List.getElem_toArray, List.getElem_cons_succ, List.getElem_cons_zero])
          go_simp
          refine (addR_any to_.val _ _ _ _ ((unhide HTO).below cc_1) hv_1 JB (unhide HRO) (unhide HRM) (unhide HJ)).mono ?_
          rintro e xw_2 ⟨xv_2, rfl, hv_2, hb_2⟩
          have cc_2 := below_step cc_1 hb_2
          have hC_2 : (fun w' : World => (w'.cell? ⟨GO, j * 3, none⟩ = some (.bool to_.s) ∧ w'.cell? ⟨GO, j * 3 + 1, none⟩ = some (.slice to_.a1 to_.n1 to_.c1) ∧ w'.cell? ⟨GO, j * 3 + 2, none⟩ = some (.slice to_.a2 to_.n2 to_.c2)) ∧ (w'.cell? ⟨b7, 0, none⟩ = some (.bool tl.s) ∧ w'.cell? ⟨b7, 1, none⟩ = some (.slice tl.a1 tl.n1 tl.c1) ∧ w'.cell? ⟨b7, 2, none⟩ = some (.slice tl.a2 tl.n2 tl.c2)) ∧ (w'.cell? ⟨b9, 0, none⟩ = some (.bool tp.s) ∧ w'.cell? ⟨b9, 1, none⟩ = some (.slice tp.a1 tp.n1 tp.c1) ∧ w'.cell? ⟨b9, 2, none⟩ = some (.slice tp.a2 tp.n2 tp.c2))) xw_2 := unhide HCC _ cc_2
          refine hK.out _ _ (fun _ => hC_2) ?_
          clear hK K
          (try simp only [Act.put, List.setIfInBounds_toArray, List.set_cons_zero, List.set_cons_succ])
          refine wpTill_pure (i := 10) (v := ?_) rfl (by kernel_rfl) (by kernel_rfl) (by kernel_rfl) (by kernel_rfl) (fun _ _ _ h => h) (Or.inl ⟨by rfl, ?_⟩) (fun _ => hC_2) ?_
          rotate_left
          · intro w hSw; clear hSw; go_simp; (try with_reducible rfl)
          (try simp only [List.getElem_toArray, List.getElem_cons_succ, List.getElem_cons_zero])
          (try simp only [Act.put, List.setIfInBounds_toArray, List.set_cons_zero, List.set_cons_succ])
          obtain ⟨t5, rfl, r5⟩ := tri_of hv_2
          simp only [Tri.val]
          have S8 := (unhide HS5).keep cc_2
          have ⟨⟨y0, y1, y2⟩, g0, g1, g2⟩ := S8.cells j (by rw [unhide HUL]; exact hltj)
          have FZ := S8.set j (by rw [unhide HUL]; exact hltj) t5 _ r5
          obtain ⟨WA, hWA⟩ : ∃ W, ((xw_2.setCell ⟨GO, j * 3, none⟩ (.bool t5.s)).setCell ⟨GO, j * 3 + 1, none⟩ (.slice t5.a1 t5.n1 t5.c1)).setCell ⟨GO, j * 3 + 2, none⟩ (.slice t5.a2 t5.n2 t5.c2) = W := ⟨_, rfl⟩
          rw [hWA, unhide HQV] at FZ
          have HFZ := hide FZ
          clear S8 FZ r5 hv_1 hv_2
          refine wpTill_one (k := 11) (by kernel_rfl) rfl (fun K hK => ?_)
          (try simp only [List.getElem_toArray, List.getElem_cons_succ, List.getElem_cons_zero])
          go_simp
          refine hK.out _ _ (fun h => absurd (h.symm.trans (by kernel_rfl)) Bool.false_ne_true) ?_
          clear hK K
          (try simp only [Act.put, List.setIfInBounds_toArray, List.set_cons_zero, List.set_cons_succ])
          refine wpTill_done (by kernel_rfl) ?_ _
          have HX7F : Hid (BoxIs WA b7 tl (x k)) := by
            have hS := (unhide HS5).keep cc_2
            show BoxIs WA b7 tl (x k)
            rw [← hWA]
            exact ((unhide HX7).keep cc_2).rowed hS.row (Ne.symm hne7) _ _ _ _ _ _
          clear HCC HTO HX7 HX9 HS5 y0 y1 y2 g0 g1 g2 hWA hC0 hC_1 hC_2 cc_1 cc_2 bd0 hb_1 hb_2 hne7
          go_wp2_with fail
          exact ⟨⟨j + 1, _, by go_num, hltj, by rw [List.length_set]; exact unhide HUL, unhide HFZ, unhide HX7F⟩, by simp [intOf]; omega⟩
        · obtain rfl : j = n := by omega
          have f1 : ¬ (j : Int) < (j : Int) := by omega
          rw [fpt_next] at T4
          have HF4 := hide T4
          have HU4 := hide hus
          clear T4 X4 hus
          go_wp2_with fail
          exact ⟨⟨k + 1, _, by go_num, hlt, unhide HU4, unhide HF4⟩, by simp [intOf]; omega⟩
    · obtain rfl : k = n := by omega
      have j1 : ¬ (k : Int) < (k : Int) := by omega
      have hlaw := T3.law (by omega)
      rw [hws] at hlaw
      have HLW := hide hlaw
      have HB := hide (below_step (unhide HB0) T3.bl)
      clear T3 hlaw hws
      go_wp2
      go_ret
      exact ⟨GO, k, rfl, (row_length _ _).symm, unhide HGO, unhide HLW, unhide HB⟩

end Go.Proofs.YtfnbjenneodcdaaGreatDoor
/- Hidden states: fromFirst, seen. -/
namespace Go.Proofs.YtfnbjenneodcdaaGreatDoor
open Go.RowKit Go.Sort Go.Shelf

theorem RsAt.at {w wr : World} {v : Value} {ps : List Sl} {ks : List (List Rat)} (h : RsAt w wr v ps ks) {j : Nat} (hj : j < ps.length) : ∃ g cap, v = .slice (some ⟨g, 0, none⟩) ps.length cap ∧ g < wr.heap.size ∧ w.heap.size ≤ g ∧ ps.length ≤ cap ∧ cap ≤ 9223372036854775807 ∧ wr.cell? ⟨g, j, none⟩ = some (.slice (ps[j]!).a (ps[j]!).n (ps[j]!).c) ∧ LawIs wr (ps[j]!).val ks[j]! := by
  rcases h.own.2 with ⟨rfl, e⟩ | ⟨g, cap, cur, rfl, hb, hh, hc1, hc2, hs, ht⟩
  · omega
  · refine ⟨g, cap, rfl, (Array.getElem?_eq_some_iff.1 hh).1, hb, hc1, by unfold maxLen at hc2; exact hc2, ?_, h.rat j hj⟩
    simp only [World.cell?, hh]
    have e : (cur.toList.take (ps.length * 1))[j]? = (sv ps)[j]? := by rw [ht]
    rw [List.getElem?_take_of_lt (by omega), sv_get ps j (by omega)] at e
    simpa [Sl.val] using e
theorem RsAt.rebase {w w1 wr : World} {v : Value} {ps : List Sl} {ks : List (List Rat)} (h : RsAt w1 wr v ps ks) (hb : Below w.heap.size w w1) : RsAt w wr v ps ks := by
  refine ⟨⟨h.own.1, ?_⟩, h.no, h.rat, h.ne, below_step hb h.bl⟩
  rcases h.own.2 with h2 | ⟨g, cap, cur, hv, hbg, hh, hr⟩
  · exact Or.inl h2
  · exact Or.inr ⟨g, cap, cur, hv, Nat.le_trans hb.size hbg, hh, hr⟩
/-- Rows of the call's own, all made by it. -/
def FirPost (w : World) (T n : Nat) (A : Nat → Nat → Rat) (e : Ending) (w' : World) : Prop := ∃ v ts, e = .returned v ∧ RsAt w w' v ts (mrows T n A) ∧ ts.length = T ∧ HiAt w.heap.size ts
theorem fol_RS {fs : List Rat} {P G : List (List Rat)} {x : Nat → Rat} {J : Nat} (gm : GoodH fs P G) (sm : SmHm fs P G) (hx : ∀ i, i < fs.length → RS (x i) J) {i : Nat} (hi : i < fs.length) : RS (Blf.fol (hm fs P G) x i) (8 * (J + 2) + 1) := by
  have := fpt_RS (x := x) (p := fun a k => (P[a]!)[k]!) (n := fs.length) hx (fun a k ha hk => sm.rp a k (by rw [gm.pl]; exact ha) (by rw [gm.px a ha]; exact hk)) hi fs.length (Nat.le_refl _)
  have h8 : fs.length * (J + 2) ≤ 8 * (J + 2) := Nat.mul_le_mul_right _ gm.n8
  exact this.mono (by omega)

set_option maxHeartbeats 16000000 in
set_option maxRecDepth 100000 in
set_option linter.unusedSimpArgs false in
theorem fromFirst_any (v : Value) (sn : Sl) (fs : List Rat) (P G : List (List Rat)) (s : Nat → Nat) (T JA JB : Nat) (w : World) (h : HmIs w v fs P G) (gm : GoodH fs P G) (sm : SmHm fs P G) (hs : NRow w (.slice sn.a T sn.c) T (fun i => ((s i : Nat) : Int))) (hT : T ≤ 1000) (hsk : ∀ i, i < T → s i < (G[0]!).length)
    (hR : ∀ t i, t < T → i < fs.length → RS (Blf.al (hm fs P G) s t i) JA) (hJ1 : 1 ≤ JA) (hJB : 8 * (JA + 2) + 1 + JA + 1 ≤ JB) (hJ : JB + JB + 1 ≤ KK) :
    Calls Tryz.prog 46 #[v, .slice sn.a T sn.c] w (FirPost w T fs.length (Blf.al (hm fs P G) s)) := by
  obtain ⟨ti, hti, hz0, hz1, hz2⟩ := info_parts Tryz.infoS
  have HI := hide hti
  have HZ := hide hz0
  have HSM := hide sm
  have HGM := hide gm
  have hn1 := gm.n1
  have hn8 := gm.n8
  obtain ⟨sf, sp, sg, rfl, hF, hP, hG⟩ := h
  have hfn := law_len hF
  have hpn := rows_len hP
  have hgn := rows_len hG
  obtain ⟨n, hn⟩ : ∃ n, fs.length = n := ⟨_, rfl⟩
  have HN := hide hn
  rw [hn] at hfn
  rw [gm.pl, hn] at hpn
  rw [gm.gl, hn] at hgn
  have X0 := HBox.new hF hP hG
  have b0 := alloc_below w (.cells #[.slice sf.a sf.n sf.c, .slice sp.a sp.n sp.c, .slice sg.a sg.n sg.c] 53)
  obtain ⟨W0, hW0⟩ : ∃ W, w.alloc (.cells #[.slice sf.a sf.n sf.c, .slice sp.a sp.n sp.c, .slice sg.a sg.n sg.c] 53) = W := ⟨_, rfl⟩
  obtain ⟨bx, hbx⟩ : ∃ b, w.heap.size = b := ⟨_, rfl⟩
  rw [hW0] at X0 b0
  rw [hbx] at X0
  have HX0 := hide X0
  have HB0 := hide b0
  have HCH : Hid (∀ W, Below W0.heap.size W0 W → (fun w' : World => w'.cell? ⟨bx, 0, none⟩ = some (.slice sf.a n sf.c) ∧ w'.cell? ⟨bx, 1, none⟩ = some (.slice sp.a n sp.c) ∧ w'.cell? ⟨bx, 2, none⟩ = some (.slice sg.a n sg.c)) W) := fun W hW => by
    have h1 := (unhide HX0).cells W hW
    rw [hfn, hpn, hgn] at h1
    exact h1
  have HIS : Hid (∀ W, Below W0.heap.size W0 W → HmIs W (.agg #[.slice sf.a n sf.c, .slice sp.a n sp.c, .slice sg.a n sg.c]) fs P G) := fun W hW => by
    have h1 := (unhide HX0).hm.below hW
    unfold hmval at h1
    rw [hfn, hpn, hgn] at h1
    exact h1
  have ⟨c0, c1, c2⟩ := unhide HCH _ (Below.refl _ _)
  have HFN := hide hfn
  have HPN := hide hpn
  have HGN := hide hgn
  unfold hmval
  rw [hfn, hpn, hgn] at hW0 ⊢
  clear hF hP hG X0 b0 hn hfn hpn hgn
  rw [unhide HN] at hn1 hn8 hR ⊢
  obtain ⟨A, hA_⟩ : ∃ A, Blf.al (hm fs P G) s = A := ⟨_, rfl⟩
  have HA0 : Hid (∀ i, A 0 i = Blf.wsg (hm fs P G) (fun k => fs[k]!) (s 0) i) := fun i => by rw [← hA_]; rfl
  have HAS : Hid (∀ t i, A (t + 1) i = Blf.wsg (hm fs P G) (Blf.fol (hm fs P G) (A t)) (s (t + 1)) i) := fun t i => by rw [← hA_]; rfl
  rw [hA_] at hR ⊢
  have HR := hide hR
  have HSK := hide hsk
  have HJ := hide hJ
  have HJ1 := hide hJ1
  have HJB := hide hJB
  have HSN := hide (hs.below (unhide HB0))
  have hsn : T ≤ sn.c ∧ sn.c ≤ 9223372036854775807 := by
    obtain ⟨a, c, e, h1, h2, _⟩ := hs
    have e1 : sn.c = c := by injection e
    rw [e1]; exact ⟨h1, h2⟩
  obtain ⟨hsn1, hsn2⟩ := hsn
  clear hs hsk hJ hJ1 hJB hR hA_ sm gm hti hz0
  go_enter Tryz.func46, Tryz.ntmps46
  go_wp2_with fail
  clear hW0 hbx c0 c1 c2
  go_loopw [5, 11] (fun vo vt wr => ∃ (t : Nat) (ts : List Sl), vt = .int .i64 (t : Int) ∧ t ≤ T ∧ ts.length = t ∧ RsAt W0 wr vo ts (mrows T n A) ∧ HiAt W0.heap.size ts) (fun _ vt _ => T - (intOf vt).toNat)
  case atStart => exact ⟨0, [], rfl, Nat.zero_le _, rfl, RsAt.start W0 _ _ (Below.refl _ _), fun j hj => absurd hj (Nat.not_lt_zero _)⟩
  case round =>
    obtain ⟨t, ts, rfl, ht, hts, TT, hHi⟩ := hrel
    have HHI := hide hHi
    clear hHi
    by_cases hlt : t < T
    · have f1 : (t : Int) < (T : Int) := by omega
      have f0 : (0 : Int) ≤ (t : Int) := by omega
      obtain ⟨sa_, sc_, es, _, _, s3⟩ := (unhide HSN).below TT.bl
      obtain ⟨bs, os, eas, hbs, hcs⟩ := s3 (by omega)
      have esa : sn.a = some ⟨bs, os, none⟩ := by injection es with e1; rw [e1, eas]
      obtain ⟨sx, hsx⟩ : ∃ x, s t = x := ⟨_, rfl⟩
      have ks : wr.cell? ⟨bs, os + t, none⟩ = some (.int .i64 ((s t : Nat) : Int)) := hcs t hlt
      rw [hsx] at ks
      have hsk : sx < (G[0]!).length := by rw [← hsx]; exact unhide HSK t hlt
      have ⟨d0, d1, d2⟩ := unhide HCH _ TT.bl
      have HOW := hide (ownsS_block TT.own)
      have epq : (mrows T n A)[ts.length]! = row (A t) n := by rw [hts]; exact mrows_get hlt
      have HE := hide epq
      have HTS := hide hts
      have HBL := hide TT.bl
      have HT0 := hide TT
      rw [esa]
      by_cases ht0 : t = 0
      · as_aux_lemma =>
        have e0 : ¬ 0 < t := by omega
        have e0' : decide (0 < t) = false := decide_eq_false e0
        have HWS : Hid (Calls Tryz.prog 84 #[.agg #[.slice sf.a n sf.c, .slice sp.a n sp.c, .slice sg.a n sg.c], .slice sf.a n sf.c, .int .i64 (sx : Int)] wr (RowPost wr (row (A t) n))) := by
          have := withSign_any (.agg #[.slice sf.a n sf.c, .slice sp.a n sp.c, .slice sg.a n sg.c]) sf fs P G fs sx JB wr (unhide HIS _ (unhide HBL)) (unhide HGM) (unhide HSM) ((unhide HX0).2.1.below (unhide HBL)) rfl hsk (fun i hi => ((unhide HSM).rf i hi).mono (by have := unhide HJB; omega)) (by have := unhide HJB; omega) (unhide HJ)
          rw [unhide HN] at this
          rw [show row (A t) n = row (Blf.wsg (hm fs P G) (fun i => fs[i]!) sx) n from row_congr (fun i _ => by rw [ht0, unhide HA0, ← hsx, ht0])]
          exact this
        have HT1 := HT0
        have HWRC : Hid (wr.heap.size ≤ wr.heap.size) := Nat.le_refl _
        have HW0C : Hid (W0.heap.size ≤ wr.heap.size) := (unhide HBL).size
        clear TT s3 es eas esa hcs hsx epq hts hbs ht0 HT0 e0
        go_wp2_with fail
        clear ks d0 d1 d2 e0'
        refine (unhide HWS).mono ?_
        rintro e w2 ⟨gt, nt, rfl, hnt, hge, hl2, hb2⟩
        rw [row_length] at hnt
        obtain rfl := hnt.symm
        have bL := alloc_below w2 (.cells #[.slice (some ⟨gt, 0, none⟩) n n] 41)
        have T2 := ((unhide HT1).keep hb2).keep bL
        have hm3 : LawIs (w2.alloc (.cells #[.slice (some ⟨gt, 0, none⟩) n n] 41)) (Sl.val (some ⟨gt, 0, none⟩, n, n)) (mrows T n A)[ts.length]! := by rw [unhide HE]; exact hl2.below bL
        have hlen24 : (ts.length + 1) * 24 ≤ 140737488355328 := by have := unhide HTS; omega
        have hlen63 : ts.length + 1 ≤ maxLen := by have := unhide HTS; unfold maxLen; omega
        have hbase : W0.heap.size ≤ (w2.alloc (.cells #[.slice (some ⟨gt, 0, none⟩) n n] 41)).heap.size := T2.bl.size
        have hsz2 : (w2.alloc (.cells #[.slice (some ⟨gt, 0, none⟩) n n] 41)).heap.size = w2.heap.size + 1 := by rw [alloc_heap, Array.size_push]
        have HT2 := hide T2
        have HM3 := hide hm3
        have HBA := hide hbase
        have HSZ := hide hsz2
        have HL24 := hide hlen24
        have HL63 := hide hlen63
        have HGE := hide hge
        clear T2 hm3 hbase hsz2 hlen24 hlen63 hb2 HT1 HWS bL hl2 hge
        go_wp2_with (at_builtin; go_loud (refine wpList_append_sl _ rfl _ _ _ rfl W0.heap.size 41 ti 24 Tryz.underlying51 (unhide HI) (unhide HZ) hz1 hz2 _ ts.length (sv ts) rfl (unhide HT2).own (unhide HT2).no ⟨w2.heap.size, 0, none⟩ 1 1 [Sl.val (some ⟨gt, 0, none⟩, n, n)] rfl rfl (news_sl w2 (some ⟨gt, 0, none⟩, n, n) _) (sv_one _) (sv_notWord _) (by decide) (unhide HL63) (unhide HL24) (unhide HBA) (w2.heap.size + 1) (unhide HSZ) ?_; intro g4 cap4 w4 hown4 hgrow hat hlt4 hno4))
        have FIN := hide ((unhide HT2).push (p := (some ⟨gt, 0, none⟩, n, n)) (unhide HM3) (fun _ ad e he => by
          have h1 := (unhide HOW _ he).2
          have h2 := unhide HGE
          have e : some (⟨gt, 0, none⟩ : Addr) = some ad := e
          injection e with e
          rw [← e] at h1
          have := unhide HWRC
          simp only at h1
          omega) hown4 hgrow (by rw [unhide HSZ]; exact hat) hno4)
        clear hown4 hgrow hat hno4 HT2 HM3
        go_wp2_with fail
        exact ⟨⟨t + 1, ts ++ [(some ⟨gt, 0, none⟩, n, n)], by go_num, hlt, by rw [List.length_append, unhide HTS]; rfl, unhide FIN, (unhide HHI).push (fun ad e => by
          have h2 := unhide HGE
          have e : some (⟨gt, 0, none⟩ : Addr) = some ad := e
          injection e with e
          rw [← e]
          have := unhide HWRC
          have := unhide HW0C
          show W0.heap.size ≤ gt
          omega)⟩, by simp [intOf]; omega⟩
      · as_aux_lemma =>
        obtain ⟨u, hu⟩ : ∃ u, t = u + 1 := ⟨t - 1, by omega⟩
        have e0 : 0 < t := by omega
        have e0' : decide (0 < t) = true := decide_eq_true e0
        have e1 : IntKind.i64.wrap ((t : Int) - 1) = (u : Int) := by rw [IntKind.wrap_i64]; omega
        have u1 : (u : Int) < (ts.length : Int) := by omega
        have u0' : (0 : Int) ≤ (u : Int) := by omega
        have hut : u < ts.length := by omega
        obtain ⟨g, cap, hvo, hgl, hgw, hcp1, hcp2, hgc, hlu⟩ := TT.at hut
        rw [mrows_get (by omega)] at hlu
        obtain ⟨lp, hlp⟩ : ∃ l, ts[u]! = l := ⟨_, rfl⟩
        rw [hlp] at hgc hlu
        have hln := law_len hlu
        rw [row_length] at hln
        rw [hln] at hgc
        have HC7 : Hid (∀ W, Below wr.heap.size wr W → (fun w' : World => (w'.cell? ⟨bx, 0, none⟩ = some (.slice sf.a n sf.c) ∧ w'.cell? ⟨bx, 1, none⟩ = some (.slice sp.a n sp.c) ∧ w'.cell? ⟨bx, 2, none⟩ = some (.slice sg.a n sg.c)) ∧ w'.cell? ⟨g, u, none⟩ = some (.slice lp.a n lp.c)) W) := fun W hW => ⟨unhide HCH _ (below_step (unhide HBL) hW), by rw [hW.cell (p := ⟨g, u, none⟩) hgl]; exact hgc⟩
        have HFO : Hid (∀ W, Below wr.heap.size wr W → Calls Tryz.prog 83 #[.agg #[.slice sf.a n sf.c, .slice sp.a n sp.c, .slice sg.a n sg.c], .slice lp.a n lp.c] W (RowPost W (row (Blf.fol (hm fs P G) (A u)) n))) := fun W hW => by
          have := following_any (.agg #[.slice sf.a n sf.c, .slice sp.a n sp.c, .slice sg.a n sg.c]) lp fs P G (row (A u) n) JA JB W (unhide HIS _ (below_step (unhide HBL) hW)) (unhide HGM) (unhide HSM) (hlu.below hW) (by rw [row_length]; exact (unhide HN).symm) (fun i hi => by
            rw [unhide HN] at hi
            rw [row_get hi]; exact unhide HR u i (by omega) hi) (unhide HJ1) (unhide HJB) (unhide HJ)
          rw [unhide HN] at this
          rw [show row (Blf.fol (hm fs P G) (A u)) n = row (Blf.fol (hm fs P G) (fun i => (row (A u) n)[i]!)) n from row_congr (fun i _ => by
            unfold Blf.fol
            refine Bth.ps_congr _ (fun j hj => ?_)
            have hj : j < n := by rw [← unhide HN]; exact hj
            show A u j * _ = (row (A u) n)[j]! * _
            rw [row_get hj])]
          exact this
        have HFS : Hid (∀ i, i < n → RS (Blf.fol (hm fs P G) (A u) i) JB) := fun i hi => (fol_RS (unhide HGM) (unhide HSM) (fun i hi => unhide HR u i (by omega) (by rw [← unhide HN]; exact hi)) (by rw [unhide HN]; exact hi)).mono (by have := unhide HJB; omega)
        have HAE : Hid (row (A t) n = row (Blf.wsg (hm fs P G) (Blf.fol (hm fs P G) (A u)) sx) n) := row_congr (fun i _ => by rw [hu, unhide HAS, ← hu, hsx])
        have HHSK := hide hsk
        rw [hvo] at HT0 HOW ⊢
        clear hvo TT s3 es eas esa hcs hsx epq hbs ht0 hlu hln hgl hgw hgc hlp hut hu
        clear hts
        go_wp2_with fail
        clear ks d0 d1 d2 e0 e0'
        refine wp_region_hold (fun w' : World => (w'.cell? ⟨bx, 0, none⟩ = some (.slice sf.a n sf.c) ∧ w'.cell? ⟨bx, 1, none⟩ = some (.slice sp.a n sp.c) ∧ w'.cell? ⟨bx, 2, none⟩ = some (.slice sg.a n sg.c)) ∧ w'.cell? ⟨g, u, none⟩ = some (.slice lp.a n lp.c)) (by kernel_rfl) ?_
        have bd0 : Below wr.heap.size wr wr.drew := (Below.refl _ _).drew
        have hC0 : (fun w' : World => (w'.cell? ⟨bx, 0, none⟩ = some (.slice sf.a n sf.c) ∧ w'.cell? ⟨bx, 1, none⟩ = some (.slice sp.a n sp.c) ∧ w'.cell? ⟨bx, 2, none⟩ = some (.slice sg.a n sg.c)) ∧ w'.cell? ⟨g, u, none⟩ = some (.slice lp.a n lp.c)) wr.drew := unhide HC7 _ bd0
        refine wpHold_take (i := 0) (v := ?_) rfl (by kernel_rfl) (by kernel_rfl) (by kernel_rfl) (fun _ _ _ h => h) (Or.inl ⟨by rfl, ?_⟩) hC0 ?_
        rotate_left
        · intro w hSw; (try dsimp only at hSw); obtain ⟨⟨u0, u1, u2⟩, u3⟩ := hSw; go_simp; (try with_reducible rfl)
        (try simp only [List.getElem_toArray, List.getElem_cons_succ, List.getElem_cons_zero])
        (try simp only [Act.put, List.setIfInBounds_toArray, List.set_cons_zero, List.set_cons_succ])
        refine wpHold_take (i := 1) (v := ?_) rfl (by kernel_rfl) (by kernel_rfl) (by kernel_rfl) (fun _ _ _ h => h) (Or.inl ⟨by rfl, ?_⟩) hC0 ?_
        rotate_left
        · intro w hSw; clear hSw; go_simp; (try with_reducible rfl)
        (try simp only [List.getElem_toArray, List.getElem_cons_succ, List.getElem_cons_zero])
        (try simp only [Act.put, List.setIfInBounds_toArray, List.set_cons_zero, List.set_cons_succ])
        refine wpHold_take (i := 2) (v := ?_) rfl (by kernel_rfl) (by kernel_rfl) (by kernel_rfl) (fun _ _ _ h => h) (Or.inl ⟨by rfl, ?_⟩) hC0 ?_
        rotate_left
        · intro w hSw; clear hSw; go_simp; (try with_reducible rfl)
        (try simp only [List.getElem_toArray, List.getElem_cons_succ, List.getElem_cons_zero])
        (try simp only [Act.put, List.setIfInBounds_toArray, List.set_cons_zero, List.set_cons_succ])
        refine wpHold_take (i := 3) (v := ?_) rfl (by kernel_rfl) (by kernel_rfl) (by kernel_rfl) (fun _ _ _ h => h) (Or.inl ⟨by rfl, ?_⟩) hC0 ?_
        rotate_left
        · intro w hSw; clear hSw; go_simp; (try with_reducible rfl)
        (try simp only [List.getElem_toArray, List.getElem_cons_succ, List.getElem_cons_zero])
        (try simp only [Act.put, List.setIfInBounds_toArray, List.set_cons_zero, List.set_cons_succ])
        refine wpHold_take (i := 4) (v := ?_) rfl (by kernel_rfl) (by kernel_rfl) (by kernel_rfl) (fun _ _ _ h => h) (Or.inl ⟨by rfl, ?_⟩) hC0 ?_
        rotate_left
        · intro w hSw; clear hSw; go_simp; (try with_reducible rfl)
        (try simp only [List.getElem_toArray, List.getElem_cons_succ, List.getElem_cons_zero])
        (try simp only [Act.put, List.setIfInBounds_toArray, List.set_cons_zero, List.set_cons_succ])
        refine wpHold_take (i := 5) (v := ?_) rfl (by kernel_rfl) (by kernel_rfl) (by kernel_rfl) (fun _ _ _ h => h) (Or.inl ⟨by rfl, ?_⟩) hC0 ?_
        rotate_left
        · intro w hSw; (try dsimp only at hSw); obtain ⟨⟨u0, u1, u2⟩, u3⟩ := hSw; go_simp; (try with_reducible rfl)
        (try simp only [List.getElem_toArray, List.getElem_cons_succ, List.getElem_cons_zero])
        (try simp only [Act.put, List.setIfInBounds_toArray, List.set_cons_zero, List.set_cons_succ])
        refine wpHold_one (k := 6) (by kernel_rfl) rfl (fun K hK => ?_)
        (try simp only [List.getElem_toArray, List.getElem_cons_succ, List.getElem_cons_zero])
        go_simp
        refine (unhide HFO _ bd0).mono ?_
        rintro e xw_1 ⟨gc, nc, rfl, hnc, hgec, hlc, hb_1⟩
        rw [row_length] at hnc
        obtain rfl := hnc.symm
        have cc_1 := below_step bd0 hb_1
        have hC_1 : (fun w' : World => (w'.cell? ⟨bx, 0, none⟩ = some (.slice sf.a n sf.c) ∧ w'.cell? ⟨bx, 1, none⟩ = some (.slice sp.a n sp.c) ∧ w'.cell? ⟨bx, 2, none⟩ = some (.slice sg.a n sg.c)) ∧ w'.cell? ⟨g, u, none⟩ = some (.slice lp.a n lp.c)) xw_1 := unhide HC7 _ cc_1
        refine hK.out _ _ hC_1 ?_
        clear hK K
        (try simp only [Act.put, List.setIfInBounds_toArray, List.set_cons_zero, List.set_cons_succ])
        refine wpHold_one (k := 7) (by kernel_rfl) rfl (fun K hK => ?_)
        (try simp only [List.getElem_toArray, List.getElem_cons_succ, List.getElem_cons_zero])
        go_simp
        refine hK.out _ _ hC_1 ?_
        clear hK K
        (try simp only [Act.put, List.setIfInBounds_toArray, List.set_cons_zero, List.set_cons_succ])
        refine wpHold_done (by kernel_rfl) ?_ _
        have HT1 : Hid (RsAt W0 xw_1 (.slice (some ⟨g, 0, none⟩) ts.length cap) ts (mrows T n A)) := (unhide HT0).keep cc_1
        have HBX := hide (below_step (unhide HBL) cc_1)
        have HWS : Hid (Calls Tryz.prog 84 #[.agg #[.slice sf.a n sf.c, .slice sp.a n sp.c, .slice sg.a n sg.c], .slice (some ⟨gc, 0, none⟩) n n, .int .i64 (sx : Int)] xw_1 (RowPost xw_1 (row (A t) n))) := by
          have := withSign_any (.agg #[.slice sf.a n sf.c, .slice sp.a n sp.c, .slice sg.a n sg.c]) (some ⟨gc, 0, none⟩, n, n) fs P G (row (Blf.fol (hm fs P G) (A u)) n) sx JB xw_1 (unhide HIS _ (unhide HBX)) (unhide HGM) (unhide HSM) hlc (by rw [row_length]; exact (unhide HN).symm) (unhide HHSK) (fun i hi => by
            rw [unhide HN] at hi
            rw [row_get hi]; exact unhide HFS i hi) (by have := unhide HJB; omega) (unhide HJ)
          rw [unhide HN] at this
          rw [unhide HAE, show row (Blf.wsg (hm fs P G) (Blf.fol (hm fs P G) (A u)) sx) n = row (Blf.wsg (hm fs P G) (fun i => (row (Blf.fol (hm fs P G) (A u)) n)[i]!) sx) n from row_congr (fun i hi => by
            show _ = (row (Blf.fol (hm fs P G) (A u)) n)[i]! * _
            rw [row_get hi]; rfl)]
          exact this
        have HWRC : Hid (wr.heap.size ≤ xw_1.heap.size) := cc_1.size
        have HW0C : Hid (W0.heap.size ≤ wr.heap.size) := (unhide HBL).size
        have ⟨d0, d1, d2⟩ := unhide HCH _ (unhide HBX)
        clear hC0 hC_1 cc_1 hb_1 bd0 HC7 HFO hlc hgec HFS HAE HHSK HT0 HBX e1 u1 u0'
        go_wp2_with fail
        clear d0 d1 d2
        refine (unhide HWS).mono ?_
        rintro e w2 ⟨gt, nt, rfl, hnt, hge, hl2, hb2⟩
        rw [row_length] at hnt
        obtain rfl := hnt.symm
        have bL := alloc_below w2 (.cells #[.slice (some ⟨gt, 0, none⟩) n n] 41)
        have T2 := ((unhide HT1).keep hb2).keep bL
        have hm3 : LawIs (w2.alloc (.cells #[.slice (some ⟨gt, 0, none⟩) n n] 41)) (Sl.val (some ⟨gt, 0, none⟩, n, n)) (mrows T n A)[ts.length]! := by rw [unhide HE]; exact hl2.below bL
        have hlen24 : (ts.length + 1) * 24 ≤ 140737488355328 := by have := unhide HTS; omega
        have hlen63 : ts.length + 1 ≤ maxLen := by have := unhide HTS; unfold maxLen; omega
        have hbase : W0.heap.size ≤ (w2.alloc (.cells #[.slice (some ⟨gt, 0, none⟩) n n] 41)).heap.size := T2.bl.size
        have hsz2 : (w2.alloc (.cells #[.slice (some ⟨gt, 0, none⟩) n n] 41)).heap.size = w2.heap.size + 1 := by rw [alloc_heap, Array.size_push]
        have HT2 := hide T2
        have HM3 := hide hm3
        have HBA := hide hbase
        have HSZ := hide hsz2
        have HL24 := hide hlen24
        have HL63 := hide hlen63
        have HGE := hide hge
        clear T2 hm3 hbase hsz2 hlen24 hlen63 hb2 HT1 HWS bL hl2 hge
        go_wp2_with (at_builtin; go_loud (refine wpList_append_sl _ rfl _ _ _ rfl W0.heap.size 41 ti 24 Tryz.underlying51 (unhide HI) (unhide HZ) hz1 hz2 _ ts.length (sv ts) rfl (unhide HT2).own (unhide HT2).no ⟨w2.heap.size, 0, none⟩ 1 1 [Sl.val (some ⟨gt, 0, none⟩, n, n)] rfl rfl (news_sl w2 (some ⟨gt, 0, none⟩, n, n) _) (sv_one _) (sv_notWord _) (by decide) (unhide HL63) (unhide HL24) (unhide HBA) (w2.heap.size + 1) (unhide HSZ) ?_; intro g4 cap4 w4 hown4 hgrow hat hlt4 hno4))
        have FIN := hide ((unhide HT2).push (p := (some ⟨gt, 0, none⟩, n, n)) (unhide HM3) (fun _ ad e he => by
          have h1 := (unhide HOW _ he).2
          have h2 := unhide HGE
          have e : some (⟨gt, 0, none⟩ : Addr) = some ad := e
          injection e with e
          rw [← e] at h1
          have := unhide HWRC
          simp only at h1
          omega) hown4 hgrow (by rw [unhide HSZ]; exact hat) hno4)
        clear hown4 hgrow hat hno4 HT2 HM3
        go_wp2_with fail
        exact ⟨⟨t + 1, ts ++ [(some ⟨gt, 0, none⟩, n, n)], by go_num, hlt, by rw [List.length_append, unhide HTS]; rfl, unhide FIN, (unhide HHI).push (fun ad e => by
          have h2 := unhide HGE
          have e : some (⟨gt, 0, none⟩ : Addr) = some ad := e
          injection e with e
          rw [← e]
          have := unhide HWRC
          have := unhide HW0C
          show W0.heap.size ≤ gt
          omega)⟩, by simp [intOf]; omega⟩
    · obtain rfl : t = T := by omega
      have f1 : ¬ (t : Int) < (t : Int) := by omega
      have HRB := hide (TT.rebase (unhide HB0))
      have HTS := hide hts
      have HH2 : Hid (HiAt w.heap.size ts) := fun j hj ad e => Nat.le_trans (unhide HB0).size (unhide HHI j hj ad e)
      clear TT hts
      go_wp2
      (try simp only [Exit.inBlock, Exit.then])
      exact bodyPost_ret (v := u5) (by simp [results, Tryz.results46, go_sem]) rfl ⟨_, ts, rfl, unhide HRB, unhide HTS, unhide HH2⟩

end Go.Proofs.YtfnbjenneodcdaaGreatDoor
/- Hidden states: seen. -/
namespace Go.Proofs.YtfnbjenneodcdaaGreatDoor
open Go.RowKit Go.Sort Go.Shelf

def seenA (n : Nat) (A : Nat → Nat → Rat) : Nat → Rat
  | 0 => 1
  | t + 1 => Bth.ps (A t) n
set_option maxHeartbeats 16000000 in
set_option maxRecDepth 100000 in
set_option linter.unusedSimpArgs false in
theorem seen_any (v : Value) (T n J : Nat) (A : Nat → Nat → Rat) (w : World) (h : RowsAre w v (mrows T n A)) (hT : T ≤ 1000) (_hn : n ≤ 1000) (hRz : ∀ t i, t < T → i < n → RS (A t i) J) (hJ : (n * (J + 1) + 1 + J) + (n * (J + 1) + 1 + J) + 1 ≤ KK) :
    Calls Tryz.prog 47 #[v] w fun e w' => ∃ v, e = .returned v ∧ RatIs w' v (seenA n A T) ∧ Below w.heap.size w w' := by
  have hA : ∃ l : Sl, v = l.val ∧ RowsAre w l.val (mrows T n A) := by
    obtain ⟨a, c, e, h1⟩ := h
    exact ⟨(a, (mrows T n A).length, c), e, a, c, rfl, h1⟩
  obtain ⟨l, rfl, hl⟩ := hA
  have hln := rows_len hl
  rw [mrows_length] at hln
  have HL := hide hl
  have hcap : T ≤ l.c ∧ l.c ≤ 9223372036854775807 := by
    obtain ⟨a, c, e, h1, h2, _⟩ := hl
    have e1 : l.c = c := by injection e
    rw [mrows_length] at h1
    rw [e1]; exact ⟨h1, h2⟩
  obtain ⟨hcap1, hcap2⟩ := hcap
  have hR' := hide hRz
  have hJ' := hide hJ
  simp only [Sl.val]
  rw [hln]
  have b0 := alloc_below w (.cells #[.bool false, .slice none 0 0, .slice none 0 0] 26)
  have X0 := BoxIs.new (w := w) (t := zTri) (q := 0) (rat_zero _)
  obtain ⟨W0, hW0⟩ : ∃ W, w.alloc (.cells #[.bool false, .slice none 0 0, .slice none 0 0] 26) = W := ⟨_, rfl⟩
  obtain ⟨R, hR⟩ : ∃ R, w.heap.size = R := ⟨_, rfl⟩
  have X0' : BoxIs W0 R zTri 0 := by rw [← hW0, ← hR]; exact X0
  rw [hW0] at b0
  have HX : Hid (∀ W, Below W0.heap.size W0 W → BoxIs W R zTri 0) := fun W hW => X0'.keep hW
  have HBW : Hid (∀ W, Below W0.heap.size W0 W → Below w.heap.size w W) := fun W hW => below_step b0 hW
  have HG : Hid (w.heap.size ≤ R) := by show _ ≤ R; rw [hR]; exact Nat.le_refl _
  have HB0 := hide b0
  clear X0 X0' b0
  clear h hl hln hRz hJ
  go_enter Tryz.func47, Tryz.ntmps47
  by_cases hT0 : T = 0
  · subst hT0
    have e0 : (((0 : Nat) : Int) == 0) = true := rfl
    go_wp2_with fail
    clear hW0 hR
    refine (whole_any 1 (by decide) (by decide) W0).mono ?_
    rintro e w1 ⟨v1, rfl, hv1, hb1⟩
    obtain ⟨t1, rfl, r1⟩ := tri_of hv1
    simp only [Tri.val]
    have Y := unhide HX _ hb1
    have ⟨l0, l1, l2⟩ := Y.free
    have ⟨y0, y1, y2⟩ := Y.cells _ (Below.refl _ _)
    have FIN := Y.set r1
    have FB := (((unhide HBW _ hb1).setCell (p := ⟨R, 0, none⟩) (unhide HG) (.bool t1.s)).setCell (p := ⟨R, 1, none⟩) (unhide HG) (.slice t1.a1 t1.n1 t1.c1)).setCell (p := ⟨R, 2, none⟩) (unhide HG) (.slice t1.a2 t1.n2 t1.c2)
    obtain ⟨Wf, hWf⟩ : ∃ W, ((w1.setCell ⟨R, 0, none⟩ (.bool t1.s)).setCell ⟨R, 1, none⟩ (.slice t1.a1 t1.n1 t1.c1)).setCell ⟨R, 2, none⟩ (.slice t1.a2 t1.n2 t1.c2) = W := ⟨_, rfl⟩
    rw [hWf] at FIN FB
    have HFIN := hide FIN
    have HFB := hide FB
    have ⟨x0, x1, x2⟩ := FIN.cells _ (Below.refl _ _)
    clear Y FIN FB
    go_wp2
    (try simp only [Exit.inBlock, Exit.then])
    exact bodyPost_ret (v := .agg #[.bool t1.s, .slice t1.a1 t1.n1 t1.c1, .slice t1.a2 t1.n2 t1.c2]) (by simp [results, Tryz.results47, go_sem, x0, x1, x2]) rfl ⟨_, rfl, (unhide HFIN).2, unhide HFB⟩
  · obtain ⟨u, hu⟩ : ∃ u, T = u + 1 := ⟨T - 1, by omega⟩
    have e0 : ((T : Int) == 0) = false := by rw [beq_eq_false_iff_ne]; omega
    have e1 : IntKind.i64.wrap ((T : Int) - 1) = (u : Int) := by rw [IntKind.wrap_i64]; omega
    have u1 : (u : Int) < (T : Int) := by omega
    have u0 : (0 : Int) ≤ (u : Int) := by omega
    have hml : u < (mrows T n A).length := by rw [mrows_length]; omega
    obtain ⟨bq, oq, mq, hqa, hbq, k0, hA⟩ := ((unhide HL).below (unhide HB0)).at hml
    rw [mrows_get (by omega)] at hA
    have HSU := hide (sumR_any mq.val (row (A u) n) J W0 hA (fun j hj => by
      rw [row_length] at hj
      rw [row_get hj]; exact unhide hR' u j (by omega) hj) (by rw [row_length]; exact unhide hJ'))
    simp only [Sl.val] at HSU
    have HV : Hid (qsum (row (A u) n) (row (A u) n).length = seenA n A T) := by
      show _ = seenA n A T
      rw [hu, row_length, qsum_row _ _ n (Nat.le_refl _)]; rfl
    rw [unhide HV] at HSU
    rw [hqa]
    clear hu hml hqa hbq hA hT0
    go_wp2_with fail
    clear hW0 hR k0
    refine (unhide HSU).mono ?_
    rintro e w1 ⟨v1, rfl, hv1, hb1⟩
    obtain ⟨t1, rfl, r1⟩ := tri_of hv1
    simp only [Tri.val]
    have Y := unhide HX _ hb1
    have ⟨l0, l1, l2⟩ := Y.free
    have ⟨y0, y1, y2⟩ := Y.cells _ (Below.refl _ _)
    have FIN := Y.set r1
    have FB := (((unhide HBW _ hb1).setCell (p := ⟨R, 0, none⟩) (unhide HG) (.bool t1.s)).setCell (p := ⟨R, 1, none⟩) (unhide HG) (.slice t1.a1 t1.n1 t1.c1)).setCell (p := ⟨R, 2, none⟩) (unhide HG) (.slice t1.a2 t1.n2 t1.c2)
    obtain ⟨Wf, hWf⟩ : ∃ W, ((w1.setCell ⟨R, 0, none⟩ (.bool t1.s)).setCell ⟨R, 1, none⟩ (.slice t1.a1 t1.n1 t1.c1)).setCell ⟨R, 2, none⟩ (.slice t1.a2 t1.n2 t1.c2) = W := ⟨_, rfl⟩
    rw [hWf] at FIN FB
    have HFIN := hide FIN
    have HFB := hide FB
    have ⟨x0, x1, x2⟩ := FIN.cells _ (Below.refl _ _)
    clear Y FIN FB
    go_wp2
    (try simp only [Exit.inBlock, Exit.then])
    exact bodyPost_ret (v := .agg #[.bool t1.s, .slice t1.a1 t1.n1 t1.c1, .slice t1.a2 t1.n2 t1.c2]) (by simp [results, Tryz.results47, go_sem, x0, x1, x2]) rfl ⟨_, rfl, (unhide HFIN).2, unhide HFB⟩

end Go.Proofs.YtfnbjenneodcdaaGreatDoor
