/- How many papers are enough, and what they lose, by the program. -/
import Derived.Test.YtohkmkoklhnnlaaGreatDoorO2
import Derived.Test.YtohkmkoklhnnlaaGreatDoorO0
import Derived.Test.YtohkmkoklhnnlaaGreatDoorQ0
namespace Go.Proofs.YtohkmkoklhnnlaaGreatDoor
open Go.RowKit Go.Sort Go.Shelf

/-- 2 calls one behind the other, the last one with an error beside it, and a box. -/
structure EnJ (q1 q2 : Rat) (w0 : World) (c : Nat) (l : Bool) (w : World) (s1 s2 s3 : Value) : Prop where
  bl : Below w0.heap.size w0 w
  r1 : 1 ≤ c → RatIs w s1 q1
  r2 : 2 ≤ c → ∃ v, s2 = .tuple #[v, .nilIface] ∧ RatIs w v q2
  al : l = true → ∃ b, s3 = .pointer (some ⟨b, 0, none⟩) ∧ BoxIs w b zTri 0 ∧ w0.heap.size ≤ b

/-- The number of papers. -/
def NewsIs (qs : List Rat) (a b : Rat) (n : Nat) : Prop := (a = 0 ∧ n = 0) ∨ (0 < a ∧ n < qs.length ∧ qsum qs n < a / (a + b) ∧ a / (a + b) ≤ qsum qs (n + 1))
theorem share_bd {a b : Rat} (ha : 0 < a) (hb : 0 ≤ b) : 0 < a / (a + b) ∧ a / (a + b) ≤ 1 := by
  have hs : 0 < a + b := by grind
  have hi := Rat.inv_pos.2 hs
  have e : (a + b) * (a + b)⁻¹ = 1 := Rat.mul_inv_cancel _ (fun h => by rw [h] at hs; exact absurd hs (by decide))
  rw [Rat.div_def]
  refine ⟨Rat.mul_pos ha hi, ?_⟩
  have := Rat.mul_le_mul_of_nonneg_right (show a ≤ a + b by grind) (Rat.le_of_lt hi)
  rw [e] at this
  exact this
theorem numPos {q : Rat} (h : 0 < q) : 0 < q.num := by
  have h1 := Rat.num_nonneg.2 (Rat.le_of_lt h)
  have h2 : q.num ≠ 0 := fun e => by rw [Rat.num_eq_zero.1 e] at h; exact absurd h (by decide)
  omega
theorem share_num {q : Rat} (h : 0 < q ∧ q ≤ 1) : ¬ (q.num ≤ 0 ∨ (q.den : Int) < q.num) := by
  rintro (h1 | h1)
  · have : ¬ 0 < q := fun h' => by have := numPos h'; omega
    exact this h.1
  · have h2 := h.2
    rw [Rat.le_iff] at h2
    have e1 : (1 : Rat).num = 1 := rfl
    have e2 : (1 : Rat).den = 1 := rfl
    rw [e1, e2] at h2
    simp at h2
    omega
set_option maxHeartbeats 16000000 in
set_option maxRecDepth 100000 in
set_option linter.unusedSimpArgs false in
theorem enough_any (v vl vf : Value) (qs : List Rat) (a b : Rat) (w : World) (h : LawIs w v qs) (hl : RatIs w vl a) (hf : RatIs w vf b) (hq : ∀ j, j < qs.length → RS qs[j]! 1) (ha : RS a 1) (hb : RS b 1) (hc : chk qs = 0) (pa : 0 ≤ a) (pb : 0 ≤ b) :
    Calls Tryz.prog 40 #[v, vl, vf] w fun e w' => ∃ n : Nat, e = .returned (.tuple #[.int .i64 (n : Int), .nilIface]) ∧ NewsIs qs a b n ∧ Below w.heap.size w w' := by
  obtain ⟨hc1, hc2, _, _⟩ := chk_zero hc
  have KKe : KK = 1099511627776 := rfl
  obtain ⟨tl, rfl, hl'⟩ := tri_of hl
  obtain ⟨tf, rfl, hf'⟩ := tri_of hf
  have b1 := alloc_below w (.cells #[.bool tl.s, .slice tl.a1 tl.n1 tl.c1, .slice tl.a2 tl.n2 tl.c2] 40)
  have X0 := BoxIs.new hl'
  obtain ⟨W1, hW1⟩ : ∃ W, w.alloc (.cells #[.bool tl.s, .slice tl.a1 tl.n1 tl.c1, .slice tl.a2 tl.n2 tl.c2] 40) = W := ⟨_, rfl⟩
  obtain ⟨g1, s1⟩ : ∃ g, W1.heap.size = g := ⟨_, rfl⟩
  have z1 : w.heap.size + 1 = g1 := by rw [← s1, ← hW1, alloc_size]
  rw [hW1] at b1 X0
  have b2 := alloc_below W1 (.cells #[.bool tf.s, .slice tf.a1 tf.n1 tf.c1, .slice tf.a2 tf.n2 tf.c2] 40)
  have X1 := BoxIs.new (hf'.below b1)
  obtain ⟨W2, hW2⟩ : ∃ W, W1.alloc (.cells #[.bool tf.s, .slice tf.a1 tf.n1 tf.c1, .slice tf.a2 tf.n2 tf.c2] 40) = W := ⟨_, rfl⟩
  rw [hW2] at b2 X1
  rw [s1] at X1
  have bb : Below w.heap.size w W2 := below_step b1 b2
  have Y0 := X0.keep b2
  have HF : Hid (∀ W, Below W2.heap.size W2 W → BoxIs W w.heap.size tl a ∧ BoxIs W g1 tf b) := fun W hW => ⟨Y0.keep hW, X1.keep hW⟩
  have HLW : Hid (∀ W, Below W2.heap.size W2 W → LawIs W v qs ∧ Below w.heap.size w W) := fun W hW => ⟨h.below (below_step bb hW), below_step bb hW⟩
  have HSG : Hid (∀ W, Below W2.heap.size W2 W → Calls Tryz.prog 13 #[.agg #[.bool tl.s, .slice tl.a1 tl.n1 tl.c1, .slice tl.a2 tl.n2 tl.c2]] W fun e w' => e = .returned (.int .i64 a.num.sign) ∧ Below W.heap.size W w') := fun W hW => sign_any _ a W (unhide HF _ hW).1.2
  obtain ⟨c0, c1, c2⟩ := Y0.cells _ (Below.refl _ _)
  have C0 := hide (unhide HSG _ (Below.refl _ _))
  simp only [Tri.val]
  by_cases hz : a = 0
  · have e1 : a.num.sign = 0 := by rw [hz]; rfl
    rw [e1] at C0
    have HZ := hide hz
    have HBB := hide bb
    clear h hl hf hl' hf' hq ha hb hc pa pb b1 b2 bb X0 X1 Y0 z1 hz hc1 hc2 KKe e1
    go_enter Tryz.func40, Tryz.ntmps40
    go_wp2_with fail
    clear hW1 hW2 s1
    refine (unhide C0).mono ?_
    rintro e w5 ⟨rfl, hb5⟩
    have HB5 := hide (below_step (unhide HBB) hb5)
    clear hb5 C0 c0 c1 c2
    go_wp2
    go_ret2
    exact ⟨0, rfl, Or.inl ⟨unhide HZ, rfl⟩, unhide HB5⟩
  have pos : 0 < a := by grind
  have e1 : a.num.sign = 1 := Int.sign_eq_one_of_pos (numPos pos)
  rw [e1] at C0
  have hsb := share_bd pos pb
  have hsn := share_num hsb
  have HNZ : Hid ((a + b).num ≠ 0) := fun h0 => by
    have h1 := Rat.num_eq_zero.1 h0
    have : 0 < a + b := by grind
    rw [h1] at this
    exact absurd this (by decide)
  have rab := ha.add hb
  have HRA := hide ha
  have HRB := hide hb
  have HK1 : Hid (1 + 1 + 1 ≤ KK) := by show _ ≤ _; omega
  have HRA3 := hide (ha.mono (show 1 ≤ 3 by omega))
  have HRS3 := hide (rab.mono (show 1 + 1 + 1 ≤ 3 by omega))
  have HK3 : Hid (3 + 3 + 1 ≤ KK) := by show _ ≤ _; omega
  have rq := RS.div' ha rab (unhide HNZ)
  have HRS := hide (rq.mono (show 1 + (1 + 1 + 1) ≤ 4 by omega))
  have HQ3 : Hid (∀ j, j < qs.length → RS qs[j]! 4) := fun j hj => (hq j hj).mono (by omega)
  have HL3 : Hid ((qs.length * (4 + 1) + 1 + 4) + (qs.length * (4 + 1) + 1 + 4) + 1 ≤ KK) := by show _ ≤ _; omega
  have HJ3 : Hid (4 ≤ KK) := by show _ ≤ _; omega
  have HSAY : Hid (∀ n k, LeastSays qs (a / (a + b)) n k → ∃ m : Nat, n = (m : Int) ∧ k = 0 ∧ NewsIs qs a b m) := fun n k hs => by
    obtain ⟨h1, h2, h3⟩ := hs
    rw [if_neg (by rw [hc]; decide), if_neg hsn] at h1
    obtain ⟨m, m1, m2, m3, m4⟩ := h3 h1
    exact ⟨m, m1, h1, Or.inr ⟨pos, m2, m3, m4⟩⟩
  have HCC : Hid (∀ W, Below W2.heap.size W2 W → (fun w' : World => (w'.cell? ⟨w.heap.size, 0, none⟩ = some (.bool tl.s) ∧ w'.cell? ⟨w.heap.size, 1, none⟩ = some (.slice tl.a1 tl.n1 tl.c1) ∧ w'.cell? ⟨w.heap.size, 2, none⟩ = some (.slice tl.a2 tl.n2 tl.c2)) ∧ (w'.cell? ⟨g1, 0, none⟩ = some (.bool tf.s) ∧ w'.cell? ⟨g1, 1, none⟩ = some (.slice tf.a1 tf.n1 tf.c1) ∧ w'.cell? ⟨g1, 2, none⟩ = some (.slice tf.a2 tf.n2 tf.c2))) W) := fun W hW => by
    have h3 := unhide HF W hW
    exact ⟨h3.1.cells _ (Below.refl _ _), h3.2.cells _ (Below.refl _ _)⟩
  clear h hl hf hl' hf' hq ha hb hc pa pb b1 b2 bb X0 X1 Y0 z1 hz hc1 hc2 KKe e1 pos hsb hsn rab rq
  go_enter Tryz.func40, Tryz.ntmps40
  go_wp2_with fail
  clear hW1 hW2 s1
  refine (unhide C0).mono ?_
  rintro e w5 ⟨rfl, hb5⟩
  have HF5 : Hid (∀ W, Below w5.heap.size w5 W → BoxIs W w.heap.size tl a ∧ BoxIs W g1 tf b) := fun W hW => unhide HF W (below_step hb5 hW)
  have HLW5 : Hid (∀ W, Below w5.heap.size w5 W → LawIs W v qs ∧ Below w.heap.size w W) := fun W hW => unhide HLW W (below_step hb5 hW)
  have HCC5 : Hid (∀ W, Below w5.heap.size w5 W → (fun w' : World => (w'.cell? ⟨w.heap.size, 0, none⟩ = some (.bool tl.s) ∧ w'.cell? ⟨w.heap.size, 1, none⟩ = some (.slice tl.a1 tl.n1 tl.c1) ∧ w'.cell? ⟨w.heap.size, 2, none⟩ = some (.slice tl.a2 tl.n2 tl.c2)) ∧ (w'.cell? ⟨g1, 0, none⟩ = some (.bool tf.s) ∧ w'.cell? ⟨g1, 1, none⟩ = some (.slice tf.a1 tf.n1 tf.c1) ∧ w'.cell? ⟨g1, 2, none⟩ = some (.slice tf.a2 tf.n2 tf.c2))) W) := fun W hW => unhide HCC W (below_step hb5 hW)
  clear hb5 C0 c0 c1 c2 HF HLW HCC HSG
  go_wp2_with fail
  refine wp_region_hold (fun w' : World => (w'.cell? ⟨w.heap.size, 0, none⟩ = some (.bool tl.s) ∧ w'.cell? ⟨w.heap.size, 1, none⟩ = some (.slice tl.a1 tl.n1 tl.c1) ∧ w'.cell? ⟨w.heap.size, 2, none⟩ = some (.slice tl.a2 tl.n2 tl.c2)) ∧ (w'.cell? ⟨g1, 0, none⟩ = some (.bool tf.s) ∧ w'.cell? ⟨g1, 1, none⟩ = some (.slice tf.a1 tf.n1 tf.c1) ∧ w'.cell? ⟨g1, 2, none⟩ = some (.slice tf.a2 tf.n2 tf.c2))) (by kernel_rfl) ?_
  have bd0 : Below w5.heap.size w5 w5.drew := (Below.refl _ _).drew
  obtain ⟨Wx, hWx⟩ : ∃ W, w5.drew = W := ⟨_, rfl⟩
  rw [hWx] at bd0 ⊢
  have hC0 : (fun w' : World => (w'.cell? ⟨w.heap.size, 0, none⟩ = some (.bool tl.s) ∧ w'.cell? ⟨w.heap.size, 1, none⟩ = some (.slice tl.a1 tl.n1 tl.c1) ∧ w'.cell? ⟨w.heap.size, 2, none⟩ = some (.slice tl.a2 tl.n2 tl.c2)) ∧ (w'.cell? ⟨g1, 0, none⟩ = some (.bool tf.s) ∧ w'.cell? ⟨g1, 1, none⟩ = some (.slice tf.a1 tf.n1 tf.c1) ∧ w'.cell? ⟨g1, 2, none⟩ = some (.slice tf.a2 tf.n2 tf.c2))) Wx := unhide HCC5 _ bd0
  refine wpHold_take (i := 0) (v := ?_) rfl (by kernel_rfl) (by kernel_rfl) (by kernel_rfl) (fun _ _ _ h => h) (Or.inl ⟨by rfl, ?_⟩) hC0 ?_
  rotate_left
  · intro w hSw; (try dsimp only at hSw); obtain ⟨⟨z0, z1, z2⟩, z3, z4, z5⟩ := hSw; go_simp; (try with_reducible rfl)
  (try simp only [List.getElem_toArray, List.getElem_cons_succ, List.getElem_cons_zero])
  (try simp only [Act.put, List.setIfInBounds_toArray, List.set_cons_zero, List.set_cons_succ])
  refine wpHold_take (i := 1) (v := ?_) rfl (by kernel_rfl) (by kernel_rfl) (by kernel_rfl) (fun _ _ _ h => h) (Or.inl ⟨by rfl, ?_⟩) hC0 ?_
  rotate_left
  · intro w hSw; (try dsimp only at hSw); obtain ⟨⟨z0, z1, z2⟩, z3, z4, z5⟩ := hSw; go_simp; (try with_reducible rfl)
  (try simp only [List.getElem_toArray, List.getElem_cons_succ, List.getElem_cons_zero])
  (try simp only [Act.put, List.setIfInBounds_toArray, List.set_cons_zero, List.set_cons_succ])
  refine wpHold_take (i := 2) (v := ?_) rfl (by kernel_rfl) (by kernel_rfl) (by kernel_rfl) (fun _ _ _ h => h) (Or.inl ⟨by rfl, ?_⟩) hC0 ?_
  rotate_left
  · intro w hSw; (try dsimp only at hSw); obtain ⟨⟨z0, z1, z2⟩, z3, z4, z5⟩ := hSw; go_simp; (try with_reducible rfl)
  (try simp only [List.getElem_toArray, List.getElem_cons_succ, List.getElem_cons_zero])
  (try simp only [Act.put, List.setIfInBounds_toArray, List.set_cons_zero, List.set_cons_succ])
  refine wpHold_listed (n := 8) (L' := (fun nc nl => #[true, true, true, decide (1 ≤ nc), decide (2 ≤ nc), false, false, false, nl, false, false]) 0 false) (by kernel_rfl) (by kernel_rfl) ?_
  refine wpHold_name (fun a0 ha0 => ?_)
  refine chain_fin 2 (fun nc nl => #[true, true, true, decide (1 ≤ nc), decide (2 ≤ nc), false, false, false, nl, false, false]) (fun nc => match nc with | 0 => 3 | _ => 4) 8 5 (fun nc nl na W => ∃ s1 s2 s3, na = ((a0.put (some 17) s1).put (some 18) s2).put (some 8) s3 ∧ EnJ (a + b) (a / (a + b)) Wx nc nl W s1 s2 s3) ?_ ?_ ?_ ?_ ?_ ?_ ?_ 3 0 false (by omega) (by rfl) _ _ ⟨undef, undef, undef, by subst ha0; rfl, Below.refl _ _, fun h => absurd h (by decide), fun h => absurd h (by decide), fun h => by cases h⟩
  · clear ha0
    intro nc nl hnc
    match nc, hnc with
    | 0, _ => cases nl <;> (show (_ : Bool) = _; kernel_rfl)
    | 1, _ => cases nl <;> (show (_ : Bool) = _; kernel_rfl)
  · clear ha0
    intro nc nl hnc
    match nc, hnc with
    | 0, _ => cases nl <;> (show (_ : Bool) = _; kernel_rfl)
    | 1, _ => cases nl <;> (show (_ : Bool) = _; kernel_rfl)
  · clear ha0
    intro nc nl hnc
    match nc, hnc with
    | 0, _ => rfl
    | 1, _ => rfl
  · clear ha0
    intro nc hnc
    match nc, hnc with
    | 0, _ => rfl
    | 1, _ => rfl
  · rintro nc nl na wv hnc ⟨s1, s2, s3, rfl, J⟩
    subst ha0
    match nc, hnc, J with
    | 0, _, J =>
      refine wpOp_step rfl (fun K hK => ?_)
      (try simp only [Act.put, List.setIfInBounds_toArray, List.set_cons_zero, List.set_cons_succ] at hK ⊢)
      (try simp only [List.getElem_toArray, List.getElem_cons_succ, List.getElem_cons_zero])
      go_simp
      refine (addR_any _ _ _ _ _ (unhide HF5 _ (below_step bd0 J.bl)).1.2 (unhide HF5 _ (below_step bd0 J.bl)).2.2 1 (unhide HRA) (unhide HRB) (unhide HK1)).mono ?_
      rintro e wz ⟨v, rfl, hv, hb⟩
      exact hK _ _ ⟨unhide HCC5 _ (below_step bd0 (below_step J.bl hb)), v, s2, s3, rfl, below_step J.bl hb, fun _ => hv, fun h => absurd h (by decide), fun h => by
        obtain ⟨b, e1, e2, e3⟩ := J.al h
        exact ⟨b, e1, e2.keep hb, e3⟩⟩
    | 1, _, J =>
      refine wpOp_step rfl (fun K hK => ?_)
      (try simp only [Act.put, List.setIfInBounds_toArray, List.set_cons_zero, List.set_cons_succ] at hK ⊢)
      (try simp only [List.getElem_toArray, List.getElem_cons_succ, List.getElem_cons_zero])
      go_simp
      refine (divR_any _ _ _ _ _ (unhide HF5 _ (below_step bd0 J.bl)).1.2 (J.r1 (by decide)) 3 (unhide HRA3) (unhide HRS3) (unhide HK3) (unhide HNZ)).mono ?_
      rintro e wz ⟨v, rfl, hv, hb⟩
      exact hK _ _ ⟨unhide HCC5 _ (below_step bd0 (below_step J.bl hb)), s1, .tuple #[v, .nilIface], s3, rfl, below_step J.bl hb, fun _ => (J.r1 (by decide)).below hb, fun _ => ⟨v, rfl, hv⟩, fun h => by
        obtain ⟨b, e1, e2, e3⟩ := J.al h
        exact ⟨b, e1, e2.keep hb, e3⟩⟩
  · rintro nc na wv hnc ⟨s1, s2, s3, rfl, J⟩
    subst ha0
    refine wpOp_step rfl (fun K hK => ?_)
    (try simp only [Act.put, List.setIfInBounds_toArray, List.set_cons_zero, List.set_cons_succ] at hK ⊢)
    (try simp only [List.getElem_toArray, List.getElem_cons_succ, List.getElem_cons_zero])
    go_simp
    have hb := alloc_below wv (.cells #[.bool false, .slice none 0 0, .slice none 0 0] 40)
    exact hK _ _ ⟨unhide HCC5 _ (below_step bd0 (below_step J.bl hb)), s1, s2, .pointer (some ⟨wv.heap.size, 0, none⟩), rfl, below_step J.bl hb, fun h => (J.r1 h).below hb, fun h => by obtain ⟨v, e1, e2⟩ := J.r2 h; exact ⟨v, e1, e2.below hb⟩, fun _ => ⟨wv.heap.size, rfl, BoxIs.new (t := zTri) (rat_zero _), J.bl.size⟩⟩
  · rintro nl na wv ⟨s1, s2, s3, rfl, J⟩
    subst ha0
    obtain ⟨v_, rfl, hv_⟩ := J.r2 (by decide)
    obtain ⟨ts, rfl, r0⟩ := tri_of hv_
    simp only [Tri.val]
    (try simp only [Act.put, List.setIfInBounds_toArray, List.set_cons_zero, List.set_cons_succ])
    have hCv : (fun w' : World => (w'.cell? ⟨w.heap.size, 0, none⟩ = some (.bool tl.s) ∧ w'.cell? ⟨w.heap.size, 1, none⟩ = some (.slice tl.a1 tl.n1 tl.c1) ∧ w'.cell? ⟨w.heap.size, 2, none⟩ = some (.slice tl.a2 tl.n2 tl.c2)) ∧ (w'.cell? ⟨g1, 0, none⟩ = some (.bool tf.s) ∧ w'.cell? ⟨g1, 1, none⟩ = some (.slice tf.a1 tf.n1 tf.c1) ∧ w'.cell? ⟨g1, 2, none⟩ = some (.slice tf.a2 tf.n2 tf.c2))) wv := unhide HCC5 _ (below_step bd0 J.bl)
    clear hC0
    cases nl with
    | true =>
      obtain ⟨gs, rfl, B10, e10⟩ := J.al rfl
      refine wpHold_take (i := 5) (v := ?_) rfl (by kernel_rfl) (by kernel_rfl) (by kernel_rfl) (fun _ _ _ h => h) (Or.inl ⟨by rfl, ?_⟩) hCv ?_
      rotate_left
      · intro w hSw; clear hSw; go_simp; (try with_reducible rfl)
      (try simp only [List.getElem_toArray, List.getElem_cons_succ, List.getElem_cons_zero])
      (try simp only [Act.put, List.setIfInBounds_toArray, List.set_cons_zero, List.set_cons_succ])
      refine wpHold_take (i := 6) (v := ?_) rfl (by kernel_rfl) (by kernel_rfl) (by kernel_rfl) (fun _ _ _ h => h) (Or.inl ⟨by rfl, ?_⟩) hCv ?_
      rotate_left
      · intro w hSw; clear hSw; go_simp; (try with_reducible rfl)
      (try simp only [List.getElem_toArray, List.getElem_cons_succ, List.getElem_cons_zero])
      (try simp only [Act.put, List.setIfInBounds_toArray, List.set_cons_zero, List.set_cons_succ])
      refine wpHold_take (i := 7) (v := ?_) rfl (by kernel_rfl) (by kernel_rfl) (by kernel_rfl) (fun _ _ _ h => h) (Or.inl ⟨by rfl, ?_⟩) hCv ?_
      rotate_left
      · intro w hSw; clear hSw; go_simp; (try with_reducible rfl)
      (try simp only [List.getElem_toArray, List.getElem_cons_succ, List.getElem_cons_zero])
      (try simp only [Act.put, List.setIfInBounds_toArray, List.set_cons_zero, List.set_cons_succ])
      have ⟨l0, l1, l2⟩ := B10.free
      have ⟨k0, k1, k2⟩ := B10.cells _ (Below.refl _ _)
      have NB := B10.set r0
      have e10' : w5.heap.size ≤ gs := Nat.le_trans bd0.size e10
      have YB := (((below_step bd0 J.bl).setCell (p := ⟨gs, 0, none⟩) e10' (.bool ts.s)).setCell (p := ⟨gs, 1, none⟩) e10' (.slice ts.a1 ts.n1 ts.c1)).setCell (p := ⟨gs, 2, none⟩) e10' (.slice ts.a2 ts.n2 ts.c2)
      have HG_gs := hide e10'
      have hCn : (fun w' : World => (w'.cell? ⟨w.heap.size, 0, none⟩ = some (.bool tl.s) ∧ w'.cell? ⟨w.heap.size, 1, none⟩ = some (.slice tl.a1 tl.n1 tl.c1) ∧ w'.cell? ⟨w.heap.size, 2, none⟩ = some (.slice tl.a2 tl.n2 tl.c2)) ∧ (w'.cell? ⟨g1, 0, none⟩ = some (.bool tf.s) ∧ w'.cell? ⟨g1, 1, none⟩ = some (.slice tf.a1 tf.n1 tf.c1) ∧ w'.cell? ⟨g1, 2, none⟩ = some (.slice tf.a2 tf.n2 tf.c2))) _ := unhide HCC5 _ YB
      obtain ⟨Wgs, hWy⟩ : ∃ W, ((wv.setCell ⟨gs, 0, none⟩ (.bool ts.s)).setCell ⟨gs, 1, none⟩ (.slice ts.a1 ts.n1 ts.c1)).setCell ⟨gs, 2, none⟩ (.slice ts.a2 ts.n2 ts.c2) = W := ⟨_, rfl⟩
      rw [hWy] at NB YB hCn
      have HX_gs := hide NB
      have HY_gs := hide YB
      clear J B10 YB NB e10' hCv
      refine wpHold_one (k := 9) (by kernel_rfl) rfl (fun K hK => ?_)
      (try simp only [List.getElem_toArray, List.getElem_cons_succ, List.getElem_cons_zero])
      go_simp
      refine hK.out _ _ hCn ?_
      clear hK K
      (try simp only [Act.put, List.setIfInBounds_toArray, List.set_cons_zero, List.set_cons_succ])
      refine wpHold_one (k := 10) (by kernel_rfl) rfl (fun K hK => ?_)
      (try simp only [List.getElem_toArray, List.getElem_cons_succ, List.getElem_cons_zero])
      go_simp
      refine hK.out _ _ hCn ?_
      clear hK K
      (try simp only [Act.put, List.setIfInBounds_toArray, List.set_cons_zero, List.set_cons_succ])
      refine wpHold_done (by kernel_rfl) ?_ _
      clear hCn l0 l1 l2 k0 k1 k2 hWy e10 bd0 hWx r0 hv_
      have HCL := hide (least_any v _ qs (a / (a + b)) 4 Wgs ((unhide HLW5 _ (unhide HY_gs)).1) (unhide HX_gs).2 (unhide HQ3) (unhide HL3) (unhide HRS) (unhide HJ3))
      have ⟨x0, x1, x2⟩ := (unhide HX_gs).cells _ (Below.refl _ _)
      have HYY := hide ((unhide HLW5 _ (unhide HY_gs)).2)
      simp only [Tri.val] at HCL
      clear HX_gs HY_gs HG_gs
      go_wp2_with fail
      refine (unhide HCL).mono ?_
      rintro e w9 ⟨n, k, rfl, hs, hb9⟩
      obtain ⟨m, rfl, rfl, hm⟩ := unhide HSAY n k hs
      have HM := hide hm
      have HB9 := hide (below_step (unhide HYY) hb9)
      clear hs hb9 HCL x0 x1 x2 hm
      go_wp2
      go_ret2
      exact ⟨m, rfl, unhide HM, unhide HB9⟩
    | false =>
      refine wpHold_take (i := 5) (v := ?_) rfl (by kernel_rfl) (by kernel_rfl) (by kernel_rfl) (fun _ _ _ h => h) (Or.inl ⟨by rfl, ?_⟩) hCv ?_
      rotate_left
      · intro w hSw; clear hSw; go_simp; (try with_reducible rfl)
      (try simp only [List.getElem_toArray, List.getElem_cons_succ, List.getElem_cons_zero])
      (try simp only [Act.put, List.setIfInBounds_toArray, List.set_cons_zero, List.set_cons_succ])
      refine wpHold_take (i := 6) (v := ?_) rfl (by kernel_rfl) (by kernel_rfl) (by kernel_rfl) (fun _ _ _ h => h) (Or.inl ⟨by rfl, ?_⟩) hCv ?_
      rotate_left
      · intro w hSw; clear hSw; go_simp; (try with_reducible rfl)
      (try simp only [List.getElem_toArray, List.getElem_cons_succ, List.getElem_cons_zero])
      (try simp only [Act.put, List.setIfInBounds_toArray, List.set_cons_zero, List.set_cons_succ])
      refine wpHold_take (i := 7) (v := ?_) rfl (by kernel_rfl) (by kernel_rfl) (by kernel_rfl) (fun _ _ _ h => h) (Or.inl ⟨by rfl, ?_⟩) hCv ?_
      rotate_left
      · intro w hSw; clear hSw; go_simp; (try with_reducible rfl)
      (try simp only [List.getElem_toArray, List.getElem_cons_succ, List.getElem_cons_zero])
      (try simp only [Act.put, List.setIfInBounds_toArray, List.set_cons_zero, List.set_cons_succ])
      have hbA := alloc_below wv (.cells #[.bool false, .slice none 0 0, .slice none 0 0] 40)
      have B10 := BoxIs.new (w := wv) (t := zTri) (q := 0) (rat_zero _)
      have B10' : BoxIs (wv.alloc (.cells #[.bool false, .slice none 0 0, .slice none 0 0] 40)) wv.heap.size zTri 0 := B10
      have rA := r0.below hbA
      have blA := below_step J.bl hbA
      have hCA : (fun w' : World => (w'.cell? ⟨w.heap.size, 0, none⟩ = some (.bool tl.s) ∧ w'.cell? ⟨w.heap.size, 1, none⟩ = some (.slice tl.a1 tl.n1 tl.c1) ∧ w'.cell? ⟨w.heap.size, 2, none⟩ = some (.slice tl.a2 tl.n2 tl.c2)) ∧ (w'.cell? ⟨g1, 0, none⟩ = some (.bool tf.s) ∧ w'.cell? ⟨g1, 1, none⟩ = some (.slice tf.a1 tf.n1 tf.c1) ∧ w'.cell? ⟨g1, 2, none⟩ = some (.slice tf.a2 tf.n2 tf.c2))) _ := unhide HCC5 _ (below_step bd0 blA)
      have e10 : Wx.heap.size ≤ wv.heap.size := J.bl.size
      refine wpHold_one (k := 8) (by kernel_rfl) rfl (fun K hK => ?_)
      (try simp only [List.getElem_toArray, List.getElem_cons_succ, List.getElem_cons_zero])
      go_simp
      refine hK.out _ _ hCA ?_
      clear hK K
      (try simp only [Act.put, List.setIfInBounds_toArray, List.set_cons_zero, List.set_cons_succ])
      obtain ⟨wA, hwA⟩ : ∃ W, wv.alloc (.cells #[.bool false, .slice none 0 0, .slice none 0 0] 40) = W := ⟨_, rfl⟩
      obtain ⟨gs, hbn⟩ : ∃ b, wv.heap.size = b := ⟨_, rfl⟩
      rw [hwA] at B10' rA blA hCA
      rw [hbn] at B10' e10
      simp only [hwA, hbn]
      clear B10 hbA hwA hbn
      replace B10 := B10'
      clear B10'
      have ⟨l0, l1, l2⟩ := B10.free
      have ⟨k0, k1, k2⟩ := B10.cells _ (Below.refl _ _)
      have NB := B10.set rA
      have e10' : w5.heap.size ≤ gs := Nat.le_trans bd0.size e10
      have YB := (((below_step bd0 blA).setCell (p := ⟨gs, 0, none⟩) e10' (.bool ts.s)).setCell (p := ⟨gs, 1, none⟩) e10' (.slice ts.a1 ts.n1 ts.c1)).setCell (p := ⟨gs, 2, none⟩) e10' (.slice ts.a2 ts.n2 ts.c2)
      have HG_gs := hide e10'
      have hCn : (fun w' : World => (w'.cell? ⟨w.heap.size, 0, none⟩ = some (.bool tl.s) ∧ w'.cell? ⟨w.heap.size, 1, none⟩ = some (.slice tl.a1 tl.n1 tl.c1) ∧ w'.cell? ⟨w.heap.size, 2, none⟩ = some (.slice tl.a2 tl.n2 tl.c2)) ∧ (w'.cell? ⟨g1, 0, none⟩ = some (.bool tf.s) ∧ w'.cell? ⟨g1, 1, none⟩ = some (.slice tf.a1 tf.n1 tf.c1) ∧ w'.cell? ⟨g1, 2, none⟩ = some (.slice tf.a2 tf.n2 tf.c2))) _ := unhide HCC5 _ YB
      obtain ⟨Wgs, hWy⟩ : ∃ W, ((wA.setCell ⟨gs, 0, none⟩ (.bool ts.s)).setCell ⟨gs, 1, none⟩ (.slice ts.a1 ts.n1 ts.c1)).setCell ⟨gs, 2, none⟩ (.slice ts.a2 ts.n2 ts.c2) = W := ⟨_, rfl⟩
      rw [hWy] at NB YB hCn
      have HX_gs := hide NB
      have HY_gs := hide YB
      clear J B10 YB NB e10' hCv
      refine wpHold_one (k := 9) (by kernel_rfl) rfl (fun K hK => ?_)
      (try simp only [List.getElem_toArray, List.getElem_cons_succ, List.getElem_cons_zero])
      go_simp
      refine hK.out _ _ hCn ?_
      clear hK K
      (try simp only [Act.put, List.setIfInBounds_toArray, List.set_cons_zero, List.set_cons_succ])
      refine wpHold_one (k := 10) (by kernel_rfl) rfl (fun K hK => ?_)
      (try simp only [List.getElem_toArray, List.getElem_cons_succ, List.getElem_cons_zero])
      go_simp
      refine hK.out _ _ hCn ?_
      clear hK K
      (try simp only [Act.put, List.setIfInBounds_toArray, List.set_cons_zero, List.set_cons_succ])
      refine wpHold_done (by kernel_rfl) ?_ _
      clear hCn l0 l1 l2 k0 k1 k2 hWy e10 bd0 hWx r0 hv_ hCA rA blA
      have HCL := hide (least_any v _ qs (a / (a + b)) 4 Wgs ((unhide HLW5 _ (unhide HY_gs)).1) (unhide HX_gs).2 (unhide HQ3) (unhide HL3) (unhide HRS) (unhide HJ3))
      have ⟨x0, x1, x2⟩ := (unhide HX_gs).cells _ (Below.refl _ _)
      have HYY := hide ((unhide HLW5 _ (unhide HY_gs)).2)
      simp only [Tri.val] at HCL
      clear HX_gs HY_gs HG_gs
      go_wp2_with fail
      refine (unhide HCL).mono ?_
      rintro e w9 ⟨n, k, rfl, hs, hb9⟩
      obtain ⟨m, rfl, rfl, hm⟩ := unhide HSAY n k hs
      have HM := hide hm
      have HB9 := hide (below_step (unhide HYY) hb9)
      clear hs hb9 HCL x0 x1 x2 hm
      go_wp2
      go_ret2
      exact ⟨m, rfl, unhide HM, unhide HB9⟩

end Go.Proofs.YtohkmkoklhnnlaaGreatDoor
