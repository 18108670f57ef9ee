/- A row of tasks put in order. -/
import Derived.Test.YtmpigipeajdgcaaL7
import Derived.Test.YtmpigipeajdgcaaL8
namespace Go.Proofs.Ytmpigipeajdgcaa
open Go.RowKit Go.Sort Stb

theorem wo_j {n : Nat} {f : Nat → T3} : Wo n (ltc (fun i k => jcmp (f i) (f k))) := by
  have key : ∀ x y, ltc (fun i k => jcmp (f i) (f k)) x y = decide ((f x).2.2 < (f y).2.2) := fun x y => by
    unfold ltc jcmp
    rw [decide_eq_decide]
    exact cmpI_lt
  refine ⟨fun x y _ _ h => ?_, fun x y z _ _ _ h1 h2 => ?_⟩
  · rw [key] at h ⊢
    have := of_decide_eq_true h
    exact decide_eq_false (by omega)
  · rw [key] at h1 h2 ⊢
    have k1 := of_decide_eq_false h1
    have k2 := of_decide_eq_false h2
    exact decide_eq_false (by omega)
/-- Of two tasks by Smith's rule. -/
def sle (a b : T3) : Prop := if a.1 = 0 ∨ b.1 = 0 then a.1 ≤ b.1 else b.2.1 * a.1 ≤ a.2.1 * b.1
theorem scmp_lt (a b : T3) : ¬ scmp b a < 0 ↔ sle a b := by
  unfold scmp sle
  by_cases c : a.1 = 0 ∨ b.1 = 0
  · rw [if_pos c, if_pos (Or.comm.1 c), cmpI_lt]; omega
  · rw [if_neg c, if_neg (fun h => c (Or.comm.1 h)), cmpI_lt]; omega
theorem sle_trans {a b c : T3} (ha : 0 ≤ a.1) (hb : 0 ≤ b.1) (hc : 0 ≤ c.1) (h1 : sle a b) (h2 : sle b c) : sle a c := by
  unfold sle at h1 h2 ⊢
  by_cases a0 : a.1 = 0
  · rw [if_pos (Or.inl a0)]; omega
  · by_cases b0 : b.1 = 0
    · rw [if_pos (Or.inr b0)] at h1; omega
    · by_cases c0 : c.1 = 0
      · rw [if_pos (Or.inr c0)] at h2; omega
      · rw [if_neg (fun h => h.elim a0 b0)] at h1
        rw [if_neg (fun h => h.elim b0 c0)] at h2
        rw [if_neg (fun h => h.elim a0 c0)]
        have k1 : c.2.1 * b.1 * a.1 ≤ b.2.1 * c.1 * a.1 := Int.mul_le_mul_of_nonneg_right h2 ha
        have k2 : b.2.1 * a.1 * c.1 ≤ a.2.1 * b.1 * c.1 := Int.mul_le_mul_of_nonneg_right h1 hc
        have k3 : c.2.1 * a.1 * b.1 ≤ a.2.1 * c.1 * b.1 := by
          rw [show c.2.1 * a.1 * b.1 = c.2.1 * b.1 * a.1 by grind, show a.2.1 * c.1 * b.1 = a.2.1 * b.1 * c.1 by grind]
          exact Int.le_trans k1 (by rw [show b.2.1 * c.1 * a.1 = b.2.1 * a.1 * c.1 by grind]; exact k2)
        exact Int.le_of_mul_le_mul_right k3 (by omega)
theorem sle_total {a b : T3} (h : ¬ sle a b) : sle b a := by
  unfold sle at h ⊢
  by_cases c : a.1 = 0 ∨ b.1 = 0
  · rw [if_pos c] at h; rw [if_pos (Or.comm.1 c)]; omega
  · rw [if_neg c] at h; rw [if_neg (fun h => c (Or.comm.1 h))]; omega
theorem wo_s {n : Nat} {f : Nat → T3} (hT : GoodT n f) : Wo n (ltc (fun i k => scmp (f i) (f k))) := by
  have key : ∀ x y, ltc (fun i k => scmp (f i) (f k)) y x = false ↔ sle (f x) (f y) := fun x y => by
    rw [← scmp_lt]
    unfold ltc
    simp
  refine ⟨fun x y _ _ h => ?_, fun x y z hx hy hz h1 h2 => ?_⟩
  · rw [key]
    cases c : ltc (fun i k => scmp (f i) (f k)) y x with
    | false =>
      refine sle_total fun h' => ?_
      rw [(key y x).2 h'] at h; cases h
    | true =>
      refine sle_total fun h' => ?_
      rw [(key y x).2 h'] at h; cases h
  · rw [key] at h1 h2 ⊢
    exact sle_trans (hT.p x hx).1 (hT.p y hy).1 (hT.p z hz).1 h1 h2

/-- What Smith and Jackson leave. -/
def ArrPost (w : World) (n : Nat) (f : Nat → T3) (cmp : T3 → T3 → Int) (e : Ending) (w' : World) : Prop :=
  Below w.heap.size w w' ∧ ((tcode n f ≠ 0 ∧ e = .returned (.tuple #[.slice none 0 0, .iface 53 (.int .i64 (tcode n f))])) ∨ (tcode n f = 0 ∧ ∃ (G : Nat) (g' : Nat → Nat), w.heap.size ≤ G ∧ e = .returned (.tuple #[.slice (some ⟨G, 0, none⟩) n n, .nilIface]) ∧ OwnI w' G n (fun i => ((g' i : Nat) : Int)) ∧ Re 0 n id g' ∧ Sr (ltc (fun i k => cmp (f i) (f k))) g' 0 n))
theorem id_stl (lt : Nat → Nat → Bool) (n : Nat) : Stl lt id 0 n := fun _ _ _ h2 _ h4 => Or.inr ⟨h4, h2⟩

set_option maxHeartbeats 8000000 in
set_option maxRecDepth 100000 in
set_option linter.unusedSimpArgs false in
theorem arranged1_smith (pa pb : Nat) (a : Option Addr) (n c : Nat) (f : Nat → T3) (wb W : World) (i k : Nat) (hi : i < n) (hk : k < n) (ha : TRow wb a n c f) (hT : GoodT n f) (h1 : wb.cell? ⟨pa, 0, none⟩ = some (.func (.func 18) #[] #[])) (h2 : wb.cell? ⟨pb, 0, none⟩ = some (.slice a n c)) (hpa : pa < wb.heap.size) (hpb : pb < wb.heap.size) (hW : Below wb.heap.size wb W) :
    Calls Try.prog 31 #[.int .i64 (i : Int), .int .i64 (k : Int), .pointer (some ⟨pa, 0, none⟩), .pointer (some ⟨pb, 0, none⟩)] W fun e w' => e = .returned (.int .i64 (scmp (f i) (f k))) ∧ Below W.heap.size W w' := by
  obtain ⟨b, o, rfl, hbl, hc⟩ := ha.2.2 (by omega)
  have hi' := hc i hi
  have hk' := hc k hk
  have s1 : Small (f i) := ⟨(hT.p i hi).1, (hT.p i hi).2, (hT.w i hi).1, (hT.w i hi).2⟩
  have s2 : Small (f k) := ⟨(hT.p k hk).1, (hT.p k hk).2, (hT.w k hk).1, (hT.w k hk).2⟩
  have hn60 := hT.few
  obtain ⟨⟨x, y, z⟩, hfi⟩ : ∃ t, f i = t := ⟨_, rfl⟩
  obtain ⟨⟨x', y', z'⟩, hfk⟩ : ∃ t, f k = t := ⟨_, rfl⟩
  rw [hfi] at hi' s1 ⊢
  rw [hfk] at hk' s2 ⊢
  simp only at hi' hk'
  have HCC : Hid (∀ W', Below W.heap.size W W' → (fun w' : World => w'.cell? ⟨pa, 0, none⟩ = some (.func (.func 18) #[] #[]) ∧ w'.cell? ⟨pb, 0, none⟩ = some (.slice (some ⟨b, o, none⟩) n c) ∧ (w'.cell? ⟨b, o + i * 3, none⟩ = some (.int .i64 x) ∧ w'.cell? ⟨b, o + i * 3 + 1, none⟩ = some (.int .i64 y) ∧ w'.cell? ⟨b, o + i * 3 + 2, none⟩ = some (.int .i64 z)) ∧ (w'.cell? ⟨b, o + k * 3, none⟩ = some (.int .i64 x') ∧ w'.cell? ⟨b, o + k * 3 + 1, none⟩ = some (.int .i64 y') ∧ w'.cell? ⟨b, o + k * 3 + 2, none⟩ = some (.int .i64 z'))) W') := fun W' hW' => by
    have B := below_step hW hW'
    refine ⟨by rw [B.cell (p := ⟨pa, 0, none⟩) hpa]; exact h1, by rw [B.cell (p := ⟨pb, 0, none⟩) hpb]; exact h2, ?_, ?_⟩
    · rw [B.cell (p := ⟨b, o + i * 3, none⟩) hbl, B.cell (p := ⟨b, o + i * 3 + 1, none⟩) hbl, B.cell (p := ⟨b, o + i * 3 + 2, none⟩) hbl]; exact hi'
    · rw [B.cell (p := ⟨b, o + k * 3, none⟩) hbl, B.cell (p := ⟨b, o + k * 3 + 1, none⟩) hbl, B.cell (p := ⟨b, o + k * 3 + 2, none⟩) hbl]; exact hk'
  have HCA : Hid (∀ W', Below W.heap.size W W' → Calls Try.prog 18 #[.agg #[.int .i64 x, .int .i64 y, .int .i64 z], .agg #[.int .i64 x', .int .i64 y', .int .i64 z']] W' fun e w' => e = .returned (.int .i64 (scmp (x, y, z) (x', y', z'))) ∧ Below W'.heap.size W' w') := fun W' _ => smith1_any (x, y, z) (x', y', z') W' s1 s2
  obtain ⟨v, hv⟩ : ∃ v, scmp (x, y, z) (x', y', z') = v := ⟨_, rfl⟩
  rw [hv] at HCA ⊢
  have e1 : (i : Int) < (n : Int) := by omega
  have e2 : (k : Int) < (n : Int) := by omega
  have e3 : (0 : Int) ≤ (i : Int) := by omega
  have e4 : (0 : Int) ≤ (k : Int) := by omega
  clear hv hi' hk' s1 s2 hfi hfk hc hT ha h1 h2 hpa hpb hW hbl hi hk
  go_enter Try.func31, Try.ntmps31
  go_wp2_with fail
  refine wp_region_hold (fun w' : World => w'.cell? ⟨pa, 0, none⟩ = some (.func (.func 18) #[] #[]) ∧ w'.cell? ⟨pb, 0, none⟩ = some (.slice (some ⟨b, o, none⟩) n c) ∧ (w'.cell? ⟨b, o + i * 3, none⟩ = some (.int .i64 x) ∧ w'.cell? ⟨b, o + i * 3 + 1, none⟩ = some (.int .i64 y) ∧ w'.cell? ⟨b, o + i * 3 + 2, none⟩ = some (.int .i64 z)) ∧ (w'.cell? ⟨b, o + k * 3, none⟩ = some (.int .i64 x') ∧ w'.cell? ⟨b, o + k * 3 + 1, none⟩ = some (.int .i64 y') ∧ w'.cell? ⟨b, o + k * 3 + 2, none⟩ = some (.int .i64 z'))) (by kernel_rfl) ?_
  have bd0 : Below W.heap.size W W.drew := (Below.refl _ _).drew
  have hC0 : (fun w' : World => w'.cell? ⟨pa, 0, none⟩ = some (.func (.func 18) #[] #[]) ∧ w'.cell? ⟨pb, 0, none⟩ = some (.slice (some ⟨b, o, none⟩) n c) ∧ (w'.cell? ⟨b, o + i * 3, none⟩ = some (.int .i64 x) ∧ w'.cell? ⟨b, o + i * 3 + 1, none⟩ = some (.int .i64 y) ∧ w'.cell? ⟨b, o + i * 3 + 2, none⟩ = some (.int .i64 z)) ∧ (w'.cell? ⟨b, o + k * 3, none⟩ = some (.int .i64 x') ∧ w'.cell? ⟨b, o + k * 3 + 1, none⟩ = some (.int .i64 y') ∧ w'.cell? ⟨b, o + k * 3 + 2, none⟩ = some (.int .i64 z'))) W.drew := unhide HCC _ bd0
  refine wpHold_take (i := 0) (v := ?_) rfl (by kernel_rfl) (by kernel_rfl) (by kernel_rfl) (fun _ _ _ h => h) (Or.inl ⟨by rfl, ?_⟩) hC0 ?_
  rotate_left
  · intro w hSw; (try dsimp only at hSw); obtain ⟨z0, z00, ⟨z1, z2, z3⟩, z4, z5, z6⟩ := hSw; go_simp; (try with_reducible rfl)
  (try simp only [List.getElem_toArray, List.getElem_cons_succ, List.getElem_cons_zero])
  (try simp only [Act.put, List.setIfInBounds_toArray, List.set_cons_zero, List.set_cons_succ])
  refine wpHold_take (i := 1) (v := ?_) rfl (by kernel_rfl) (by kernel_rfl) (by kernel_rfl) (fun _ _ _ h => h) (Or.inl ⟨by rfl, ?_⟩) hC0 ?_
  rotate_left
  · intro w hSw; (try dsimp only at hSw); obtain ⟨z0, z00, ⟨z1, z2, z3⟩, z4, z5, z6⟩ := hSw; go_simp; (try with_reducible rfl)
  (try simp only [List.getElem_toArray, List.getElem_cons_succ, List.getElem_cons_zero])
  (try simp only [Act.put, List.setIfInBounds_toArray, List.set_cons_zero, List.set_cons_succ])
  refine wpHold_take (i := 2) (v := ?_) rfl (by kernel_rfl) (by kernel_rfl) (by kernel_rfl) (fun _ _ _ h => h) (Or.inl ⟨by rfl, ?_⟩) hC0 ?_
  rotate_left
  · intro w hSw; clear hSw; go_simp; (try with_reducible rfl)
  (try simp only [List.getElem_toArray, List.getElem_cons_succ, List.getElem_cons_zero])
  (try simp only [Act.put, List.setIfInBounds_toArray, List.set_cons_zero, List.set_cons_succ])
  refine wpHold_take (i := 3) (v := ?_) rfl (by kernel_rfl) (by kernel_rfl) (by kernel_rfl) (fun _ _ _ h => h) (Or.inl ⟨by rfl, ?_⟩) hC0 ?_
  rotate_left
  · intro w hSw; clear hSw; go_simp; (try with_reducible rfl)
  (try simp only [List.getElem_toArray, List.getElem_cons_succ, List.getElem_cons_zero])
  (try simp only [Act.put, List.setIfInBounds_toArray, List.set_cons_zero, List.set_cons_succ])
  refine wpHold_take (i := 4) (v := ?_) rfl (by kernel_rfl) (by kernel_rfl) (by kernel_rfl) (fun _ _ _ h => h) (Or.inl ⟨by rfl, ?_⟩) hC0 ?_
  rotate_left
  · intro w hSw; (try dsimp only at hSw); obtain ⟨z0, z00, ⟨z1, z2, z3⟩, z4, z5, z6⟩ := hSw; go_simp; (try with_reducible rfl)
  (try simp only [List.getElem_toArray, List.getElem_cons_succ, List.getElem_cons_zero])
  (try simp only [Act.put, List.setIfInBounds_toArray, List.set_cons_zero, List.set_cons_succ])
  refine wpHold_take (i := 5) (v := ?_) rfl (by kernel_rfl) (by kernel_rfl) (by kernel_rfl) (fun _ _ _ h => h) (Or.inl ⟨by rfl, ?_⟩) hC0 ?_
  rotate_left
  · intro w hSw; (try dsimp only at hSw); obtain ⟨z0, z00, ⟨z1, z2, z3⟩, z4, z5, z6⟩ := hSw; go_simp; (try with_reducible rfl)
  (try simp only [List.getElem_toArray, List.getElem_cons_succ, List.getElem_cons_zero])
  (try simp only [Act.put, List.setIfInBounds_toArray, List.set_cons_zero, List.set_cons_succ])
  refine wpHold_take (i := 6) (v := ?_) rfl (by kernel_rfl) (by kernel_rfl) (by kernel_rfl) (fun _ _ _ h => h) (Or.inl ⟨by rfl, ?_⟩) hC0 ?_
  rotate_left
  · intro w hSw; clear hSw; go_simp; (try with_reducible rfl)
  (try simp only [List.getElem_toArray, List.getElem_cons_succ, List.getElem_cons_zero])
  (try simp only [Act.put, List.setIfInBounds_toArray, List.set_cons_zero, List.set_cons_succ])
  refine wpHold_take (i := 7) (v := ?_) rfl (by kernel_rfl) (by kernel_rfl) (by kernel_rfl) (fun _ _ _ h => h) (Or.inl ⟨by rfl, ?_⟩) hC0 ?_
  rotate_left
  · intro w hSw; clear hSw; go_simp; (try with_reducible rfl)
  (try simp only [List.getElem_toArray, List.getElem_cons_succ, List.getElem_cons_zero])
  (try simp only [Act.put, List.setIfInBounds_toArray, List.set_cons_zero, List.set_cons_succ])
  refine wpHold_take (i := 8) (v := ?_) rfl (by kernel_rfl) (by kernel_rfl) (by kernel_rfl) (fun _ _ _ h => h) (Or.inl ⟨by rfl, ?_⟩) hC0 ?_
  rotate_left
  · intro w hSw; (try dsimp only at hSw); obtain ⟨z0, z00, ⟨z1, z2, z3⟩, z4, z5, z6⟩ := hSw; go_simp; (try with_reducible rfl)
  (try simp only [List.getElem_toArray, List.getElem_cons_succ, List.getElem_cons_zero])
  (try simp only [Act.put, List.setIfInBounds_toArray, List.set_cons_zero, List.set_cons_succ])
  refine wpHold_one (k := 9) (by kernel_rfl) rfl (fun K hK => ?_)
  (try simp only [List.getElem_toArray, List.getElem_cons_succ, List.getElem_cons_zero])
  go_simp
  refine (unhide HCA _ bd0).mono ?_
  rintro e xw_1 ⟨rfl, hb_1⟩
  have cc_1 := below_step bd0 hb_1
  have hC_1 : (fun w' : World => w'.cell? ⟨pa, 0, none⟩ = some (.func (.func 18) #[] #[]) ∧ w'.cell? ⟨pb, 0, none⟩ = some (.slice (some ⟨b, o, none⟩) n c) ∧ (w'.cell? ⟨b, o + i * 3, none⟩ = some (.int .i64 x) ∧ w'.cell? ⟨b, o + i * 3 + 1, none⟩ = some (.int .i64 y) ∧ w'.cell? ⟨b, o + i * 3 + 2, none⟩ = some (.int .i64 z)) ∧ (w'.cell? ⟨b, o + k * 3, none⟩ = some (.int .i64 x') ∧ w'.cell? ⟨b, o + k * 3 + 1, none⟩ = some (.int .i64 y') ∧ w'.cell? ⟨b, o + k * 3 + 2, none⟩ = some (.int .i64 z'))) xw_1 := unhide HCC _ cc_1
  refine hK.out _ _ hC_1 ?_
  clear hK K
  (try simp only [Act.put, List.setIfInBounds_toArray, List.set_cons_zero, List.set_cons_succ])
  refine wpHold_take (i := 10) (v := ?_) rfl (by kernel_rfl) (by kernel_rfl) (by kernel_rfl) (fun _ _ _ h => h) (Or.inl ⟨by rfl, ?_⟩) hC_1 ?_
  rotate_left
  · intro w hSw; clear hSw; go_simp; (try with_reducible rfl)
  (try simp only [List.getElem_toArray, List.getElem_cons_succ, List.getElem_cons_zero])
  (try simp only [Act.put, List.setIfInBounds_toArray, List.set_cons_zero, List.set_cons_succ])
  refine wpHold_done (by kernel_rfl) ?_ _
  have HBN := hide cc_1
  clear hC0 hC_1 cc_1 hb_1 bd0 HCC HCA
  go_wp2
  go_ret
  exact ⟨rfl, unhide HBN⟩

set_option maxHeartbeats 8000000 in
set_option maxRecDepth 100000 in
set_option linter.unusedSimpArgs false in
theorem arranged_smith (a : Option Addr) (n c : Nat) (f : Nat → T3) (w : World) (ha : TRow w a n c f) :
    Calls Try.prog 17 #[.slice a n c, .func (.func 18) #[] #[]] w (ArrPost w n f scmp) := by
  obtain ⟨w1, hw1⟩ : ∃ W, w.alloc (.cells #[.slice a n c] 22) = W := ⟨_, rfl⟩
  obtain ⟨wb, hwb⟩ : ∃ W, w1.alloc (.cells #[.func (.func 18) #[] #[]] 43) = W := ⟨_, rfl⟩
  have b1 : Below w.heap.size w w1 := by rw [← hw1]; exact alloc_below _ _
  have b2 : Below w1.heap.size w1 wb := by rw [← hwb]; exact alloc_below _ _
  have sz1 : w1.heap.size = w.heap.size + 1 := by rw [← hw1, alloc_size]
  have sz2 : wb.heap.size = w1.heap.size + 1 := by rw [← hwb, alloc_size]
  obtain ⟨pb, hpb⟩ : ∃ p, w.heap.size = p := ⟨_, rfl⟩
  obtain ⟨pa, hpa⟩ : ∃ p, w1.heap.size = p := ⟨_, rfl⟩
  have cb1 : w1.cell? ⟨pb, 0, none⟩ = some (.slice a n c) := by rw [← hw1, ← hpb]; simp only [World.cell?, heap_alloc_new]; rfl
  have cb : wb.cell? ⟨pb, 0, none⟩ = some (.slice a n c) := by rw [b2.cell (p := ⟨pb, 0, none⟩) (by show pb < _; omega)]; exact cb1
  have ca : wb.cell? ⟨pa, 0, none⟩ = some (.func (.func 18) #[] #[]) := by rw [← hwb, ← hpa]; simp only [World.cell?, heap_alloc_new]; rfl
  have bw := below_step b1 b2
  have hab := ha.below bw
  have HC := hide (check_any a n c f wb hab)
  have HAB := hide hab
  have HBW := hide bw
  have HCA := hide ca
  have HCB := hide cb
  have HPA : Hid (pa < wb.heap.size) := by show pa < wb.heap.size; omega
  have HPB : Hid (pb < wb.heap.size) := by show pb < wb.heap.size; omega
  by_cases ht : tcode n f = 0
  case neg =>
    rw [errV_not ht] at HC
    obtain ⟨k, hk⟩ : ∃ k, tcode n f = k := ⟨_, rfl⟩
    rw [hk] at HC ht
    have HK := hide hk
    have HT := hide ht
    clear hk ht ha hab bw b1 b2 sz1 sz2 cb1
    go_enter Try.func17, Try.ntmps17
    go_wp2_with fail
    refine (unhide HC).mono ?_
    rintro e w2 ⟨rfl, hb2⟩
    go_wp2
    go_ret2
    refine ⟨below_step (unhide HBW) hb2, Or.inl ?_⟩
    rw [unhide HK]
    exact ⟨unhide HT, rfl⟩
  rw [ht, errV_zero] at HC
  have gT := goodT_of ht
  have HT := hide ht
  have HGT := hide gT
  have hn60 := gT.few
  clear ht gT ha hab bw b1 b2 sz1 sz2 cb1
  go_enter Try.func17, Try.ntmps17
  go_wp2_with fail
  refine (unhide HC).mono ?_
  rintro e w2 ⟨rfl, hb2⟩
  have HB2 := hide hb2
  have cb2 : w2.cell? ⟨pb, 0, none⟩ = some (.slice a n c) := by rw [hb2.cell (p := ⟨pb, 0, none⟩) (unhide HPB)]; exact cb
  have mk := make_ints n (by omega) w2
  have O0 := hide (make_own w2 n)
  have B0 := hide (below_step hb2 (alloc_below w2 (.cells (lrow (fun _ => 0) n).toArray 3)))
  obtain ⟨W0, hW0⟩ : ∃ W, w2.alloc (.cells (lrow (fun _ => 0) n).toArray 3) = W := ⟨_, rfl⟩
  rw [hW0] at mk O0 B0
  obtain ⟨G, hG⟩ : ∃ G, w2.heap.size = G := ⟨_, rfl⟩
  rw [hG] at mk O0
  have HGe : Hid (wb.heap.size ≤ G) := by show _ ≤ _; rw [← hG]; exact hb2.size
  clear hW0 hG hb2 HC hw1 hwb ca cb hpa hpb
  go_wp2_with fail
  clear mk cb2
  go_loopw [19] (fun vi wr => ∃ k : Nat, vi = .int .i64 (k : Int) ∧ k ≤ n ∧ OwnI wr G n (fun i => if i < k then (i : Int) else 0) ∧ Below wb.heap.size wb wr) (fun vi _ => n - (intOf vi).toNat)
  case atStart => exact ⟨0, rfl, Nat.zero_le _, (unhide O0).congr (fun j _ => by simp), unhide B0⟩
  case round =>
    obtain ⟨k, rfl, hk, hO, hb⟩ := hrel
    by_cases hlt : k < n
    · have e1 : (0 : Int) ≤ (k : Int) := by omega
      have e2 : (k : Int) < (n : Int) := by omega
      have e6 : IntKind.i64.wrap ((k : Int) + 1) = (k : Int) + 1 := by rw [IntKind.wrap_i64]; omega
      have g1 := hO.cell hlt
      have g2 := hO.free k
      obtain ⟨u, g1⟩ : ∃ u : Value, wr.cell? ⟨G, k, none⟩ = some u := ⟨_, g1⟩
      have FIN : Hid (OwnI (wr.setCell ⟨G, k, none⟩ (.int .i64 (k : Int))) G n (fun i => if i < k + 1 then (i : Int) else 0)) := by
        refine (hO.set k (k : Int)).congr fun j hj => ?_
        unfold updI
        by_cases hjk : j = k
        · rw [if_pos hjk, if_pos (by omega), hjk]
        · rw [if_neg hjk]
          show (if j < k then (j : Int) else 0) = _
          by_cases h2 : j < k
          · rw [if_pos h2, if_pos (by omega)]
          · rw [if_neg h2, if_neg (by omega)]
      have FB := hide (hb.setCell (p := ⟨G, k, none⟩) (unhide HGe) (.int .i64 (k : Int)))
      clear hO hb
      go_wp2
      exact ⟨⟨k + 1, by go_num, hlt, unhide FIN, unhide FB⟩, by simp [intOf]; omega⟩
    · obtain rfl : k = n := by omega
      have e1 : ¬ (k : Int) < (k : Int) := by omega
      have hA : At w G k (fun W => Below wb.heap.size wb W) id wr := ⟨hO.congr fun j hj => by simp [hj], below_step (unhide HBW) hb, hb⟩
      have CI : CmpInv G k (fun i k => scmp (f i) (f k)) ⟨pa, 0, none⟩ ⟨pb, 0, none⟩ (fun W => Below wb.heap.size wb W) :=
        ⟨fun W W' h1 h2 => below_step h1 h2, fun W j x lf h1 _ => h1.setCell (unhide HGe) _, fun i j W hi hj hW => arranged1_smith pa pb a k c f wb W i j hi hj (unhide HAB) (unhide HGT) (unhide HCA) (unhide HCB) (unhide HPA) (unhide HPB) hW⟩
      have HS := hide (sortStable_any G k id (fun i k => scmp (f i) (f k)) ⟨pa, 0, none⟩ ⟨pb, 0, none⟩ w wr (fun W => Below wb.heap.size wb W) CI (wo_s (unhide HGT)) (by omega) (Nat.le_trans (unhide HBW).size (unhide HGe)) hA (fun i hi => hi) (id_stl _ _))
      clear hA CI hO hb
      go_wp2_with fail
      (try simp only [Exit.inBlock, Exit.then])
      (try go_wp2_with fail)
      refine (unhide HS).mono ?_
      rintro e w4 ⟨rfl, g', hA, hre, hsr⟩
      have HA4 := hide hA
      have HRE := hide hre
      have HSR := hide hsr
      clear hA hre hsr HS
      go_wp2
      go_ret2
      exact ⟨(unhide HA4).bl, Or.inr ⟨unhide HT, G, g', Nat.le_trans (unhide HBW).size (unhide HGe), rfl, (unhide HA4).own, unhide HRE, unhide HSR⟩⟩

set_option maxHeartbeats 8000000 in
set_option maxRecDepth 100000 in
set_option linter.unusedSimpArgs false in
theorem smith_any (a : Option Addr) (n c : Nat) (f : Nat → T3) (w : World) (ha : TRow w a n c f) :
    Calls Try.prog 7 #[.slice a n c] w (ArrPost w n f scmp) := by
  have HC := hide (arranged_smith a n c f w ha)
  clear ha
  go_enter Try.func7, Try.ntmps7
  go_wp2_with fail
  refine (unhide HC).mono ?_
  rintro e w1 ⟨hb, hp⟩
  rcases hp with ⟨h1, rfl⟩ | ⟨h1, G, g', hG, rfl, hO, hre, hsr⟩
  · obtain ⟨k, hk⟩ : ∃ k, tcode n f = k := ⟨_, rfl⟩
    rw [hk] at h1
    rw [hk]
    have HK := hide hk
    have HT := hide h1
    clear hk h1
    go_wp2
    go_ret2
    refine ⟨hb, Or.inl ?_⟩
    rw [unhide HK]
    exact ⟨unhide HT, rfl⟩
  · have HF : Hid (tcode n f = 0 ∧ w.heap.size ≤ G ∧ OwnI w1 G n (fun i => ((g' i : Nat) : Int)) ∧ Re 0 n id g' ∧ Sr (ltc (fun i k => scmp (f i) (f k))) g' 0 n) := ⟨h1, hG, hO, hre, hsr⟩
    clear h1 hG hO hre hsr
    go_wp2
    go_ret2
    obtain ⟨h1, hG, hO, hre, hsr⟩ := unhide HF
    exact ⟨hb, Or.inr ⟨h1, G, g', hG, rfl, hO, hre, hsr⟩⟩

set_option maxHeartbeats 8000000 in
set_option maxRecDepth 100000 in
set_option linter.unusedSimpArgs false in
theorem arranged1_jackson (pa pb : Nat) (a : Option Addr) (n c : Nat) (f : Nat → T3) (wb W : World) (i k : Nat) (hi : i < n) (hk : k < n) (ha : TRow wb a n c f) (hT : GoodT n f) (h1 : wb.cell? ⟨pa, 0, none⟩ = some (.func (.func 22) #[] #[])) (h2 : wb.cell? ⟨pb, 0, none⟩ = some (.slice a n c)) (hpa : pa < wb.heap.size) (hpb : pb < wb.heap.size) (hW : Below wb.heap.size wb W) :
    Calls Try.prog 31 #[.int .i64 (i : Int), .int .i64 (k : Int), .pointer (some ⟨pa, 0, none⟩), .pointer (some ⟨pb, 0, none⟩)] W fun e w' => e = .returned (.int .i64 (jcmp (f i) (f k))) ∧ Below W.heap.size W w' := by
  obtain ⟨b, o, rfl, hbl, hc⟩ := ha.2.2 (by omega)
  have hi' := hc i hi
  have hk' := hc k hk
  have s1 : Small (f i) := ⟨(hT.p i hi).1, (hT.p i hi).2, (hT.w i hi).1, (hT.w i hi).2⟩
  have s2 : Small (f k) := ⟨(hT.p k hk).1, (hT.p k hk).2, (hT.w k hk).1, (hT.w k hk).2⟩
  have hn60 := hT.few
  obtain ⟨⟨x, y, z⟩, hfi⟩ : ∃ t, f i = t := ⟨_, rfl⟩
  obtain ⟨⟨x', y', z'⟩, hfk⟩ : ∃ t, f k = t := ⟨_, rfl⟩
  rw [hfi] at hi' s1 ⊢
  rw [hfk] at hk' s2 ⊢
  simp only at hi' hk'
  have HCC : Hid (∀ W', Below W.heap.size W W' → (fun w' : World => w'.cell? ⟨pa, 0, none⟩ = some (.func (.func 22) #[] #[]) ∧ w'.cell? ⟨pb, 0, none⟩ = some (.slice (some ⟨b, o, none⟩) n c) ∧ (w'.cell? ⟨b, o + i * 3, none⟩ = some (.int .i64 x) ∧ w'.cell? ⟨b, o + i * 3 + 1, none⟩ = some (.int .i64 y) ∧ w'.cell? ⟨b, o + i * 3 + 2, none⟩ = some (.int .i64 z)) ∧ (w'.cell? ⟨b, o + k * 3, none⟩ = some (.int .i64 x') ∧ w'.cell? ⟨b, o + k * 3 + 1, none⟩ = some (.int .i64 y') ∧ w'.cell? ⟨b, o + k * 3 + 2, none⟩ = some (.int .i64 z'))) W') := fun W' hW' => by
    have B := below_step hW hW'
    refine ⟨by rw [B.cell (p := ⟨pa, 0, none⟩) hpa]; exact h1, by rw [B.cell (p := ⟨pb, 0, none⟩) hpb]; exact h2, ?_, ?_⟩
    · rw [B.cell (p := ⟨b, o + i * 3, none⟩) hbl, B.cell (p := ⟨b, o + i * 3 + 1, none⟩) hbl, B.cell (p := ⟨b, o + i * 3 + 2, none⟩) hbl]; exact hi'
    · rw [B.cell (p := ⟨b, o + k * 3, none⟩) hbl, B.cell (p := ⟨b, o + k * 3 + 1, none⟩) hbl, B.cell (p := ⟨b, o + k * 3 + 2, none⟩) hbl]; exact hk'
  have HCA : Hid (∀ W', Below W.heap.size W W' → Calls Try.prog 22 #[.agg #[.int .i64 x, .int .i64 y, .int .i64 z], .agg #[.int .i64 x', .int .i64 y', .int .i64 z']] W' fun e w' => e = .returned (.int .i64 (jcmp (x, y, z) (x', y', z'))) ∧ Below W'.heap.size W' w') := fun W' _ => jackson1_any (x, y, z) (x', y', z') W' s1 s2
  obtain ⟨v, hv⟩ : ∃ v, jcmp (x, y, z) (x', y', z') = v := ⟨_, rfl⟩
  rw [hv] at HCA ⊢
  have e1 : (i : Int) < (n : Int) := by omega
  have e2 : (k : Int) < (n : Int) := by omega
  have e3 : (0 : Int) ≤ (i : Int) := by omega
  have e4 : (0 : Int) ≤ (k : Int) := by omega
  clear hv hi' hk' s1 s2 hfi hfk hc hT ha h1 h2 hpa hpb hW hbl hi hk
  go_enter Try.func31, Try.ntmps31
  go_wp2_with fail
  refine wp_region_hold (fun w' : World => w'.cell? ⟨pa, 0, none⟩ = some (.func (.func 22) #[] #[]) ∧ w'.cell? ⟨pb, 0, none⟩ = some (.slice (some ⟨b, o, none⟩) n c) ∧ (w'.cell? ⟨b, o + i * 3, none⟩ = some (.int .i64 x) ∧ w'.cell? ⟨b, o + i * 3 + 1, none⟩ = some (.int .i64 y) ∧ w'.cell? ⟨b, o + i * 3 + 2, none⟩ = some (.int .i64 z)) ∧ (w'.cell? ⟨b, o + k * 3, none⟩ = some (.int .i64 x') ∧ w'.cell? ⟨b, o + k * 3 + 1, none⟩ = some (.int .i64 y') ∧ w'.cell? ⟨b, o + k * 3 + 2, none⟩ = some (.int .i64 z'))) (by kernel_rfl) ?_
  have bd0 : Below W.heap.size W W.drew := (Below.refl _ _).drew
  have hC0 : (fun w' : World => w'.cell? ⟨pa, 0, none⟩ = some (.func (.func 22) #[] #[]) ∧ w'.cell? ⟨pb, 0, none⟩ = some (.slice (some ⟨b, o, none⟩) n c) ∧ (w'.cell? ⟨b, o + i * 3, none⟩ = some (.int .i64 x) ∧ w'.cell? ⟨b, o + i * 3 + 1, none⟩ = some (.int .i64 y) ∧ w'.cell? ⟨b, o + i * 3 + 2, none⟩ = some (.int .i64 z)) ∧ (w'.cell? ⟨b, o + k * 3, none⟩ = some (.int .i64 x') ∧ w'.cell? ⟨b, o + k * 3 + 1, none⟩ = some (.int .i64 y') ∧ w'.cell? ⟨b, o + k * 3 + 2, none⟩ = some (.int .i64 z'))) W.drew := unhide HCC _ bd0
  refine wpHold_take (i := 0) (v := ?_) rfl (by kernel_rfl) (by kernel_rfl) (by kernel_rfl) (fun _ _ _ h => h) (Or.inl ⟨by rfl, ?_⟩) hC0 ?_
  rotate_left
  · intro w hSw; (try dsimp only at hSw); obtain ⟨z0, z00, ⟨z1, z2, z3⟩, z4, z5, z6⟩ := hSw; go_simp; (try with_reducible rfl)
  (try simp only [List.getElem_toArray, List.getElem_cons_succ, List.getElem_cons_zero])
  (try simp only [Act.put, List.setIfInBounds_toArray, List.set_cons_zero, List.set_cons_succ])
  refine wpHold_take (i := 1) (v := ?_) rfl (by kernel_rfl) (by kernel_rfl) (by kernel_rfl) (fun _ _ _ h => h) (Or.inl ⟨by rfl, ?_⟩) hC0 ?_
  rotate_left
  · intro w hSw; (try dsimp only at hSw); obtain ⟨z0, z00, ⟨z1, z2, z3⟩, z4, z5, z6⟩ := hSw; go_simp; (try with_reducible rfl)
  (try simp only [List.getElem_toArray, List.getElem_cons_succ, List.getElem_cons_zero])
  (try simp only [Act.put, List.setIfInBounds_toArray, List.set_cons_zero, List.set_cons_succ])
  refine wpHold_take (i := 2) (v := ?_) rfl (by kernel_rfl) (by kernel_rfl) (by kernel_rfl) (fun _ _ _ h => h) (Or.inl ⟨by rfl, ?_⟩) hC0 ?_
  rotate_left
  · intro w hSw; clear hSw; go_simp; (try with_reducible rfl)
  (try simp only [List.getElem_toArray, List.getElem_cons_succ, List.getElem_cons_zero])
  (try simp only [Act.put, List.setIfInBounds_toArray, List.set_cons_zero, List.set_cons_succ])
  refine wpHold_take (i := 3) (v := ?_) rfl (by kernel_rfl) (by kernel_rfl) (by kernel_rfl) (fun _ _ _ h => h) (Or.inl ⟨by rfl, ?_⟩) hC0 ?_
  rotate_left
  · intro w hSw; clear hSw; go_simp; (try with_reducible rfl)
  (try simp only [List.getElem_toArray, List.getElem_cons_succ, List.getElem_cons_zero])
  (try simp only [Act.put, List.setIfInBounds_toArray, List.set_cons_zero, List.set_cons_succ])
  refine wpHold_take (i := 4) (v := ?_) rfl (by kernel_rfl) (by kernel_rfl) (by kernel_rfl) (fun _ _ _ h => h) (Or.inl ⟨by rfl, ?_⟩) hC0 ?_
  rotate_left
  · intro w hSw; (try dsimp only at hSw); obtain ⟨z0, z00, ⟨z1, z2, z3⟩, z4, z5, z6⟩ := hSw; go_simp; (try with_reducible rfl)
  (try simp only [List.getElem_toArray, List.getElem_cons_succ, List.getElem_cons_zero])
  (try simp only [Act.put, List.setIfInBounds_toArray, List.set_cons_zero, List.set_cons_succ])
  refine wpHold_take (i := 5) (v := ?_) rfl (by kernel_rfl) (by kernel_rfl) (by kernel_rfl) (fun _ _ _ h => h) (Or.inl ⟨by rfl, ?_⟩) hC0 ?_
  rotate_left
  · intro w hSw; (try dsimp only at hSw); obtain ⟨z0, z00, ⟨z1, z2, z3⟩, z4, z5, z6⟩ := hSw; go_simp; (try with_reducible rfl)
  (try simp only [List.getElem_toArray, List.getElem_cons_succ, List.getElem_cons_zero])
  (try simp only [Act.put, List.setIfInBounds_toArray, List.set_cons_zero, List.set_cons_succ])
  refine wpHold_take (i := 6) (v := ?_) rfl (by kernel_rfl) (by kernel_rfl) (by kernel_rfl) (fun _ _ _ h => h) (Or.inl ⟨by rfl, ?_⟩) hC0 ?_
  rotate_left
  · intro w hSw; clear hSw; go_simp; (try with_reducible rfl)
  (try simp only [List.getElem_toArray, List.getElem_cons_succ, List.getElem_cons_zero])
  (try simp only [Act.put, List.setIfInBounds_toArray, List.set_cons_zero, List.set_cons_succ])
  refine wpHold_take (i := 7) (v := ?_) rfl (by kernel_rfl) (by kernel_rfl) (by kernel_rfl) (fun _ _ _ h => h) (Or.inl ⟨by rfl, ?_⟩) hC0 ?_
  rotate_left
  · intro w hSw; clear hSw; go_simp; (try with_reducible rfl)
  (try simp only [List.getElem_toArray, List.getElem_cons_succ, List.getElem_cons_zero])
  (try simp only [Act.put, List.setIfInBounds_toArray, List.set_cons_zero, List.set_cons_succ])
  refine wpHold_take (i := 8) (v := ?_) rfl (by kernel_rfl) (by kernel_rfl) (by kernel_rfl) (fun _ _ _ h => h) (Or.inl ⟨by rfl, ?_⟩) hC0 ?_
  rotate_left
  · intro w hSw; (try dsimp only at hSw); obtain ⟨z0, z00, ⟨z1, z2, z3⟩, z4, z5, z6⟩ := hSw; go_simp; (try with_reducible rfl)
  (try simp only [List.getElem_toArray, List.getElem_cons_succ, List.getElem_cons_zero])
  (try simp only [Act.put, List.setIfInBounds_toArray, List.set_cons_zero, List.set_cons_succ])
  refine wpHold_one (k := 9) (by kernel_rfl) rfl (fun K hK => ?_)
  (try simp only [List.getElem_toArray, List.getElem_cons_succ, List.getElem_cons_zero])
  go_simp
  refine (unhide HCA _ bd0).mono ?_
  rintro e xw_1 ⟨rfl, hb_1⟩
  have cc_1 := below_step bd0 hb_1
  have hC_1 : (fun w' : World => w'.cell? ⟨pa, 0, none⟩ = some (.func (.func 22) #[] #[]) ∧ w'.cell? ⟨pb, 0, none⟩ = some (.slice (some ⟨b, o, none⟩) n c) ∧ (w'.cell? ⟨b, o + i * 3, none⟩ = some (.int .i64 x) ∧ w'.cell? ⟨b, o + i * 3 + 1, none⟩ = some (.int .i64 y) ∧ w'.cell? ⟨b, o + i * 3 + 2, none⟩ = some (.int .i64 z)) ∧ (w'.cell? ⟨b, o + k * 3, none⟩ = some (.int .i64 x') ∧ w'.cell? ⟨b, o + k * 3 + 1, none⟩ = some (.int .i64 y') ∧ w'.cell? ⟨b, o + k * 3 + 2, none⟩ = some (.int .i64 z'))) xw_1 := unhide HCC _ cc_1
  refine hK.out _ _ hC_1 ?_
  clear hK K
  (try simp only [Act.put, List.setIfInBounds_toArray, List.set_cons_zero, List.set_cons_succ])
  refine wpHold_take (i := 10) (v := ?_) rfl (by kernel_rfl) (by kernel_rfl) (by kernel_rfl) (fun _ _ _ h => h) (Or.inl ⟨by rfl, ?_⟩) hC_1 ?_
  rotate_left
  · intro w hSw; clear hSw; go_simp; (try with_reducible rfl)
  (try simp only [List.getElem_toArray, List.getElem_cons_succ, List.getElem_cons_zero])
  (try simp only [Act.put, List.setIfInBounds_toArray, List.set_cons_zero, List.set_cons_succ])
  refine wpHold_done (by kernel_rfl) ?_ _
  have HBN := hide cc_1
  clear hC0 hC_1 cc_1 hb_1 bd0 HCC HCA
  go_wp2
  go_ret
  exact ⟨rfl, unhide HBN⟩

set_option maxHeartbeats 8000000 in
set_option maxRecDepth 100000 in
set_option linter.unusedSimpArgs false in
theorem arranged_jackson (a : Option Addr) (n c : Nat) (f : Nat → T3) (w : World) (ha : TRow w a n c f) :
    Calls Try.prog 17 #[.slice a n c, .func (.func 22) #[] #[]] w (ArrPost w n f jcmp) := by
  obtain ⟨w1, hw1⟩ : ∃ W, w.alloc (.cells #[.slice a n c] 22) = W := ⟨_, rfl⟩
  obtain ⟨wb, hwb⟩ : ∃ W, w1.alloc (.cells #[.func (.func 22) #[] #[]] 43) = W := ⟨_, rfl⟩
  have b1 : Below w.heap.size w w1 := by rw [← hw1]; exact alloc_below _ _
  have b2 : Below w1.heap.size w1 wb := by rw [← hwb]; exact alloc_below _ _
  have sz1 : w1.heap.size = w.heap.size + 1 := by rw [← hw1, alloc_size]
  have sz2 : wb.heap.size = w1.heap.size + 1 := by rw [← hwb, alloc_size]
  obtain ⟨pb, hpb⟩ : ∃ p, w.heap.size = p := ⟨_, rfl⟩
  obtain ⟨pa, hpa⟩ : ∃ p, w1.heap.size = p := ⟨_, rfl⟩
  have cb1 : w1.cell? ⟨pb, 0, none⟩ = some (.slice a n c) := by rw [← hw1, ← hpb]; simp only [World.cell?, heap_alloc_new]; rfl
  have cb : wb.cell? ⟨pb, 0, none⟩ = some (.slice a n c) := by rw [b2.cell (p := ⟨pb, 0, none⟩) (by show pb < _; omega)]; exact cb1
  have ca : wb.cell? ⟨pa, 0, none⟩ = some (.func (.func 22) #[] #[]) := by rw [← hwb, ← hpa]; simp only [World.cell?, heap_alloc_new]; rfl
  have bw := below_step b1 b2
  have hab := ha.below bw
  have HC := hide (check_any a n c f wb hab)
  have HAB := hide hab
  have HBW := hide bw
  have HCA := hide ca
  have HCB := hide cb
  have HPA : Hid (pa < wb.heap.size) := by show pa < wb.heap.size; omega
  have HPB : Hid (pb < wb.heap.size) := by show pb < wb.heap.size; omega
  by_cases ht : tcode n f = 0
  case neg =>
    rw [errV_not ht] at HC
    obtain ⟨k, hk⟩ : ∃ k, tcode n f = k := ⟨_, rfl⟩
    rw [hk] at HC ht
    have HK := hide hk
    have HT := hide ht
    clear hk ht ha hab bw b1 b2 sz1 sz2 cb1
    go_enter Try.func17, Try.ntmps17
    go_wp2_with fail
    refine (unhide HC).mono ?_
    rintro e w2 ⟨rfl, hb2⟩
    go_wp2
    go_ret2
    refine ⟨below_step (unhide HBW) hb2, Or.inl ?_⟩
    rw [unhide HK]
    exact ⟨unhide HT, rfl⟩
  rw [ht, errV_zero] at HC
  have gT := goodT_of ht
  have HT := hide ht
  have HGT := hide gT
  have hn60 := gT.few
  clear ht gT ha hab bw b1 b2 sz1 sz2 cb1
  go_enter Try.func17, Try.ntmps17
  go_wp2_with fail
  refine (unhide HC).mono ?_
  rintro e w2 ⟨rfl, hb2⟩
  have HB2 := hide hb2
  have cb2 : w2.cell? ⟨pb, 0, none⟩ = some (.slice a n c) := by rw [hb2.cell (p := ⟨pb, 0, none⟩) (unhide HPB)]; exact cb
  have mk := make_ints n (by omega) w2
  have O0 := hide (make_own w2 n)
  have B0 := hide (below_step hb2 (alloc_below w2 (.cells (lrow (fun _ => 0) n).toArray 3)))
  obtain ⟨W0, hW0⟩ : ∃ W, w2.alloc (.cells (lrow (fun _ => 0) n).toArray 3) = W := ⟨_, rfl⟩
  rw [hW0] at mk O0 B0
  obtain ⟨G, hG⟩ : ∃ G, w2.heap.size = G := ⟨_, rfl⟩
  rw [hG] at mk O0
  have HGe : Hid (wb.heap.size ≤ G) := by show _ ≤ _; rw [← hG]; exact hb2.size
  clear hW0 hG hb2 HC hw1 hwb ca cb hpa hpb
  go_wp2_with fail
  clear mk cb2
  go_loopw [19] (fun vi wr => ∃ k : Nat, vi = .int .i64 (k : Int) ∧ k ≤ n ∧ OwnI wr G n (fun i => if i < k then (i : Int) else 0) ∧ Below wb.heap.size wb wr) (fun vi _ => n - (intOf vi).toNat)
  case atStart => exact ⟨0, rfl, Nat.zero_le _, (unhide O0).congr (fun j _ => by simp), unhide B0⟩
  case round =>
    obtain ⟨k, rfl, hk, hO, hb⟩ := hrel
    by_cases hlt : k < n
    · have e1 : (0 : Int) ≤ (k : Int) := by omega
      have e2 : (k : Int) < (n : Int) := by omega
      have e6 : IntKind.i64.wrap ((k : Int) + 1) = (k : Int) + 1 := by rw [IntKind.wrap_i64]; omega
      have g1 := hO.cell hlt
      have g2 := hO.free k
      obtain ⟨u, g1⟩ : ∃ u : Value, wr.cell? ⟨G, k, none⟩ = some u := ⟨_, g1⟩
      have FIN : Hid (OwnI (wr.setCell ⟨G, k, none⟩ (.int .i64 (k : Int))) G n (fun i => if i < k + 1 then (i : Int) else 0)) := by
        refine (hO.set k (k : Int)).congr fun j hj => ?_
        unfold updI
        by_cases hjk : j = k
        · rw [if_pos hjk, if_pos (by omega), hjk]
        · rw [if_neg hjk]
          show (if j < k then (j : Int) else 0) = _
          by_cases h2 : j < k
          · rw [if_pos h2, if_pos (by omega)]
          · rw [if_neg h2, if_neg (by omega)]
      have FB := hide (hb.setCell (p := ⟨G, k, none⟩) (unhide HGe) (.int .i64 (k : Int)))
      clear hO hb
      go_wp2
      exact ⟨⟨k + 1, by go_num, hlt, unhide FIN, unhide FB⟩, by simp [intOf]; omega⟩
    · obtain rfl : k = n := by omega
      have e1 : ¬ (k : Int) < (k : Int) := by omega
      have hA : At w G k (fun W => Below wb.heap.size wb W) id wr := ⟨hO.congr fun j hj => by simp [hj], below_step (unhide HBW) hb, hb⟩
      have CI : CmpInv G k (fun i k => jcmp (f i) (f k)) ⟨pa, 0, none⟩ ⟨pb, 0, none⟩ (fun W => Below wb.heap.size wb W) :=
        ⟨fun W W' h1 h2 => below_step h1 h2, fun W j x lf h1 _ => h1.setCell (unhide HGe) _, fun i j W hi hj hW => arranged1_jackson pa pb a k c f wb W i j hi hj (unhide HAB) (unhide HGT) (unhide HCA) (unhide HCB) (unhide HPA) (unhide HPB) hW⟩
      have HS := hide (sortStable_any G k id (fun i k => jcmp (f i) (f k)) ⟨pa, 0, none⟩ ⟨pb, 0, none⟩ w wr (fun W => Below wb.heap.size wb W) CI (wo_j) (by omega) (Nat.le_trans (unhide HBW).size (unhide HGe)) hA (fun i hi => hi) (id_stl _ _))
      clear hA CI hO hb
      go_wp2_with fail
      (try simp only [Exit.inBlock, Exit.then])
      (try go_wp2_with fail)
      refine (unhide HS).mono ?_
      rintro e w4 ⟨rfl, g', hA, hre, hsr⟩
      have HA4 := hide hA
      have HRE := hide hre
      have HSR := hide hsr
      clear hA hre hsr HS
      go_wp2
      go_ret2
      exact ⟨(unhide HA4).bl, Or.inr ⟨unhide HT, G, g', Nat.le_trans (unhide HBW).size (unhide HGe), rfl, (unhide HA4).own, unhide HRE, unhide HSR⟩⟩

set_option maxHeartbeats 8000000 in
set_option maxRecDepth 100000 in
set_option linter.unusedSimpArgs false in
theorem jackson_any (a : Option Addr) (n c : Nat) (f : Nat → T3) (w : World) (ha : TRow w a n c f) :
    Calls Try.prog 11 #[.slice a n c] w (ArrPost w n f jcmp) := by
  have HC := hide (arranged_jackson a n c f w ha)
  clear ha
  go_enter Try.func11, Try.ntmps11
  go_wp2_with fail
  refine (unhide HC).mono ?_
  rintro e w1 ⟨hb, hp⟩
  rcases hp with ⟨h1, rfl⟩ | ⟨h1, G, g', hG, rfl, hO, hre, hsr⟩
  · obtain ⟨k, hk⟩ : ∃ k, tcode n f = k := ⟨_, rfl⟩
    rw [hk] at h1
    rw [hk]
    have HK := hide hk
    have HT := hide h1
    clear hk h1
    go_wp2
    go_ret2
    refine ⟨hb, Or.inl ?_⟩
    rw [unhide HK]
    exact ⟨unhide HT, rfl⟩
  · have HF : Hid (tcode n f = 0 ∧ w.heap.size ≤ G ∧ OwnI w1 G n (fun i => ((g' i : Nat) : Int)) ∧ Re 0 n id g' ∧ Sr (ltc (fun i k => jcmp (f i) (f k))) g' 0 n) := ⟨h1, hG, hO, hre, hsr⟩
    clear h1 hG hO hre hsr
    go_wp2
    go_ret2
    obtain ⟨h1, hG, hO, hre, hsr⟩ := unhide HF
    exact ⟨hb, Or.inr ⟨h1, G, g', hG, rfl, hO, hre, hsr⟩⟩

end Go.Proofs.Ytmpigipeajdgcaa
