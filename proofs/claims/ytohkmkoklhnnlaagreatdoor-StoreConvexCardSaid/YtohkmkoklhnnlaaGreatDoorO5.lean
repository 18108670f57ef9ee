/- A fact: of a paper that is asked for half the time. -/
import Derived.Test.YtohkmkoklhnnlaaGreatDoorO4
import Derived.Test.YtohkmkoklhnnlaaGreatDoorW25
namespace Go.Proofs.YtohkmkoklhnnlaaGreatDoor
open Go.RowKit Go.Sort Go.Shelf

/-- A region walked by states: wherever it isn't at an end, each operation that is ready leads on. -/
theorem walk_any {P : Program} {ops : Array Oper} {Q : Exit → Act → World → Prop} {C : World → Prop} {md : Region.Mode} {S : Type} (mk : S → Array Bool) (fuel : S → Nat) (fin : S → Bool) (next : S → Nat → Option S) (I : S → Act → World → Prop)
    (hne : ∀ s, fin s = false → (Region.ready md ops (mk s)).isEmpty = false)
    (hck : ∀ s, fin s = false → (Region.ready md ops (mk s)).all (fun i => match next s i with | some s' => ((mk s).setIfInBounds i true == mk s') && (fuel s == fuel s' + 1) | none => false) = true)
    (hst : ∀ s i s', next s i = some s' → ∀ a w, I s a w → wpOp P ops Q i (fun a' w' => C w' ∧ I s' a' w') a w)
    (hf : ∀ s, fin s = true → ∀ a w, I s a w → wpHold P md ops Q C (fuel s) (mk s) a w) :
    ∀ n s, fuel s = n → ∀ a w, I s a w → wpHold P md ops Q C n (mk s) a w := by
  have hr : ∀ s, fin s = false → ∀ i ∈ Region.ready md ops (mk s), ∃ s', (mk s).setIfInBounds i true = mk s' ∧ fuel s = fuel s' + 1 ∧ ∀ a w, I s a w → wpOp P ops Q i (fun a' w' => C w' ∧ I s' a' w') a w := fun s e i hi => by
    have hk := List.all_eq_true.1 (hck s e) i hi
    cases en : next s i with
    | none => rw [en] at hk; cases hk
    | some s' =>
      rw [en] at hk
      simp only [Bool.and_eq_true, beq_iff_eq] at hk
      exact ⟨s', hk.1, hk.2, hst s i s' en⟩
  intro n
  induction n with
  | zero =>
    intro s hs a w h
    cases e : fin s with
    | true => rw [← hs]; exact hf s e a w h
    | false =>
      have hn := hne s e
      cases el : Region.ready md ops (mk s) with
      | nil => rw [el] at hn; cases hn
      | cons i r =>
        obtain ⟨s', _, h2, _⟩ := hr s e i (by rw [el]; exact List.mem_cons_self ..)
        omega
  | succ n ih =>
    intro s hs a w h
    cases e : fin s with
    | true => rw [← hs]; exact hf s e a w h
    | false =>
      have hn := hne s e
      refine ⟨fun e' => (by rw [e'] at hn; cases hn), fun i hi => ?_⟩
      obtain ⟨s', h1, h2, h3⟩ := hr s e i hi
      exact wpOp_mono (fun a' w' h' => ⟨h'.1, by rw [h1]; exact ih s' (by omega) a' w' h'.2⟩) (h3 a w h)

def hq : List Rat := [hf, hf]
theorem hq_chk : chk hq = 0 := by decide +kernel
theorem hq_code : ncode hq 3 1 = 0 := by
  unfold ncode
  rw [if_neg (by rw [hq_chk]; decide), if_neg (by decide +kernel)]
theorem hq_news {n : Nat} (h : NewsIs hq 3 1 n) : n = 1 := by
  rcases h with ⟨h, _⟩ | ⟨_, h1, h2, h3⟩
  · exact absurd h (by decide)
  · have h1' : n < 2 := h1
    match n, h1' with
    | 0, _ => exact absurd h3 (by decide +kernel)
    | 1, _ => rfl
theorem hq_loss : lossV hq 3 1 1 = hf := by decide +kernel
theorem hq_RS : ∀ j, j < hq.length → RS hq[j]! 1 := fun j hj => by
  have hj' : j < 2 := hj
  match j, hj' with
  | 0, _ => exact ⟨by decide +kernel, by decide +kernel⟩
  | 1, _ => exact ⟨by decide +kernel, by decide +kernel⟩
theorem law_two {w : World} {t : Tri} {q : Rat} (h : RatIs w t.val q) : LawIs (w.alloc (.cells #[.bool t.s, .slice t.a1 t.n1 t.c1, .slice t.a2 t.n2 t.c2, .bool t.s, .slice t.a1 t.n1 t.c1, .slice t.a2 t.n2 t.c2] 40)) (.slice (some ⟨w.heap.size, 0, none⟩) 2 2) [q, q] := by
  have hb := alloc_below w (.cells #[.bool t.s, .slice t.a1 t.n1 t.c1, .slice t.a2 t.n2 t.c2, .bool t.s, .slice t.a1 t.n1 t.c1, .slice t.a2 t.n2 t.c2] 40)
  have hx := heap_alloc_new w (.cells #[.bool t.s, .slice t.a1 t.n1 t.c1, .slice t.a2 t.n2 t.c2, .bool t.s, .slice t.a1 t.n1 t.c1, .slice t.a2 t.n2 t.c2] 40)
  refine ⟨some ⟨w.heap.size, 0, none⟩, 2, rfl, Nat.le_refl 2, by decide, fun _ => ⟨w.heap.size, 0, rfl, (Array.getElem?_eq_some_iff.1 hx).1, fun j hj => ?_⟩⟩
  have hj' : j < 2 := hj
  refine ⟨t.s, t.a1, t.a2, t.n1, t.c1, t.n2, t.c2, ?_, ?_, ?_, ?_⟩
  · match j, hj' with
    | 0, _ => (simp only [World.cell?]; rw [hx]; rfl)
    | 1, _ => (simp only [World.cell?]; rw [hx]; rfl)
  · match j, hj' with
    | 0, _ => (simp only [World.cell?]; rw [hx]; rfl)
    | 1, _ => (simp only [World.cell?]; rw [hx]; rfl)
  · match j, hj' with
    | 0, _ => (simp only [World.cell?]; rw [hx]; rfl)
    | 1, _ => (simp only [World.cell?]; rw [hx]; rfl)
  · match j, hj' with
    | 0, _ => exact h.below hb
    | 1, _ => exact h.below hb

/-- What the region holds: the law, two numbers, the answer, and a box. -/
structure SoJ (w0 : World) (s : Bool × Nat × Bool) (w : World) (s1 s2 s3 s4 s5 : Value) : Prop where
  bl : Below w0.heap.size w0 w
  lw : s.1 = true → LawIs w s1 hq
  r2 : 1 ≤ s.2.1 → RatIs w s2 3
  r3 : 2 ≤ s.2.1 → RatIs w s3 1
  r4 : 3 ≤ s.2.1 → ∃ v, s4 = .tuple #[.int .i64 1, v, .nilIface] ∧ RatIs w v hf
  al : s.2.2 = true → ∃ b, s5 = .pointer (some ⟨b, 0, none⟩) ∧ BoxIs w b zTri 0 ∧ w0.heap.size ≤ b
  bd : s.2.1 ≤ 3
  nb : 3 ≤ s.2.1 → s.1 = true
theorem SoJ.keep {w0 w w' : World} {s : Bool × Nat × Bool} {s1 s2 s3 s4 s5 : Value} (J : SoJ w0 s w s1 s2 s3 s4 s5) (hb : Below w.heap.size w w') : SoJ w0 s w' s1 s2 s3 s4 s5 :=
  ⟨below_step J.bl hb, fun h => (J.lw h).below hb, fun h => (J.r2 h).below hb, fun h => (J.r3 h).below hb, fun h => by obtain ⟨v, e1, e2⟩ := J.r4 h; exact ⟨v, e1, e2.below hb⟩, fun h => by obtain ⟨b, e1, e2, e3⟩ := J.al h; exact ⟨b, e1, e2.keep hb, e3⟩, J.bd, J.nb⟩
def nextS (s : Bool × Nat × Bool) (i : Nat) : Option (Bool × Nat × Bool) :=
  if i = 2 ∧ s.1 = false then some (true, s.2) else if i = 10 ∧ s.2.2 = false then some (s.1, s.2.1, true)
  else if i = 3 ∧ s.2.1 = 0 then some (s.1, 1, s.2.2) else if i = 4 ∧ s.2.1 = 1 then some (s.1, 2, s.2.2) else if i = 5 ∧ s.2.1 = 2 ∧ s.1 = true then some (s.1, 3, s.2.2) else none
theorem news_half (v v2 v3 : Value) (w : World) (h : LawIs w v hq) (h2 : RatIs w v2 3) (h3 : RatIs w v3 1) :
    Calls Tryz.prog 20 #[v, v2, v3] w fun e w' => ∃ x, e = .returned (.tuple #[.int .i64 1, x, .nilIface]) ∧ RatIs w' x hf ∧ Below w.heap.size w w' := by
  refine (news_any v v2 v3 hq 3 1 w h h2 h3 hq_RS ⟨by decide +kernel, by decide +kernel⟩ ⟨by decide +kernel, by decide +kernel⟩ (by decide)).mono ?_
  rintro e w' ⟨hb, ⟨hc, _⟩ | ⟨_, n, x, rfl, hn, hx⟩⟩
  · exact absurd hq_code hc
  · obtain rfl := hq_news hn
    rw [hq_loss] at hx
    exact ⟨x, rfl, hx, hb⟩
set_option maxHeartbeats 16000000 in
set_option maxRecDepth 100000 in
set_option linter.unusedSimpArgs false in
theorem sold_any (w : World) (htab : Tab w) : Calls Tryz.prog 7 #[] w fun e w' => e = .returned (.bool true) ∧ Below w.heap.size w w' := by
  have HOF := hide (of_any 1 2 (by decide) (by decide) (by decide) (by decide) (by decide) w)
  have HT := hide htab
  have HRH : Hid (RS hf 1) := ⟨by decide +kernel, by decide +kernel⟩
  have HKO : Hid (1 ≤ KK) := by show _ ≤ _; unfold KK; decide
  clear htab
  go_enter Tryz.func7, Tryz.ntmps7
  go_wp2_with fail
  refine (unhide HOF).mono ?_
  rintro e w1 ⟨v, rfl, hv, hb1⟩
  have eh : Rat.divInt 1 2 = hf := by decide +kernel
  rw [eh] at hv
  obtain ⟨th, rfl, hr⟩ := tri_of hv
  simp only [Tri.val]
  have hbh := below_step hb1 (alloc_below w1 (.cells #[.bool th.s, .slice th.a1 th.n1 th.c1, .slice th.a2 th.n2 th.c2] 40))
  have XH := BoxIs.new hr
  obtain ⟨Wh, hWh⟩ : ∃ W, w1.alloc (.cells #[.bool th.s, .slice th.a1 th.n1 th.c1, .slice th.a2 th.n2 th.c2] 40) = W := ⟨_, rfl⟩
  obtain ⟨gh, hgh⟩ : ∃ g, w1.heap.size = g := ⟨_, rfl⟩
  rw [hWh] at hbh XH
  rw [hgh] at XH
  have HRT := hide XH.2
  have HBW := hide hbh
  have HTB := hide (tab_below (unhide HT) hbh)
  have HCC : Hid (∀ W, Below Wh.heap.size Wh W → (fun w' : World => (w'.cell? ⟨gh, 0, none⟩ = some (.bool th.s) ∧ w'.cell? ⟨gh, 1, none⟩ = some (.slice th.a1 th.n1 th.c1) ∧ w'.cell? ⟨gh, 2, none⟩ = some (.slice th.a2 th.n2 th.c2))) W) := fun W hW => (XH.keep hW).cells _ (Below.refl _ _)
  clear hv hr hb1 hbh XH eh HOF HT
  go_wp2_with fail
  clear hWh hgh
  refine wp_region_hold (fun w' : World => (w'.cell? ⟨gh, 0, none⟩ = some (.bool th.s) ∧ w'.cell? ⟨gh, 1, none⟩ = some (.slice th.a1 th.n1 th.c1) ∧ w'.cell? ⟨gh, 2, none⟩ = some (.slice th.a2 th.n2 th.c2))) (by kernel_rfl) ?_
  have bd0 : Below Wh.heap.size Wh Wh.drew := (Below.refl _ _).drew
  obtain ⟨Wx, hWx⟩ : ∃ W, Wh.drew = W := ⟨_, rfl⟩
  rw [hWx] at bd0 ⊢
  have hC0 : (fun w' : World => (w'.cell? ⟨gh, 0, none⟩ = some (.bool th.s) ∧ w'.cell? ⟨gh, 1, none⟩ = some (.slice th.a1 th.n1 th.c1) ∧ w'.cell? ⟨gh, 2, none⟩ = some (.slice th.a2 th.n2 th.c2))) Wx := unhide HCC _ bd0
  refine wpHold_take (i := 0) (v := ?_) rfl (by kernel_rfl) (by kernel_rfl) (by kernel_rfl) (fun _ _ _ h => h) (Or.inl ⟨by rfl, ?_⟩) hC0 ?_
  rotate_left
  · intro w hSw; (try dsimp only at hSw); obtain ⟨z0, z1, z2⟩ := hSw; go_simp; (try with_reducible rfl)
  (try simp only [List.getElem_toArray, List.getElem_cons_succ, List.getElem_cons_zero])
  (try simp only [Act.put, List.setIfInBounds_toArray, List.set_cons_zero, List.set_cons_succ])
  refine wpHold_take (i := 1) (v := ?_) rfl (by kernel_rfl) (by kernel_rfl) (by kernel_rfl) (fun _ _ _ h => h) (Or.inl ⟨by rfl, ?_⟩) hC0 ?_
  rotate_left
  · intro w hSw; (try dsimp only at hSw); obtain ⟨z0, z1, z2⟩ := hSw; go_simp; (try with_reducible rfl)
  (try simp only [List.getElem_toArray, List.getElem_cons_succ, List.getElem_cons_zero])
  (try simp only [Act.put, List.setIfInBounds_toArray, List.set_cons_zero, List.set_cons_succ])
  refine wpHold_listed (n := 12) (L' := (fun s : Bool × Nat × Bool => #[true, true, s.1, decide (1 ≤ s.2.1), decide (2 ≤ s.2.1), decide (3 ≤ s.2.1), false, false, false, false, s.2.2, false, false, false]) (false, 0, false)) (by kernel_rfl) (by kernel_rfl) ?_
  refine wpHold_name (fun a0 ha0 => ?_)
  refine walk_any (fun s : Bool × Nat × Bool => #[true, true, s.1, decide (1 ≤ s.2.1), decide (2 ≤ s.2.1), decide (3 ≤ s.2.1), false, false, false, false, s.2.2, false, false, false]) (fun s => 12 - s.2.1 - s.1.toNat - s.2.2.toNat) (fun s => decide (3 ≤ s.2.1)) nextS (fun s na W => ∃ s1 s2 s3 s4 s5, na = (((((a0.put (some 13) s1).put (some 14) s2).put (some 15) s3).put (some 16) s4).put (some 4) s5) ∧ SoJ Wx s W s1 s2 s3 s4 s5) ?_ ?_ ?_ ?_ 12 (false, 0, false) rfl _ _ ⟨undef, undef, undef, undef, undef, by subst ha0; rfl, Below.refl _ _, (fun h => by cases h), (fun h => absurd h (by decide)), (fun h => absurd h (by decide)), (fun h => absurd h (by decide)), (fun h => by cases h), by decide, (fun h => absurd h (by decide))⟩
  · clear ha0
    intro s h
    match s, h with
    | ⟨true, 0, true⟩, _ => show (_ : Bool) = _; kernel_rfl
    | ⟨true, 0, false⟩, _ => show (_ : Bool) = _; kernel_rfl
    | ⟨true, 1, true⟩, _ => show (_ : Bool) = _; kernel_rfl
    | ⟨true, 1, false⟩, _ => show (_ : Bool) = _; kernel_rfl
    | ⟨true, 2, true⟩, _ => show (_ : Bool) = _; kernel_rfl
    | ⟨true, 2, false⟩, _ => show (_ : Bool) = _; kernel_rfl
    | ⟨false, 0, true⟩, _ => show (_ : Bool) = _; kernel_rfl
    | ⟨false, 0, false⟩, _ => show (_ : Bool) = _; kernel_rfl
    | ⟨false, 1, true⟩, _ => show (_ : Bool) = _; kernel_rfl
    | ⟨false, 1, false⟩, _ => show (_ : Bool) = _; kernel_rfl
    | ⟨false, 2, true⟩, _ => show (_ : Bool) = _; kernel_rfl
    | ⟨false, 2, false⟩, _ => show (_ : Bool) = _; kernel_rfl
    | ⟨_, c + 3, _⟩, h => exact absurd h (by simp)
  · clear ha0
    intro s h
    match s, h with
    | ⟨true, 0, true⟩, _ => show (_ : Bool) = _; kernel_rfl
    | ⟨true, 0, false⟩, _ => show (_ : Bool) = _; kernel_rfl
    | ⟨true, 1, true⟩, _ => show (_ : Bool) = _; kernel_rfl
    | ⟨true, 1, false⟩, _ => show (_ : Bool) = _; kernel_rfl
    | ⟨true, 2, true⟩, _ => show (_ : Bool) = _; kernel_rfl
    | ⟨true, 2, false⟩, _ => show (_ : Bool) = _; kernel_rfl
    | ⟨false, 0, true⟩, _ => show (_ : Bool) = _; kernel_rfl
    | ⟨false, 0, false⟩, _ => show (_ : Bool) = _; kernel_rfl
    | ⟨false, 1, true⟩, _ => show (_ : Bool) = _; kernel_rfl
    | ⟨false, 1, false⟩, _ => show (_ : Bool) = _; kernel_rfl
    | ⟨false, 2, true⟩, _ => show (_ : Bool) = _; kernel_rfl
    | ⟨false, 2, false⟩, _ => show (_ : Bool) = _; kernel_rfl
    | ⟨_, c + 3, _⟩, h => exact absurd h (by simp)
  · rintro ⟨b, c, l⟩ i s' hn na wv ⟨s1, s2, s3, s4, s5, rfl, J⟩
    subst ha0
    unfold nextS at hn
    simp only at hn
    by_cases h2 : i = 2 ∧ b = false
    · rw [if_pos h2] at hn
      obtain ⟨rfl, rfl⟩ := h2
      obtain rfl := Option.some.inj hn
      refine wpOp_step rfl (fun K hK => ?_)
      (try simp only [Act.put, List.setIfInBounds_toArray, List.set_cons_zero, List.set_cons_succ] at hK ⊢)
      (try simp only [List.getElem_toArray, List.getElem_cons_succ, List.getElem_cons_zero])
      go_simp
      have hb := alloc_below wv (.cells #[.bool th.s, .slice th.a1 th.n1 th.c1, .slice th.a2 th.n2 th.c2, .bool th.s, .slice th.a1 th.n1 th.c1, .slice th.a2 th.n2 th.c2] 40)
      have J' := J.keep hb
      exact hK _ _ ⟨unhide HCC _ (below_step bd0 J'.bl), _, s2, s3, s4, s5, rfl, J'.bl, fun _ => law_two ((unhide HRT).below (below_step bd0 J.bl)), J'.r2, J'.r3, J'.r4, J'.al, J'.bd, fun _ => rfl⟩
    rw [if_neg h2] at hn
    by_cases h10 : i = 10 ∧ l = false
    · rw [if_pos h10] at hn
      obtain ⟨rfl, rfl⟩ := h10
      obtain rfl := Option.some.inj hn
      refine wpOp_step rfl (fun K hK => ?_)
      (try simp only [Act.put, List.setIfInBounds_toArray, List.set_cons_zero, List.set_cons_succ] at hK ⊢)
      (try simp only [List.getElem_toArray, List.getElem_cons_succ, List.getElem_cons_zero])
      go_simp
      have hb := alloc_below wv (.cells #[.bool false, .slice none 0 0, .slice none 0 0] 40)
      have J' := J.keep hb
      exact hK _ _ ⟨unhide HCC _ (below_step bd0 J'.bl), s1, s2, s3, s4, .pointer (some ⟨wv.heap.size, 0, none⟩), rfl, J'.bl, J'.lw, J'.r2, J'.r3, J'.r4, fun _ => ⟨wv.heap.size, rfl, BoxIs.new (t := zTri) (rat_zero _), J.bl.size⟩, J'.bd, J'.nb⟩
    rw [if_neg h10] at hn
    by_cases h3 : i = 3 ∧ c = 0
    · rw [if_pos h3] at hn
      obtain ⟨rfl, rfl⟩ := h3
      obtain rfl := Option.some.inj hn
      refine wpOp_step rfl (fun K hK => ?_)
      (try simp only [Act.put, List.setIfInBounds_toArray, List.set_cons_zero, List.set_cons_succ] at hK ⊢)
      (try simp only [List.getElem_toArray, List.getElem_cons_succ, List.getElem_cons_zero])
      go_simp
      refine (whole_any 3 (by decide) (by decide) wv).mono ?_
      rintro e wz ⟨v, rfl, hv, hb⟩
      have J' := J.keep hb
      exact hK _ _ ⟨unhide HCC _ (below_step bd0 J'.bl), s1, v, s3, s4, s5, rfl, J'.bl, J'.lw, fun _ => hv, (fun h => absurd h (by simp)), (fun h => absurd h (by simp)), J'.al, by simp, (fun h => absurd h (by simp))⟩
    rw [if_neg h3] at hn
    by_cases h4 : i = 4 ∧ c = 1
    · rw [if_pos h4] at hn
      obtain ⟨rfl, rfl⟩ := h4
      obtain rfl := Option.some.inj hn
      refine wpOp_step rfl (fun K hK => ?_)
      (try simp only [Act.put, List.setIfInBounds_toArray, List.set_cons_zero, List.set_cons_succ] at hK ⊢)
      (try simp only [List.getElem_toArray, List.getElem_cons_succ, List.getElem_cons_zero])
      go_simp
      refine (whole_any 1 (by decide) (by decide) wv).mono ?_
      rintro e wz ⟨v, rfl, hv, hb⟩
      have J' := J.keep hb
      exact hK _ _ ⟨unhide HCC _ (below_step bd0 J'.bl), s1, s2, v, s4, s5, rfl, J'.bl, J'.lw, fun _ => J'.r2 (by simp), fun _ => hv, (fun h => absurd h (by simp)), J'.al, by simp, (fun h => absurd h (by simp))⟩
    rw [if_neg h4] at hn
    by_cases h5 : i = 5 ∧ c = 2 ∧ b = true
    · rw [if_pos h5] at hn
      obtain ⟨rfl, rfl, rfl⟩ := h5
      obtain rfl := Option.some.inj hn
      refine wpOp_step rfl (fun K hK => ?_)
      (try simp only [Act.put, List.setIfInBounds_toArray, List.set_cons_zero, List.set_cons_succ] at hK ⊢)
      (try simp only [List.getElem_toArray, List.getElem_cons_succ, List.getElem_cons_zero])
      go_simp
      refine (news_half _ _ _ wv (J.lw rfl) (J.r2 (by simp)) (J.r3 (by simp))).mono ?_
      rintro e wz ⟨v, rfl, hv, hb⟩
      have J' := J.keep hb
      exact hK _ _ ⟨unhide HCC _ (below_step bd0 J'.bl), s1, s2, s3, _, s5, rfl, J'.bl, J'.lw, fun _ => J'.r2 (by simp), fun _ => J'.r3 (by simp), fun _ => ⟨v, rfl, hv⟩, J'.al, by simp, fun _ => rfl⟩
    rw [if_neg h5] at hn
    cases hn
  · rintro ⟨b, c, l⟩ hfin na wv ⟨s1, s2, s3, s4, s5, rfl, J⟩
    subst ha0
    have hc3 : c = 3 := by
      have h1 : 3 ≤ c := of_decide_eq_true hfin
      have h2 : c ≤ 3 := J.bd
      omega
    subst hc3
    cases b with
    | false => exact absurd (J.nb (by simp)) (by simp)
    | true =>
      obtain ⟨v_, rfl, hv_⟩ := J.r4 (by simp)
      obtain ⟨tx, rfl, r0⟩ := tri_of hv_
      simp only [Tri.val]
      (try simp only [Act.put, List.setIfInBounds_toArray, List.set_cons_zero, List.set_cons_succ])
      have hCv : (fun w' : World => (w'.cell? ⟨gh, 0, none⟩ = some (.bool th.s) ∧ w'.cell? ⟨gh, 1, none⟩ = some (.slice th.a1 th.n1 th.c1) ∧ w'.cell? ⟨gh, 2, none⟩ = some (.slice th.a2 th.n2 th.c2))) wv := unhide HCC _ (below_step bd0 J.bl)
      clear hC0
      cases l with
      | true =>
        obtain ⟨bx, rfl, B10, e10⟩ := J.al rfl
        refine wpHold_take (i := 6) (v := ?_) rfl (by kernel_rfl) (by kernel_rfl) (by kernel_rfl) (fun _ _ _ h => h) (Or.inl ⟨by rfl, ?_⟩) hCv ?_
        rotate_left
        · intro w hSw; clear hSw; go_simp; (try with_reducible rfl)
        (try simp only [List.getElem_toArray, List.getElem_cons_succ, List.getElem_cons_zero])
        (try simp only [Act.put, List.setIfInBounds_toArray, List.set_cons_zero, List.set_cons_succ])
        refine wpHold_take (i := 7) (v := ?_) rfl (by kernel_rfl) (by kernel_rfl) (by kernel_rfl) (fun _ _ _ h => h) (Or.inl ⟨by rfl, ?_⟩) hCv ?_
        rotate_left
        · intro w hSw; clear hSw; go_simp; (try with_reducible rfl)
        (try simp only [List.getElem_toArray, List.getElem_cons_succ, List.getElem_cons_zero])
        (try simp only [Act.put, List.setIfInBounds_toArray, List.set_cons_zero, List.set_cons_succ])
        refine wpHold_take (i := 8) (v := ?_) rfl (by kernel_rfl) (by kernel_rfl) (by kernel_rfl) (fun _ _ _ h => h) (Or.inl ⟨by rfl, ?_⟩) hCv ?_
        rotate_left
        · intro w hSw; clear hSw; go_simp; (try with_reducible rfl)
        (try simp only [List.getElem_toArray, List.getElem_cons_succ, List.getElem_cons_zero])
        (try simp only [Act.put, List.setIfInBounds_toArray, List.set_cons_zero, List.set_cons_succ])
        refine wpHold_take (i := 9) (v := ?_) rfl (by kernel_rfl) (by kernel_rfl) (by kernel_rfl) (fun _ _ _ h => h) (Or.inl ⟨by rfl, ?_⟩) hCv ?_
        rotate_left
        · intro w hSw; clear hSw; go_simp; (try with_reducible rfl)
        (try simp only [List.getElem_toArray, List.getElem_cons_succ, List.getElem_cons_zero])
        (try simp only [Act.put, List.setIfInBounds_toArray, List.set_cons_zero, List.set_cons_succ])
        have HJB := hide J.bl
        have ⟨l0, l1, l2⟩ := B10.free
        have ⟨k0, k1, k2⟩ := B10.cells _ (Below.refl _ _)
        have NB := B10.set r0
        have e10' : Wh.heap.size ≤ bx := Nat.le_trans bd0.size e10
        have YB := (((below_step bd0 J.bl).setCell (p := ⟨bx, 0, none⟩) e10' (.bool tx.s)).setCell (p := ⟨bx, 1, none⟩) e10' (.slice tx.a1 tx.n1 tx.c1)).setCell (p := ⟨bx, 2, none⟩) e10' (.slice tx.a2 tx.n2 tx.c2)
        have HG_bx := hide e10'
        have hCn : (fun w' : World => (w'.cell? ⟨gh, 0, none⟩ = some (.bool th.s) ∧ w'.cell? ⟨gh, 1, none⟩ = some (.slice th.a1 th.n1 th.c1) ∧ w'.cell? ⟨gh, 2, none⟩ = some (.slice th.a2 th.n2 th.c2))) _ := unhide HCC _ YB
        obtain ⟨Wbx, hWy⟩ : ∃ W, ((wv.setCell ⟨bx, 0, none⟩ (.bool tx.s)).setCell ⟨bx, 1, none⟩ (.slice tx.a1 tx.n1 tx.c1)).setCell ⟨bx, 2, none⟩ (.slice tx.a2 tx.n2 tx.c2) = W := ⟨_, rfl⟩
        rw [hWy] at NB YB hCn
        have HX_bx := hide NB
        have HY_bx := hide YB
        clear J B10 YB NB e10' hCv
        refine wpHold_one (k := 11) (by kernel_rfl) rfl (fun K hK => ?_)
        (try simp only [List.getElem_toArray, List.getElem_cons_succ, List.getElem_cons_zero])
        go_simp
        refine hK.out _ _ (unhide HCC _ (below_step bd0 (unhide HJB))) ?_
        clear hK K
        (try simp only [Act.put, List.setIfInBounds_toArray, List.set_cons_zero, List.set_cons_succ])
        refine wpHold_one (k := 12) (by kernel_rfl) rfl (fun K hK => ?_)
        (try simp only [List.getElem_toArray, List.getElem_cons_succ, List.getElem_cons_zero])
        go_simp
        refine hK.out _ _ hCn ?_
        clear hK K
        (try simp only [Act.put, List.setIfInBounds_toArray, List.set_cons_zero, List.set_cons_succ])
        refine wpHold_one (k := 13) (by kernel_rfl) rfl (fun K hK => ?_)
        (try simp only [List.getElem_toArray, List.getElem_cons_succ, List.getElem_cons_zero])
        go_simp
        refine hK.out _ _ hCn ?_
        clear hK K
        (try simp only [Act.put, List.setIfInBounds_toArray, List.set_cons_zero, List.set_cons_succ])
        refine wpHold_done (by kernel_rfl) ?_ _
        clear hCn l0 l1 l2 k0 k1 k2 hWy e10 bd0 hWx r0 hv_
        have HTX := hide (textR_any _ hf Wbx (unhide HX_bx).2 1 (unhide HRH) (unhide HKO) (tab_below (unhide HTB) (unhide HY_bx)))
        have hqt : qtext hf = [49, 47, 50] := hf_text
        rw [hqt] at HTX
        have ⟨x0, x1, x2⟩ := (unhide HX_bx).cells _ (Below.refl _ _)
        have HYY := hide (below_step (unhide HBW) (unhide HY_bx))
        simp only [Tri.val] at HTX
        clear HX_bx HY_bx HG_bx hqt
        go_wp2_with fail
        refine (unhide HTX).mono ?_
        rintro e w9 ⟨rfl, hb9⟩
        have HB9 := hide (below_step (unhide HYY) hb9)
        clear hb9 HTX x0 x1 x2
        go_wp2
        go_ret
        exact ⟨rfl, unhide HB9⟩
      | false =>
        refine wpHold_take (i := 6) (v := ?_) rfl (by kernel_rfl) (by kernel_rfl) (by kernel_rfl) (fun _ _ _ h => h) (Or.inl ⟨by rfl, ?_⟩) hCv ?_
        rotate_left
        · intro w hSw; clear hSw; go_simp; (try with_reducible rfl)
        (try simp only [List.getElem_toArray, List.getElem_cons_succ, List.getElem_cons_zero])
        (try simp only [Act.put, List.setIfInBounds_toArray, List.set_cons_zero, List.set_cons_succ])
        refine wpHold_take (i := 7) (v := ?_) rfl (by kernel_rfl) (by kernel_rfl) (by kernel_rfl) (fun _ _ _ h => h) (Or.inl ⟨by rfl, ?_⟩) hCv ?_
        rotate_left
        · intro w hSw; clear hSw; go_simp; (try with_reducible rfl)
        (try simp only [List.getElem_toArray, List.getElem_cons_succ, List.getElem_cons_zero])
        (try simp only [Act.put, List.setIfInBounds_toArray, List.set_cons_zero, List.set_cons_succ])
        refine wpHold_take (i := 8) (v := ?_) rfl (by kernel_rfl) (by kernel_rfl) (by kernel_rfl) (fun _ _ _ h => h) (Or.inl ⟨by rfl, ?_⟩) hCv ?_
        rotate_left
        · intro w hSw; clear hSw; go_simp; (try with_reducible rfl)
        (try simp only [List.getElem_toArray, List.getElem_cons_succ, List.getElem_cons_zero])
        (try simp only [Act.put, List.setIfInBounds_toArray, List.set_cons_zero, List.set_cons_succ])
        refine wpHold_take (i := 9) (v := ?_) rfl (by kernel_rfl) (by kernel_rfl) (by kernel_rfl) (fun _ _ _ h => h) (Or.inl ⟨by rfl, ?_⟩) hCv ?_
        rotate_left
        · intro w hSw; clear hSw; go_simp; (try with_reducible rfl)
        (try simp only [List.getElem_toArray, List.getElem_cons_succ, List.getElem_cons_zero])
        (try simp only [Act.put, List.setIfInBounds_toArray, List.set_cons_zero, List.set_cons_succ])
        have hbA := alloc_below wv (.cells #[.bool false, .slice none 0 0, .slice none 0 0] 40)
        have B10 := BoxIs.new (w := wv) (t := zTri) (q := 0) (rat_zero _)
        have B10' : BoxIs (wv.alloc (.cells #[.bool false, .slice none 0 0, .slice none 0 0] 40)) wv.heap.size zTri 0 := B10
        have rA := r0.below hbA
        have blA := below_step J.bl hbA
        have hCA : (fun w' : World => (w'.cell? ⟨gh, 0, none⟩ = some (.bool th.s) ∧ w'.cell? ⟨gh, 1, none⟩ = some (.slice th.a1 th.n1 th.c1) ∧ w'.cell? ⟨gh, 2, none⟩ = some (.slice th.a2 th.n2 th.c2))) _ := unhide HCC _ (below_step bd0 blA)
        have e10 : Wx.heap.size ≤ wv.heap.size := J.bl.size
        refine wpHold_one (k := 10) (by kernel_rfl) rfl (fun K hK => ?_)
        (try simp only [List.getElem_toArray, List.getElem_cons_succ, List.getElem_cons_zero])
        go_simp
        refine hK.out _ _ hCA ?_
        clear hK K
        (try simp only [Act.put, List.setIfInBounds_toArray, List.set_cons_zero, List.set_cons_succ])
        obtain ⟨wA, hwA⟩ : ∃ W, wv.alloc (.cells #[.bool false, .slice none 0 0, .slice none 0 0] 40) = W := ⟨_, rfl⟩
        obtain ⟨bx, hbn⟩ : ∃ b, wv.heap.size = b := ⟨_, rfl⟩
        rw [hwA] at B10' rA blA hCA
        rw [hbn] at B10' e10
        simp only [hwA, hbn]
        clear B10 hbA hwA hbn
        replace B10 := B10'
        clear B10'
        have ⟨l0, l1, l2⟩ := B10.free
        have ⟨k0, k1, k2⟩ := B10.cells _ (Below.refl _ _)
        have NB := B10.set rA
        have e10' : Wh.heap.size ≤ bx := Nat.le_trans bd0.size e10
        have YB := (((below_step bd0 blA).setCell (p := ⟨bx, 0, none⟩) e10' (.bool tx.s)).setCell (p := ⟨bx, 1, none⟩) e10' (.slice tx.a1 tx.n1 tx.c1)).setCell (p := ⟨bx, 2, none⟩) e10' (.slice tx.a2 tx.n2 tx.c2)
        have HG_bx := hide e10'
        have hCn : (fun w' : World => (w'.cell? ⟨gh, 0, none⟩ = some (.bool th.s) ∧ w'.cell? ⟨gh, 1, none⟩ = some (.slice th.a1 th.n1 th.c1) ∧ w'.cell? ⟨gh, 2, none⟩ = some (.slice th.a2 th.n2 th.c2))) _ := unhide HCC _ YB
        obtain ⟨Wbx, hWy⟩ : ∃ W, ((wA.setCell ⟨bx, 0, none⟩ (.bool tx.s)).setCell ⟨bx, 1, none⟩ (.slice tx.a1 tx.n1 tx.c1)).setCell ⟨bx, 2, none⟩ (.slice tx.a2 tx.n2 tx.c2) = W := ⟨_, rfl⟩
        rw [hWy] at NB YB hCn
        have HX_bx := hide NB
        have HY_bx := hide YB
        clear J B10 YB NB e10' hCv
        refine wpHold_one (k := 11) (by kernel_rfl) rfl (fun K hK => ?_)
        (try simp only [List.getElem_toArray, List.getElem_cons_succ, List.getElem_cons_zero])
        go_simp
        refine hK.out _ _ hCA ?_
        clear hK K
        (try simp only [Act.put, List.setIfInBounds_toArray, List.set_cons_zero, List.set_cons_succ])
        refine wpHold_one (k := 12) (by kernel_rfl) rfl (fun K hK => ?_)
        (try simp only [List.getElem_toArray, List.getElem_cons_succ, List.getElem_cons_zero])
        go_simp
        refine hK.out _ _ hCn ?_
        clear hK K
        (try simp only [Act.put, List.setIfInBounds_toArray, List.set_cons_zero, List.set_cons_succ])
        refine wpHold_one (k := 13) (by kernel_rfl) rfl (fun K hK => ?_)
        (try simp only [List.getElem_toArray, List.getElem_cons_succ, List.getElem_cons_zero])
        go_simp
        refine hK.out _ _ hCn ?_
        clear hK K
        (try simp only [Act.put, List.setIfInBounds_toArray, List.set_cons_zero, List.set_cons_succ])
        refine wpHold_done (by kernel_rfl) ?_ _
        clear hCn l0 l1 l2 k0 k1 k2 hWy e10 bd0 hWx r0 hv_ hCA rA blA
        have HTX := hide (textR_any _ hf Wbx (unhide HX_bx).2 1 (unhide HRH) (unhide HKO) (tab_below (unhide HTB) (unhide HY_bx)))
        have hqt : qtext hf = [49, 47, 50] := hf_text
        rw [hqt] at HTX
        have ⟨x0, x1, x2⟩ := (unhide HX_bx).cells _ (Below.refl _ _)
        have HYY := hide (below_step (unhide HBW) (unhide HY_bx))
        simp only [Tri.val] at HTX
        clear HX_bx HY_bx HG_bx hqt
        go_wp2_with fail
        refine (unhide HTX).mono ?_
        rintro e w9 ⟨rfl, hb9⟩
        have HB9 := hide (below_step (unhide HYY) hb9)
        clear hb9 HTX x0 x1 x2
        go_wp2
        go_ret
        exact ⟨rfl, unhide HB9⟩
end Go.Proofs.YtohkmkoklhnnlaaGreatDoor
