/- The checker's fractions added. -/
import Derived.Test.YtcelbgleajpenaaGreatDoorB28
namespace Go.Proofs.YtcelbgleajpenaaGreatDoor
open Go.RowKit Go.Sort Go.Shelf

structure JAdd (w0 : World) (qx qy : Rat) (s : Nat × Bool × Bool × Bool) (w : World) (t : Nat → Option (Nat × Nat × Int)) (v8 v9 v16 v14 v15 v21 v22 : Value) : Prop where
 T : Tags 3 w0 w t
 bd : s.1 ≤ 4
 a0 : s.2.1 = true → ∃ g, v8 = .pointer (some ⟨g, 0, none⟩) ∧ t 0 = some (g, 0, 0)
 a1 : s.2.2.1 = true → ∃ g, v9 = .pointer (some ⟨g, 0, none⟩) ∧ t 1 = some (g, 0, if 2 ≤ s.1 then qx.num * (qy.den : Int) else 0) ∧ (2 ≤ s.1 → v15 = .pointer (some ⟨g, 0, none⟩))
 n1 : 2 ≤ s.1 → s.2.2.1 = true
 a2 : s.2.2.2 = true → ∃ g, v16 = .pointer (some ⟨g, 0, none⟩) ∧ t 2 = some (g, 0, if 4 ≤ s.1 then qy.num * (qx.den : Int) else 0) ∧ (4 ≤ s.1 → v22 = .pointer (some ⟨g, 0, none⟩))
 n2 : 4 ≤ s.1 → s.2.2.2 = true
 d0 : 1 ≤ s.1 → ∃ b o, v14 = .pointer (some ⟨b, o, none⟩) ∧ t 3 = some (b, o, (qy.den : Int))
 d1 : 3 ≤ s.1 → ∃ b o, v21 = .pointer (some ⟨b, o, none⟩) ∧ t 4 = some (b, o, (qx.den : Int))
def nextAdd (s : Nat × Bool × Bool × Bool) (i : Nat) : Option (Nat × Bool × Bool × Bool) :=
 if i = 0 ∧ s.2.1 = false then some (s.1, true, s.2.2.1, s.2.2.2) else if i = 1 ∧ s.2.2.1 = false then some (s.1, s.2.1, true, s.2.2.2) else if i = 8 ∧ s.2.2.2 = false then some (s.1, s.2.1, s.2.2.1, true) else if i = 6 ∧ s.1 = 0 then some (1, s.2.1, s.2.2.1, s.2.2.2) else if i = 7 ∧ s.1 = 1 ∧ s.2.2.1 = true then some (2, s.2.1, s.2.2.1, s.2.2.2) else if i = 13 ∧ s.1 = 2 then some (3, s.2.1, s.2.2.1, s.2.2.2) else if i = 14 ∧ s.1 = 3 ∧ s.2.2.2 = true then some (4, s.2.1, s.2.2.1, s.2.2.2) else none
theorem checkAdd {g fin : Nat × Bool × Bool × Bool → Bool} (hb : ∀ s : Nat × Bool × Bool × Bool, 4 < s.1 → fin s = true) (h : (upto5 fun k => allB fun c0 => allB fun c1 => allB fun c2 => fin (k, c0, c1, c2) || g (k, c0, c1, c2)) = true) : ∀ s, fin s = false → g s = true := by
 rintro ⟨k, c0, c1, c2⟩ hs
 have hk : k ≤ 4 := by
  rcases Nat.lt_or_ge 4 k with h1 | h1
  ·rw [hb _ h1] at hs; cases hs
  ·exact h1
 have q := allB_of (allB_of (allB_of (upto5_of h k hk) c0) c1) c2
 rw [hs, Bool.false_or] at q
 exact q
set_option maxHeartbeats 16000000 in
set_option maxRecDepth 100000 in
set_option linter.unusedSimpArgs false in
theorem radd_any (b o b1 o1 b2 o2 i j : Nat) (qx qy : Rat) (w : World) (k : SlotR w b o) (x : BRz w b1 o1 qx) (y : BRz w b2 o2 qy) (rx : RS qx i) (ry : RS qy j) (hij : i + j ≤ 400000) :
  Calls Tryz.prog 89 #[.pointer (some ⟨b, o, none⟩), .pointer (some ⟨b1, o1, none⟩), .pointer (some ⟨b2, o2, none⟩)] w (MakesAt w b o (qx + qy)) := by
 have HX := hide x
 have HY := hide y
 have HK := hide k
 have HRX := hide rx
 have HRY := hide ry
 have HDV := hide divs_any
 have Sxn : Hid (SmH (qx.num.natAbs : Int)) := smh_pw rx.1 (by omega)
 have Syn : Hid (SmH (qy.num.natAbs : Int)) := smh_pw ry.1 (by omega)
 have Sdx : Hid (SmH (((qx.den : Int).natAbs : Nat) : Int)) := by show SmH _; rw [Int.natAbs_natCast]; exact smh_pw rx.2 (by omega)
 have Sdy : Hid (SmH (((qy.den : Int).natAbs : Nat) : Int)) := by show SmH _; rw [Int.natAbs_natCast]; exact smh_pw ry.2 (by omega)
 have p1 := prod_bd rx.1 ry.2
 have p2 := prod_bd ry.1 rx.2
 have p3 := prod_bd rx.2 ry.2
 rw [Nat.add_comm j i] at p2
 have e1 : (qx.num * (qy.den : Int)).natAbs = qx.num.natAbs * qy.den := by rw [Int.natAbs_mul, Int.natAbs_natCast]
 have e2 : (qy.num * (qx.den : Int)).natAbs = qy.num.natAbs * qx.den := by rw [Int.natAbs_mul, Int.natAbs_natCast]
 have e3 : ((qx.den : Int) * (qy.den : Int)).natAbs = qx.den * qy.den := by rw [Int.natAbs_mul, Int.natAbs_natCast, Int.natAbs_natCast]
 rw [← e1] at p1
 rw [← e2] at p2
 rw [← e3] at p3
 have SP1 : Hid (SmH ((qx.num * (qy.den : Int)).natAbs : Int)) := smh_pw p1 (by omega)
 have SP2 : Hid (SmH ((qy.num * (qx.den : Int)).natAbs : Int)) := smh_pw p2 (by omega)
 have SPD : Hid (SmH (((qx.den : Int) * (qy.den : Int)).natAbs : Int)) := smh_pw p3 (by omega)
 have SPN : Hid (SmH ((qx.num * (qy.den : Int) + qy.num * (qx.den : Int)).natAbs : Int)) := smh_add p1 p2 (by omega)
 have HNZ : Hid ((qx.den : Int) * (qy.den : Int) ≠ 0) := Int.mul_ne_zero (by have := qx.den_pos; omega) (by have := qy.den_pos; omega)
 have HQ := hide (radd_math qx qy)
 clear x y k rx ry p1 p2 p3 e1 e2 e3 hij
 go_enter Tryz.func89, Tryz.ntmps89
 go_wp2_with fail
 refine wp_region_hold (fun _ : World => True) (by kernel_rfl) ?_
 have bd0 : Below w.heap.size w w.drew := (Below.refl _ _).drew
 obtain ⟨W0, hW0⟩ : ∃ W, w.drew = W := ⟨_, rfl⟩
 rw [hW0] at bd0 ⊢
 have hC0 : (fun _ : World => True) W0 := trivial
 have BL0 := hide bd0
 clear hW0 bd0
 refine wpHold_take (i := 2) (v := ?_) rfl (by kernel_rfl) (by kernel_rfl) (by kernel_rfl) (fun _ _ _ h => h) (Or.inl ⟨by rfl, ?_⟩) hC0 ?_
 rotate_left
 ·intro w hSw; clear hSw; go_simp; (try with_reducible rfl)
 (try simp only [List.getElem_toArray, List.getElem_cons_succ, List.getElem_cons_zero])
 (try simp only [Act.put, List.setIfInBounds_toArray, List.set_cons_zero, List.set_cons_succ])
 refine wpHold_take (i := 3) (v := ?_) rfl (by kernel_rfl) (by kernel_rfl) (by kernel_rfl) (fun _ _ _ h => h) (Or.inl ⟨by rfl, ?_⟩) hC0 ?_
 rotate_left
 ·intro w hSw; clear hSw; go_simp; (try with_reducible rfl)
 (try simp only [List.getElem_toArray, List.getElem_cons_succ, List.getElem_cons_zero])
 (try simp only [Act.put, List.setIfInBounds_toArray, List.set_cons_zero, List.set_cons_succ])
 refine wpHold_take (i := 4) (v := ?_) rfl (by kernel_rfl) (by kernel_rfl) (by kernel_rfl) (fun _ _ _ h => h) (Or.inl ⟨by rfl, ?_⟩) hC0 ?_
 rotate_left
 ·intro w hSw; clear hSw; go_simp; (try with_reducible rfl)
 (try simp only [List.getElem_toArray, List.getElem_cons_succ, List.getElem_cons_zero])
 (try simp only [Act.put, List.setIfInBounds_toArray, List.set_cons_zero, List.set_cons_succ])
 refine wpHold_take (i := 5) (v := ?_) rfl (by kernel_rfl) (by kernel_rfl) (by kernel_rfl) (fun _ _ _ h => h) (Or.inl ⟨by rfl, ?_⟩) hC0 ?_
 rotate_left
 ·intro w hSw; clear hSw; go_simp; (try with_reducible rfl)
 (try simp only [List.getElem_toArray, List.getElem_cons_succ, List.getElem_cons_zero])
 (try simp only [Act.put, List.setIfInBounds_toArray, List.set_cons_zero, List.set_cons_succ])
 refine wpHold_take (i := 9) (v := ?_) rfl (by kernel_rfl) (by kernel_rfl) (by kernel_rfl) (fun _ _ _ h => h) (Or.inl ⟨by rfl, ?_⟩) hC0 ?_
 rotate_left
 ·intro w hSw; clear hSw; go_simp; (try with_reducible rfl)
 (try simp only [List.getElem_toArray, List.getElem_cons_succ, List.getElem_cons_zero])
 (try simp only [Act.put, List.setIfInBounds_toArray, List.set_cons_zero, List.set_cons_succ])
 refine wpHold_take (i := 10) (v := ?_) rfl (by kernel_rfl) (by kernel_rfl) (by kernel_rfl) (fun _ _ _ h => h) (Or.inl ⟨by rfl, ?_⟩) hC0 ?_
 rotate_left
 ·intro w hSw; clear hSw; go_simp; (try with_reducible rfl)
 (try simp only [List.getElem_toArray, List.getElem_cons_succ, List.getElem_cons_zero])
 (try simp only [Act.put, List.setIfInBounds_toArray, List.set_cons_zero, List.set_cons_succ])
 refine wpHold_take (i := 11) (v := ?_) rfl (by kernel_rfl) (by kernel_rfl) (by kernel_rfl) (fun _ _ _ h => h) (Or.inl ⟨by rfl, ?_⟩) hC0 ?_
 rotate_left
 ·intro w hSw; clear hSw; go_simp; (try with_reducible rfl)
 (try simp only [List.getElem_toArray, List.getElem_cons_succ, List.getElem_cons_zero])
 (try simp only [Act.put, List.setIfInBounds_toArray, List.set_cons_zero, List.set_cons_succ])
 refine wpHold_take (i := 12) (v := ?_) rfl (by kernel_rfl) (by kernel_rfl) (by kernel_rfl) (fun _ _ _ h => h) (Or.inl ⟨by rfl, ?_⟩) hC0 ?_
 rotate_left
 ·intro w hSw; clear hSw; go_simp; (try with_reducible rfl)
 (try simp only [List.getElem_toArray, List.getElem_cons_succ, List.getElem_cons_zero])
 (try simp only [Act.put, List.setIfInBounds_toArray, List.set_cons_zero, List.set_cons_succ])
 refine wpHoldz_listed (n := 9) (L' := (fun s : Nat × Bool × Bool × Bool => #[s.2.1, s.2.2.1, true, true, true, true, decide (1 ≤ s.1), decide (2 ≤ s.1), s.2.2.2, true, true, true, true, decide (3 ≤ s.1), decide (4 ≤ s.1), false, false]) (0, false, false, false)) (by kernel_rfl) (by kernel_rfl) ?_
 refine wpHoldz_name (fun a0 ha0 => ?_)
 refine walk_any (fun s : Nat × Bool × Bool × Bool => #[s.2.1, s.2.2.1, true, true, true, true, decide (1 ≤ s.1), decide (2 ≤ s.1), s.2.2.2, true, true, true, true, decide (3 ≤ s.1), decide (4 ≤ s.1), false, false]) (fun s : Nat × Bool × Bool × Bool => 9 - s.1 - s.2.1.toNat - s.2.2.1.toNat - s.2.2.2.toNat) (fun s : Nat × Bool × Bool × Bool => decide (4 < s.1) || (decide (4 ≤ s.1) && s.2.1)) nextAdd (fun s na W => ∃ t v8 v9 v16 v14 v15 v21 v22, na = (((((((a0.put (some 8) v8).put (some 9) v9).put (some 16) v16).put (some 14) v14).put (some 15) v15).put (some 21) v21).put (some 22) v22) ∧ JAdd W0 qx qy s W t v8 v9 v16 v14 v15 v21 v22) ?_ ?_ ?_ ?_ 9 (0, false, false, false) rfl _ _ ⟨fun _ => none, undef, undef, undef, undef, undef, undef, undef, by subst ha0; rfl, Tags.start _ _, by decide, (fun h => by cases h), (fun h => by cases h), (fun h => absurd h (by decide)), (fun h => by cases h), (fun h => absurd h (by decide)), (fun h => absurd h (by decide)), (fun h => absurd h (by decide))⟩
 ·clear ha0
  intro s hs
  exact not_of (checkAdd (g := fun s => !(Region.ready _ _ ((fun s : Nat × Bool × Bool × Bool => #[s.2.1, s.2.2.1, true, true, true, true, decide (1 ≤ s.1), decide (2 ≤ s.1), s.2.2.2, true, true, true, true, decide (3 ≤ s.1), decide (4 ≤ s.1), false, false]) s)).isEmpty) (fin := (fun s : Nat × Bool × Bool × Bool => decide (4 < s.1) || (decide (4 ≤ s.1) && s.2.1))) (fun s h => by simp [h]) (by kernel_rfl) s hs)
 ·clear ha0
  exact checkAdd (fun s h => by simp [h]) (by kernel_rfl)
 ·rintro ⟨k, c0, c1, c2⟩ i s' hn na wv ⟨t, v8, v9, v16, v14, v15, v21, v22, rfl, J⟩
  subst ha0
  unfold nextAdd at hn
  simp only at hn
  by_cases h : i = 0 ∧ c0 = false
  ·rw [if_pos h] at hn
   obtain ⟨rfl, rfl⟩ := h
   obtain rfl := Option.some.inj hn
   refine wpOp_step rfl (fun K hK => ?_)
   (try simp only [Act.put, List.setIfInBounds_toArray, List.set_cons_zero, List.set_cons_succ] at hK ⊢)
   (try simp only [List.getElem_toArray, List.getElem_cons_succ, List.getElem_cons_zero])
   go_simp
   exact hK _ _ ⟨trivial, upd t 0 (wv.heap.size, 0, 0), .pointer (some ⟨wv.heap.size, 0, none⟩), v9, v16, v14, v15, v21, v22, rfl, J.T.new 0, J.bd, fun _ => ⟨wv.heap.size, rfl, by simp [upd]⟩, by simpa [upd] using J.a1, J.n1, by simpa [upd] using J.a2, J.n2, by simpa [upd] using J.d0, by simpa [upd] using J.d1⟩
  rw [if_neg h] at hn
  clear h
  by_cases h : i = 1 ∧ c1 = false
  ·rw [if_pos h] at hn
   obtain ⟨rfl, rfl⟩ := h
   obtain rfl := Option.some.inj hn
   refine wpOp_step rfl (fun K hK => ?_)
   (try simp only [Act.put, List.setIfInBounds_toArray, List.set_cons_zero, List.set_cons_succ] at hK ⊢)
   (try simp only [List.getElem_toArray, List.getElem_cons_succ, List.getElem_cons_zero])
   go_simp
   exact hK _ _ ⟨trivial, upd t 1 (wv.heap.size, 0, 0), v8, .pointer (some ⟨wv.heap.size, 0, none⟩), v16, v14, v15, v21, v22, rfl, J.T.new 1, J.bd, by simpa [upd] using J.a0, fun _ => ⟨wv.heap.size, rfl, by rw [if_neg (show ¬ 2 ≤ k from fun h => absurd (J.n1 h) (by simp))]; simp [upd], fun h => absurd (J.n1 h) (by simp)⟩, fun _ => rfl, by simpa [upd] using J.a2, J.n2, by simpa [upd] using J.d0, by simpa [upd] using J.d1⟩
  rw [if_neg h] at hn
  clear h
  by_cases h : i = 8 ∧ c2 = false
  ·rw [if_pos h] at hn
   obtain ⟨rfl, rfl⟩ := h
   obtain rfl := Option.some.inj hn
   refine wpOp_step rfl (fun K hK => ?_)
   (try simp only [Act.put, List.setIfInBounds_toArray, List.set_cons_zero, List.set_cons_succ] at hK ⊢)
   (try simp only [List.getElem_toArray, List.getElem_cons_succ, List.getElem_cons_zero])
   go_simp
   exact hK _ _ ⟨trivial, upd t 2 (wv.heap.size, 0, 0), v8, v9, .pointer (some ⟨wv.heap.size, 0, none⟩), v14, v15, v21, v22, rfl, J.T.new 2, J.bd, by simpa [upd] using J.a0, by simpa [upd] using J.a1, J.n1, fun _ => ⟨wv.heap.size, rfl, by rw [if_neg (show ¬ 4 ≤ k from fun h => absurd (J.n2 h) (by simp))]; simp [upd], fun h => absurd (J.n2 h) (by simp)⟩, fun _ => rfl, by simpa [upd] using J.d0, by simpa [upd] using J.d1⟩
  rw [if_neg h] at hn
  clear h
  by_cases h : i = 6 ∧ k = 0
  ·rw [if_pos h] at hn
   obtain ⟨rfl, rfl⟩ := h
   obtain rfl := Option.some.inj hn
   refine wpOp_step rfl (fun K hK => ?_)
   (try simp only [Act.put, List.setIfInBounds_toArray, List.set_cons_zero, List.set_cons_succ] at hK ⊢)
   (try simp only [List.getElem_toArray, List.getElem_cons_succ, List.getElem_cons_zero])
   go_simp
   refine (denz_any b2 o2 qy wv ((unhide HY).below (bstep (unhide BL0) J.T.bl))).mono ?_
   rintro e w' ⟨b', o', rfl, hd, hl, ho⟩
   exact hK _ _ ⟨trivial, upd t 3 (b', o', (qy.den : Int)), v8, v9, v16, _, v15, v21, v22, rfl, J.T.den (by decide) (Nat.lt_of_lt_of_le (unhide HY).1.lt (unhide BL0).size) hd hl (ho.imp And.left id), by simp, by simpa [upd] using J.a0, by simpa [upd] using J.a1, (fun h => absurd h (by simp)), by simpa [upd] using J.a2, (fun h => absurd h (by simp)), fun _ => ⟨b', o', rfl, by simp [upd]⟩, (fun h => absurd h (by simp))⟩
  rw [if_neg h] at hn
  clear h
  by_cases h : i = 7 ∧ k = 1 ∧ c1 = true
  ·rw [if_pos h] at hn
   obtain ⟨rfl, rfl, rfl⟩ := h
   obtain rfl := Option.some.inj hn
   obtain ⟨g, rfl, tg, _⟩ := J.a1 rfl
   obtain ⟨bd2, od2, rfl, td2⟩ := J.d0 (by simp)
   refine wpOp_step rfl (fun K hK => ?_)
   (try simp only [Act.put, List.setIfInBounds_toArray, List.set_cons_zero, List.set_cons_succ] at hK ⊢)
   (try simp only [List.getElem_toArray, List.getElem_cons_succ, List.getElem_cons_zero])
   go_simp
   refine (imul_any g 0 b1 o1 bd2 od2 _ _ wv (J.T.int _ _ _ _ tg).slot ((unhide HX).1.below (bstep (unhide BL0) J.T.bl)) (J.T.int _ _ _ _ td2) (unhide Sxn) (unhide Sdy)).mono ?_
   intro e w' hG
   have T' := J.T.gives (by decide) tg hG
   have he := hG.1
   subst he
   exact hK _ _ ⟨trivial, upd t 1 (g, 0, qx.num * (qy.den : Int)), v8, .pointer (some ⟨g, 0, none⟩), v16, .pointer (some ⟨bd2, od2, none⟩), .pointer (some ⟨g, 0, none⟩), v21, v22, rfl, T', by simp, by simpa [upd] using J.a0, fun _ => ⟨g, rfl, by simp [upd], fun _ => rfl⟩, fun _ => rfl, by simpa [upd] using J.a2, (fun h => absurd h (by simp)), fun _ => ⟨bd2, od2, rfl, by simpa [upd] using td2⟩, (fun h => absurd h (by simp))⟩
  rw [if_neg h] at hn
  clear h
  by_cases h : i = 13 ∧ k = 2
  ·rw [if_pos h] at hn
   obtain ⟨rfl, rfl⟩ := h
   obtain rfl := Option.some.inj hn
   refine wpOp_step rfl (fun K hK => ?_)
   (try simp only [Act.put, List.setIfInBounds_toArray, List.set_cons_zero, List.set_cons_succ] at hK ⊢)
   (try simp only [List.getElem_toArray, List.getElem_cons_succ, List.getElem_cons_zero])
   go_simp
   refine (denz_any b1 o1 qx wv ((unhide HX).below (bstep (unhide BL0) J.T.bl))).mono ?_
   rintro e w' ⟨b', o', rfl, hd, hl, ho⟩
   exact hK _ _ ⟨trivial, upd t 4 (b', o', (qx.den : Int)), v8, v9, v16, v14, v15, _, v22, rfl, J.T.den (by decide) (Nat.lt_of_lt_of_le (unhide HX).1.lt (unhide BL0).size) hd hl (ho.imp And.left id), by simp, by simpa [upd] using J.a0, by simpa [upd] using J.a1, by simpa using J.n1, by simpa [upd] using J.a2, (fun h => absurd h (by simp)), by simpa [upd] using J.d0, fun _ => ⟨b', o', rfl, by simp [upd]⟩⟩
  rw [if_neg h] at hn
  clear h
  by_cases h : i = 14 ∧ k = 3 ∧ c2 = true
  ·rw [if_pos h] at hn
   obtain ⟨rfl, rfl, rfl⟩ := h
   obtain rfl := Option.some.inj hn
   obtain ⟨g, rfl, tg, _⟩ := J.a2 rfl
   obtain ⟨bd2, od2, rfl, td2⟩ := J.d1 (by simp)
   refine wpOp_step rfl (fun K hK => ?_)
   (try simp only [Act.put, List.setIfInBounds_toArray, List.set_cons_zero, List.set_cons_succ] at hK ⊢)
   (try simp only [List.getElem_toArray, List.getElem_cons_succ, List.getElem_cons_zero])
   go_simp
   refine (imul_any g 0 b2 o2 bd2 od2 _ _ wv (J.T.int _ _ _ _ tg).slot ((unhide HY).1.below (bstep (unhide BL0) J.T.bl)) (J.T.int _ _ _ _ td2) (unhide Syn) (unhide Sdx)).mono ?_
   intro e w' hG
   have T' := J.T.gives (by decide) tg hG
   have he := hG.1
   subst he
   exact hK _ _ ⟨trivial, upd t 2 (g, 0, qy.num * (qx.den : Int)), v8, v9, .pointer (some ⟨g, 0, none⟩), v14, v15, .pointer (some ⟨bd2, od2, none⟩), .pointer (some ⟨g, 0, none⟩), rfl, T', by simp, by simpa [upd] using J.a0, by simpa [upd] using J.a1, by simpa using J.n1, fun _ => ⟨g, rfl, by simp [upd], fun _ => rfl⟩, fun _ => rfl, by simpa [upd] using J.d0, fun _ => ⟨bd2, od2, rfl, by simpa [upd] using td2⟩⟩
  rw [if_neg h] at hn
  clear h
  cases hn
 ·rintro ⟨k, c0, c1, c2⟩ hfin na wv ⟨t, v8, v9, v16, v14, v15, v21, v22, rfl, J⟩
  subst ha0
  have hbd : k ≤ 4 := J.bd
  simp only [Bool.or_eq_true, Bool.and_eq_true, decide_eq_true_eq] at hfin
  obtain rfl : k = 4 := by omega
  obtain rfl : c0 = true := hfin.elim (fun h => absurd h (by simp)) (fun h => h.2)
  obtain ⟨g0, rfl, t0⟩ := J.a0 rfl
  obtain rfl : c1 = true := J.n1 (by simp)
  obtain ⟨g1, rfl, t1, hr1⟩ := J.a1 rfl
  obtain rfl := hr1 (by simp)
  rw [if_pos (by simp)] at t1
  obtain rfl : c2 = true := J.n2 (by simp)
  obtain ⟨g2, rfl, t2, hr2⟩ := J.a2 rfl
  obtain rfl := hr2 (by simp)
  rw [if_pos (by simp)] at t2
  (try simp only [Act.put, List.setIfInBounds_toArray, List.set_cons_zero, List.set_cons_succ])
  have JT := J.T
  clear J hfin hbd hC0
  refine wpHold_one (k := 15) (by kernel_rfl) rfl (fun K hK => ?_)
  (try simp only [List.getElem_toArray, List.getElem_cons_succ, List.getElem_cons_zero])
  go_simp
  refine (iadd_any g0 0 g1 0 g2 0 _ _ wv (JT.int _ _ _ _ t0).slot (JT.int _ _ _ _ t1) (JT.int _ _ _ _ t2) (unhide SP1) (unhide SP2)).mono ?_
  intro e w1 hG
  have T1 := JT.gives (by decide) t0 hG
  have he := hG.1
  subst he
  refine hK.out _ _ trivial ?_
  clear hK K
  (try simp only [Act.put, List.setIfInBounds_toArray, List.set_cons_zero, List.set_cons_succ])
  refine wpHold_one (k := 16) (by kernel_rfl) rfl (fun K hK => ?_)
  (try simp only [List.getElem_toArray, List.getElem_cons_succ, List.getElem_cons_zero])
  go_simp
  refine hK.out _ _ trivial ?_
  clear hK K
  (try simp only [Act.put, List.setIfInBounds_toArray, List.set_cons_zero, List.set_cons_succ])
  refine wpHold_done (by kernel_rfl) ?_ _
  have HT1 := hide T1
  have HN1 := hide (T1.int 0 g0 0 (qx.num * (qy.den : Int) + qy.num * (qx.den : Int)) (by simp [upd]))
  have HB1 := hide (bstep (unhide BL0) T1.bl)
  have k2 := slot_new w1
  have bA := abelow w1 (.cells #[.bool false, .slice none 0 0] 84)
  have HG0 : Hid (g0 < w1.heap.size) := (unhide HN1).lt
  clear T1 hG JT t0 t1 t2
  obtain ⟨W2, hW2⟩ : ∃ W, w1.alloc (.cells #[.bool false, .slice none 0 0] 84) = W := ⟨_, rfl⟩
  obtain ⟨gd, hgd⟩ : ∃ g, w1.heap.size = g := ⟨_, rfl⟩
  rw [hW2, hgd] at k2
  rw [hW2] at bA
  have HGD := hide hgd
  have HK2 := hide k2
  have HBA := hide bA
  have HBB := hide (bstep (unhide HB1) bA)
  have HDX := hide (denz_any b1 o1 qx W2 ((unhide HX).below (unhide HBB)))
  clear k2 bA
  go_wp2_with fail
  clear hW2 hgd
  refine (unhide HDX).mono ?_
  rintro e w3 ⟨b3, o3, rfl, hd3, hl3, ho3⟩
  have HD3 := hide hd3
  have HL3 := hide hl3
  have HO3 : Hid (b3 = b1 ∨ W2.heap.size ≤ b3) := ho3.imp And.left id
  have HDY := hide (denz_any b2 o2 qy w3 ((unhide HY).below (bstep (unhide HBB) hl3)))
  clear hd3 hl3 ho3
  go_wp2_with fail
  refine (unhide HDY).mono ?_
  rintro e w4 ⟨b4, o4, rfl, hd4, hl4, ho4⟩
  have HL4 := hide (bstep (unhide HL3) hl4)
  have HD4 := hide hd4
  have HD34 := hide ((unhide HD3).below hl4)
  have HMU := hide (imul_any gd 0 b3 o3 b4 o4 _ _ w4 ((unhide HK2).below (unhide HL4)) (unhide HD34) hd4 (unhide Sdx) (unhide Sdy))
  have HN4 := hide (((unhide HN1).below (unhide HBA)).below (unhide HL4))
  clear hd4 hl4 ho4
  go_wp2_with fail
  refine (unhide HMU).mono ?_
  intro e w5 hG
  have i5 := hG.int ((unhide HK2).below (unhide HL4))
  have n5 := hG.other ((unhide HK2).below (unhide HL4)) (unhide HN4) (fun e => by have := unhide HG0; have := unhide HGD; omega)
  have hb5 : Below w1.heap.size w1 w5 := hG.bl (bstep (unhide HBA) (unhide HL4)) (by have := unhide HGD; omega)
  have he := hG.1
  subst he
  have HB5 := hide (bstep (unhide HB1) hb5)
  have HSF := hide (setFrac_any _ (unhide HDV) b o g0 0 gd 0 _ _ w5 ((unhide HK).below (unhide HB5)) n5 i5 (unhide HNZ) (unhide SPN) (unhide SPD))
  clear hG i5 n5 hb5
  go_wp2_with fail
  refine (unhide HSF).mono ?_
  rintro e w6 ⟨rfl, hr, hf⟩
  have HR := hide hr
  have HF : Hid (∀ w0 : World, Below w0.heap.size w0 w → w0.heap.size ≤ b → Below w0.heap.size w0 w6) := fun w0 h0 hb => hf w0 (bstep h0 (unhide HB5)) hb
  clear hr hf
  go_wp2
  go_ret
  exact ⟨rfl, by rw [← unhide HQ]; exact unhide HR, unhide HF⟩
end Go.Proofs.YtcelbgleajpenaaGreatDoor
