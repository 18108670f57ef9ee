/- The checker's fractions divided. -/
import Derived.Test.YtcelbgleajpenaaGreatDoorB28
namespace Go.Proofs.YtcelbgleajpenaaGreatDoor
open Go.RowKit Go.Sort Go.Shelf

structure JQuo (w0 : World) (qx qy : Rat) (s : Nat × Bool × Bool) (w : World) (t : Nat → Option (Nat × Nat × Int)) (v8 v15 v13 v14 v17 v21 : Value) : Prop where
 T : Tags 2 w0 w t
 bd : s.1 ≤ 4
 a0 : s.2.1 = true → ∃ g, v8 = .pointer (some ⟨g, 0, none⟩) ∧ t 0 = some (g, 0, if 2 ≤ s.1 then qx.num * (qy.den : Int) else 0) ∧ (2 ≤ s.1 → v14 = .pointer (some ⟨g, 0, none⟩))
 n0 : 2 ≤ s.1 → s.2.1 = true
 a1 : s.2.2 = true → ∃ g, v15 = .pointer (some ⟨g, 0, none⟩) ∧ t 1 = some (g, 0, if 4 ≤ s.1 then (qx.den : Int) * qy.num else 0) ∧ (4 ≤ s.1 → v21 = .pointer (some ⟨g, 0, none⟩))
 n1 : 4 ≤ s.1 → s.2.2 = true
 d0 : 1 ≤ s.1 → ∃ b o, v13 = .pointer (some ⟨b, o, none⟩) ∧ t 2 = some (b, o, (qy.den : Int))
 d1 : 3 ≤ s.1 → ∃ b o, v17 = .pointer (some ⟨b, o, none⟩) ∧ t 3 = some (b, o, (qx.den : Int))
def nextQuo (s : Nat × Bool × Bool) (i : Nat) : Option (Nat × Bool × Bool) :=
 if i = 1 ∧ s.2.1 = false then some (s.1, true, s.2.2) else if i = 8 ∧ s.2.2 = false then some (s.1, s.2.1, true) else if i = 6 ∧ s.1 = 0 then some (1, s.2.1, s.2.2) else if i = 7 ∧ s.1 = 1 ∧ s.2.1 = true then some (2, s.2.1, s.2.2) else if i = 10 ∧ s.1 = 2 then some (3, s.2.1, s.2.2) else if i = 14 ∧ s.1 = 3 ∧ s.2.2 = true then some (4, s.2.1, s.2.2) else none
theorem checkQuo {g fin : Nat × Bool × Bool → Bool} (hb : ∀ s : Nat × Bool × Bool, 4 < s.1 → fin s = true) (h : (upto5 fun k => allB fun c0 => allB fun c1 => fin (k, c0, c1) || g (k, c0, c1)) = true) : ∀ s, fin s = false → g s = true := by
 rintro ⟨k, c0, c1⟩ hs
 have hk : k ≤ 4 := by
  rcases Nat.lt_or_ge 4 k with h1 | h1
  ·rw [hb _ h1] at hs; cases hs
  ·exact h1
 have q := allB_of (allB_of (upto5_of h k hk) c0) c1
 rw [hs, Bool.false_or] at q
 exact q
set_option maxHeartbeats 16000000 in
set_option maxRecDepth 100000 in
set_option linter.unusedSimpArgs false in
theorem rquoz_any (b o b1 o1 b2 o2 i j : Nat) (qx qy : Rat) (w : World) (k : SlotR w b o) (x : BRz w b1 o1 qx) (y : BRz w b2 o2 qy) (rx : RS qx i) (ry : RS qy j) (hij : i + j ≤ 400000) (hy : qy.num ≠ 0) :
  Calls Tryz.prog 110 #[.pointer (some ⟨b, o, none⟩), .pointer (some ⟨b1, o1, none⟩), .pointer (some ⟨b2, o2, none⟩)] w (MakesAt w b o (qx / qy)) := by
 have HX := hide x
 have HY := hide y
 have HK := hide k
 have HRX := hide rx
 have HRY := hide ry
 have HDV := hide divs_any
 have Sxn : Hid (SmH (qx.num.natAbs : Int)) := smh_pw rx.1 (by omega)
 have Syn : Hid (SmH (qy.num.natAbs : Int)) := smh_pw ry.1 (by omega)
 have Sdx : Hid (SmH (((qx.den : Int).natAbs : Nat) : Int)) := by show SmH _; rw [Int.natAbs_natCast]; exact smh_pw rx.2 (by omega)
 have Sdy : Hid (SmH (((qy.den : Int).natAbs : Nat) : Int)) := by show SmH _; rw [Int.natAbs_natCast]; exact smh_pw ry.2 (by omega)
 have SPN : Hid (SmH ((qx.num * (qy.den : Int)).natAbs : Int)) := smh_mul (i := i) (j := j) rx.1 (by rw [Int.natAbs_natCast]; exact ry.2) (by omega)
 have SPD : Hid (SmH (((qx.den : Int) * qy.num).natAbs : Int)) := smh_mul (i := i) (j := j) (by rw [Int.natAbs_natCast]; exact rx.2) ry.1 (by omega)
 have HNZ : Hid ((qx.den : Int) * qy.num ≠ 0) := Int.mul_ne_zero (by have := qx.den_pos; omega) hy
 have HQ := hide (rquo_math qx qy)
 clear x y k rx ry hij hy
 go_enter Tryz.func110, Tryz.ntmps110
 go_wp2_with fail
 refine wp_region_hold (fun _ : World => True) (by kernel_rfl) ?_
 have bd0 : Below w.heap.size w w.drew := (Below.refl _ _).drew
 obtain ⟨W0, hW0⟩ : ∃ W, w.drew = W := ⟨_, rfl⟩
 rw [hW0] at bd0 ⊢
 have hC0 : (fun _ : World => True) W0 := trivial
 have BL0 := hide bd0
 clear hW0 bd0
 refine wpHold_take (i := 0) (v := ?_) rfl (by kernel_rfl) (by kernel_rfl) (by kernel_rfl) (fun _ _ _ h => h) (Or.inl ⟨by rfl, ?_⟩) hC0 ?_
 rotate_left
 ·intro w hSw; clear hSw; go_simp; (try with_reducible rfl)
 (try simp only [List.getElem_toArray, List.getElem_cons_succ, List.getElem_cons_zero])
 (try simp only [Act.put, List.setIfInBounds_toArray, List.set_cons_zero, List.set_cons_succ])
 refine wpHold_take (i := 2) (v := ?_) rfl (by kernel_rfl) (by kernel_rfl) (by kernel_rfl) (fun _ _ _ h => h) (Or.inl ⟨by rfl, ?_⟩) hC0 ?_
 rotate_left
 ·intro w hSw; clear hSw; go_simp; (try with_reducible rfl)
 (try simp only [List.getElem_toArray, List.getElem_cons_succ, List.getElem_cons_zero])
 (try simp only [Act.put, List.setIfInBounds_toArray, List.set_cons_zero, List.set_cons_succ])
 refine wpHold_take (i := 3) (v := ?_) rfl (by kernel_rfl) (by kernel_rfl) (by kernel_rfl) (fun _ _ _ h => h) (Or.inl ⟨by rfl, ?_⟩) hC0 ?_
 rotate_left
 ·intro w hSw; clear hSw; go_simp; (try with_reducible rfl)
 (try simp only [List.getElem_toArray, List.getElem_cons_succ, List.getElem_cons_zero])
 (try simp only [Act.put, List.setIfInBounds_toArray, List.set_cons_zero, List.set_cons_succ])
 refine wpHold_take (i := 4) (v := ?_) rfl (by kernel_rfl) (by kernel_rfl) (by kernel_rfl) (fun _ _ _ h => h) (Or.inl ⟨by rfl, ?_⟩) hC0 ?_
 rotate_left
 ·intro w hSw; clear hSw; go_simp; (try with_reducible rfl)
 (try simp only [List.getElem_toArray, List.getElem_cons_succ, List.getElem_cons_zero])
 (try simp only [Act.put, List.setIfInBounds_toArray, List.set_cons_zero, List.set_cons_succ])
 refine wpHold_take (i := 5) (v := ?_) rfl (by kernel_rfl) (by kernel_rfl) (by kernel_rfl) (fun _ _ _ h => h) (Or.inl ⟨by rfl, ?_⟩) hC0 ?_
 rotate_left
 ·intro w hSw; clear hSw; go_simp; (try with_reducible rfl)
 (try simp only [List.getElem_toArray, List.getElem_cons_succ, List.getElem_cons_zero])
 (try simp only [Act.put, List.setIfInBounds_toArray, List.set_cons_zero, List.set_cons_succ])
 refine wpHold_take (i := 9) (v := ?_) rfl (by kernel_rfl) (by kernel_rfl) (by kernel_rfl) (fun _ _ _ h => h) (Or.inl ⟨by rfl, ?_⟩) hC0 ?_
 rotate_left
 ·intro w hSw; clear hSw; go_simp; (try with_reducible rfl)
 (try simp only [List.getElem_toArray, List.getElem_cons_succ, List.getElem_cons_zero])
 (try simp only [Act.put, List.setIfInBounds_toArray, List.set_cons_zero, List.set_cons_succ])
 refine wpHold_take (i := 11) (v := ?_) rfl (by kernel_rfl) (by kernel_rfl) (by kernel_rfl) (fun _ _ _ h => h) (Or.inl ⟨by rfl, ?_⟩) hC0 ?_
 rotate_left
 ·intro w hSw; clear hSw; go_simp; (try with_reducible rfl)
 (try simp only [List.getElem_toArray, List.getElem_cons_succ, List.getElem_cons_zero])
 (try simp only [Act.put, List.setIfInBounds_toArray, List.set_cons_zero, List.set_cons_succ])
 refine wpHold_take (i := 12) (v := ?_) rfl (by kernel_rfl) (by kernel_rfl) (by kernel_rfl) (fun _ _ _ h => h) (Or.inl ⟨by rfl, ?_⟩) hC0 ?_
 rotate_left
 ·intro w hSw; clear hSw; go_simp; (try with_reducible rfl)
 (try simp only [List.getElem_toArray, List.getElem_cons_succ, List.getElem_cons_zero])
 (try simp only [Act.put, List.setIfInBounds_toArray, List.set_cons_zero, List.set_cons_succ])
 refine wpHold_take (i := 13) (v := ?_) rfl (by kernel_rfl) (by kernel_rfl) (by kernel_rfl) (fun _ _ _ h => h) (Or.inl ⟨by rfl, ?_⟩) hC0 ?_
 rotate_left
 ·intro w hSw; clear hSw; go_simp; (try with_reducible rfl)
 (try simp only [List.getElem_toArray, List.getElem_cons_succ, List.getElem_cons_zero])
 (try simp only [Act.put, List.setIfInBounds_toArray, List.set_cons_zero, List.set_cons_succ])
 refine wpHoldz_listed (n := 8) (L' := (fun s : Nat × Bool × Bool => #[true, s.2.1, true, true, true, true, decide (1 ≤ s.1), decide (2 ≤ s.1), s.2.2, true, decide (3 ≤ s.1), true, true, true, decide (4 ≤ s.1), false, false]) (0, false, false)) (by kernel_rfl) (by kernel_rfl) ?_
 refine wpHoldz_name (fun a0 ha0 => ?_)
 refine walk_any (fun s : Nat × Bool × Bool => #[true, s.2.1, true, true, true, true, decide (1 ≤ s.1), decide (2 ≤ s.1), s.2.2, true, decide (3 ≤ s.1), true, true, true, decide (4 ≤ s.1), false, false]) (fun s : Nat × Bool × Bool => 8 - s.1 - s.2.1.toNat - s.2.2.toNat) (fun s : Nat × Bool × Bool => decide (4 < s.1) || (decide (4 ≤ s.1))) nextQuo (fun s na W => ∃ t v8 v15 v13 v14 v17 v21, na = ((((((a0.put (some 8) v8).put (some 15) v15).put (some 13) v13).put (some 14) v14).put (some 17) v17).put (some 21) v21) ∧ JQuo W0 qx qy s W t v8 v15 v13 v14 v17 v21) ?_ ?_ ?_ ?_ 8 (0, false, false) rfl _ _ ⟨fun _ => none, undef, undef, undef, undef, undef, undef, by subst ha0; rfl, Tags.start _ _, by decide, (fun h => by cases h), (fun h => absurd h (by decide)), (fun h => by cases h), (fun h => absurd h (by decide)), (fun h => absurd h (by decide)), (fun h => absurd h (by decide))⟩
 ·clear ha0
  intro s hs
  exact not_of (checkQuo (g := fun s => !(Region.ready _ _ ((fun s : Nat × Bool × Bool => #[true, s.2.1, true, true, true, true, decide (1 ≤ s.1), decide (2 ≤ s.1), s.2.2, true, decide (3 ≤ s.1), true, true, true, decide (4 ≤ s.1), false, false]) s)).isEmpty) (fin := (fun s : Nat × Bool × Bool => decide (4 < s.1) || (decide (4 ≤ s.1)))) (fun s h => by simp [h]) (by kernel_rfl) s hs)
 ·clear ha0
  exact checkQuo (fun s h => by simp [h]) (by kernel_rfl)
 ·rintro ⟨k, c0, c1⟩ i s' hn na wv ⟨t, v8, v15, v13, v14, v17, v21, rfl, J⟩
  subst ha0
  unfold nextQuo at hn
  simp only at hn
  by_cases h : i = 1 ∧ c0 = false
  ·rw [if_pos h] at hn
   obtain ⟨rfl, rfl⟩ := h
   obtain rfl := Option.some.inj hn
   refine wpOp_step rfl (fun K hK => ?_)
   (try simp only [Act.put, List.setIfInBounds_toArray, List.set_cons_zero, List.set_cons_succ] at hK ⊢)
   (try simp only [List.getElem_toArray, List.getElem_cons_succ, List.getElem_cons_zero])
   go_simp
   exact hK _ _ ⟨trivial, upd t 0 (wv.heap.size, 0, 0), .pointer (some ⟨wv.heap.size, 0, none⟩), v15, v13, v14, v17, v21, rfl, J.T.new 0, J.bd, fun _ => ⟨wv.heap.size, rfl, by rw [if_neg (show ¬ 2 ≤ k from fun h => absurd (J.n0 h) (by simp))]; simp [upd], fun h => absurd (J.n0 h) (by simp)⟩, fun _ => rfl, by simpa [upd] using J.a1, J.n1, by simpa [upd] using J.d0, by simpa [upd] using J.d1⟩
  rw [if_neg h] at hn
  clear h
  by_cases h : i = 8 ∧ c1 = false
  ·rw [if_pos h] at hn
   obtain ⟨rfl, rfl⟩ := h
   obtain rfl := Option.some.inj hn
   refine wpOp_step rfl (fun K hK => ?_)
   (try simp only [Act.put, List.setIfInBounds_toArray, List.set_cons_zero, List.set_cons_succ] at hK ⊢)
   (try simp only [List.getElem_toArray, List.getElem_cons_succ, List.getElem_cons_zero])
   go_simp
   exact hK _ _ ⟨trivial, upd t 1 (wv.heap.size, 0, 0), v8, .pointer (some ⟨wv.heap.size, 0, none⟩), v13, v14, v17, v21, rfl, J.T.new 1, J.bd, by simpa [upd] using J.a0, J.n0, fun _ => ⟨wv.heap.size, rfl, by rw [if_neg (show ¬ 4 ≤ k from fun h => absurd (J.n1 h) (by simp))]; simp [upd], fun h => absurd (J.n1 h) (by simp)⟩, fun _ => rfl, by simpa [upd] using J.d0, by simpa [upd] using J.d1⟩
  rw [if_neg h] at hn
  clear h
  by_cases h : i = 6 ∧ k = 0
  ·rw [if_pos h] at hn
   obtain ⟨rfl, rfl⟩ := h
   obtain rfl := Option.some.inj hn
   refine wpOp_step rfl (fun K hK => ?_)
   (try simp only [Act.put, List.setIfInBounds_toArray, List.set_cons_zero, List.set_cons_succ] at hK ⊢)
   (try simp only [List.getElem_toArray, List.getElem_cons_succ, List.getElem_cons_zero])
   go_simp
   refine (denz_any b2 o2 qy wv ((unhide HY).below (bstep (unhide BL0) J.T.bl))).mono ?_
   rintro e w' ⟨b', o', rfl, hd, hl, ho⟩
   exact hK _ _ ⟨trivial, upd t 2 (b', o', (qy.den : Int)), v8, v15, _, v14, v17, v21, rfl, J.T.den (by decide) (Nat.lt_of_lt_of_le (unhide HY).1.lt (unhide BL0).size) hd hl (ho.imp And.left id), by simp, by simpa [upd] using J.a0, (fun h => absurd h (by simp)), by simpa [upd] using J.a1, (fun h => absurd h (by simp)), fun _ => ⟨b', o', rfl, by simp [upd]⟩, (fun h => absurd h (by simp))⟩
  rw [if_neg h] at hn
  clear h
  by_cases h : i = 7 ∧ k = 1 ∧ c0 = true
  ·rw [if_pos h] at hn
   obtain ⟨rfl, rfl, rfl⟩ := h
   obtain rfl := Option.some.inj hn
   obtain ⟨g, rfl, tg, _⟩ := J.a0 rfl
   obtain ⟨bd2, od2, rfl, td2⟩ := J.d0 (by simp)
   refine wpOp_step rfl (fun K hK => ?_)
   (try simp only [Act.put, List.setIfInBounds_toArray, List.set_cons_zero, List.set_cons_succ] at hK ⊢)
   (try simp only [List.getElem_toArray, List.getElem_cons_succ, List.getElem_cons_zero])
   go_simp
   refine (imul_any g 0 b1 o1 bd2 od2 _ _ wv (J.T.int _ _ _ _ tg).slot ((unhide HX).1.below (bstep (unhide BL0) J.T.bl)) (J.T.int _ _ _ _ td2) (unhide Sxn) (unhide Sdy)).mono ?_
   intro e w' hG
   have T' := J.T.gives (by decide) tg hG
   have he := hG.1
   subst he
   exact hK _ _ ⟨trivial, upd t 0 (g, 0, qx.num * (qy.den : Int)), .pointer (some ⟨g, 0, none⟩), v15, .pointer (some ⟨bd2, od2, none⟩), .pointer (some ⟨g, 0, none⟩), v17, v21, rfl, T', by simp, fun _ => ⟨g, rfl, by simp [upd], fun _ => rfl⟩, fun _ => rfl, by simpa [upd] using J.a1, (fun h => absurd h (by simp)), fun _ => ⟨bd2, od2, rfl, by simpa [upd] using td2⟩, (fun h => absurd h (by simp))⟩
  rw [if_neg h] at hn
  clear h
  by_cases h : i = 10 ∧ k = 2
  ·rw [if_pos h] at hn
   obtain ⟨rfl, rfl⟩ := h
   obtain rfl := Option.some.inj hn
   refine wpOp_step rfl (fun K hK => ?_)
   (try simp only [Act.put, List.setIfInBounds_toArray, List.set_cons_zero, List.set_cons_succ] at hK ⊢)
   (try simp only [List.getElem_toArray, List.getElem_cons_succ, List.getElem_cons_zero])
   go_simp
   refine (denz_any b1 o1 qx wv ((unhide HX).below (bstep (unhide BL0) J.T.bl))).mono ?_
   rintro e w' ⟨b', o', rfl, hd, hl, ho⟩
   exact hK _ _ ⟨trivial, upd t 3 (b', o', (qx.den : Int)), v8, v15, v13, v14, _, v21, rfl, J.T.den (by decide) (Nat.lt_of_lt_of_le (unhide HX).1.lt (unhide BL0).size) hd hl (ho.imp And.left id), by simp, by simpa [upd] using J.a0, by simpa using J.n0, by simpa [upd] using J.a1, (fun h => absurd h (by simp)), by simpa [upd] using J.d0, fun _ => ⟨b', o', rfl, by simp [upd]⟩⟩
  rw [if_neg h] at hn
  clear h
  by_cases h : i = 14 ∧ k = 3 ∧ c1 = true
  ·rw [if_pos h] at hn
   obtain ⟨rfl, rfl, rfl⟩ := h
   obtain rfl := Option.some.inj hn
   obtain ⟨g, rfl, tg, _⟩ := J.a1 rfl
   obtain ⟨bd1, od1, rfl, td1⟩ := J.d1 (by simp)
   refine wpOp_step rfl (fun K hK => ?_)
   (try simp only [Act.put, List.setIfInBounds_toArray, List.set_cons_zero, List.set_cons_succ] at hK ⊢)
   (try simp only [List.getElem_toArray, List.getElem_cons_succ, List.getElem_cons_zero])
   go_simp
   refine (imul_any g 0 bd1 od1 b2 o2 _ _ wv (J.T.int _ _ _ _ tg).slot (J.T.int _ _ _ _ td1) ((unhide HY).1.below (bstep (unhide BL0) J.T.bl)) (unhide Sdx) (unhide Syn)).mono ?_
   intro e w' hG
   have T' := J.T.gives (by decide) tg hG
   have he := hG.1
   subst he
   exact hK _ _ ⟨trivial, upd t 1 (g, 0, (qx.den : Int) * qy.num), v8, .pointer (some ⟨g, 0, none⟩), v13, v14, .pointer (some ⟨bd1, od1, none⟩), .pointer (some ⟨g, 0, none⟩), rfl, T', by simp, by simpa [upd] using J.a0, by simpa using J.n0, fun _ => ⟨g, rfl, by simp [upd], fun _ => rfl⟩, fun _ => rfl, by simpa [upd] using J.d0, fun _ => ⟨bd1, od1, rfl, by simpa [upd] using td1⟩⟩
  rw [if_neg h] at hn
  clear h
  cases hn
 ·rintro ⟨k, c0, c1⟩ hfin na wv ⟨t, v8, v15, v13, v14, v17, v21, rfl, J⟩
  subst ha0
  have hbd : k ≤ 4 := J.bd
  simp only [Bool.or_eq_true, Bool.and_eq_true, decide_eq_true_eq] at hfin
  obtain rfl : k = 4 := by omega
  obtain rfl : c0 = true := J.n0 (by simp)
  obtain ⟨g0, rfl, t0, hr0⟩ := J.a0 rfl
  obtain rfl := hr0 (by simp)
  rw [if_pos (by simp)] at t0
  obtain rfl : c1 = true := J.n1 (by simp)
  obtain ⟨g1, rfl, t1, hr1⟩ := J.a1 rfl
  obtain rfl := hr1 (by simp)
  rw [if_pos (by simp)] at t1
  (try simp only [Act.put, List.setIfInBounds_toArray, List.set_cons_zero, List.set_cons_succ])
  have JT := J.T
  clear J hfin hbd hC0
  refine wpHold_one (k := 15) (by kernel_rfl) rfl (fun K hK => ?_)
  (try simp only [List.getElem_toArray, List.getElem_cons_succ, List.getElem_cons_zero])
  go_simp
  refine (setFrac_any _ (unhide HDV) b o g0 0 g1 0 _ _ wv ((unhide HK).below (bstep (unhide BL0) JT.bl)) (JT.int _ _ _ _ t0) (JT.int _ _ _ _ t1) (unhide HNZ) (unhide SPN) (unhide SPD)).mono ?_
  rintro e wl ⟨rfl, hr, hf⟩
  have HR := hide hr
  have HFF : Hid (∀ w0 : World, Below w0.heap.size w0 w → w0.heap.size ≤ b → Below w0.heap.size w0 wl) := fun w0 h0 hb => hf w0 (bstep h0 (bstep (unhide BL0) JT.bl)) hb
  clear hr hf
  refine hK.out _ _ trivial ?_
  clear hK K
  (try simp only [Act.put, List.setIfInBounds_toArray, List.set_cons_zero, List.set_cons_succ])
  refine wpHold_one (k := 16) (by kernel_rfl) rfl (fun K hK => ?_)
  (try simp only [List.getElem_toArray, List.getElem_cons_succ, List.getElem_cons_zero])
  go_simp
  refine hK.out _ _ trivial ?_
  clear hK K
  (try simp only [Act.put, List.setIfInBounds_toArray, List.set_cons_zero, List.set_cons_succ])
  refine wpHold_done (by kernel_rfl) ?_ _
  clear JT t0 t1
  go_wp2
  go_ret
  exact ⟨rfl, by rw [← unhide HQ]; exact unhide HR, unhide HFF⟩
end Go.Proofs.YtcelbgleajpenaaGreatDoor
