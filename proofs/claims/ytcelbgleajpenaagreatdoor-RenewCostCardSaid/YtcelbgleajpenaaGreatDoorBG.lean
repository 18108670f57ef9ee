/- The checker's fractions compared and written; the document's sums, differences, products, quotients; what the law asks of one fraction. -/
import Derived.Test.YtcelbgleajpenaaGreatDoorB28
import Derived.Test.YtcelbgleajpenaaGreatDoorB29
import Derived.Test.YtcelbgleajpenaaGreatDoorBH
namespace Go.Proofs.YtcelbgleajpenaaGreatDoor
open Go.RowKit Go.Sort Go.Shelf

structure JMul (w0 : World) (qx qy : Rat) (s : Nat × Bool × Bool) (w : World) (t : Nat → Option (Nat × Nat × Int)) (v8 v16 v15 v18 v20 v21 : Value) : Prop where
 T : Tags 2 w0 w t
 bd : s.1 ≤ 4
 a0 : s.2.1 = true → ∃ g, v8 = .pointer (some ⟨g, 0, none⟩) ∧ t 0 = some (g, 0, if 1 ≤ s.1 then qx.num * qy.num else 0) ∧ (1 ≤ s.1 → v15 = .pointer (some ⟨g, 0, none⟩))
 n0 : 1 ≤ s.1 → s.2.1 = true
 a1 : s.2.2 = true → ∃ g, v16 = .pointer (some ⟨g, 0, none⟩) ∧ t 1 = some (g, 0, if 4 ≤ s.1 then (qx.den : Int) * (qy.den : Int) else 0) ∧ (4 ≤ s.1 → v21 = .pointer (some ⟨g, 0, none⟩))
 n1 : 4 ≤ s.1 → s.2.2 = true
 d0 : 2 ≤ s.1 → ∃ b o, v18 = .pointer (some ⟨b, o, none⟩) ∧ t 2 = some (b, o, (qx.den : Int))
 d1 : 3 ≤ s.1 → ∃ b o, v20 = .pointer (some ⟨b, o, none⟩) ∧ t 3 = some (b, o, (qy.den : Int))
def nextMul (s : Nat × Bool × Bool) (i : Nat) : Option (Nat × Bool × Bool) :=
 if i = 1 ∧ s.2.1 = false then some (s.1, true, s.2.2) else if i = 9 ∧ s.2.2 = false then some (s.1, s.2.1, true) else if i = 8 ∧ s.1 = 0 ∧ s.2.1 = true then some (1, s.2.1, s.2.2) else if i = 11 ∧ s.1 = 1 then some (2, s.2.1, s.2.2) else if i = 13 ∧ s.1 = 2 then some (3, s.2.1, s.2.2) else if i = 14 ∧ s.1 = 3 ∧ s.2.2 = true then some (4, s.2.1, s.2.2) else none
theorem checkMul {g fin : Nat × Bool × Bool → Bool} (hb : ∀ s : Nat × Bool × Bool, 4 < s.1 → fin s = true) (h : (upto5 fun k => allB fun c0 => allB fun c1 => fin (k, c0, c1) || g (k, c0, c1)) = true) : ∀ s, fin s = false → g s = true := by
 rintro ⟨k, c0, c1⟩ hs
 have hk : k ≤ 4 := by
  rcases Nat.lt_or_ge 4 k with h1 | h1
  ·rw [hb _ h1] at hs; cases hs
  ·exact h1
 have q := allB_of (allB_of (upto5_of h k hk) c0) c1
 rw [hs, Bool.false_or] at q
 exact q
set_option maxHeartbeats 16000000 in
set_option maxRecDepth 100000 in
set_option linter.unusedSimpArgs false in
theorem rmul_any (b o b1 o1 b2 o2 i j : Nat) (qx qy : Rat) (w : World) (k : SlotR w b o) (x : BRz w b1 o1 qx) (y : BRz w b2 o2 qy) (rx : RS qx i) (ry : RS qy j) (hij : i + j ≤ 400000) :
  Calls Tryz.prog 87 #[.pointer (some ⟨b, o, none⟩), .pointer (some ⟨b1, o1, none⟩), .pointer (some ⟨b2, o2, none⟩)] w (MakesAt w b o (qx * qy)) := by
 have HX := hide x
 have HY := hide y
 have HK := hide k
 have HRX := hide rx
 have HRY := hide ry
 have HDV := hide divs_any
 have Sxn : Hid (SmH (qx.num.natAbs : Int)) := smh_pw rx.1 (by omega)
 have Syn : Hid (SmH (qy.num.natAbs : Int)) := smh_pw ry.1 (by omega)
 have Sdx : Hid (SmH (((qx.den : Int).natAbs : Nat) : Int)) := by show SmH _; rw [Int.natAbs_natCast]; exact smh_pw rx.2 (by omega)
 have Sdy : Hid (SmH (((qy.den : Int).natAbs : Nat) : Int)) := by show SmH _; rw [Int.natAbs_natCast]; exact smh_pw ry.2 (by omega)
 have SPN : Hid (SmH ((qx.num * qy.num).natAbs : Int)) := smh_mul (i := i) (j := j) rx.1 ry.1 (by omega)
 have SPD : Hid (SmH (((qx.den : Int) * (qy.den : Int)).natAbs : Int)) := smh_mul (i := i) (j := j) (by rw [Int.natAbs_natCast]; exact rx.2) (by rw [Int.natAbs_natCast]; exact ry.2) (by omega)
 have HNZ : Hid ((qx.den : Int) * (qy.den : Int) ≠ 0) := Int.mul_ne_zero (by have := qx.den_pos; omega) (by have := qy.den_pos; omega)
 have HQ := hide (rmul_math qx qy)
 clear x y k rx ry hij
 go_enter Tryz.func87, Tryz.ntmps87
 go_wp2_with fail
 refine wp_region_hold (fun _ : World => True) (by kernel_rfl) ?_
 have bd0 : Below w.heap.size w w.drew := (Below.refl _ _).drew
 obtain ⟨W0, hW0⟩ : ∃ W, w.drew = W := ⟨_, rfl⟩
 rw [hW0] at bd0 ⊢
 have hC0 : (fun _ : World => True) W0 := trivial
 have BL0 := hide bd0
 clear hW0 bd0
 refine wpHold_take (i := 0) (v := ?_) rfl (by kernel_rfl) (by kernel_rfl) (by kernel_rfl) (fun _ _ _ h => h) (Or.inl ⟨by rfl, ?_⟩) hC0 ?_
 rotate_left
 ·intro w hSw; clear hSw; go_simp; (try with_reducible rfl)
 (try simp only [List.getElem_toArray, List.getElem_cons_succ, List.getElem_cons_zero])
 (try simp only [Act.put, List.setIfInBounds_toArray, List.set_cons_zero, List.set_cons_succ])
 refine wpHold_take (i := 2) (v := ?_) rfl (by kernel_rfl) (by kernel_rfl) (by kernel_rfl) (fun _ _ _ h => h) (Or.inl ⟨by rfl, ?_⟩) hC0 ?_
 rotate_left
 ·intro w hSw; clear hSw; go_simp; (try with_reducible rfl)
 (try simp only [List.getElem_toArray, List.getElem_cons_succ, List.getElem_cons_zero])
 (try simp only [Act.put, List.setIfInBounds_toArray, List.set_cons_zero, List.set_cons_succ])
 refine wpHold_take (i := 3) (v := ?_) rfl (by kernel_rfl) (by kernel_rfl) (by kernel_rfl) (fun _ _ _ h => h) (Or.inl ⟨by rfl, ?_⟩) hC0 ?_
 rotate_left
 ·intro w hSw; clear hSw; go_simp; (try with_reducible rfl)
 (try simp only [List.getElem_toArray, List.getElem_cons_succ, List.getElem_cons_zero])
 (try simp only [Act.put, List.setIfInBounds_toArray, List.set_cons_zero, List.set_cons_succ])
 refine wpHold_take (i := 4) (v := ?_) rfl (by kernel_rfl) (by kernel_rfl) (by kernel_rfl) (fun _ _ _ h => h) (Or.inl ⟨by rfl, ?_⟩) hC0 ?_
 rotate_left
 ·intro w hSw; clear hSw; go_simp; (try with_reducible rfl)
 (try simp only [List.getElem_toArray, List.getElem_cons_succ, List.getElem_cons_zero])
 (try simp only [Act.put, List.setIfInBounds_toArray, List.set_cons_zero, List.set_cons_succ])
 refine wpHold_take (i := 5) (v := ?_) rfl (by kernel_rfl) (by kernel_rfl) (by kernel_rfl) (fun _ _ _ h => h) (Or.inl ⟨by rfl, ?_⟩) hC0 ?_
 rotate_left
 ·intro w hSw; clear hSw; go_simp; (try with_reducible rfl)
 (try simp only [List.getElem_toArray, List.getElem_cons_succ, List.getElem_cons_zero])
 (try simp only [Act.put, List.setIfInBounds_toArray, List.set_cons_zero, List.set_cons_succ])
 refine wpHold_take (i := 6) (v := ?_) rfl (by kernel_rfl) (by kernel_rfl) (by kernel_rfl) (fun _ _ _ h => h) (Or.inl ⟨by rfl, ?_⟩) hC0 ?_
 rotate_left
 ·intro w hSw; clear hSw; go_simp; (try with_reducible rfl)
 (try simp only [List.getElem_toArray, List.getElem_cons_succ, List.getElem_cons_zero])
 (try simp only [Act.put, List.setIfInBounds_toArray, List.set_cons_zero, List.set_cons_succ])
 refine wpHold_take (i := 7) (v := ?_) rfl (by kernel_rfl) (by kernel_rfl) (by kernel_rfl) (fun _ _ _ h => h) (Or.inl ⟨by rfl, ?_⟩) hC0 ?_
 rotate_left
 ·intro w hSw; clear hSw; go_simp; (try with_reducible rfl)
 (try simp only [List.getElem_toArray, List.getElem_cons_succ, List.getElem_cons_zero])
 (try simp only [Act.put, List.setIfInBounds_toArray, List.set_cons_zero, List.set_cons_succ])
 refine wpHold_take (i := 10) (v := ?_) rfl (by kernel_rfl) (by kernel_rfl) (by kernel_rfl) (fun _ _ _ h => h) (Or.inl ⟨by rfl, ?_⟩) hC0 ?_
 rotate_left
 ·intro w hSw; clear hSw; go_simp; (try with_reducible rfl)
 (try simp only [List.getElem_toArray, List.getElem_cons_succ, List.getElem_cons_zero])
 (try simp only [Act.put, List.setIfInBounds_toArray, List.set_cons_zero, List.set_cons_succ])
 refine wpHold_take (i := 12) (v := ?_) rfl (by kernel_rfl) (by kernel_rfl) (by kernel_rfl) (fun _ _ _ h => h) (Or.inl ⟨by rfl, ?_⟩) hC0 ?_
 rotate_left
 ·intro w hSw; clear hSw; go_simp; (try with_reducible rfl)
 (try simp only [List.getElem_toArray, List.getElem_cons_succ, List.getElem_cons_zero])
 (try simp only [Act.put, List.setIfInBounds_toArray, List.set_cons_zero, List.set_cons_succ])
 refine wpHoldz_listed (n := 8) (L' := (fun s : Nat × Bool × Bool => #[true, s.2.1, true, true, true, true, true, true, decide (1 ≤ s.1), s.2.2, true, decide (2 ≤ s.1), true, decide (3 ≤ s.1), decide (4 ≤ s.1), false, false]) (0, false, false)) (by kernel_rfl) (by kernel_rfl) ?_
 refine wpHoldz_name (fun a0 ha0 => ?_)
 refine walk_any (fun s : Nat × Bool × Bool => #[true, s.2.1, true, true, true, true, true, true, decide (1 ≤ s.1), s.2.2, true, decide (2 ≤ s.1), true, decide (3 ≤ s.1), decide (4 ≤ s.1), false, false]) (fun s : Nat × Bool × Bool => 8 - s.1 - s.2.1.toNat - s.2.2.toNat) (fun s : Nat × Bool × Bool => decide (4 < s.1) || (decide (4 ≤ s.1))) nextMul (fun s na W => ∃ t v8 v16 v15 v18 v20 v21, na = ((((((a0.put (some 8) v8).put (some 16) v16).put (some 15) v15).put (some 18) v18).put (some 20) v20).put (some 21) v21) ∧ JMul W0 qx qy s W t v8 v16 v15 v18 v20 v21) ?_ ?_ ?_ ?_ 8 (0, false, false) rfl _ _ ⟨fun _ => none, undef, undef, undef, undef, undef, undef, by subst ha0; rfl, Tags.start _ _, by decide, (fun h => by cases h), (fun h => absurd h (by decide)), (fun h => by cases h), (fun h => absurd h (by decide)), (fun h => absurd h (by decide)), (fun h => absurd h (by decide))⟩
 ·clear ha0
  intro s hs
  exact not_of (checkMul (g := fun s => !(Region.ready _ _ ((fun s : Nat × Bool × Bool => #[true, s.2.1, true, true, true, true, true, true, decide (1 ≤ s.1), s.2.2, true, decide (2 ≤ s.1), true, decide (3 ≤ s.1), decide (4 ≤ s.1), false, false]) s)).isEmpty) (fin := (fun s : Nat × Bool × Bool => decide (4 < s.1) || (decide (4 ≤ s.1)))) (fun s h => by simp [h]) (by kernel_rfl) s hs)
 ·clear ha0
  exact checkMul (fun s h => by simp [h]) (by kernel_rfl)
 ·rintro ⟨k, c0, c1⟩ i s' hn na wv ⟨t, v8, v16, v15, v18, v20, v21, rfl, J⟩
  subst ha0
  unfold nextMul at hn
  simp only at hn
  by_cases h : i = 1 ∧ c0 = false
  ·rw [if_pos h] at hn
   obtain ⟨rfl, rfl⟩ := h
   obtain rfl := Option.some.inj hn
   refine wpOp_step rfl (fun K hK => ?_)
   (try simp only [Act.put, List.setIfInBounds_toArray, List.set_cons_zero, List.set_cons_succ] at hK ⊢)
   (try simp only [List.getElem_toArray, List.getElem_cons_succ, List.getElem_cons_zero])
   go_simp
   exact hK _ _ ⟨trivial, upd t 0 (wv.heap.size, 0, 0), .pointer (some ⟨wv.heap.size, 0, none⟩), v16, v15, v18, v20, v21, rfl, J.T.new 0, J.bd, fun _ => ⟨wv.heap.size, rfl, by rw [if_neg (show ¬ 1 ≤ k from fun h => absurd (J.n0 h) (by simp))]; simp [upd], fun h => absurd (J.n0 h) (by simp)⟩, fun _ => rfl, by simpa [upd] using J.a1, J.n1, by simpa [upd] using J.d0, by simpa [upd] using J.d1⟩
  rw [if_neg h] at hn
  clear h
  by_cases h : i = 9 ∧ c1 = false
  ·rw [if_pos h] at hn
   obtain ⟨rfl, rfl⟩ := h
   obtain rfl := Option.some.inj hn
   refine wpOp_step rfl (fun K hK => ?_)
   (try simp only [Act.put, List.setIfInBounds_toArray, List.set_cons_zero, List.set_cons_succ] at hK ⊢)
   (try simp only [List.getElem_toArray, List.getElem_cons_succ, List.getElem_cons_zero])
   go_simp
   exact hK _ _ ⟨trivial, upd t 1 (wv.heap.size, 0, 0), v8, .pointer (some ⟨wv.heap.size, 0, none⟩), v15, v18, v20, v21, rfl, J.T.new 1, J.bd, by simpa [upd] using J.a0, J.n0, fun _ => ⟨wv.heap.size, rfl, by rw [if_neg (show ¬ 4 ≤ k from fun h => absurd (J.n1 h) (by simp))]; simp [upd], fun h => absurd (J.n1 h) (by simp)⟩, fun _ => rfl, by simpa [upd] using J.d0, by simpa [upd] using J.d1⟩
  rw [if_neg h] at hn
  clear h
  by_cases h : i = 8 ∧ k = 0 ∧ c0 = true
  ·rw [if_pos h] at hn
   obtain ⟨rfl, rfl, rfl⟩ := h
   obtain rfl := Option.some.inj hn
   obtain ⟨g, rfl, tg, _⟩ := J.a0 rfl
   refine wpOp_step rfl (fun K hK => ?_)
   (try simp only [Act.put, List.setIfInBounds_toArray, List.set_cons_zero, List.set_cons_succ] at hK ⊢)
   (try simp only [List.getElem_toArray, List.getElem_cons_succ, List.getElem_cons_zero])
   go_simp
   refine (imul_any g 0 b1 o1 b2 o2 _ _ wv (J.T.int _ _ _ _ tg).slot ((unhide HX).1.below (bstep (unhide BL0) J.T.bl)) ((unhide HY).1.below (bstep (unhide BL0) J.T.bl)) (unhide Sxn) (unhide Syn)).mono ?_
   intro e w' hG
   have T' := J.T.gives (by decide) tg hG
   have he := hG.1
   subst he
   exact hK _ _ ⟨trivial, upd t 0 (g, 0, qx.num * qy.num), .pointer (some ⟨g, 0, none⟩), v16, .pointer (some ⟨g, 0, none⟩), v18, v20, v21, rfl, T', by simp, fun _ => ⟨g, rfl, by simp [upd], fun _ => rfl⟩, fun _ => rfl, by simpa [upd] using J.a1, (fun h => absurd h (by simp)), (fun h => absurd h (by simp)), (fun h => absurd h (by simp))⟩
  rw [if_neg h] at hn
  clear h
  by_cases h : i = 11 ∧ k = 1
  ·rw [if_pos h] at hn
   obtain ⟨rfl, rfl⟩ := h
   obtain rfl := Option.some.inj hn
   refine wpOp_step rfl (fun K hK => ?_)
   (try simp only [Act.put, List.setIfInBounds_toArray, List.set_cons_zero, List.set_cons_succ] at hK ⊢)
   (try simp only [List.getElem_toArray, List.getElem_cons_succ, List.getElem_cons_zero])
   go_simp
   refine (denz_any b1 o1 qx wv ((unhide HX).below (bstep (unhide BL0) J.T.bl))).mono ?_
   rintro e w' ⟨b', o', rfl, hd, hl, ho⟩
   exact hK _ _ ⟨trivial, upd t 2 (b', o', (qx.den : Int)), v8, v16, v15, _, v20, v21, rfl, J.T.den (by decide) (Nat.lt_of_lt_of_le (unhide HX).1.lt (unhide BL0).size) hd hl (ho.imp And.left id), by simp, by simpa [upd] using J.a0, by simpa using J.n0, by simpa [upd] using J.a1, (fun h => absurd h (by simp)), fun _ => ⟨b', o', rfl, by simp [upd]⟩, (fun h => absurd h (by simp))⟩
  rw [if_neg h] at hn
  clear h
  by_cases h : i = 13 ∧ k = 2
  ·rw [if_pos h] at hn
   obtain ⟨rfl, rfl⟩ := h
   obtain rfl := Option.some.inj hn
   refine wpOp_step rfl (fun K hK => ?_)
   (try simp only [Act.put, List.setIfInBounds_toArray, List.set_cons_zero, List.set_cons_succ] at hK ⊢)
   (try simp only [List.getElem_toArray, List.getElem_cons_succ, List.getElem_cons_zero])
   go_simp
   refine (denz_any b2 o2 qy wv ((unhide HY).below (bstep (unhide BL0) J.T.bl))).mono ?_
   rintro e w' ⟨b', o', rfl, hd, hl, ho⟩
   exact hK _ _ ⟨trivial, upd t 3 (b', o', (qy.den : Int)), v8, v16, v15, v18, _, v21, rfl, J.T.den (by decide) (Nat.lt_of_lt_of_le (unhide HY).1.lt (unhide BL0).size) hd hl (ho.imp And.left id), by simp, by simpa [upd] using J.a0, by simpa using J.n0, by simpa [upd] using J.a1, (fun h => absurd h (by simp)), by simpa [upd] using J.d0, fun _ => ⟨b', o', rfl, by simp [upd]⟩⟩
  rw [if_neg h] at hn
  clear h
  by_cases h : i = 14 ∧ k = 3 ∧ c1 = true
  ·rw [if_pos h] at hn
   obtain ⟨rfl, rfl, rfl⟩ := h
   obtain rfl := Option.some.inj hn
   obtain ⟨g, rfl, tg, _⟩ := J.a1 rfl
   obtain ⟨bd1, od1, rfl, td1⟩ := J.d0 (by simp)
   obtain ⟨bd2, od2, rfl, td2⟩ := J.d1 (by simp)
   refine wpOp_step rfl (fun K hK => ?_)
   (try simp only [Act.put, List.setIfInBounds_toArray, List.set_cons_zero, List.set_cons_succ] at hK ⊢)
   (try simp only [List.getElem_toArray, List.getElem_cons_succ, List.getElem_cons_zero])
   go_simp
   refine (imul_any g 0 bd1 od1 bd2 od2 _ _ wv (J.T.int _ _ _ _ tg).slot (J.T.int _ _ _ _ td1) (J.T.int _ _ _ _ td2) (unhide Sdx) (unhide Sdy)).mono ?_
   intro e w' hG
   have T' := J.T.gives (by decide) tg hG
   have he := hG.1
   subst he
   exact hK _ _ ⟨trivial, upd t 1 (g, 0, (qx.den : Int) * (qy.den : Int)), v8, .pointer (some ⟨g, 0, none⟩), v15, .pointer (some ⟨bd1, od1, none⟩), .pointer (some ⟨bd2, od2, none⟩), .pointer (some ⟨g, 0, none⟩), rfl, T', by simp, by simpa [upd] using J.a0, by simpa using J.n0, fun _ => ⟨g, rfl, by simp [upd], fun _ => rfl⟩, fun _ => rfl, fun _ => ⟨bd1, od1, rfl, by simpa [upd] using td1⟩, fun _ => ⟨bd2, od2, rfl, by simpa [upd] using td2⟩⟩
  rw [if_neg h] at hn
  clear h
  cases hn
 ·rintro ⟨k, c0, c1⟩ hfin na wv ⟨t, v8, v16, v15, v18, v20, v21, rfl, J⟩
  subst ha0
  have hbd : k ≤ 4 := J.bd
  simp only [Bool.or_eq_true, Bool.and_eq_true, decide_eq_true_eq] at hfin
  obtain rfl : k = 4 := by omega
  obtain rfl : c0 = true := J.n0 (by simp)
  obtain ⟨g0, rfl, t0, hr0⟩ := J.a0 rfl
  obtain rfl := hr0 (by simp)
  rw [if_pos (by simp)] at t0
  obtain rfl : c1 = true := J.n1 (by simp)
  obtain ⟨g1, rfl, t1, hr1⟩ := J.a1 rfl
  obtain rfl := hr1 (by simp)
  rw [if_pos (by simp)] at t1
  (try simp only [Act.put, List.setIfInBounds_toArray, List.set_cons_zero, List.set_cons_succ])
  have JT := J.T
  clear J hfin hbd hC0
  refine wpHold_one (k := 15) (by kernel_rfl) rfl (fun K hK => ?_)
  (try simp only [List.getElem_toArray, List.getElem_cons_succ, List.getElem_cons_zero])
  go_simp
  refine (setFrac_any _ (unhide HDV) b o g0 0 g1 0 _ _ wv ((unhide HK).below (bstep (unhide BL0) JT.bl)) (JT.int _ _ _ _ t0) (JT.int _ _ _ _ t1) (unhide HNZ) (unhide SPN) (unhide SPD)).mono ?_
  rintro e wl ⟨rfl, hr, hf⟩
  have HR := hide hr
  have HFF : Hid (∀ w0 : World, Below w0.heap.size w0 w → w0.heap.size ≤ b → Below w0.heap.size w0 wl) := fun w0 h0 hb => hf w0 (bstep h0 (bstep (unhide BL0) JT.bl)) hb
  clear hr hf
  refine hK.out _ _ trivial ?_
  clear hK K
  (try simp only [Act.put, List.setIfInBounds_toArray, List.set_cons_zero, List.set_cons_succ])
  refine wpHold_one (k := 16) (by kernel_rfl) rfl (fun K hK => ?_)
  (try simp only [List.getElem_toArray, List.getElem_cons_succ, List.getElem_cons_zero])
  go_simp
  refine hK.out _ _ trivial ?_
  clear hK K
  (try simp only [Act.put, List.setIfInBounds_toArray, List.set_cons_zero, List.set_cons_succ])
  refine wpHold_done (by kernel_rfl) ?_ _
  clear JT t0 t1
  go_wp2
  go_ret
  exact ⟨rfl, by rw [← unhide HQ]; exact unhide HR, unhide HFF⟩
end Go.Proofs.YtcelbgleajpenaaGreatDoor
namespace Go.Proofs.YtcelbgleajpenaaGreatDoor
open Go.RowKit Go.Sort Go.Shelf

def NewsZ (w : World) (q : Rat) (e : Ending) (w' : World) : Prop := ∃ b, e = .returned (.pointer (some ⟨b, 0, none⟩)) ∧ w.heap.size ≤ b ∧ BRz w' b 0 q ∧ Below w.heap.size w w'
theorem NewsR.z {w : World} {q : Rat} {e : Ending} {w' : World} (h : NewsR w q e w') : NewsZ w q e w' := by
 obtain ⟨b, e1, e2, e3, e4⟩ := h
 exact ⟨b, e1, e2, e3.z, e4⟩
theorem refIntz_any (x : Int) (h0 : -9223372036854775808 ≤ x) (h1 : x ≤ 9223372036854775807) (w : World) : Calls Tryz.prog 12 #[.int .i64 x] w (NewsZ w (x : Rat)) := (refInt_any x h0 h1 w).mono fun _ _ h => h.z
set_option maxHeartbeats 4000000 in
set_option maxRecDepth 100000 in
set_option linter.unusedSimpArgs false in
theorem isIntz_any (b o : Nat) (q : Rat) (w : World) (x : BRz w b o q) :
  Calls Tryz.prog 134 #[.pointer (some ⟨b, o, none⟩)] w fun e w' => e = .returned (.bool (decide (q.den = 1))) ∧ Below w.heap.size w w' := by
 have HD := hide (denz_any b o q w x)
 clear x
 go_enter Tryz.func134, Tryz.ntmps134
 go_wp2_with fail
 refine (unhide HD).mono ?_
 rintro e w1 ⟨b1, o1, rfl, hd1, hl1, -⟩
 have HD1 := hide hd1
 have HL1 := hide hl1
 have HN := hide (newInt_any 1 (by decide) (by decide) w1)
 clear hd1 hl1
 go_wp2_with fail
 refine (unhide HN).mono ?_
 rintro e w2 ⟨b2, rfl, hb2, hi2, hbl2⟩
 have HC := hide (icmp_any b1 o1 b2 0 _ _ w2 ((unhide HD1).below hbl2) hi2)
 have HB := hide (bstep (unhide HL1) hbl2)
 clear hbl2 hi2 hb2
 go_wp2_with fail
 refine (unhide HC).mono ?_
 rintro e w3 ⟨rfl, hb3⟩
 have HB3 := hide (bstep (unhide HB) hb3)
 have hsg : (Wh.sg (q.den : Int) 1 == 0) = decide (q.den = 1) := by
  have := q.den_pos
  by_cases h : q.den = 1
  ·simp [h, Wh.sg]
  ·rw [Wh.sg_gt (by omega), decide_eq_false h]; rfl
 clear hb3 HC
 go_wp2
 go_ret
 exact ⟨rfl, unhide HB3⟩
set_option maxHeartbeats 4000000 in
set_option maxRecDepth 100000 in
set_option linter.unusedSimpArgs false in
theorem ratStringz_any (b o : Nat) (q : Rat) (w : World) (x : BRz w b o q) (t1 : Txt q.num) (t2 : Txt (q.den : Int)) :
  Calls Tryz.prog 94 #[.pointer (some ⟨b, o, none⟩)] w fun e w' => e = .returned (.string ⟨(qtext q).toArray⟩) ∧ Below w.heap.size w w' := by
 have h0 := isIntz_any b o q w x
 rcases x with ⟨x1, x2 | ⟨rfl, x2⟩⟩
 ·exact ratString_any b o q w ⟨x1, x2⟩ t1 t2
 ·have h1 : ∀ W, Below w.heap.size w W → Calls Tryz.prog 135 #[.pointer (some ⟨b, o, none⟩)] W fun e w' => e = .returned (.string ⟨(itx (0 : Rat).num).toArray⟩) ∧ Below W.heap.size W w' := fun W hW => istring_any b o (0 : Rat).num W (x1.below hW) t1
  have hq : qtext 0 = itx (0 : Rat).num := by
   unfold qtext upperText itx
   simp
  rw [hq]
  rw [decide_eq_true (show (0 : Rat).den = 1 from rfl)] at h0
  obtain ⟨R1, hR1⟩ : ∃ R, itx (0 : Rat).num = R := ⟨_, rfl⟩
  rw [hR1] at h1 ⊢
  have H0 := hide h0
  have H1 := hide h1
  clear h0 h1 hR1 hq t1 t2 x1 x2
  go_enter Tryz.func94, Tryz.ntmps94
  go_wp2_with fail
  refine (unhide H0).mono ?_
  rintro e w1 ⟨rfl, hb1⟩
  have HB1 := hide hb1
  clear hb1 H0
  go_wp2_with fail
  refine (unhide H1 _ (unhide HB1)).mono ?_
  rintro e w2 ⟨rfl, hb2⟩
  have HB2 := hide (bstep (unhide HB1) hb2)
  clear hb2 H1
  go_wp2
  go_ret
  exact ⟨rfl, unhide HB2⟩
set_option maxHeartbeats 4000000 in
set_option maxRecDepth 100000 in
set_option linter.unusedSimpArgs false in
theorem refTextz_any (b o j : Nat) (q : Rat) (w : World) (x : BRz w b o q) (hq : RS q j) (hj : j ≤ 200000) :
  Calls Tryz.prog 50 #[.pointer (some ⟨b, o, none⟩)] w fun e w' => e = .returned (.string ⟨(qtext q).toArray⟩) ∧ Below w.heap.size w w' := by
 have h1 := ratStringz_any b o q w x (hq.txt hj).1 (hq.txt hj).2
 obtain ⟨R1, hR1⟩ : ∃ R, qtext q = R := ⟨_, rfl⟩
 rw [hR1] at h1 ⊢
 have H1 := hide h1
 clear h1 hR1 x hq hj
 go_enter Tryz.func50, Tryz.ntmps50
 go_wp2_with fail
 refine (unhide H1).mono ?_
 rintro e w2 ⟨rfl, hb2⟩
 go_wp2
 go_ret
 exact ⟨rfl, hb2⟩
theorem signz_any (b o : Nat) (q : Rat) (w : World) (x : BRz w b o q) :
  Calls Tryz.prog 21 #[.pointer (some ⟨b, o, none⟩)] w fun e w' => e = .returned (.int .i64 q.num.sign) ∧ w' = w := by
 have HS := hide (isign_any b o q.num w x.1)
 clear x
 go_enter Tryz.func21, Tryz.ntmps21
 go_wp2_with fail
 refine (unhide HS).mono ?_
 rintro e w1 ⟨rfl, rfl⟩
 go_wp2
 go_ret
 exact ⟨rfl, rfl⟩
set_option maxHeartbeats 4000000 in
set_option maxRecDepth 100000 in
set_option linter.unusedSimpArgs false in
theorem refAdd_any (b1 b2 i j : Nat) (qx qy : Rat) (w : World) (x : BRz w b1 0 qx) (y : BRz w b2 0 qy) (rx : RS qx i) (ry : RS qy j) (hij : i + j ≤ 400000) :
  Calls Tryz.prog 45 #[.pointer (some ⟨b1, 0, none⟩), .pointer (some ⟨b2, 0, none⟩)] w (NewsZ w (qx + qy)) := by
 have k := slotR_new w
 have bA := abelow w (.cells #[.bool false, .slice none 0 0, .bool false, .slice none 0 0] 86)
 obtain ⟨W0, hW0⟩ : ∃ W, w.alloc (.cells #[.bool false, .slice none 0 0, .bool false, .slice none 0 0] 86) = W := ⟨_, rfl⟩
 obtain ⟨g, hg⟩ : ∃ g, w.heap.size = g := ⟨_, rfl⟩
 rw [hW0, hg] at k
 rw [hW0] at bA
 have HS := hide (radd_any g 0 b1 0 b2 0 i j qx qy W0 k (x.below bA) (y.below bA) rx ry hij)
 have HB := hide bA
 have HG := hide hg
 clear k bA x y rx ry hij
 go_enter Tryz.func45, Tryz.ntmps45
 go_wp2_with fail
 clear hW0 hg
 refine (unhide HS).mono ?_
 rintro e w1 ⟨rfl, hr, hf⟩
 have HR := hide hr
 have HF := hide (hf w (unhide HB) (Nat.le_of_eq (unhide HG)))
 clear hr hf HS
 go_wp2
 go_ret
 exact ⟨g, rfl, Nat.le_of_eq (unhide HG), (unhide HR).z, unhide HF⟩
set_option maxHeartbeats 4000000 in
set_option maxRecDepth 100000 in
set_option linter.unusedSimpArgs false in
theorem refMul_any (b1 b2 i j : Nat) (qx qy : Rat) (w : World) (x : BRz w b1 0 qx) (y : BRz w b2 0 qy) (rx : RS qx i) (ry : RS qy j) (hij : i + j ≤ 400000) :
  Calls Tryz.prog 43 #[.pointer (some ⟨b1, 0, none⟩), .pointer (some ⟨b2, 0, none⟩)] w (NewsZ w (qx * qy)) := by
 have k := slotR_new w
 have bA := abelow w (.cells #[.bool false, .slice none 0 0, .bool false, .slice none 0 0] 86)
 obtain ⟨W0, hW0⟩ : ∃ W, w.alloc (.cells #[.bool false, .slice none 0 0, .bool false, .slice none 0 0] 86) = W := ⟨_, rfl⟩
 obtain ⟨g, hg⟩ : ∃ g, w.heap.size = g := ⟨_, rfl⟩
 rw [hW0, hg] at k
 rw [hW0] at bA
 have HS := hide (rmul_any g 0 b1 0 b2 0 i j qx qy W0 k (x.below bA) (y.below bA) rx ry hij)
 have HB := hide bA
 have HG := hide hg
 clear k bA x y rx ry hij
 go_enter Tryz.func43, Tryz.ntmps43
 go_wp2_with fail
 clear hW0 hg
 refine (unhide HS).mono ?_
 rintro e w1 ⟨rfl, hr, hf⟩
 have HR := hide hr
 have HF := hide (hf w (unhide HB) (Nat.le_of_eq (unhide HG)))
 clear hr hf HS
 go_wp2
 go_ret
 exact ⟨g, rfl, Nat.le_of_eq (unhide HG), (unhide HR).z, unhide HF⟩
end Go.Proofs.YtcelbgleajpenaaGreatDoor
/- The checker's fractions compared. -/
namespace Go.Proofs.YtcelbgleajpenaaGreatDoor
open Go.RowKit Go.Sort Go.Shelf

structure JCmp (w0 : World) (qx qy : Rat) (s : Nat × Bool × Bool) (w : World) (t : Nat → Option (Nat × Nat × Int)) (v18 v25 v23 v24 v30 v31 : Value) : Prop where
 T : Tags 2 w0 w t
 bd : s.1 ≤ 4
 a0 : s.2.1 = true → ∃ g, v18 = .pointer (some ⟨g, 0, none⟩) ∧ t 0 = some (g, 0, if 2 ≤ s.1 then qx.num * (qy.den : Int) else 0) ∧ (2 ≤ s.1 → v24 = .pointer (some ⟨g, 0, none⟩))
 n0 : 2 ≤ s.1 → s.2.1 = true
 a1 : s.2.2 = true → ∃ g, v25 = .pointer (some ⟨g, 0, none⟩) ∧ t 1 = some (g, 0, if 4 ≤ s.1 then qy.num * (qx.den : Int) else 0) ∧ (4 ≤ s.1 → v31 = .pointer (some ⟨g, 0, none⟩))
 n1 : 4 ≤ s.1 → s.2.2 = true
 d0 : 1 ≤ s.1 → ∃ b o, v23 = .pointer (some ⟨b, o, none⟩) ∧ t 2 = some (b, o, (qy.den : Int))
 d1 : 3 ≤ s.1 → ∃ b o, v30 = .pointer (some ⟨b, o, none⟩) ∧ t 3 = some (b, o, (qx.den : Int))
def nextCmp (s : Nat × Bool × Bool) (i : Nat) : Option (Nat × Bool × Bool) :=
 if i = 0 ∧ s.2.1 = false then some (s.1, true, s.2.2) else if i = 7 ∧ s.2.2 = false then some (s.1, s.2.1, true) else if i = 5 ∧ s.1 = 0 then some (1, s.2.1, s.2.2) else if i = 6 ∧ s.1 = 1 ∧ s.2.1 = true then some (2, s.2.1, s.2.2) else if i = 12 ∧ s.1 = 2 then some (3, s.2.1, s.2.2) else if i = 13 ∧ s.1 = 3 ∧ s.2.2 = true then some (4, s.2.1, s.2.2) else none
theorem checkCmp {g fin : Nat × Bool × Bool → Bool} (hb : ∀ s : Nat × Bool × Bool, 4 < s.1 → fin s = true) (h : (upto5 fun k => allB fun c0 => allB fun c1 => fin (k, c0, c1) || g (k, c0, c1)) = true) : ∀ s, fin s = false → g s = true := by
 rintro ⟨k, c0, c1⟩ hs
 have hk : k ≤ 4 := by
  rcases Nat.lt_or_ge 4 k with h1 | h1
  ·rw [hb _ h1] at hs; cases hs
  ·exact h1
 have q := allB_of (allB_of (upto5_of h k hk) c0) c1
 rw [hs, Bool.false_or] at q
 exact q
theorem cmp_same {x y : Rat} (h : x.den = y.den) : Wh.sg x.num y.num = Wd.sg (x.num * y.den) (y.num * x.den) := by
 have p := x.den_pos
 rw [← h]
 unfold Wh.sg Wd.sg
 have e1 : (x.num * (x.den : Int) < y.num * (x.den : Int)) ↔ x.num < y.num := ⟨fun h => Int.lt_of_mul_lt_mul_right h (by omega), fun h => Int.mul_lt_mul_of_pos_right h (by omega)⟩
 have e2 : (x.num * (x.den : Int) = y.num * (x.den : Int)) ↔ x.num = y.num := ⟨fun h => Int.eq_of_mul_eq_mul_right (by omega) h, fun h => by rw [h]⟩
 simp only [e1, e2]
set_option maxHeartbeats 16000000 in
set_option maxRecDepth 100000 in
set_option linter.unusedSimpArgs false in
theorem rcmp_any (b1 o1 b2 o2 i j : Nat) (qx qy : Rat) (w : World) (x : BRz w b1 o1 qx) (y : BRz w b2 o2 qy) (rx : RS qx i) (ry : RS qy j) (hij : i + j ≤ 400000) :
  Calls Tryz.prog 22 #[.pointer (some ⟨b1, o1, none⟩), .pointer (some ⟨b2, o2, none⟩)] w fun e w' => e = .returned (.int .i64 (Wd.sg (qx.num * qy.den) (qy.num * qx.den))) ∧ Below w.heap.size w w' := by
 have HX := hide x
 have HY := hide y
 have HRX := hide rx
 have HRY := hide ry
 have HDV := hide divs_any
 have Sxn : Hid (SmH (qx.num.natAbs : Int)) := smh_pw rx.1 (by omega)
 have Syn : Hid (SmH (qy.num.natAbs : Int)) := smh_pw ry.1 (by omega)
 have Sdx : Hid (SmH (((qx.den : Int).natAbs : Nat) : Int)) := by show SmH _; rw [Int.natAbs_natCast]; exact smh_pw rx.2 (by omega)
 have Sdy : Hid (SmH (((qy.den : Int).natAbs : Nat) : Int)) := by show SmH _; rw [Int.natAbs_natCast]; exact smh_pw ry.2 (by omega)
 have HDX := hide (denz_any b1 o1 qx w x)
 clear x y rx ry hij
 go_enter Tryz.func22, Tryz.ntmps22
 go_wp2_with fail
 refine (unhide HDX).mono ?_
 rintro e w1 ⟨b3, o3, rfl, hd3, hl3, -⟩
 have HD3 := hide hd3
 have HL3 := hide hl3
 have HDY := hide (denz_any b2 o2 qy w1 ((unhide HY).below hl3))
 clear hd3 hl3
 go_wp2_with fail
 refine (unhide HDY).mono ?_
 rintro e w2 ⟨b4, o4, rfl, hd4, hl4, -⟩
 have HL4 := hide (bstep (unhide HL3) hl4)
 have HIC := hide (icmp_any b3 o3 b4 o4 _ _ w2 ((unhide HD3).below hl4) hd4)
 clear hd4 hl4
 go_wp2_with fail
 refine (unhide HIC).mono ?_
 rintro e w3 ⟨rfl, hb3⟩
 have HB3 := hide (bstep (unhide HL4) hb3)
 clear hb3 HIC
 by_cases hde : qx.den = qy.den
 ·have hz : (Wh.sg (qx.den : Int) (qy.den : Int) == 0) = true := by rw [hde]; simp [Wh.sg]
  have HRES := hide (cmp_same hde)
  have HIN : Hid (∀ W, Below w3.heap.size w3 W → Calls Tryz.prog 60 #[.pointer (some ⟨b1, o1, none⟩), .pointer (some ⟨b2, o2, none⟩)] W fun e w' => e = .returned (.int .i64 (Wh.sg qx.num qy.num)) ∧ Below W.heap.size W w') := fun W hW => icmp_any b1 o1 b2 o2 _ _ W ((unhide HX).1.below (bstep (unhide HB3) hW)) ((unhide HY).1.below (bstep (unhide HB3) hW))
  have HT0 : Hid (∀ W', Below w3.heap.size w3 W' → (fun _ : World => True) W') := fun _ _ => trivial
  clear hde
  obtain ⟨z, hz0⟩ : ∃ z, Wh.sg (qx.den : Int) (qy.den : Int) = z := ⟨_, rfl⟩
  rw [hz0] at hz ⊢
  clear hz0
  go_wp2_with fail
  refine wp_region_hold (fun _ : World => True) (by kernel_rfl) ?_
  have bd0 : Below w3.heap.size w3 w3.drew := (Below.refl _ _).drew
  have hC0 : (fun _ : World => True) w3.drew := unhide HT0 _ bd0
  refine wpHold_take (i := 0) (v := ?_) rfl (by kernel_rfl) (by kernel_rfl) (by kernel_rfl) (fun _ _ _ h => h) (Or.inl ⟨by rfl, ?_⟩) hC0 ?_
  rotate_left
  ·intro w hSw; clear hSw; go_simp; (try with_reducible rfl)
  (try simp only [List.getElem_toArray, List.getElem_cons_succ, List.getElem_cons_zero])
  (try simp only [Act.put, List.setIfInBounds_toArray, List.set_cons_zero, List.set_cons_succ])
  refine wpHold_take (i := 1) (v := ?_) rfl (by kernel_rfl) (by kernel_rfl) (by kernel_rfl) (fun _ _ _ h => h) (Or.inl ⟨by rfl, ?_⟩) hC0 ?_
  rotate_left
  ·intro w hSw; clear hSw; go_simp; (try with_reducible rfl)
  (try simp only [List.getElem_toArray, List.getElem_cons_succ, List.getElem_cons_zero])
  (try simp only [Act.put, List.setIfInBounds_toArray, List.set_cons_zero, List.set_cons_succ])
  refine wpHold_take (i := 2) (v := ?_) rfl (by kernel_rfl) (by kernel_rfl) (by kernel_rfl) (fun _ _ _ h => h) (Or.inl ⟨by rfl, ?_⟩) hC0 ?_
  rotate_left
  ·intro w hSw; clear hSw; go_simp; (try with_reducible rfl)
  (try simp only [List.getElem_toArray, List.getElem_cons_succ, List.getElem_cons_zero])
  (try simp only [Act.put, List.setIfInBounds_toArray, List.set_cons_zero, List.set_cons_succ])
  refine wpHold_take (i := 3) (v := ?_) rfl (by kernel_rfl) (by kernel_rfl) (by kernel_rfl) (fun _ _ _ h => h) (Or.inl ⟨by rfl, ?_⟩) hC0 ?_
  rotate_left
  ·intro w hSw; clear hSw; go_simp; (try with_reducible rfl)
  (try simp only [List.getElem_toArray, List.getElem_cons_succ, List.getElem_cons_zero])
  (try simp only [Act.put, List.setIfInBounds_toArray, List.set_cons_zero, List.set_cons_succ])
  refine wpHold_take (i := 4) (v := ?_) rfl (by kernel_rfl) (by kernel_rfl) (by kernel_rfl) (fun _ _ _ h => h) (Or.inl ⟨by rfl, ?_⟩) hC0 ?_
  rotate_left
  ·intro w hSw; clear hSw; go_simp; (try with_reducible rfl)
  (try simp only [List.getElem_toArray, List.getElem_cons_succ, List.getElem_cons_zero])
  (try simp only [Act.put, List.setIfInBounds_toArray, List.set_cons_zero, List.set_cons_succ])
  refine wpHold_take (i := 5) (v := ?_) rfl (by kernel_rfl) (by kernel_rfl) (by kernel_rfl) (fun _ _ _ h => h) (Or.inl ⟨by rfl, ?_⟩) hC0 ?_
  rotate_left
  ·intro w hSw; clear hSw; go_simp; (try with_reducible rfl)
  (try simp only [List.getElem_toArray, List.getElem_cons_succ, List.getElem_cons_zero])
  (try simp only [Act.put, List.setIfInBounds_toArray, List.set_cons_zero, List.set_cons_succ])
  refine wpHold_one (k := 6) (by kernel_rfl) rfl (fun K hK => ?_)
  (try simp only [List.getElem_toArray, List.getElem_cons_succ, List.getElem_cons_zero])
  go_simp
  refine (unhide HIN _ bd0).mono ?_
  rintro e xw_1 ⟨rfl, hb_1⟩
  have cc_1 := below_step bd0 hb_1
  have hC_1 : (fun _ : World => True) xw_1 := unhide HT0 _ cc_1
  refine hK.out _ _ hC_1 ?_
  clear hK K
  (try simp only [Act.put, List.setIfInBounds_toArray, List.set_cons_zero, List.set_cons_succ])
  refine wpHold_one (k := 7) (by kernel_rfl) rfl (fun K hK => ?_)
  (try simp only [List.getElem_toArray, List.getElem_cons_succ, List.getElem_cons_zero])
  go_simp
  refine hK.out _ _ hC_1 ?_
  clear hK K
  (try simp only [Act.put, List.setIfInBounds_toArray, List.set_cons_zero, List.set_cons_succ])
  refine wpHold_done (by kernel_rfl) ?_ _
  have HBF := hide (bstep (unhide HB3) cc_1)
  clear hb_1 cc_1 bd0 hC0 hC_1 HIN HT0
  go_wp2
  go_ret
  exact ⟨by rw [unhide HRES]; rfl, unhide HBF⟩
 ·have hz : (Wh.sg (qx.den : Int) (qy.den : Int) == 0) = false := by
   rw [beq_eq_false_iff_ne]
   unfold Wh.sg
   by_cases h : (qx.den : Int) < (qy.den : Int)
   ·rw [if_pos h]; decide
   ·rw [if_neg h, if_neg (by omega)]; decide
  clear hde
  obtain ⟨z, hz0⟩ : ∃ z, Wh.sg (qx.den : Int) (qy.den : Int) = z := ⟨_, rfl⟩
  rw [hz0] at hz ⊢
  clear hz0
  go_wp2_with fail
  refine wp_region_hold (fun _ : World => True) (by kernel_rfl) ?_
  have bd0 : Below w3.heap.size w3 w3.drew := (Below.refl _ _).drew
  obtain ⟨W0, hW0⟩ : ∃ W, w3.drew = W := ⟨_, rfl⟩
  rw [hW0] at bd0 ⊢
  have hC0 : (fun _ : World => True) W0 := trivial
  have BL0 := hide (bstep (unhide HB3) bd0)
  clear hW0 bd0
  refine wpHold_take (i := 1) (v := ?_) rfl (by kernel_rfl) (by kernel_rfl) (by kernel_rfl) (fun _ _ _ h => h) (Or.inl ⟨by rfl, ?_⟩) hC0 ?_
  rotate_left
  ·intro w hSw; clear hSw; go_simp; (try with_reducible rfl)
  (try simp only [List.getElem_toArray, List.getElem_cons_succ, List.getElem_cons_zero])
  (try simp only [Act.put, List.setIfInBounds_toArray, List.set_cons_zero, List.set_cons_succ])
  refine wpHold_take (i := 2) (v := ?_) rfl (by kernel_rfl) (by kernel_rfl) (by kernel_rfl) (fun _ _ _ h => h) (Or.inl ⟨by rfl, ?_⟩) hC0 ?_
  rotate_left
  ·intro w hSw; clear hSw; go_simp; (try with_reducible rfl)
  (try simp only [List.getElem_toArray, List.getElem_cons_succ, List.getElem_cons_zero])
  (try simp only [Act.put, List.setIfInBounds_toArray, List.set_cons_zero, List.set_cons_succ])
  refine wpHold_take (i := 3) (v := ?_) rfl (by kernel_rfl) (by kernel_rfl) (by kernel_rfl) (fun _ _ _ h => h) (Or.inl ⟨by rfl, ?_⟩) hC0 ?_
  rotate_left
  ·intro w hSw; clear hSw; go_simp; (try with_reducible rfl)
  (try simp only [List.getElem_toArray, List.getElem_cons_succ, List.getElem_cons_zero])
  (try simp only [Act.put, List.setIfInBounds_toArray, List.set_cons_zero, List.set_cons_succ])
  refine wpHold_take (i := 4) (v := ?_) rfl (by kernel_rfl) (by kernel_rfl) (by kernel_rfl) (fun _ _ _ h => h) (Or.inl ⟨by rfl, ?_⟩) hC0 ?_
  rotate_left
  ·intro w hSw; clear hSw; go_simp; (try with_reducible rfl)
  (try simp only [List.getElem_toArray, List.getElem_cons_succ, List.getElem_cons_zero])
  (try simp only [Act.put, List.setIfInBounds_toArray, List.set_cons_zero, List.set_cons_succ])
  refine wpHold_take (i := 8) (v := ?_) rfl (by kernel_rfl) (by kernel_rfl) (by kernel_rfl) (fun _ _ _ h => h) (Or.inl ⟨by rfl, ?_⟩) hC0 ?_
  rotate_left
  ·intro w hSw; clear hSw; go_simp; (try with_reducible rfl)
  (try simp only [List.getElem_toArray, List.getElem_cons_succ, List.getElem_cons_zero])
  (try simp only [Act.put, List.setIfInBounds_toArray, List.set_cons_zero, List.set_cons_succ])
  refine wpHold_take (i := 9) (v := ?_) rfl (by kernel_rfl) (by kernel_rfl) (by kernel_rfl) (fun _ _ _ h => h) (Or.inl ⟨by rfl, ?_⟩) hC0 ?_
  rotate_left
  ·intro w hSw; clear hSw; go_simp; (try with_reducible rfl)
  (try simp only [List.getElem_toArray, List.getElem_cons_succ, List.getElem_cons_zero])
  (try simp only [Act.put, List.setIfInBounds_toArray, List.set_cons_zero, List.set_cons_succ])
  refine wpHold_take (i := 10) (v := ?_) rfl (by kernel_rfl) (by kernel_rfl) (by kernel_rfl) (fun _ _ _ h => h) (Or.inl ⟨by rfl, ?_⟩) hC0 ?_
  rotate_left
  ·intro w hSw; clear hSw; go_simp; (try with_reducible rfl)
  (try simp only [List.getElem_toArray, List.getElem_cons_succ, List.getElem_cons_zero])
  (try simp only [Act.put, List.setIfInBounds_toArray, List.set_cons_zero, List.set_cons_succ])
  refine wpHold_take (i := 11) (v := ?_) rfl (by kernel_rfl) (by kernel_rfl) (by kernel_rfl) (fun _ _ _ h => h) (Or.inl ⟨by rfl, ?_⟩) hC0 ?_
  rotate_left
  ·intro w hSw; clear hSw; go_simp; (try with_reducible rfl)
  (try simp only [List.getElem_toArray, List.getElem_cons_succ, List.getElem_cons_zero])
  (try simp only [Act.put, List.setIfInBounds_toArray, List.set_cons_zero, List.set_cons_succ])
  refine wpHoldz_listed (n := 8) (L' := (fun s : Nat × Bool × Bool => #[s.2.1, true, true, true, true, decide (1 ≤ s.1), decide (2 ≤ s.1), s.2.2, true, true, true, true, decide (3 ≤ s.1), decide (4 ≤ s.1), false, false]) (0, false, false)) (by kernel_rfl) (by kernel_rfl) ?_
  refine wpHoldz_name (fun a0 ha0 => ?_)
  refine walk_any (fun s : Nat × Bool × Bool => #[s.2.1, true, true, true, true, decide (1 ≤ s.1), decide (2 ≤ s.1), s.2.2, true, true, true, true, decide (3 ≤ s.1), decide (4 ≤ s.1), false, false]) (fun s : Nat × Bool × Bool => 8 - s.1 - s.2.1.toNat - s.2.2.toNat) (fun s : Nat × Bool × Bool => decide (4 < s.1) || (decide (4 ≤ s.1))) nextCmp (fun s na W => ∃ t v18 v25 v23 v24 v30 v31, na = ((((((a0.put (some 18) v18).put (some 25) v25).put (some 23) v23).put (some 24) v24).put (some 30) v30).put (some 31) v31) ∧ JCmp W0 qx qy s W t v18 v25 v23 v24 v30 v31) ?_ ?_ ?_ ?_ 8 (0, false, false) rfl _ _ ⟨fun _ => none, undef, undef, undef, undef, undef, undef, by subst ha0; rfl, Tags.start _ _, by decide, (fun h => by cases h), (fun h => absurd h (by decide)), (fun h => by cases h), (fun h => absurd h (by decide)), (fun h => absurd h (by decide)), (fun h => absurd h (by decide))⟩
  ·clear ha0
   intro s hs
   exact not_of (checkCmp (g := fun s => !(Region.ready _ _ ((fun s : Nat × Bool × Bool => #[s.2.1, true, true, true, true, decide (1 ≤ s.1), decide (2 ≤ s.1), s.2.2, true, true, true, true, decide (3 ≤ s.1), decide (4 ≤ s.1), false, false]) s)).isEmpty) (fin := (fun s : Nat × Bool × Bool => decide (4 < s.1) || (decide (4 ≤ s.1)))) (fun s h => by simp [h]) (by kernel_rfl) s hs)
  ·clear ha0
   exact checkCmp (fun s h => by simp [h]) (by kernel_rfl)
  ·rintro ⟨k, c0, c1⟩ i s' hn na wv ⟨t, v18, v25, v23, v24, v30, v31, rfl, J⟩
   subst ha0
   unfold nextCmp at hn
   simp only at hn
   by_cases h : i = 0 ∧ c0 = false
   ·rw [if_pos h] at hn
    obtain ⟨rfl, rfl⟩ := h
    obtain rfl := Option.some.inj hn
    refine wpOp_step rfl (fun K hK => ?_)
    (try simp only [Act.put, List.setIfInBounds_toArray, List.set_cons_zero, List.set_cons_succ] at hK ⊢)
    (try simp only [List.getElem_toArray, List.getElem_cons_succ, List.getElem_cons_zero])
    go_simp
    exact hK _ _ ⟨trivial, upd t 0 (wv.heap.size, 0, 0), .pointer (some ⟨wv.heap.size, 0, none⟩), v25, v23, v24, v30, v31, rfl, J.T.new 0, J.bd, fun _ => ⟨wv.heap.size, rfl, by rw [if_neg (show ¬ 2 ≤ k from fun h => absurd (J.n0 h) (by simp))]; simp [upd], fun h => absurd (J.n0 h) (by simp)⟩, fun _ => rfl, by simpa [upd] using J.a1, J.n1, by simpa [upd] using J.d0, by simpa [upd] using J.d1⟩
   rw [if_neg h] at hn
   clear h
   by_cases h : i = 7 ∧ c1 = false
   ·rw [if_pos h] at hn
    obtain ⟨rfl, rfl⟩ := h
    obtain rfl := Option.some.inj hn
    refine wpOp_step rfl (fun K hK => ?_)
    (try simp only [Act.put, List.setIfInBounds_toArray, List.set_cons_zero, List.set_cons_succ] at hK ⊢)
    (try simp only [List.getElem_toArray, List.getElem_cons_succ, List.getElem_cons_zero])
    go_simp
    exact hK _ _ ⟨trivial, upd t 1 (wv.heap.size, 0, 0), v18, .pointer (some ⟨wv.heap.size, 0, none⟩), v23, v24, v30, v31, rfl, J.T.new 1, J.bd, by simpa [upd] using J.a0, J.n0, fun _ => ⟨wv.heap.size, rfl, by rw [if_neg (show ¬ 4 ≤ k from fun h => absurd (J.n1 h) (by simp))]; simp [upd], fun h => absurd (J.n1 h) (by simp)⟩, fun _ => rfl, by simpa [upd] using J.d0, by simpa [upd] using J.d1⟩
   rw [if_neg h] at hn
   clear h
   by_cases h : i = 5 ∧ k = 0
   ·rw [if_pos h] at hn
    obtain ⟨rfl, rfl⟩ := h
    obtain rfl := Option.some.inj hn
    refine wpOp_step rfl (fun K hK => ?_)
    (try simp only [Act.put, List.setIfInBounds_toArray, List.set_cons_zero, List.set_cons_succ] at hK ⊢)
    (try simp only [List.getElem_toArray, List.getElem_cons_succ, List.getElem_cons_zero])
    go_simp
    refine (denz_any b2 o2 qy wv ((unhide HY).below (bstep (unhide BL0) J.T.bl))).mono ?_
    rintro e w' ⟨b', o', rfl, hd, hl, ho⟩
    exact hK _ _ ⟨trivial, upd t 2 (b', o', (qy.den : Int)), v18, v25, _, v24, v30, v31, rfl, J.T.den (by decide) (Nat.lt_of_lt_of_le (unhide HY).1.lt (unhide BL0).size) hd hl (ho.imp And.left id), by simp, by simpa [upd] using J.a0, (fun h => absurd h (by simp)), by simpa [upd] using J.a1, (fun h => absurd h (by simp)), fun _ => ⟨b', o', rfl, by simp [upd]⟩, (fun h => absurd h (by simp))⟩
   rw [if_neg h] at hn
   clear h
   by_cases h : i = 6 ∧ k = 1 ∧ c0 = true
   ·rw [if_pos h] at hn
    obtain ⟨rfl, rfl, rfl⟩ := h
    obtain rfl := Option.some.inj hn
    obtain ⟨g, rfl, tg, _⟩ := J.a0 rfl
    obtain ⟨bd2, od2, rfl, td2⟩ := J.d0 (by simp)
    refine wpOp_step rfl (fun K hK => ?_)
    (try simp only [Act.put, List.setIfInBounds_toArray, List.set_cons_zero, List.set_cons_succ] at hK ⊢)
    (try simp only [List.getElem_toArray, List.getElem_cons_succ, List.getElem_cons_zero])
    go_simp
    refine (imul_any g 0 b1 o1 bd2 od2 _ _ wv (J.T.int _ _ _ _ tg).slot ((unhide HX).1.below (bstep (unhide BL0) J.T.bl)) (J.T.int _ _ _ _ td2) (unhide Sxn) (unhide Sdy)).mono ?_
    intro e w' hG
    have T' := J.T.gives (by decide) tg hG
    have he := hG.1
    subst he
    exact hK _ _ ⟨trivial, upd t 0 (g, 0, qx.num * (qy.den : Int)), .pointer (some ⟨g, 0, none⟩), v25, .pointer (some ⟨bd2, od2, none⟩), .pointer (some ⟨g, 0, none⟩), v30, v31, rfl, T', by simp, fun _ => ⟨g, rfl, by simp [upd], fun _ => rfl⟩, fun _ => rfl, by simpa [upd] using J.a1, (fun h => absurd h (by simp)), fun _ => ⟨bd2, od2, rfl, by simpa [upd] using td2⟩, (fun h => absurd h (by simp))⟩
   rw [if_neg h] at hn
   clear h
   by_cases h : i = 12 ∧ k = 2
   ·rw [if_pos h] at hn
    obtain ⟨rfl, rfl⟩ := h
    obtain rfl := Option.some.inj hn
    refine wpOp_step rfl (fun K hK => ?_)
    (try simp only [Act.put, List.setIfInBounds_toArray, List.set_cons_zero, List.set_cons_succ] at hK ⊢)
    (try simp only [List.getElem_toArray, List.getElem_cons_succ, List.getElem_cons_zero])
    go_simp
    refine (denz_any b1 o1 qx wv ((unhide HX).below (bstep (unhide BL0) J.T.bl))).mono ?_
    rintro e w' ⟨b', o', rfl, hd, hl, ho⟩
    exact hK _ _ ⟨trivial, upd t 3 (b', o', (qx.den : Int)), v18, v25, v23, v24, _, v31, rfl, J.T.den (by decide) (Nat.lt_of_lt_of_le (unhide HX).1.lt (unhide BL0).size) hd hl (ho.imp And.left id), by simp, by simpa [upd] using J.a0, by simpa using J.n0, by simpa [upd] using J.a1, (fun h => absurd h (by simp)), by simpa [upd] using J.d0, fun _ => ⟨b', o', rfl, by simp [upd]⟩⟩
   rw [if_neg h] at hn
   clear h
   by_cases h : i = 13 ∧ k = 3 ∧ c1 = true
   ·rw [if_pos h] at hn
    obtain ⟨rfl, rfl, rfl⟩ := h
    obtain rfl := Option.some.inj hn
    obtain ⟨g, rfl, tg, _⟩ := J.a1 rfl
    obtain ⟨bd2, od2, rfl, td2⟩ := J.d1 (by simp)
    refine wpOp_step rfl (fun K hK => ?_)
    (try simp only [Act.put, List.setIfInBounds_toArray, List.set_cons_zero, List.set_cons_succ] at hK ⊢)
    (try simp only [List.getElem_toArray, List.getElem_cons_succ, List.getElem_cons_zero])
    go_simp
    refine (imul_any g 0 b2 o2 bd2 od2 _ _ wv (J.T.int _ _ _ _ tg).slot ((unhide HY).1.below (bstep (unhide BL0) J.T.bl)) (J.T.int _ _ _ _ td2) (unhide Syn) (unhide Sdx)).mono ?_
    intro e w' hG
    have T' := J.T.gives (by decide) tg hG
    have he := hG.1
    subst he
    exact hK _ _ ⟨trivial, upd t 1 (g, 0, qy.num * (qx.den : Int)), v18, .pointer (some ⟨g, 0, none⟩), v23, v24, .pointer (some ⟨bd2, od2, none⟩), .pointer (some ⟨g, 0, none⟩), rfl, T', by simp, by simpa [upd] using J.a0, by simpa using J.n0, fun _ => ⟨g, rfl, by simp [upd], fun _ => rfl⟩, fun _ => rfl, by simpa [upd] using J.d0, fun _ => ⟨bd2, od2, rfl, by simpa [upd] using td2⟩⟩
   rw [if_neg h] at hn
   clear h
   cases hn
  ·rintro ⟨k, c0, c1⟩ hfin na wv ⟨t, v18, v25, v23, v24, v30, v31, rfl, J⟩
   subst ha0
   have hbd : k ≤ 4 := J.bd
   simp only [Bool.or_eq_true, Bool.and_eq_true, decide_eq_true_eq] at hfin
   obtain rfl : k = 4 := by omega
   obtain rfl : c0 = true := J.n0 (by simp)
   obtain ⟨g0, rfl, t0, hr0⟩ := J.a0 rfl
   obtain rfl := hr0 (by simp)
   rw [if_pos (by simp)] at t0
   obtain rfl : c1 = true := J.n1 (by simp)
   obtain ⟨g1, rfl, t1, hr1⟩ := J.a1 rfl
   obtain rfl := hr1 (by simp)
   rw [if_pos (by simp)] at t1
   (try simp only [Act.put, List.setIfInBounds_toArray, List.set_cons_zero, List.set_cons_succ])
   have JT := J.T
   clear J hfin hbd hC0
   refine wpHold_one (k := 14) (by kernel_rfl) rfl (fun K hK => ?_)
   (try simp only [List.getElem_toArray, List.getElem_cons_succ, List.getElem_cons_zero])
   go_simp
   refine (icmp_any g0 0 g1 0 _ _ wv (JT.int _ _ _ _ t0) (JT.int _ _ _ _ t1)).mono ?_
   rintro e wl ⟨rfl, hb⟩
   have HBF := hide (bstep (unhide BL0) (bstep JT.bl hb))
   clear hb
   refine hK.out _ _ trivial ?_
   clear hK K
   (try simp only [Act.put, List.setIfInBounds_toArray, List.set_cons_zero, List.set_cons_succ])
   refine wpHold_one (k := 15) (by kernel_rfl) rfl (fun K hK => ?_)
   (try simp only [List.getElem_toArray, List.getElem_cons_succ, List.getElem_cons_zero])
   go_simp
   refine hK.out _ _ trivial ?_
   clear hK K
   (try simp only [Act.put, List.setIfInBounds_toArray, List.set_cons_zero, List.set_cons_succ])
   refine wpHold_done (by kernel_rfl) ?_ _
   clear JT t0 t1
   go_wp2
   go_ret
   exact ⟨rfl, unhide HBF⟩
end Go.Proofs.YtcelbgleajpenaaGreatDoor
