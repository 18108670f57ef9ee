/- The checker's fractions: sizes; whole numbers taken away; what regions with new numbers hold. -/
import Derived.Test.YtcelbgleajpenaaGreatDoorB8
import Derived.Test.YtcelbgleajpenaaGreatDoorBE
import Derived.Test.YtcelbgleajpenaaGreatDoorB27
import Derived.Test.YtcelbgleajpenaaGreatDoorB13
import Derived.Test.YtcelbgleajpenaaGreatDoorBH
import Derived.Test.YtcelbgleajpenaaGreatDoorA15
import Derived.Test.YtcelbgleajpenaaGreatDoorA14
namespace Go.Proofs.YtcelbgleajpenaaGreatDoor
open Go.RowKit Go.Sort

set_option maxHeartbeats 4000000 in
set_option maxRecDepth 100000 in
set_option linter.unusedSimpArgs false in
theorem iadd_any (b o b' o' b'' o'' : Nat) (N M : Int) (w : World) (k : SlotI w b o) (x : BInt w b' o' N) (y : BInt w b'' o'' M) (sn : SmH (N.natAbs : Int)) (sm : SmH (M.natAbs : Int)) :
    Calls Tryz.prog 119 #[.pointer (some ⟨b, o, none⟩), .pointer (some ⟨b', o', none⟩), .pointer (some ⟨b'', o'', none⟩)] w (GivesAt w b o (N + M)) := by
  obtain ⟨a, n, c, ea, hn⟩ := x.ab
  obtain ⟨a2, n2, c2, ea2, hn2⟩ := y.ab
  have es := x.sg
  have hlt := x.lt
  have es2 := y.sg
  have hlt2 := y.lt
  obtain ⟨s, hs⟩ : ∃ s, decide (N < 0) = s := ⟨_, rfl⟩
  obtain ⟨s2, hs2⟩ : ∃ s, decide (M < 0) = s := ⟨_, rfl⟩
  rw [hs] at es
  rw [hs2] at es2
  have HMU : Hid (∀ W, Below w.heap.size w W → Calls Tryz.prog 152 #[.bool s, .slice a n c, .bool s2, .slice a2 n2 c2] W (SumPost W (N + M))) := fun W hW => sum32_any s s2 _ _ N M W (hn.below hW) (hn2.below hW) (fun _ => hs.symm) (fun _ => hs2.symm) sn sm
  have HCC : Hid (∀ W, Below w.heap.size w W → (fun w' : World => (w'.cell? ⟨b', o', none⟩ = some (.bool s) ∧ w'.cell? ⟨b', o' + 1, none⟩ = some (.slice a n c)) ∧ w'.cell? ⟨b'', o'', none⟩ = some (.bool s2) ∧ w'.cell? ⟨b'', o'' + 1, none⟩ = some (.slice a2 n2 c2)) W) := fun W hW => ⟨⟨by rw [hW.cell (p := ⟨b', o', none⟩) hlt]; exact es, by rw [hW.cell (p := ⟨b', o' + 1, none⟩) hlt]; exact ea⟩, by rw [hW.cell (p := ⟨b'', o'', none⟩) hlt2]; exact es2, by rw [hW.cell (p := ⟨b'', o'' + 1, none⟩) hlt2]; exact ea2⟩
  have HK := hide k
  clear x y k hn hn2 es ea es2 ea2 hlt hlt2 hs hs2 sn sm
  go_enter Tryz.func119, Tryz.ntmps119
  go_wp2_with fail
  refine wp_region_till (fun w' : World => (w'.cell? ⟨b', o', none⟩ = some (.bool s) ∧ w'.cell? ⟨b', o' + 1, none⟩ = some (.slice a n c)) ∧ w'.cell? ⟨b'', o'', none⟩ = some (.bool s2) ∧ w'.cell? ⟨b'', o'' + 1, none⟩ = some (.slice a2 n2 c2)) 20 (by kernel_rfl) ?_
  have bd0 : Below w.heap.size w w.drew := (Below.refl _ _).drew
  have hC0 : (fun w' : World => (w'.cell? ⟨b', o', none⟩ = some (.bool s) ∧ w'.cell? ⟨b', o' + 1, none⟩ = some (.slice a n c)) ∧ w'.cell? ⟨b'', o'', none⟩ = some (.bool s2) ∧ w'.cell? ⟨b'', o'' + 1, none⟩ = some (.slice a2 n2 c2)) w.drew := unhide HCC _ bd0
  refine wpTill_pure (i := 0) (v := ?_) rfl (by kernel_rfl) (by kernel_rfl) (by kernel_rfl) (by kernel_rfl) (fun _ _ _ h => h) (Or.inl ⟨by rfl, ?_⟩) (fun _ => hC0) ?_
  rotate_left
  · intro w hSw; clear hSw; go_simp; (try with_reducible rfl)
  (try simp only [List.getElem_toArray, List.getElem_cons_succ, List.getElem_cons_zero])
  (try simp only [Act.put, List.setIfInBounds_toArray, List.set_cons_zero, List.set_cons_succ])
  refine wpTill_pure (i := 1) (v := ?_) rfl (by kernel_rfl) (by kernel_rfl) (by kernel_rfl) (by kernel_rfl) (fun _ _ _ h => h) (Or.inl ⟨by rfl, ?_⟩) (fun _ => hC0) ?_
  rotate_left
  · intro w hSw; clear hSw; go_simp; (try with_reducible rfl)
  (try simp only [List.getElem_toArray, List.getElem_cons_succ, List.getElem_cons_zero])
  (try simp only [Act.put, List.setIfInBounds_toArray, List.set_cons_zero, List.set_cons_succ])
  refine wpTill_pure (i := 2) (v := ?_) rfl (by kernel_rfl) (by kernel_rfl) (by kernel_rfl) (by kernel_rfl) (fun _ _ _ h => h) (Or.inl ⟨by rfl, ?_⟩) (fun _ => hC0) ?_
  rotate_left
  · intro w hSw; clear hSw; go_simp; (try with_reducible rfl)
  (try simp only [List.getElem_toArray, List.getElem_cons_succ, List.getElem_cons_zero])
  (try simp only [Act.put, List.setIfInBounds_toArray, List.set_cons_zero, List.set_cons_succ])
  refine wpTill_pure (i := 3) (v := ?_) rfl (by kernel_rfl) (by kernel_rfl) (by kernel_rfl) (by kernel_rfl) (fun _ _ _ h => h) (Or.inl ⟨by rfl, ?_⟩) (fun _ => hC0) ?_
  rotate_left
  · intro w hSw; clear hSw; go_simp; (try with_reducible rfl)
  (try simp only [List.getElem_toArray, List.getElem_cons_succ, List.getElem_cons_zero])
  (try simp only [Act.put, List.setIfInBounds_toArray, List.set_cons_zero, List.set_cons_succ])
  refine wpTill_deep (i := 4) (v := ?_) [17, 18, 19, 20] rfl (by kernel_rfl) (by kernel_rfl) (by kernel_rfl) (by kernel_rfl) (by kernel_rfl) (by kernel_rfl) (by kernel_rfl) (fun _ _ _ h => h) (Or.inl ⟨by rfl, ?_⟩) hC0 ?_
  rotate_left
  · intro w hSw; (try dsimp only at hSw); obtain ⟨⟨z0, z1⟩, z2, z3⟩ := hSw; go_simp; (try with_reducible rfl)
  (try simp only [List.getElem_toArray, List.getElem_cons_succ, List.getElem_cons_zero])
  (try simp only [Act.put, List.setIfInBounds_toArray, List.set_cons_zero, List.set_cons_succ])
  refine wpTill_pure (i := 5) (v := ?_) rfl (by kernel_rfl) (by kernel_rfl) (by kernel_rfl) (by kernel_rfl) (fun _ _ _ h => h) (Or.inl ⟨by rfl, ?_⟩) (fun _ => hC0) ?_
  rotate_left
  · intro w hSw; clear hSw; go_simp; (try with_reducible rfl)
  (try simp only [List.getElem_toArray, List.getElem_cons_succ, List.getElem_cons_zero])
  (try simp only [Act.put, List.setIfInBounds_toArray, List.set_cons_zero, List.set_cons_succ])
  refine wpTill_pure (i := 6) (v := ?_) rfl (by kernel_rfl) (by kernel_rfl) (by kernel_rfl) (by kernel_rfl) (fun _ _ _ h => h) (Or.inl ⟨by rfl, ?_⟩) (fun _ => hC0) ?_
  rotate_left
  · intro w hSw; clear hSw; go_simp; (try with_reducible rfl)
  (try simp only [List.getElem_toArray, List.getElem_cons_succ, List.getElem_cons_zero])
  (try simp only [Act.put, List.setIfInBounds_toArray, List.set_cons_zero, List.set_cons_succ])
  refine wpTill_pure (i := 7) (v := ?_) rfl (by kernel_rfl) (by kernel_rfl) (by kernel_rfl) (by kernel_rfl) (fun _ _ _ h => h) (Or.inl ⟨by rfl, ?_⟩) (fun _ => hC0) ?_
  rotate_left
  · intro w hSw; clear hSw; go_simp; (try with_reducible rfl)
  (try simp only [List.getElem_toArray, List.getElem_cons_succ, List.getElem_cons_zero])
  (try simp only [Act.put, List.setIfInBounds_toArray, List.set_cons_zero, List.set_cons_succ])
  refine wpTill_deep (i := 8) (v := ?_) [17, 18, 19, 20] rfl (by kernel_rfl) (by kernel_rfl) (by kernel_rfl) (by kernel_rfl) (by kernel_rfl) (by kernel_rfl) (by kernel_rfl) (fun _ _ _ h => h) (Or.inl ⟨by rfl, ?_⟩) hC0 ?_
  rotate_left
  · intro w hSw; (try dsimp only at hSw); obtain ⟨⟨z0, z1⟩, z2, z3⟩ := hSw; go_simp; (try with_reducible rfl)
  (try simp only [List.getElem_toArray, List.getElem_cons_succ, List.getElem_cons_zero])
  (try simp only [Act.put, List.setIfInBounds_toArray, List.set_cons_zero, List.set_cons_succ])
  refine wpTill_pure (i := 9) (v := ?_) rfl (by kernel_rfl) (by kernel_rfl) (by kernel_rfl) (by kernel_rfl) (fun _ _ _ h => h) (Or.inl ⟨by rfl, ?_⟩) (fun _ => hC0) ?_
  rotate_left
  · intro w hSw; clear hSw; go_simp; (try with_reducible rfl)
  (try simp only [List.getElem_toArray, List.getElem_cons_succ, List.getElem_cons_zero])
  (try simp only [Act.put, List.setIfInBounds_toArray, List.set_cons_zero, List.set_cons_succ])
  refine wpTill_pure (i := 10) (v := ?_) rfl (by kernel_rfl) (by kernel_rfl) (by kernel_rfl) (by kernel_rfl) (fun _ _ _ h => h) (Or.inl ⟨by rfl, ?_⟩) (fun _ => hC0) ?_
  rotate_left
  · intro w hSw; clear hSw; go_simp; (try with_reducible rfl)
  (try simp only [List.getElem_toArray, List.getElem_cons_succ, List.getElem_cons_zero])
  (try simp only [Act.put, List.setIfInBounds_toArray, List.set_cons_zero, List.set_cons_succ])
  refine wpTill_pure (i := 11) (v := ?_) rfl (by kernel_rfl) (by kernel_rfl) (by kernel_rfl) (by kernel_rfl) (fun _ _ _ h => h) (Or.inl ⟨by rfl, ?_⟩) (fun _ => hC0) ?_
  rotate_left
  · intro w hSw; clear hSw; go_simp; (try with_reducible rfl)
  (try simp only [List.getElem_toArray, List.getElem_cons_succ, List.getElem_cons_zero])
  (try simp only [Act.put, List.setIfInBounds_toArray, List.set_cons_zero, List.set_cons_succ])
  refine wpTill_deep (i := 12) (v := ?_) [17, 18, 19, 20] rfl (by kernel_rfl) (by kernel_rfl) (by kernel_rfl) (by kernel_rfl) (by kernel_rfl) (by kernel_rfl) (by kernel_rfl) (fun _ _ _ h => h) (Or.inl ⟨by rfl, ?_⟩) hC0 ?_
  rotate_left
  · intro w hSw; (try dsimp only at hSw); obtain ⟨⟨z0, z1⟩, z2, z3⟩ := hSw; go_simp; (try with_reducible rfl)
  (try simp only [List.getElem_toArray, List.getElem_cons_succ, List.getElem_cons_zero])
  (try simp only [Act.put, List.setIfInBounds_toArray, List.set_cons_zero, List.set_cons_succ])
  refine wpTill_pure (i := 13) (v := ?_) rfl (by kernel_rfl) (by kernel_rfl) (by kernel_rfl) (by kernel_rfl) (fun _ _ _ h => h) (Or.inl ⟨by rfl, ?_⟩) (fun _ => hC0) ?_
  rotate_left
  · intro w hSw; clear hSw; go_simp; (try with_reducible rfl)
  (try simp only [List.getElem_toArray, List.getElem_cons_succ, List.getElem_cons_zero])
  (try simp only [Act.put, List.setIfInBounds_toArray, List.set_cons_zero, List.set_cons_succ])
  refine wpTill_pure (i := 14) (v := ?_) rfl (by kernel_rfl) (by kernel_rfl) (by kernel_rfl) (by kernel_rfl) (fun _ _ _ h => h) (Or.inl ⟨by rfl, ?_⟩) (fun _ => hC0) ?_
  rotate_left
  · intro w hSw; clear hSw; go_simp; (try with_reducible rfl)
  (try simp only [List.getElem_toArray, List.getElem_cons_succ, List.getElem_cons_zero])
  (try simp only [Act.put, List.setIfInBounds_toArray, List.set_cons_zero, List.set_cons_succ])
  refine wpTill_pure (i := 15) (v := ?_) rfl (by kernel_rfl) (by kernel_rfl) (by kernel_rfl) (by kernel_rfl) (fun _ _ _ h => h) (Or.inl ⟨by rfl, ?_⟩) (fun _ => hC0) ?_
  rotate_left
  · intro w hSw; clear hSw; go_simp; (try with_reducible rfl)
  (try simp only [List.getElem_toArray, List.getElem_cons_succ, List.getElem_cons_zero])
  (try simp only [Act.put, List.setIfInBounds_toArray, List.set_cons_zero, List.set_cons_succ])
  refine wpTill_deep (i := 16) (v := ?_) [17, 18, 19, 20] rfl (by kernel_rfl) (by kernel_rfl) (by kernel_rfl) (by kernel_rfl) (by kernel_rfl) (by kernel_rfl) (by kernel_rfl) (fun _ _ _ h => h) (Or.inl ⟨by rfl, ?_⟩) hC0 ?_
  rotate_left
  · intro w hSw; (try dsimp only at hSw); obtain ⟨⟨z0, z1⟩, z2, z3⟩ := hSw; go_simp; (try with_reducible rfl)
  (try simp only [List.getElem_toArray, List.getElem_cons_succ, List.getElem_cons_zero])
  (try simp only [Act.put, List.setIfInBounds_toArray, List.set_cons_zero, List.set_cons_succ])
  refine wpTill_one (k := 17) (by kernel_rfl) rfl (fun K hK => ?_)
  (try simp only [List.getElem_toArray, List.getElem_cons_succ, List.getElem_cons_zero])
  go_simp
  refine (unhide HMU _ bd0).mono ?_
  rintro e w1 ⟨t, a1, n1, c1, rfl, hv2, hsg, hb1⟩
  have cc_1 := bstep bd0 hb1
  have hC_1 : (fun w' : World => (w'.cell? ⟨b', o', none⟩ = some (.bool s) ∧ w'.cell? ⟨b', o' + 1, none⟩ = some (.slice a n c)) ∧ w'.cell? ⟨b'', o'', none⟩ = some (.bool s2) ∧ w'.cell? ⟨b'', o'' + 1, none⟩ = some (.slice a2 n2 c2)) w1 := unhide HCC _ cc_1
  refine hK.out _ _ (fun _ => hC_1) ?_
  clear hK K
  (try simp only [Act.put, List.setIfInBounds_toArray, List.set_cons_zero, List.set_cons_succ])
  refine wpTill_pure (i := 18) (v := ?_) rfl (by kernel_rfl) (by kernel_rfl) (by kernel_rfl) (by kernel_rfl) (fun _ _ _ h => h) (Or.inl ⟨by rfl, ?_⟩) (fun _ => hC_1) ?_
  rotate_left
  · intro w hSw; clear hSw; go_simp; (try with_reducible rfl)
  (try simp only [List.getElem_toArray, List.getElem_cons_succ, List.getElem_cons_zero])
  (try simp only [Act.put, List.setIfInBounds_toArray, List.set_cons_zero, List.set_cons_succ])
  refine wpTill_pure (i := 19) (v := ?_) rfl (by kernel_rfl) (by kernel_rfl) (by kernel_rfl) (by kernel_rfl) (fun _ _ _ h => h) (Or.inl ⟨by rfl, ?_⟩) (fun _ => hC_1) ?_
  rotate_left
  · intro w hSw; clear hSw; go_simp; (try with_reducible rfl)
  (try simp only [List.getElem_toArray, List.getElem_cons_succ, List.getElem_cons_zero])
  (try simp only [Act.put, List.setIfInBounds_toArray, List.set_cons_zero, List.set_cons_succ])
  refine wpTill_one (k := 20) (by kernel_rfl) rfl (fun K hK => ?_)
  (try simp only [List.getElem_toArray, List.getElem_cons_succ, List.getElem_cons_zero])
  go_simp
  refine (give_any b o t a1 n1 c1 w1 ((unhide HK).below cc_1)).mono ?_
  rintro e w2 ⟨rfl, rfl⟩
  refine hK.out _ _ (fun h => absurd (h.symm.trans (by kernel_rfl)) Bool.false_ne_true) ?_
  clear hK K
  (try simp only [Act.put, List.setIfInBounds_toArray, List.set_cons_zero, List.set_cons_succ])
  refine wpTill_one (k := 21) (by kernel_rfl) rfl (fun K hK => ?_)
  (try simp only [List.getElem_toArray, List.getElem_cons_succ, List.getElem_cons_zero])
  go_simp
  refine hK.out _ _ (fun h => absurd (h.symm.trans (by kernel_rfl)) Bool.false_ne_true) ?_
  clear hK K
  (try simp only [Act.put, List.setIfInBounds_toArray, List.set_cons_zero, List.set_cons_succ])
  refine wpTill_done (by kernel_rfl) ?_ _
  have hq : (t && decide (0 < n1)) = decide (N + M < 0) := neg_len (N := N + M) hv2 hsg
  have HV := hide hv2
  have HB := hide cc_1
  have HQ := hide hq
  clear hq hv2 cc_1 hb1 hC_1 hC0 bd0 HCC HMU hsg
  go_wp2
  go_ret
  exact ⟨rfl, w1, a1, n1, c1, unhide HB, unhide HV, by rw [unhide HQ]⟩
end Go.Proofs.YtcelbgleajpenaaGreatDoor
namespace Go.Proofs.YtcelbgleajpenaaGreatDoor
open Go.RowKit Go.Sort Go.Shelf

theorem radd_math (x y : Rat) : Rat.divInt (x.num * (y.den : Int) + y.num * (x.den : Int)) ((x.den : Int) * (y.den : Int)) = x + y := by
  conv => rhs; rw [← Rat.num_divInt_den x, ← Rat.num_divInt_den y]
  rw [Rat.divInt_add_divInt _ _ (by have := x.den_pos; omega) (by have := y.den_pos; omega)]
theorem rmul_math (x y : Rat) : Rat.divInt (x.num * y.num) ((x.den : Int) * (y.den : Int)) = x * y := by
  conv => rhs; rw [← Rat.num_divInt_den x, ← Rat.num_divInt_den y]
  rw [Rat.divInt_mul_divInt]
theorem pw_both (j : Nat) : Wd.pw j = Wh.pw (2 * j) := by
  induction j with
  | zero => rfl
  | succ j ih =>
    rw [Wd.pw_succ, show 2 * (j + 1) = 2 * j + 1 + 1 by omega, Wh.pw_succ, Wh.pw_succ, ih]
    omega
theorem smh_pw {N : Int} {j : Nat} (h : N < Wd.pw j) (hj : j ≤ 500000) : SmH N := by
  rw [pw_both] at h
  exact Int.lt_of_lt_of_le h (Wh.pw_mono (by omega))
theorem txt_pw {N : Int} {j : Nat} (h : (N.natAbs : Int) < Wd.pw j) (hj : j ≤ 200000) : Txt N := by
  refine ⟨smh_pw h (by omega), ?_⟩
  have h1 := Int.lt_of_lt_of_le h (pw_dec j)
  have h2 : N.natAbs < 10 ^ (20 * j + 19 + 1) := by
    have e : 10 ^ (20 * j) ≤ 10 ^ (20 * j + 19 + 1) := Nat.pow_le_pow_right (by decide) (by omega)
    have h0 : 0 < 10 ^ (20 * j) := Nat.pow_pos (by decide)
    generalize 10 ^ (20 * j + 19 + 1) = Y at *
    generalize 10 ^ (20 * j) = X at *
    omega
  have h3 := Dd.dec_len_le (20 * j + 19) N.natAbs h2
  omega
theorem RS.txt {q : Rat} {j : Nat} (h : RS q j) (hj : j ≤ 200000) : Txt q.num ∧ Txt (q.den : Int) := ⟨txt_pw h.1 hj, txt_pw (by rw [Int.natAbs_natCast]; exact h.2) hj⟩
theorem smh_mul {x y : Int} {i j : Nat} (hx : (x.natAbs : Int) < Wd.pw i) (hy : (y.natAbs : Int) < Wd.pw j) (h : i + j ≤ 400001) : SmH ((x * y).natAbs : Int) := by
  rw [Int.natAbs_mul]
  exact smh_pw (prod_bd hx hy) (by omega)
theorem smh_add {x y : Int} {k : Nat} (hx : (x.natAbs : Int) < Wd.pw k) (hy : (y.natAbs : Int) < Wd.pw k) (h : k ≤ 400001) : SmH ((x + y).natAbs : Int) := by
  have t := pw_two hx hy
  exact smh_pw (j := k + 1) (Int.lt_of_le_of_lt (by have := Int.natAbs_add_le x y; omega) t) (by omega)

/-- A fraction of the checker's, or a new one that is 0. -/
def BRz (w : World) (b o : Nat) (q : Rat) : Prop := BInt w b o q.num ∧ (BInt w b (o + 2) (q.den : Int) ∨ (q = 0 ∧ BInt w b (o + 2) 0))
theorem BRat.z {w : World} {b o : Nat} {q : Rat} (h : BRat w b o q) : BRz w b o q := ⟨h.1, Or.inl h.2⟩
theorem BRz.below {w w' : World} {b o : Nat} {q : Rat} (h : BRz w b o q) (hb : Below w.heap.size w w') : BRz w' b o q := ⟨h.1.below hb, h.2.imp (fun k => k.below hb) (fun k => ⟨k.1, k.2.below hb⟩)⟩
theorem bint_of {W : World} {g o : Nat} {T : TypeId} {cs : Array Value} (h : W.heap[g]? = some (.cells cs T)) (h0 : cs[o]? = some (.bool false)) (h1 : cs[o + 1]? = some (.slice none 0 0)) : BInt W g o 0 :=
  ⟨by simp [World.cell?, h, h0], ⟨none, 0, 0, by simp [World.cell?, h, h1], hNat_zero _ _ _ (by decide)⟩, by simp [World.frozen?, h], by simp [World.frozen?, h], (Array.getElem?_eq_some_iff.1 h).1⟩
theorem rz_new (w : World) : BRz (w.alloc (.cells #[.bool false, .slice none 0 0, .bool false, .slice none 0 0] 86)) w.heap.size 0 0 :=
  ⟨bint_of (heap_alloc_new w _) rfl rfl, Or.inr ⟨rfl, bint_of (heap_alloc_new w _) rfl rfl⟩⟩
/-- What den yields. -/
def DenAt (w : World) (b o : Nat) (D : Int) (e : Ending) (w' : World) : Prop := ∃ b' o', e = .returned (.pointer (some ⟨b', o', none⟩)) ∧ BInt w' b' o' D ∧ Below w.heap.size w w' ∧ ((b' = b ∧ o' = o + 2) ∨ w.heap.size ≤ b')
set_option maxHeartbeats 16000000 in
set_option maxRecDepth 100000 in
set_option linter.unusedSimpArgs false in
theorem denz_any (b o : Nat) (q : Rat) (w : World) (x : BRz w b o q) :
    Calls Tryz.prog 59 #[.pointer (some ⟨b, o, none⟩)] w (DenAt w b o (q.den : Int)) := by
  rcases x with ⟨x1, x2 | ⟨rfl, x2⟩⟩
  · refine (den_any b o q w ⟨x1, x2⟩).mono ?_
    rintro e w' ⟨rfl, rfl⟩
    exact ⟨b, o + 2, rfl, x2, Below.refl _ _, Or.inl ⟨rfl, rfl⟩⟩
  · obtain ⟨a, n, c, ea, a', n', c', e, hl, _⟩ := x2.ab
    injection e with e1 e2 e3
    subst e2
    obtain rfl : n = 0 := hl.of_zero
    have HN := hide (newInt_any 1 (by decide) (by decide) w)
    clear hl x1 x2
    go_enter Tryz.func59, Tryz.ntmps59
    go_wp2_with fail
    refine (unhide HN).mono ?_
    rintro e w1 ⟨b1, rfl, hb1, hi1, hl1⟩
    have HI := hide hi1
    have HL := hide hl1
    have HB := hide hb1
    clear hi1 hl1 hb1
    go_wp2
    go_ret
    exact ⟨b1, 0, rfl, unhide HI, unhide HL, Or.inr (unhide HB)⟩
/-- Numbers in memory by tags: those below n are of the call's own. -/
structure Tags (n : Nat) (w0 w : World) (t : Nat → Option (Nat × Nat × Int)) : Prop where
  bl : Below w0.heap.size w0 w
  int : ∀ i g o N, t i = some (g, o, N) → BInt w g o N
  own : ∀ i g o N, i < n → t i = some (g, o, N) → w0.heap.size ≤ g ∧ o = 0
  far : ∀ i j g o N g' o' N', i < n → i ≠ j → t i = some (g, o, N) → t j = some (g', o', N') → ApartI g o g' o'
def upd (t : Nat → Option (Nat × Nat × Int)) (i : Nat) (x : Nat × Nat × Int) : Nat → Option (Nat × Nat × Int) := fun j => if j = i then some x else t j
theorem Tags.start (n : Nat) (w : World) : Tags n w w (fun _ => none) := ⟨Below.refl _ _, fun _ _ _ _ h => (by cases h), fun _ _ _ _ _ h => (by cases h), fun _ _ _ _ _ _ _ _ _ _ h => (by cases h)⟩
theorem upd_cases {t : Nat → Option (Nat × Nat × Int)} {i j : Nat} {x y : Nat × Nat × Int} (h : upd t i x j = some y) : (j = i ∧ x = y) ∨ (j ≠ i ∧ t j = some y) := by
  unfold upd at h
  by_cases e : j = i
  · rw [if_pos e] at h; exact Or.inl ⟨e, Option.some.inj h⟩
  · rw [if_neg e] at h; exact Or.inr ⟨e, h⟩
theorem Tags.new {n : Nat} {w0 w : World} {t : Nat → Option (Nat × Nat × Int)} (h : Tags n w0 w t) (i : Nat) : Tags n w0 (w.alloc (.cells #[.bool false, .slice none 0 0] 84)) (upd t i (w.heap.size, 0, 0)) := by
  have bm := abelow w (.cells #[.bool false, .slice none 0 0] 84)
  refine ⟨bstep h.bl bm, fun j g o N e => ?_, fun j g o N hj e => ?_, fun j k g o N g' o' N' hj hne e e' => ?_⟩
  · rcases upd_cases e with ⟨rfl, q⟩ | ⟨_, q⟩
    · injection q with e1 e2; injection e2 with e2 e3; subst e1 e2 e3; exact int_new w
    · exact (h.int j g o N q).below bm
  · rcases upd_cases e with ⟨rfl, q⟩ | ⟨_, q⟩
    · injection q with e1 e2; injection e2 with e2 e3; subst e1 e2 e3; exact ⟨h.bl.size, rfl⟩
    · exact h.own j g o N hj q
  · rcases upd_cases e with ⟨rfl, q⟩ | ⟨h1, q⟩
    · rcases upd_cases e' with ⟨rfl, q'⟩ | ⟨h2, q'⟩
      · exact absurd rfl hne
      · injection q with e1 e2; subst e1; have := (h.int k g' o' N' q').lt; exact fun ee => by omega
    · rcases upd_cases e' with ⟨rfl, q'⟩ | ⟨h2, q'⟩
      · injection q' with e1 e2; subst e1; have := (h.int j g o N q).lt; exact fun ee => by omega
      · exact h.far j k g o N g' o' N' hj hne q q'
/-- A number that is only read, from old memory or new. -/
theorem Tags.den {n : Nat} {w0 w w' : World} {t : Nat → Option (Nat × Nat × Int)} (h : Tags n w0 w t) {i b b' o' : Nat} {D : Int} (hi : n ≤ i) (hb : b < w0.heap.size) (hd : BInt w' b' o' D) (hl : Below w.heap.size w w') (ho : b' = b ∨ w.heap.size ≤ b') : Tags n w0 w' (upd t i (b', o', D)) := by
  refine ⟨bstep h.bl hl, fun j g o N e => ?_, fun j g o N hj e => ?_, fun j k g o N g' o1 N' hj hne e e' => ?_⟩
  · rcases upd_cases e with ⟨rfl, q⟩ | ⟨_, q⟩
    · injection q with e1 e2; injection e2 with e2 e3; subst e1 e2 e3; exact hd
    · exact (h.int j g o N q).below hl
  · rcases upd_cases e with ⟨rfl, q⟩ | ⟨_, q⟩
    · omega
    · exact h.own j g o N hj q
  · rcases upd_cases e with ⟨rfl, q⟩ | ⟨h1, q⟩
    · omega
    · rcases upd_cases e' with ⟨rfl, q'⟩ | ⟨h2, q'⟩
      · injection q' with e1 e2; subst e1; have := (h.int j g o N q).lt; have := (h.own j g o N hj q).1; exact fun ee => by omega
      · exact h.far j k g o N g' o1 N' hj hne q q'
theorem Tags.gives {n : Nat} {w0 w w' : World} {t : Nat → Option (Nat × Nat × Int)} (h : Tags n w0 w t) {i g : Nat} {N M : Int} {e : Ending} (hi : i < n) (ht : t i = some (g, 0, M)) (hG : GivesAt w g 0 N e w') : Tags n w0 w' (upd t i (g, 0, N)) := by
  have sl := (h.int i g 0 M ht).slot
  refine ⟨hG.bl h.bl (h.own i g 0 M hi ht).1, fun j g' o N' e => ?_, fun j g' o N' hj e => ?_, fun j k g1 o N1 g' o1 N' hj hne e e' => ?_⟩
  · rcases upd_cases e with ⟨rfl, q⟩ | ⟨hn, q⟩
    · injection q with e1 e2; injection e2 with e2 e3; subst e1 e2 e3; exact hG.int sl
    · exact hG.other sl (h.int j g' o N' q) (h.far i j g 0 M g' o N' hi (Ne.symm hn) ht q)
  · rcases upd_cases e with ⟨rfl, q⟩ | ⟨_, q⟩
    · injection q with e1 e2; injection e2 with e2 e3; subst e1 e2 e3; exact h.own j g 0 M hj ht
    · exact h.own j g' o N' hj q
  · rcases upd_cases e with ⟨rfl, q⟩ | ⟨h1, q⟩
    · rcases upd_cases e' with ⟨rfl, q'⟩ | ⟨h2, q'⟩
      · exact absurd rfl hne
      · injection q with e1 e2; injection e2 with e2 e3; subst e1 e2; exact h.far j k g 0 M g' o1 N' hj hne ht q'
    · rcases upd_cases e' with ⟨rfl, q'⟩ | ⟨h2, q'⟩
      · injection q' with e1 e2; injection e2 with e2 e3; subst e1 e2; exact h.far j k g1 o N1 g 0 M hj hne q ht
      · exact h.far j k g1 o N1 g' o1 N' hj hne q q'
def allB (f : Bool → Bool) : Bool := f false && f true
theorem allB_of {f : Bool → Bool} (h : allB f = true) (b : Bool) : f b = true := by
  unfold allB at h
  rw [Bool.and_eq_true] at h
  cases b
  · exact h.1
  · exact h.2
def upto5 (f : Nat → Bool) : Bool := f 0 && (f 1 && (f 2 && (f 3 && f 4)))
theorem upto5_of {f : Nat → Bool} (h : upto5 f = true) (k : Nat) (hk : k ≤ 4) : f k = true := by
  unfold upto5 at h
  simp only [Bool.and_eq_true] at h
  match k, hk with
  | 0, _ => exact h.1
  | 1, _ => exact h.2.1
  | 2, _ => exact h.2.2.1
  | 3, _ => exact h.2.2.2.1
  | 4, _ => exact h.2.2.2.2
theorem not_of {g : Bool} (h : (!g) = true) : g = false := by cases g <;> simp_all
/-- A region walked by states: wherever it isn't at an end, each operation that is ready leads on. -/
theorem walk_any {P : Program} {ops : Array Oper} {Q : Exit → Act → World → Prop} {C : World → Prop} {md : Region.Mode} {S : Type} (mk : S → Array Bool) (fuel : S → Nat) (fin : S → Bool) (next : S → Nat → Option S) (I : S → Act → World → Prop)
    (hne : ∀ s, fin s = false → (Region.ready md ops (mk s)).isEmpty = false)
    (hck : ∀ s, fin s = false → (Region.ready md ops (mk s)).all (fun i => match next s i with | some s' => ((mk s).setIfInBounds i true == mk s') && (fuel s == fuel s' + 1) | none => false) = true)
    (hst : ∀ s i s', next s i = some s' → ∀ a w, I s a w → wpOp P ops Q i (fun a' w' => C w' ∧ I s' a' w') a w)
    (hf : ∀ s, fin s = true → ∀ a w, I s a w → wpHold P md ops Q C (fuel s) (mk s) a w) :
    ∀ n s, fuel s = n → ∀ a w, I s a w → wpHold P md ops Q C n (mk s) a w := by
  have hr : ∀ s, fin s = false → ∀ i ∈ Region.ready md ops (mk s), ∃ s', (mk s).setIfInBounds i true = mk s' ∧ fuel s = fuel s' + 1 ∧ ∀ a w, I s a w → wpOp P ops Q i (fun a' w' => C w' ∧ I s' a' w') a w := fun s e i hi => by
    have hk := List.all_eq_true.1 (hck s e) i hi
    cases en : next s i with
    | none => rw [en] at hk; cases hk
    | some s' =>
      rw [en] at hk
      simp only [Bool.and_eq_true, beq_iff_eq] at hk
      exact ⟨s', hk.1, hk.2, hst s i s' en⟩
  intro n
  induction n with
  | zero =>
    intro s hs a w h
    cases e : fin s with
    | true => rw [← hs]; exact hf s e a w h
    | false =>
      have hn := hne s e
      cases el : Region.ready md ops (mk s) with
      | nil => rw [el] at hn; cases hn
      | cons i r =>
        obtain ⟨s', _, h2, _⟩ := hr s e i (by rw [el]; exact List.mem_cons_self ..)
        omega
  | succ n ih =>
    intro s hs a w h
    cases e : fin s with
    | true => rw [← hs]; exact hf s e a w h
    | false =>
      have hn := hne s e
      refine ⟨fun e' => (by rw [e'] at hn; cases hn), fun i hi => ?_⟩
      obtain ⟨s', h1, h2, h3⟩ := hr s e i hi
      exact wpOp_mono (fun a' w' h' => ⟨h'.1, by rw [h1]; exact ih s' (by omega) a' w' h'.2⟩) (h3 a w h)
theorem wpHoldz_listed {P : Program} {md : Region.Mode} {ops : Array Oper} {Q : Exit → Act → World → Prop} {C : World → Prop} {m n : Nat} {L L' : Array Bool} {a : Act} {w : World} (hn : m = n) (h : L = L') (H : wpHold P md ops Q C n L' a w) : wpHold P md ops Q C m L a w := by subst hn; subst h; exact H
theorem wpHoldz_name {P : Program} {md : Region.Mode} {ops : Array Oper} {Q : Exit → Act → World → Prop} {C : World → Prop} {n : Nat} {L : Array Bool} {a : Act} {w : World} (H : ∀ a0, a0 = a → wpHold P md ops Q C n L a0 w) : wpHold P md ops Q C n L a w := H a rfl
end Go.Proofs.YtcelbgleajpenaaGreatDoor
