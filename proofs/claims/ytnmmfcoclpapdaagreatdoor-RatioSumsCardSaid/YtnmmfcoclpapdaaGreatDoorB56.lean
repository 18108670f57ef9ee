/- The checker's quotient and rest with signs; the document's Floor. -/
import Derived.Test.YtnmmfcoclpapdaaGreatDoorB47
namespace Go.Proofs.YtnmmfcoclpapdaaGreatDoor
open Go.RowKit Go.Sort Go.Shelf

theorem floor_of {N D : Int} (hD : 0 < D) : N / D = if N.tmod D < 0 then N.tdiv D - 1 else N.tdiv D := by
  have e := Int.mul_tdiv_add_tmod N D
  have hb : N.tmod D < D := Int.tmod_lt_of_pos N hD
  have hb2 : -D < N.tmod D := by
    have := Int.lt_tmod_of_pos N hD
    omega
  by_cases h : N.tmod D < 0
  · rw [if_pos h]
    refine (Int.ediv_emod_unique (a := N) (b := D) (r := N.tmod D + D) (q := N.tdiv D - 1) hD).2 ⟨?_, by omega, by omega⟩ |>.1
    rw [Int.mul_sub, Int.mul_one]; omega
  · rw [if_neg h]
    refine (Int.ediv_emod_unique (a := N) (b := D) (r := N.tmod D) (q := N.tdiv D) hD).2 ⟨by omega, by omega, by omega⟩ |>.1
theorem tdiv_abs {N D : Int} : (N.tdiv D).natAbs = N.natAbs / D.natAbs := Int.natAbs_tdiv N D
theorem tmod_abs {N D : Int} : (N.tmod D).natAbs = N.natAbs % D.natAbs := Int.natAbs_tmod N D
theorem tdiv_neg {N D : Int} (hD : 0 < D) (h : N.tdiv D ≠ 0) : decide (N < 0) = decide (N.tdiv D < 0) := by
  rcases Int.lt_or_le N 0 with h1 | h1
  · have : N.tdiv D ≤ 0 := by
      have := Int.tdiv_nonneg (a := -N) (b := D) (by omega) (by omega)
      rw [Int.neg_tdiv] at this
      omega
    rw [decide_eq_true h1, decide_eq_true (by omega)]
  · have : 0 ≤ N.tdiv D := Int.tdiv_nonneg h1 (by omega)
    rw [decide_eq_false (by omega), decide_eq_false (by omega)]
theorem tmod_neg {N D : Int} (h : N.tmod D ≠ 0) : decide (N < 0) = decide (N.tmod D < 0) := by
  rcases Int.lt_or_le N 0 with h1 | h1
  · have : N.tmod D ≤ 0 := by
      have := Int.tmod_nonneg (a := -N) D (by omega)
      rw [Int.neg_tmod] at this
      omega
    rw [decide_eq_true h1, decide_eq_true (by omega)]
  · have : 0 ≤ N.tmod D := Int.tmod_nonneg D h1
    rw [decide_eq_false (by omega), decide_eq_false (by omega)]
theorem upd_self (t : Nat → Option (Nat × Nat × Int)) (i : Nat) (x : Nat × Nat × Int) : upd t i x i = some x := by simp [upd]
theorem upd_other (t : Nat → Option (Nat × Nat × Int)) {i j : Nat} (x : Nat × Nat × Int) (h : j ≠ i) : upd t i x j = t j := by simp [upd, h]
set_option maxHeartbeats 8000000 in
set_option maxRecDepth 100000 in
set_option linter.unusedSimpArgs false in
theorem quoRem_any (t : Nat → Option (Nat × Nat × Int)) (w0 w : World) (T : Tags 2 w0 w t) (gz gr bx ox by' oy : Nat) (N D M1 M2 : Int) (hz : t 0 = some (gz, 0, M1)) (hr : t 1 = some (gr, 0, M2)) (x : BInt w bx ox N) (y : BInt w by' oy D) (hD : 0 < D) (sn : SmH (N.natAbs : Int)) :
    Calls Tryz.prog 123 #[.pointer (some ⟨gz, 0, none⟩), .pointer (some ⟨bx, ox, none⟩), .pointer (some ⟨by', oy, none⟩), .pointer (some ⟨gr, 0, none⟩)] w fun e w' => e = .returned (.tuple #[.pointer (some ⟨gz, 0, none⟩), .pointer (some ⟨gr, 0, none⟩)]) ∧ Tags 2 w0 w' (upd (upd t 0 (gz, 0, N.tdiv D)) 1 (gr, 0, N.tmod D)) := by
  obtain ⟨a, n1, c, ea, hn⟩ := x.ab
  obtain ⟨a2, n2, c2, ea2, hn2⟩ := y.ab
  have es := x.sg
  have es2 := y.sg
  rw [decide_eq_false (show ¬ D < 0 by omega)] at es2
  have hdn : (D.natAbs : Int) = D := by omega
  rw [hdn] at hn2
  have HDV : Hid (∀ W, Below w.heap.size w W → Calls Tryz.prog 161 #[.slice a n1 c, .slice a2 n2 c2] W (DivPost W (N.natAbs : Int) D)) := fun W hW => div32_any _ _ _ _ W (hn.below hW) (hn2.below hW) sn hD
  have HCC : Hid (∀ W, Below w.heap.size w W → (fun w' : World => w'.cell? ⟨bx, ox + 1, none⟩ = some (.slice a n1 c) ∧ w'.cell? ⟨by', oy + 1, none⟩ = some (.slice a2 n2 c2)) W) := fun W hW => ⟨by rw [hW.cell (p := ⟨bx, ox + 1, none⟩) x.lt]; exact ea, by rw [hW.cell (p := ⟨by', oy + 1, none⟩) y.lt]; exact ea2⟩
  obtain ⟨s, hs⟩ : ∃ s, decide (N < 0) = s := ⟨_, rfl⟩
  rw [hs] at es
  have HS := hide hs
  have HT := hide T
  have HZ := hide hz
  have HR := hide hr
  have HD := hide hD
  have esb : (s != false) = s := by cases s <;> rfl
  clear x y hn hn2 hdn ea ea2 T hz hr hs sn hD
  go_enter Tryz.func123, Tryz.ntmps123
  go_wp2_with fail
  go_quiet (fail)
  obtain ⟨V, hV⟩ : ∃ V, w.drewN nq = V := ⟨_, rfl⟩
  have bV : Below w.heap.size w V := by rw [← hV]; exact bdrew w nq
  rw [hV]
  have HBV := hide bV
  have HC2 : Hid (∀ W, Below V.heap.size V W → (fun w' : World => w'.cell? ⟨bx, ox + 1, none⟩ = some (.slice a n1 c) ∧ w'.cell? ⟨by', oy + 1, none⟩ = some (.slice a2 n2 c2)) W) := fun W hW => unhide HCC W (bstep (unhide HBV) hW)
  have HD2 : Hid (∀ W, Below V.heap.size V W → Calls Tryz.prog 161 #[.slice a n1 c, .slice a2 n2 c2] W (DivPost W (N.natAbs : Int) D)) := fun W hW => unhide HDV W (bstep (unhide HBV) hW)
  clear hV bV es es2 HCC HDV
  go_wp2_with fail
  refine wp_region_hold (fun w' : World => w'.cell? ⟨bx, ox + 1, none⟩ = some (.slice a n1 c) ∧ w'.cell? ⟨by', oy + 1, none⟩ = some (.slice a2 n2 c2)) (by kernel_rfl) ?_
  have bd0 : Below V.heap.size V V.drew := (Below.refl _ _).drew
  have hC0 : (fun w' : World => w'.cell? ⟨bx, ox + 1, none⟩ = some (.slice a n1 c) ∧ w'.cell? ⟨by', oy + 1, none⟩ = some (.slice a2 n2 c2)) V.drew := unhide HC2 _ bd0
  refine wpHold_take (i := 0) (v := ?_) rfl (by kernel_rfl) (by kernel_rfl) (by kernel_rfl) (fun _ _ _ h => h) (Or.inl ⟨by rfl, ?_⟩) hC0 ?_
  rotate_left
  · intro w hSw; clear hSw; go_simp; (try with_reducible rfl)
  (try simp only [List.getElem_toArray, List.getElem_cons_succ, List.getElem_cons_zero])
  (try simp only [Act.put, List.setIfInBounds_toArray, List.set_cons_zero, List.set_cons_succ])
  refine wpHold_take (i := 1) (v := ?_) rfl (by kernel_rfl) (by kernel_rfl) (by kernel_rfl) (fun _ _ _ h => h) (Or.inl ⟨by rfl, ?_⟩) hC0 ?_
  rotate_left
  · intro w hSw; clear hSw; go_simp; (try with_reducible rfl)
  (try simp only [List.getElem_toArray, List.getElem_cons_succ, List.getElem_cons_zero])
  (try simp only [Act.put, List.setIfInBounds_toArray, List.set_cons_zero, List.set_cons_succ])
  refine wpHold_take (i := 2) (v := ?_) rfl (by kernel_rfl) (by kernel_rfl) (by kernel_rfl) (fun _ _ _ h => h) (Or.inl ⟨by rfl, ?_⟩) hC0 ?_
  rotate_left
  · intro w hSw; clear hSw; go_simp; (try with_reducible rfl)
  (try simp only [List.getElem_toArray, List.getElem_cons_succ, List.getElem_cons_zero])
  (try simp only [Act.put, List.setIfInBounds_toArray, List.set_cons_zero, List.set_cons_succ])
  refine wpHold_take (i := 3) (v := ?_) rfl (by kernel_rfl) (by kernel_rfl) (by kernel_rfl) (fun _ _ _ h => h) (Or.inl ⟨by rfl, ?_⟩) hC0 ?_
  rotate_left
  · intro w hSw; (try dsimp only at hSw); obtain ⟨z0, z1⟩ := hSw; go_simp; (try with_reducible rfl)
  (try simp only [List.getElem_toArray, List.getElem_cons_succ, List.getElem_cons_zero])
  (try simp only [Act.put, List.setIfInBounds_toArray, List.set_cons_zero, List.set_cons_succ])
  refine wpHold_take (i := 4) (v := ?_) rfl (by kernel_rfl) (by kernel_rfl) (by kernel_rfl) (fun _ _ _ h => h) (Or.inl ⟨by rfl, ?_⟩) hC0 ?_
  rotate_left
  · intro w hSw; clear hSw; go_simp; (try with_reducible rfl)
  (try simp only [List.getElem_toArray, List.getElem_cons_succ, List.getElem_cons_zero])
  (try simp only [Act.put, List.setIfInBounds_toArray, List.set_cons_zero, List.set_cons_succ])
  refine wpHold_take (i := 5) (v := ?_) rfl (by kernel_rfl) (by kernel_rfl) (by kernel_rfl) (fun _ _ _ h => h) (Or.inl ⟨by rfl, ?_⟩) hC0 ?_
  rotate_left
  · intro w hSw; clear hSw; go_simp; (try with_reducible rfl)
  (try simp only [List.getElem_toArray, List.getElem_cons_succ, List.getElem_cons_zero])
  (try simp only [Act.put, List.setIfInBounds_toArray, List.set_cons_zero, List.set_cons_succ])
  refine wpHold_take (i := 6) (v := ?_) rfl (by kernel_rfl) (by kernel_rfl) (by kernel_rfl) (fun _ _ _ h => h) (Or.inl ⟨by rfl, ?_⟩) hC0 ?_
  rotate_left
  · intro w hSw; clear hSw; go_simp; (try with_reducible rfl)
  (try simp only [List.getElem_toArray, List.getElem_cons_succ, List.getElem_cons_zero])
  (try simp only [Act.put, List.setIfInBounds_toArray, List.set_cons_zero, List.set_cons_succ])
  refine wpHold_take (i := 7) (v := ?_) rfl (by kernel_rfl) (by kernel_rfl) (by kernel_rfl) (fun _ _ _ h => h) (Or.inl ⟨by rfl, ?_⟩) hC0 ?_
  rotate_left
  · intro w hSw; (try dsimp only at hSw); obtain ⟨z0, z1⟩ := hSw; go_simp; (try with_reducible rfl)
  (try simp only [List.getElem_toArray, List.getElem_cons_succ, List.getElem_cons_zero])
  (try simp only [Act.put, List.setIfInBounds_toArray, List.set_cons_zero, List.set_cons_succ])
  refine wpHold_one (k := 8) (by kernel_rfl) rfl (fun K hK => ?_)
  (try simp only [List.getElem_toArray, List.getElem_cons_succ, List.getElem_cons_zero])
  go_simp
  refine (unhide HD2 _ bd0).mono ?_
  rintro e xw ⟨v1, v2, rfl, h1, h2, hb1⟩
  have cc1 := bstep bd0 hb1
  have hCx : (fun w' : World => w'.cell? ⟨bx, ox + 1, none⟩ = some (.slice a n1 c) ∧ w'.cell? ⟨by', oy + 1, none⟩ = some (.slice a2 n2 c2)) xw := unhide HC2 _ cc1
  refine hK.out _ _ hCx ?_
  clear hK K
  (try simp only [Act.put, List.setIfInBounds_toArray, List.set_cons_zero, List.set_cons_succ])
  refine wpHold_take (i := 9) (v := ?_) rfl (by kernel_rfl) (by kernel_rfl) (by kernel_rfl) (fun _ _ _ h => h) (Or.inl ⟨by rfl, ?_⟩) hCx ?_
  rotate_left
  · intro w hSw; clear hSw; go_simp; (try with_reducible rfl)
  (try simp only [List.getElem_toArray, List.getElem_cons_succ, List.getElem_cons_zero])
  (try simp only [Act.put, List.setIfInBounds_toArray, List.set_cons_zero, List.set_cons_succ])
  refine wpHold_take (i := 10) (v := ?_) rfl (by kernel_rfl) (by kernel_rfl) (by kernel_rfl) (fun _ _ _ h => h) (Or.inl ⟨by rfl, ?_⟩) hCx ?_
  rotate_left
  · intro w hSw; clear hSw; go_simp; (try with_reducible rfl)
  (try simp only [List.getElem_toArray, List.getElem_cons_succ, List.getElem_cons_zero])
  (try simp only [Act.put, List.setIfInBounds_toArray, List.set_cons_zero, List.set_cons_succ])
  refine wpHold_take (i := 11) (v := ?_) rfl (by kernel_rfl) (by kernel_rfl) (by kernel_rfl) (fun _ _ _ h => h) (Or.inl ⟨by rfl, ?_⟩) hCx ?_
  rotate_left
  · intro w hSw; clear hSw; go_simp; (try with_reducible rfl)
  (try simp only [List.getElem_toArray, List.getElem_cons_succ, List.getElem_cons_zero])
  (try simp only [Act.put, List.setIfInBounds_toArray, List.set_cons_zero, List.set_cons_succ])
  refine wpHold_one (k := 12) (by kernel_rfl) rfl (fun K hK => ?_)
  (try simp only [List.getElem_toArray, List.getElem_cons_succ, List.getElem_cons_zero])
  go_simp
  refine hK.out _ _ hCx ?_
  clear hK K
  (try simp only [Act.put, List.setIfInBounds_toArray, List.set_cons_zero, List.set_cons_succ])
  refine wpHold_one (k := 13) (by kernel_rfl) rfl (fun K hK => ?_)
  (try simp only [List.getElem_toArray, List.getElem_cons_succ, List.getElem_cons_zero])
  go_simp
  refine hK.out _ _ hCx ?_
  clear hK K
  (try simp only [Act.put, List.setIfInBounds_toArray, List.set_cons_zero, List.set_cons_succ])
  refine wpHold_done (by kernel_rfl) ?_ _
  have sq : HNat xw v1 ((N.tdiv D).natAbs : Int) := by
    rw [tdiv_abs, Int.natCast_ediv, show ((D.natAbs : Nat) : Int) = D by have := unhide HD; omega]
    exact h1
  have sr : HNat xw v2 ((N.tmod D).natAbs : Int) := by
    rw [tmod_abs, Int.natCast_emod, show ((D.natAbs : Nat) : Int) = D by have := unhide HD; omega]
    exact h2
  have T1 := (unhide HT).keep (bstep (unhide HBV) cc1)
  obtain ⟨q1, q2, q3, rfl, -⟩ := id sq
  obtain ⟨r1, r2, r3, rfl, -⟩ := id sr
  have kz := (T1.int _ _ _ _ (unhide HZ)).slot
  have fz : (s && decide (0 < q2)) = decide (N.tdiv D < 0) := neg_len sq (fun h => by rw [← unhide HS]; exact tdiv_neg (unhide HD) h)
  have fr : (s && decide (0 < r2)) = decide (N.tmod D < 0) := neg_len sr (fun h => by rw [← unhide HS]; exact tmod_neg h)
  have G1 : GivesAt xw gz 0 (N.tdiv D) (.returned (.pointer (some ⟨gz, 0, none⟩))) (put xw gz 0 (.slice q1 q2 q3) (s && decide (0 < q2))) := ⟨rfl, xw, q1, q2, q3, Below.refl _ _, sq, by rw [fz]⟩
  have T2 := T1.gives (by decide) (unhide HZ) G1
  have sr2 := sr.put (v := .slice q1 q2 q3) (s := s && decide (0 < q2)) kz
  have HGZ := hide (give_any gz 0 s q1 q2 q3 xw kz)
  obtain ⟨W2, hW2⟩ : ∃ W, put xw gz 0 (.slice q1 q2 q3) (s && decide (0 < q2)) = W := ⟨_, rfl⟩
  rw [hW2] at T2 sr2 HGZ
  have hr1 : upd t 0 (gz, 0, N.tdiv D) 1 = some (gr, 0, M2) := by rw [upd_other _ _ (by decide)]; exact unhide HR
  have kr := (T2.int _ _ _ _ hr1).slot
  have G2 : GivesAt W2 gr 0 (N.tmod D) (.returned (.pointer (some ⟨gr, 0, none⟩))) (put W2 gr 0 (.slice r1 r2 r3) (s && decide (0 < r2))) := ⟨rfl, W2, r1, r2, r3, Below.refl _ _, sr2, by rw [fr]⟩
  have T3 := T2.gives (by decide) hr1 G2
  have HGR := hide (give_any gr 0 s r1 r2 r3 W2 kr)
  have HT3 := hide T3
  clear h1 h2 hb1 cc1 hCx bd0 hC0 sq sr T1 kz fz fr G1 T2 sr2 hW2 hr1 kr G2 T3 HC2 HD2
  go_wp2_with fail
  (try rw [esb])
  refine (unhide HGZ).mono ?_
  rintro e w6 ⟨rfl, rfl⟩
  clear HGZ
  go_wp2_with fail
  refine (unhide HGR).mono ?_
  rintro e w7 ⟨rfl, rfl⟩
  clear HGR
  go_wp2
  go_ret2
  exact ⟨rfl, unhide HT3⟩
set_option maxHeartbeats 8000000 in
set_option maxRecDepth 100000 in
set_option linter.unusedSimpArgs false in
theorem denom_any (b o : Nat) (q : Rat) (w : World) (x : BRz w b o q) (sd : SmH (((q.den : Int).natAbs : Nat) : Int)) :
    Calls Tryz.prog 74 #[.pointer (some ⟨b, o, none⟩)] w fun e w' => ∃ g, e = .returned (.pointer (some ⟨g, 0, none⟩)) ∧ w.heap.size ≤ g ∧ BInt w' g 0 (q.den : Int) ∧ Below w.heap.size w w' := by
  have k := slot_new w
  have bA := abelow w (.cells #[.bool false, .slice none 0 0] 101)
  obtain ⟨W0, hW0⟩ : ∃ W, w.alloc (.cells #[.bool false, .slice none 0 0] 101) = W := ⟨_, rfl⟩
  obtain ⟨g, hg⟩ : ∃ g, w.heap.size = g := ⟨_, rfl⟩
  rw [hW0, hg] at k
  rw [hW0] at bA
  have HD := hide (denz_any b o q W0 (x.below bA))
  have HK := hide k
  have HB := hide bA
  have HG := hide hg
  have HSD := hide sd
  clear x k bA sd
  go_enter Tryz.func74, Tryz.ntmps74
  go_wp2_with fail
  clear hW0 hg
  refine (unhide HD).mono ?_
  rintro e w1 ⟨b1, o1, rfl, hd, hl, -⟩
  have HS := hide (iset_any g 0 b1 o1 _ w1 ((unhide HK).below hl) hd (unhide HSD))
  have HK1 := hide ((unhide HK).below hl)
  have HB1 := hide (bstep (unhide HB) hl)
  clear hd hl HD
  go_wp2_with fail
  refine (unhide HS).mono ?_
  intro e w2 hG
  have i2 := hG.int (unhide HK1)
  have b2 := hG.bl (unhide HB1) (Nat.le_of_eq (unhide HG))
  have he := hG.1
  subst he
  have HI := hide i2
  have HB2 := hide b2
  clear hG i2 b2 HS
  go_wp2
  go_ret
  exact ⟨g, rfl, Nat.le_of_eq (unhide HG), unhide HI, unhide HB2⟩
set_option maxHeartbeats 8000000 in
set_option maxRecDepth 100000 in
set_option linter.unusedSimpArgs false in
theorem divMod_any (t : Nat → Option (Nat × Nat × Int)) (w0 w : World) (T : Tags 2 w0 w t) (gz gr bx ox by' oy : Nat) (N D M1 M2 : Int) (hz : t 0 = some (gz, 0, M1)) (hr : t 1 = some (gr, 0, M2)) (x : BInt w bx ox N) (hbx : bx < w0.heap.size) (y : BInt w by' oy D) (hD : 0 < D) (sn : SmH (N.natAbs : Int)) (sd : SmH (D.natAbs : Int)) (sq : SmH ((N.tdiv D).natAbs : Int)) (sr : SmH ((N.tmod D).natAbs : Int)) :
    Calls Tryz.prog 72 #[.pointer (some ⟨gz, 0, none⟩), .pointer (some ⟨bx, ox, none⟩), .pointer (some ⟨by', oy, none⟩), .pointer (some ⟨gr, 0, none⟩)] w fun e w' => ∃ t', e = .returned (.tuple #[.pointer (some ⟨gz, 0, none⟩), .pointer (some ⟨gr, 0, none⟩)]) ∧ Tags 2 w0 w' t' ∧ t' 0 = some (gz, 0, N / D) := by
  have k := slot_new w
  have bA := abelow w (.cells #[.bool false, .slice none 0 0] 101)
  obtain ⟨W0, hW0⟩ : ∃ W, w.alloc (.cells #[.bool false, .slice none 0 0] 101) = W := ⟨_, rfl⟩
  obtain ⟨g, hg⟩ : ∃ g, w.heap.size = g := ⟨_, rfl⟩
  rw [hW0, hg] at k
  rw [hW0] at bA
  have HS := hide (iset_any g 0 by' oy D W0 k (y.below bA) sd)
  have HK := hide k
  have HBA := hide bA
  have HG := hide hg
  have HT := hide T
  have HZ := hide hz
  have HR := hide hr
  have HX := hide x
  have HY := hide y
  have HBX := hide hbx
  have HD := hide hD
  have HSN := hide (And.intro sn (And.intro sq sr))
  have HFL := hide (floor_of (N := N) hD)
  have HSD := hide sd
  clear k bA T hz hr x y hbx hD sn sd sq sr
  go_enter Tryz.func72, Tryz.ntmps72
  go_wp2_with fail
  clear hW0 hg
  refine (unhide HS).mono ?_
  intro e w1 hG
  have i1 := hG.int (unhide HK)
  have b1 : Below w.heap.size w w1 := hG.bl (unhide HBA) (Nat.le_of_eq (unhide HG))
  have he := hG.1
  subst he
  have T1 := (unhide HT).den (i := 2) (b := bx) (o' := 0) (by decide) (unhide HBX) i1 b1 (Or.inr (Nat.le_of_eq (unhide HG)))
  have hz1 : upd t 2 (g, 0, D) 0 = some (gz, 0, M1) := by rw [upd_other _ _ (by decide)]; exact unhide HZ
  have hr1 : upd t 2 (g, 0, D) 1 = some (gr, 0, M2) := by rw [upd_other _ _ (by decide)]; exact unhide HR
  have HQ := hide (quoRem_any _ w0 w1 T1 gz gr bx ox by' oy N D M1 M2 hz1 hr1 ((unhide HX).below b1) ((unhide HY).below b1) (unhide HD) (unhide HSN).1)
  clear hG i1 b1 T1 hz1 hr1 HS
  go_wp2_with fail
  refine (unhide HQ).mono ?_
  rintro e w2 ⟨rfl, T2⟩
  have t0 : upd (upd (upd t 2 (g, 0, D)) 0 (gz, 0, N.tdiv D)) 1 (gr, 0, N.tmod D) 0 = some (gz, 0, N.tdiv D) := by simp [upd]
  have t1 : upd (upd (upd t 2 (g, 0, D)) 0 (gz, 0, N.tdiv D)) 1 (gr, 0, N.tmod D) 1 = some (gr, 0, N.tmod D) := by simp [upd]
  have t2 : upd (upd (upd t 2 (g, 0, D)) 0 (gz, 0, N.tdiv D)) 1 (gr, 0, N.tmod D) 2 = some (g, 0, D) := by simp [upd]
  obtain ⟨u, hu⟩ : ∃ u, upd (upd (upd t 2 (g, 0, D)) 0 (gz, 0, N.tdiv D)) 1 (gr, 0, N.tmod D) = u := ⟨_, rfl⟩
  rw [hu] at T2 t0 t1 t2
  have HT2 := hide T2
  have H0 := hide t0
  have H1 := hide t1
  have H2 := hide t2
  have em := (T2.int _ _ _ _ t1).sg
  have ed := (T2.int _ _ _ _ t2).sg
  rw [decide_eq_false (show ¬ D < 0 by have := unhide HD; omega)] at ed
  clear T2 t0 t1 t2 hu HQ
  by_cases hm : N.tmod D < 0
  · rw [decide_eq_true hm] at em
    have HRES : Hid (N / D = N.tdiv D - 1) := by show _ = _; rw [unhide HFL, if_pos hm]
    have HN1 := hide (newInt_any 1 (by decide) (by decide) w2)
    clear hm
    go_wp2_with fail
    refine (unhide HN1).mono ?_
    rintro e w3 ⟨b3, rfl, hb3, hi3, hl3⟩
    have T3 := (unhide HT2).keep hl3
    have HT3 := hide T3
    have HSU := hide (isub_any gz 0 gz 0 b3 0 _ _ w3 (T3.int _ _ _ _ (unhide H0)).slot (T3.int _ _ _ _ (unhide H0)) hi3 (unhide HSN).2.1 (smh_small (by decide)))
    clear hb3 hi3 hl3 T3 HN1
    go_wp2_with fail
    refine (unhide HSU).mono ?_
    intro e w4 hG
    have T4 := (unhide HT3).gives (by decide) (unhide H0) hG
    have he := hG.1
    subst he
    have r1 : upd u 0 (gz, 0, N.tdiv D - 1) 1 = some (gr, 0, N.tmod D) := by rw [upd_other _ _ (by decide)]; exact unhide H1
    have r2 : upd u 0 (gz, 0, N.tdiv D - 1) 2 = some (g, 0, D) := by rw [upd_other _ _ (by decide)]; exact unhide H2
    have HAD := hide (iadd_any gr 0 gr 0 g 0 _ _ w4 (T4.int _ _ _ _ r1).slot (T4.int _ _ _ _ r1) (T4.int _ _ _ _ r2) (unhide HSN).2.2 (unhide HSD))
    have HT4 := hide T4
    have HR1 := hide r1
    clear hG T4 r1 r2 HSU
    go_wp2_with fail
    refine (unhide HAD).mono ?_
    intro e w5 hG
    have T5 := (unhide HT4).gives (by decide) (unhide HR1) hG
    have he := hG.1
    subst he
    have HT5 := hide T5
    clear hG T5 HAD
    go_wp2
    go_ret2
    exact ⟨_, rfl, unhide HT5, by rw [upd_other _ _ (by decide), upd_self, unhide HRES]⟩
  · rw [decide_eq_false hm] at em
    have HRES : Hid (N / D = N.tdiv D) := by show _ = _; rw [unhide HFL, if_neg hm]
    clear hm
    go_wp2
    go_ret2
    exact ⟨_, rfl, unhide HT2, by rw [unhide H0, unhide HRES]⟩
set_option maxHeartbeats 8000000 in
set_option maxRecDepth 100000 in
set_option linter.unusedSimpArgs false in
theorem num_any (b o : Nat) (q : Rat) (w : World) (x : BRz w b o q) :
    Calls Tryz.prog 73 #[.pointer (some ⟨b, o, none⟩)] w fun e w' => e = .returned (.pointer (some ⟨b, o, none⟩)) ∧ w' = w := by
  have e0 := x.1.sg
  clear x
  go_enter Tryz.func73, Tryz.ntmps73
  go_wp2
  go_ret
  exact ⟨rfl, rfl⟩
set_option maxHeartbeats 8000000 in
set_option maxRecDepth 100000 in
set_option linter.unusedSimpArgs false in
theorem refFloor_any (b : Nat) (q : Rat) (w : World) (x : BRz w b 0 q) (rq : RS q 1) :
    Calls Tryz.prog 16 #[.pointer (some ⟨b, 0, none⟩)] w fun e w' => ∃ g, e = .returned (.pointer (some ⟨g, 0, none⟩)) ∧ BInt w' g 0 (q.num / (q.den : Int)) ∧ Below w.heap.size w w' := by
  have T0 := ((Tags.start 2 w).new 0).new 1
  have bA := abelow w (.cells #[.bool false, .slice none 0 0] 101)
  have bB := abelow (w.alloc (.cells #[.bool false, .slice none 0 0] 101)) (.cells #[.bool false, .slice none 0 0] 101)
  obtain ⟨W1, hW1⟩ : ∃ W, w.alloc (.cells #[.bool false, .slice none 0 0] 101) = W := ⟨_, rfl⟩
  obtain ⟨g0, hg0⟩ : ∃ g, w.heap.size = g := ⟨_, rfl⟩
  rw [hW1, hg0] at T0
  rw [hW1] at bA bB
  obtain ⟨W2, hW2⟩ : ∃ W, W1.alloc (.cells #[.bool false, .slice none 0 0] 101) = W := ⟨_, rfl⟩
  obtain ⟨g1, hg1⟩ : ∃ g, W1.heap.size = g := ⟨_, rfl⟩
  rw [hW2, hg1] at T0
  rw [hW2] at bB
  have HX := hide x
  have HT := hide T0
  have HB := hide (bstep bA bB)
  have HRQ := hide rq
  have HNU := hide (num_any b 0 q W2 (x.below (bstep bA bB)))
  clear T0 bA bB x rq
  go_enter Tryz.func16, Tryz.ntmps16
  go_wp2_with fail
  clear hW1 hW2 hg0 hg1
  refine (unhide HNU).mono ?_
  rintro e w3 ⟨rfl, hw⟩
  have hw := hw.symm
  subst hw
  have hdp := q.den_pos
  have hn1 := (unhide HRQ).1
  have hd1 := (unhide HRQ).2
  rw [Wd.pw_one] at hn1 hd1
  have HDE := hide (denom_any b 0 q W2 ((unhide HX).below (unhide HB)) (by rw [Int.natAbs_natCast]; exact smh_small hd1))
  have HNB : Hid (SmH (q.num.natAbs : Int) ∧ SmH (((q.den : Int).natAbs : Nat) : Int) ∧ SmH ((q.num.tdiv (q.den : Int)).natAbs : Int) ∧ SmH ((q.num.tmod (q.den : Int)).natAbs : Int)) := by
    refine ⟨smh_small hn1, by rw [Int.natAbs_natCast]; exact smh_small hd1, smh_small ?_, smh_small ?_⟩
    · rw [tdiv_abs]
      have := Nat.div_le_self q.num.natAbs (q.den : Int).natAbs
      omega
    · rw [tmod_abs, Int.natAbs_natCast]
      have := Nat.mod_lt q.num.natAbs hdp
      omega
  have HDP : Hid ((0 : Int) < (q.den : Int)) := by show _ < _; omega
  clear hdp hn1 hd1 HNU
  go_wp2_with fail
  refine (unhide HDE).mono ?_
  rintro e w4 ⟨g4, rfl, hge4, hi4, hl4⟩
  have T4 := (unhide HT).keep hl4
  have HB4 := hide (bstep (unhide HB) hl4)
  have HDM := hide (divMod_any _ w w4 T4 g0 g1 b 0 g4 0 q.num (q.den : Int) 0 0 (by simp [upd]) (by simp [upd]) ((unhide HX).below (unhide HB4)).1 (unhide HX).1.lt hi4 (unhide HDP) (unhide HNB).1 (unhide HNB).2.1 (unhide HNB).2.2.1 (unhide HNB).2.2.2)
  clear hge4 hi4 hl4 T4 HDE
  go_wp2_with fail
  refine (unhide HDM).mono ?_
  rintro e w5 ⟨t', rfl, T5, h5⟩
  have HI5 := hide (T5.int _ _ _ _ h5)
  have HB5 := hide T5.bl
  clear T5 h5 HDM
  go_wp2
  go_ret
  exact ⟨g0, rfl, unhide HI5, unhide HB5⟩
end Go.Proofs.YtnmmfcoclpapdaaGreatDoor
