/- Things of gates: the least sets, by a closure. -/
import Derived.Test.YtpopcfclpemlaaaDoorRKA
import Derived.Deep.AppendLies
namespace Go.Proofs.YtpopcfclpemlaaaDoor
open Go.RowKit Go.Sort Go.Shelf

/-- A row of ints of the call's own. -/
def OwnL (w : World) (B : Nat) (v : Value) (xs : List Int) : Prop := w.ownsRow B 3 1 v xs.length (xs.map (.int .i64 ·))
theorem OwnL.keep {w w' : World} {B : Nat} {v : Value} {xs : List Int} (h : OwnL w B v xs) (hb : Below w.heap.size w w') : OwnL w' B v xs := by
  refine ⟨h.1, ?_⟩
  rcases h.2 with h | ⟨g, cap, cur, hv, hg, hh, h1⟩
  · exact Or.inl h
  · exact Or.inr ⟨g, cap, cur, hv, hg, by rw [hb.block g (Array.getElem?_eq_some_iff.1 hh).1]; exact hh, h1⟩
theorem OwnL.start (w : World) (B : Nat) : OwnL w B (.slice none 0 0) [] := World.ownsRow_nil _ _ _ _
theorem OwnL.row {w : World} {B : Nat} {v : Value} {xs : List Int} (h : OwnL w B v xs) : ∀ k, v.ownBlock = some k → B ≤ k := by
  intro k hk
  obtain ⟨h1, ⟨rfl, h2⟩ | ⟨g, cap, cur, rfl, hb, _⟩⟩ := h
  · cases hk
  · obtain rfl : g = k := Option.some.inj hk
    exact hb
theorem OwnL.irow {w : World} {B : Nat} {v : Value} {xs : List Int} (h : OwnL w B v xs) : ∃ a c, v = .slice a xs.length c ∧ IRow w a xs.length c (fun j => xs[j]!) := by
  rcases h.2 with ⟨rfl, h0⟩ | ⟨g, cap, cur, rfl, hb, hg, h1, h2, h3, h4⟩
  · exact ⟨none, 0, by rw [h0], ⟨by omega, by decide, fun h => by omega⟩⟩
  · refine ⟨_, cap, rfl, ⟨h1, by unfold maxLen at h2; exact h2, fun _ => ⟨g, 0, rfl, (Array.getElem?_eq_some_iff.1 hg).1, fun j hj => ?_⟩⟩⟩
    have e1 : (xs.map (Value.int .i64 ·))[j]? = cur[j]? := by
      rw [← h4, List.getElem?_take_of_lt (by omega)]
      simp
    simp only [World.cell?, hg, Nat.zero_add]
    rw [← e1]
    simp [hj]
/-- A row with one more. -/
theorem OwnL.push {w' : World} {B g cap : Nat} {xs : List Int} {x : Int} (own : w'.ownsRow B 3 1 (.slice (some ⟨g, 0, none⟩) (xs.length + 1) cap) (xs.length + 1) (xs.map (Value.int .i64 ·) ++ [.int .i64 x])) : OwnL w' B (.slice (some ⟨g, 0, none⟩) (xs.length + 1) cap) (xs ++ [x]) := by
  unfold OwnL
  rw [List.map_append, List.length_append]
  exact own
theorem OwnL.grow {w wr w' : World} {B : Nat} {v : Value} {xs : List Int} (h : OwnL wr B v xs) (hb : Below w.heap.size w wr) (hB : w.heap.size ≤ B) {W : World} (hW : Below wr.heap.size wr W) (hg : W.grownBy w' v.ownBlock) : Below w.heap.size w w' :=
  Below.grown (below_step hb hW) hg (Nat.le_trans hb.size hW.size) (fun k hk => Nat.le_trans hB (h.row k hk))
theorem news_int (w : World) (x : Int) (T : TypeId) : ∀ j u, [Value.int .i64 x][j]? = some u → (w.alloc (.cells #[.int .i64 x] T)).cell? ((⟨w.heap.size, 0, none⟩ : Addr).add j) = some u :=
  World.news_of_block (cs := #[.int .i64 x]) (t := T) (fr := (0, 0)) (heap_alloc_new w _)
theorem one_int (x : Int) : ∀ u ∈ [Value.int .i64 x], u.oneCell' = true := by
  intro u hu
  simp only [List.mem_cons, List.not_mem_nil, or_false] at hu
  rw [hu]; rfl
theorem Tryd.infoI : (Tryd.prog.info? 3).map (fun i => (i.zero, i.size, i.bytes)) = some (some (.int .i64 0), 1, 8) := by kernel_rfl
theorem andnot_nat {a b : Nat} (ha : a < 2 ^ 64) (hb : b < 2 ^ 64) : (a &&& (2 ^ 64 - (b + 1))) + (a &&& b) = a := by
  have hc : ∀ j, (2 ^ 64 - (b + 1)).testBit j = (decide (j < 64) && !b.testBit j) := fun j => Nat.testBit_two_pow_sub_succ hb j
  have h0 : (a &&& (2 ^ 64 - (b + 1))) &&& (a &&& b) = 0 := by
    apply Nat.eq_of_testBit_eq
    intro j
    rw [Nat.testBit_and, Nat.testBit_and, Nat.testBit_and, hc, Nat.zero_testBit]
    cases a.testBit j <;> cases b.testBit j <;> cases decide (j < 64) <;> rfl
  rw [← Rsk.or_add 64 _ _ (Nat.lt_of_le_of_lt Nat.and_le_left ha) h0]
  apply Nat.eq_of_testBit_eq
  intro j
  rw [Nat.testBit_or, Nat.testBit_and, Nat.testBit_and, hc]
  cases ej : a.testBit j with
  | false => rfl
  | true =>
    have : j < 64 := by
      rcases Nat.lt_or_ge j 64 with h | h
      · exact h
      · rw [Nat.testBit_lt_two_pow (Nat.lt_of_lt_of_le ha (Nat.pow_le_pow_right (by decide) h))] at ej; cases ej
    rw [decide_eq_true this]
    cases b.testBit j <;> rfl
theorem bits_andnot_i64 (a b : Nat) (ha : a < 9223372036854775808) (hb : b < 9223372036854775808) : bits .andNot .i64 (a : Int) (b : Int) = ((a - (a &&& b) : Nat) : Int) := by
  have h1 : (BitVec.ofInt 64 (a : Int)).toNat = a := by
    rw [BitVec.ofInt_natCast, BitVec.toNat_ofNat]; exact Nat.mod_eq_of_lt (by omega)
  have h2 : (BitVec.ofInt 64 (b : Int)).toNat = b := by
    rw [BitVec.ofInt_natCast, BitVec.toNat_ofNat]; exact Nat.mod_eq_of_lt (by omega)
  have h3 := andnot_nat (a := a) (b := b) (by omega) (by omega)
  show IntKind.i64.wrap ((BitVec.ofInt 64 (a : Int) &&& ~~~ BitVec.ofInt 64 (b : Int)).toNat : Int) = _
  rw [BitVec.toNat_and, BitVec.toNat_not, h1, h2, show 2 ^ 64 - 1 - b = 2 ^ 64 - (b + 1) by omega, IntKind.wrap_i64]
  omega
theorem and_pow_self {s k : Nat} (h : s.testBit k = true) : s &&& 2 ^ k = 2 ^ k := by
  apply Nat.eq_of_testBit_eq
  intro j
  rw [Nat.testBit_and, Nat.testBit_two_pow]
  by_cases e : k = j
  · subst e; rw [h, decide_eq_true rfl]; rfl
  · rw [decide_eq_false e, Bool.and_false]
/-- A set without one of its parts. -/
theorem less_val {s k : Nat} (hs : s < 1099511627776) (hk : k ≤ 40) (h : s.testBit k = true) : bits .andNot .i64 (s : Int) (wrap64 ((2 : Int) ^ k)) = ((Rsk.drop1 s k : Nat) : Int) := by
  have hp := pow_small hk
  rw [wrap64_pow hk, bits_andnot_i64 s (2 ^ k) (by omega) (by omega), and_pow_self h]
  rfl
/-- All parts but those of a set. -/
theorem rest_val {P s : Nat} (hP : P ≤ 40) (hs : s < 2 ^ P) : bits .andNot .i64 ((2 ^ P - 1 : Nat) : Int) (s : Int) = ((Rsk.rest P s : Nat) : Int) := by
  have hp := pow_small hP
  have e : (2 ^ P - 1) &&& s = s := by
    rw [Nat.and_comm, Nat.and_two_pow_sub_one_eq_mod]; exact Nat.mod_eq_of_lt hs
  rw [bits_andnot_i64 (2 ^ P - 1) s (by omega) (by omega), e]
  rfl
def spB (f : Nat → Bool) (s n : Nat) : Bool := (List.range n).any (fun k => s.testBit k && f (Rsk.drop1 s k))
theorem spB_true {f : Nat → Bool} {s n k : Nat} (hk : k < n) (h1 : s.testBit k = true) (h2 : f (Rsk.drop1 s k) = true) : spB f s n = true := List.any_eq_true.2 ⟨k, List.mem_range.2 hk, by rw [h1, h2]; rfl⟩
theorem spB_false {f : Nat → Bool} {s n : Nat} (h : ∀ k, k < n → (s.testBit k && f (Rsk.drop1 s k)) = false) : spB f s n = false := by
  cases hb : spB f s n with
  | false => rfl
  | true =>
    obtain ⟨i, h1, h2⟩ := List.any_eq_true.1 hb
    rw [h i (List.mem_range.1 h1)] at h2
    cases h2
theorem lst1_is (P : Nat) (f : Nat → Bool) (s : Nat) : Rsk.lst1 P f s = (f s && !spB f s P) := by
  unfold Rsk.lst1 spB
  congr 1
  induction (List.range P) with
  | nil => rfl
  | cons a l ih => rw [List.all_cons, List.any_cons, ih]; cases (s.testBit a && f (Rsk.drop1 s a)) <;> rfl
set_option maxHeartbeats 16000000 in
set_option maxRecDepth 100000 in
set_option linter.unusedSimpArgs false in
theorem pth_spares (P s : Nat) (f : Nat → Bool) (p1 : Nat) (wb w : World) (hP : P ≤ 10) (hs : s < 2 ^ P) (hbw : Below wb.heap.size wb w)
    (HF : Hid (∀ (W : World) (s : Nat), Below wb.heap.size wb W → s < 2 ^ P → Calls Tryd.prog 53 #[.int .i64 (s : Int), .pointer (some ⟨p1, 0, none⟩)] W fun e w' => e = .returned (.bool (f s)) ∧ Below W.heap.size W w')) :
    Calls Tryd.prog 87 #[.int .i64 (P : Int), .int .i64 (s : Int), .func (.func 53) #[] #[.pointer (some ⟨p1, 0, none⟩)]] w fun e w' => e = .returned (.bool (spB f s P)) ∧ Below w.heap.size w w' := by
  have HBW := hide hbw
  have hs10 : s < 1099511627776 := Nat.lt_of_lt_of_le hs (pow_small (Nat.le_trans hP (by decide)))
  have HS := hide hs
  have HSS := hide hs10
  obtain ⟨B, hB⟩ : ∃ B, spB f s P = B := ⟨_, rfl⟩
  have HB := hide hB
  rw [hB]
  clear hB hbw hs hs10
  go_enter Tryd.func87, Tryd.ntmps87
  go_wp2_with fail
  go_loopw [9] (fun vi wr => ∃ k : Nat, vi = .int .i64 (k : Int) ∧ k ≤ P ∧ Below w.heap.size w wr ∧ ∀ j, j < k → (s.testBit j && f (Rsk.drop1 s j)) = false) (fun vi _ => P - (intOf vi).toNat)
  case atStart => exact ⟨0, rfl, Nat.zero_le _, Below.refl _ _, fun j hj => absurd hj (Nat.not_lt_zero _)⟩
  case round =>
    obtain ⟨k, rfl, hk, hbr, hz⟩ := hrel
    have HZ := hide hz
    have HBR := hide hbr
    clear hz hbr
    by_cases hlt : k < P
    · have j1 : (k : Int) < (P : Int) := by omega
      have j0 : (0 : Int) ≤ (k : Int) := by omega
      have HHA := hide (has_any s k wr (unhide HSS) (by omega))
      have HLT := hide hlt
      cases hT : s.testBit k with
      | false =>
        rw [hT] at HHA
        have HE : Hid ((s.testBit k && f (Rsk.drop1 s k)) = false) := by show _ = _; rw [hT]; rfl
        clear hT hlt
        go_wp2_with fail
        refine (unhide HHA).mono ?_
        rintro e_ w2 ⟨rfl, rfl⟩
        clear HHA
        go_wp2
        refine ⟨⟨k + 1, by go_num, unhide HLT, unhide HBR, fun j hj => ?_⟩, by have := unhide HLT; simp [intOf]; omega⟩
        by_cases e : j = k
        · rw [e]; exact unhide HE
        · exact unhide HZ j (by omega)
      | true =>
        rw [hT] at HHA
        have hlv := less_val (unhide HSS) (show k ≤ 40 by omega) hT
        have hdl : Rsk.drop1 s k < 2 ^ P := Nat.lt_of_le_of_lt (Nat.sub_le _ _) (unhide HS)
        have HCL := hide (unhide HF wr (Rsk.drop1 s k) (below_step (unhide HBW) (unhide HBR)) hdl)
        have HE : Hid ((s.testBit k && f (Rsk.drop1 s k)) = f (Rsk.drop1 s k)) := by show _ = _; rw [hT]; rfl
        have HTT := hide hT
        obtain ⟨d, hd⟩ : ∃ d, Rsk.drop1 s k = d := ⟨_, rfl⟩
        have HDD := hide hd
        rw [hd] at hlv HCL HE
        clear hT hdl hd hlt
        cases hF : f d with
        | true =>
          rw [hF] at HCL
          have HBT : Hid (B = true) := by show _ = _; rw [← unhide HB]; exact spB_true (unhide HLT) (unhide HTT) (by rw [unhide HDD]; exact hF)
          clear hF
          go_wp2_with fail
          refine (unhide HHA).mono ?_
          rintro e_ w2 ⟨rfl, rfl⟩
          clear HHA
          go_wp2_with fail
          refine (unhide HCL).mono ?_
          rintro e_ w3 ⟨rfl, hb3⟩
          have HB3 := hide (below_step (unhide HBR) hb3)
          clear HCL hb3
          go_wp2
          go_ret
          exact ⟨by rw [unhide HBT]; rfl, unhide HB3⟩
        | false =>
          rw [hF] at HCL
          have HE2 : Hid ((s.testBit k && f (Rsk.drop1 s k)) = false) := by show _ = _; rw [unhide HDD, unhide HTT, hF]; rfl
          clear hF
          go_wp2_with fail
          refine (unhide HHA).mono ?_
          rintro e_ w2 ⟨rfl, rfl⟩
          clear HHA
          go_wp2_with fail
          refine (unhide HCL).mono ?_
          rintro e_ w3 ⟨rfl, hb3⟩
          have HB3 := hide (below_step (unhide HBR) hb3)
          clear HCL hb3
          go_wp2
          refine ⟨⟨k + 1, by go_num, unhide HLT, unhide HB3, fun j hj => ?_⟩, by have := unhide HLT; simp [intOf]; omega⟩
          by_cases e : j = k
          · rw [e]; exact unhide HE2
          · exact unhide HZ j (by omega)
    · obtain rfl : k = P := by omega
      have j1 : ¬ (k : Int) < (k : Int) := by omega
      have HBT : Hid (B = false) := by show _ = _; rw [← unhide HB]; exact spB_false (unhide HZ)
      go_wp2
      go_ret
      exact ⟨by rw [unhide HBT]; rfl, unhide HBR⟩

set_option maxHeartbeats 16000000 in
set_option maxRecDepth 100000 in
set_option linter.unusedSimpArgs false in
theorem cut_spares (P s : Nat) (f : Nat → Bool) (p1 p2 : Nat) (wb w : World) (hP : P ≤ 10) (hs : s < 2 ^ P) (hbw : Below wb.heap.size wb w)
    (HF : Hid (∀ (W : World) (s : Nat), Below wb.heap.size wb W → s < 2 ^ P → Calls Tryd.prog 55 #[.int .i64 (s : Int), .pointer (some ⟨p1, 0, none⟩), .pointer (some ⟨p2, 0, none⟩)] W fun e w' => e = .returned (.bool (f s)) ∧ Below W.heap.size W w')) :
    Calls Tryd.prog 87 #[.int .i64 (P : Int), .int .i64 (s : Int), .func (.func 55) #[] #[.pointer (some ⟨p1, 0, none⟩), .pointer (some ⟨p2, 0, none⟩)]] w fun e w' => e = .returned (.bool (spB f s P)) ∧ Below w.heap.size w w' := by
  have HBW := hide hbw
  have hs10 : s < 1099511627776 := Nat.lt_of_lt_of_le hs (pow_small (Nat.le_trans hP (by decide)))
  have HS := hide hs
  have HSS := hide hs10
  obtain ⟨B, hB⟩ : ∃ B, spB f s P = B := ⟨_, rfl⟩
  have HB := hide hB
  rw [hB]
  clear hB hbw hs hs10
  go_enter Tryd.func87, Tryd.ntmps87
  go_wp2_with fail
  go_loopw [9] (fun vi wr => ∃ k : Nat, vi = .int .i64 (k : Int) ∧ k ≤ P ∧ Below w.heap.size w wr ∧ ∀ j, j < k → (s.testBit j && f (Rsk.drop1 s j)) = false) (fun vi _ => P - (intOf vi).toNat)
  case atStart => exact ⟨0, rfl, Nat.zero_le _, Below.refl _ _, fun j hj => absurd hj (Nat.not_lt_zero _)⟩
  case round =>
    obtain ⟨k, rfl, hk, hbr, hz⟩ := hrel
    have HZ := hide hz
    have HBR := hide hbr
    clear hz hbr
    by_cases hlt : k < P
    · have j1 : (k : Int) < (P : Int) := by omega
      have j0 : (0 : Int) ≤ (k : Int) := by omega
      have HHA := hide (has_any s k wr (unhide HSS) (by omega))
      have HLT := hide hlt
      cases hT : s.testBit k with
      | false =>
        rw [hT] at HHA
        have HE : Hid ((s.testBit k && f (Rsk.drop1 s k)) = false) := by show _ = _; rw [hT]; rfl
        clear hT hlt
        go_wp2_with fail
        refine (unhide HHA).mono ?_
        rintro e_ w2 ⟨rfl, rfl⟩
        clear HHA
        go_wp2
        refine ⟨⟨k + 1, by go_num, unhide HLT, unhide HBR, fun j hj => ?_⟩, by have := unhide HLT; simp [intOf]; omega⟩
        by_cases e : j = k
        · rw [e]; exact unhide HE
        · exact unhide HZ j (by omega)
      | true =>
        rw [hT] at HHA
        have hlv := less_val (unhide HSS) (show k ≤ 40 by omega) hT
        have hdl : Rsk.drop1 s k < 2 ^ P := Nat.lt_of_le_of_lt (Nat.sub_le _ _) (unhide HS)
        have HCL := hide (unhide HF wr (Rsk.drop1 s k) (below_step (unhide HBW) (unhide HBR)) hdl)
        have HE : Hid ((s.testBit k && f (Rsk.drop1 s k)) = f (Rsk.drop1 s k)) := by show _ = _; rw [hT]; rfl
        have HTT := hide hT
        obtain ⟨d, hd⟩ : ∃ d, Rsk.drop1 s k = d := ⟨_, rfl⟩
        have HDD := hide hd
        rw [hd] at hlv HCL HE
        clear hT hdl hd hlt
        cases hF : f d with
        | true =>
          rw [hF] at HCL
          have HBT : Hid (B = true) := by show _ = _; rw [← unhide HB]; exact spB_true (unhide HLT) (unhide HTT) (by rw [unhide HDD]; exact hF)
          clear hF
          go_wp2_with fail
          refine (unhide HHA).mono ?_
          rintro e_ w2 ⟨rfl, rfl⟩
          clear HHA
          go_wp2_with fail
          refine (unhide HCL).mono ?_
          rintro e_ w3 ⟨rfl, hb3⟩
          have HB3 := hide (below_step (unhide HBR) hb3)
          clear HCL hb3
          go_wp2
          go_ret
          exact ⟨by rw [unhide HBT]; rfl, unhide HB3⟩
        | false =>
          rw [hF] at HCL
          have HE2 : Hid ((s.testBit k && f (Rsk.drop1 s k)) = false) := by show _ = _; rw [unhide HDD, unhide HTT, hF]; rfl
          clear hF
          go_wp2_with fail
          refine (unhide HHA).mono ?_
          rintro e_ w2 ⟨rfl, rfl⟩
          clear HHA
          go_wp2_with fail
          refine (unhide HCL).mono ?_
          rintro e_ w3 ⟨rfl, hb3⟩
          have HB3 := hide (below_step (unhide HBR) hb3)
          clear HCL hb3
          go_wp2
          refine ⟨⟨k + 1, by go_num, unhide HLT, unhide HB3, fun j hj => ?_⟩, by have := unhide HLT; simp [intOf]; omega⟩
          by_cases e : j = k
          · rw [e]; exact unhide HE2
          · exact unhide HZ j (by omega)
    · obtain rfl : k = P := by omega
      have j1 : ¬ (k : Int) < (k : Int) := by omega
      have HBT : Hid (B = false) := by show _ = _; rw [← unhide HB]; exact spB_false (unhide HZ)
      go_wp2
      go_ret
      exact ⟨by rw [unhide HBT]; rfl, unhide HBR⟩

end Go.Proofs.YtpopcfclpemlaaaDoor
