/- The checker's whole numbers: copied, turned, multiplied. -/
import Derived.Test.YtcelbgleajpenaaGreatDoorBB
import Derived.Test.YtcelbgleajpenaaGreatDoorX2
import Derived.Deep.AppendLies
import Derived.Test.YtcelbgleajpenaaGreatDoorA8
import Derived.Test.YtcelbgleajpenaaGreatDoorS0
namespace Go.Proofs.YtcelbgleajpenaaGreatDoor
open Go.RowKit Go.Sort Go.Shelf

def drow (A : Int) (n : Nat) : List Value := (List.range n).map fun j => .int .u32 (Wh.dig A j)
theorem drow_length (A : Int) (n : Nat) : (drow A n).length = n := by simp [drow]
theorem drow_get (A : Int) {n j : Nat} (h : j < n) : (drow A n)[j]? = some (.int .u32 (Wh.dig A j)) := by simp [drow, h]

set_option maxHeartbeats 4000000 in
set_option maxRecDepth 100000 in
set_option linter.unusedSimpArgs false in
theorem twin_any (va : Value) (A : Int) (w : World) (ha : HNat w va A) (sa : SmH A) :
  Calls Tryz.prog 147 #[va] w fun e w' => ∃ a n c, e = .returned (.slice a n c) ∧ HNat w' (.slice a n c) A ∧ Below w.heap.size w w' := by
 obtain ⟨a, n, c, rfl, hl, h1, h2, h3⟩ := ha
 have hn6 : n ≤ 1000000 := sa.len hl
 clear sa
 obtain ⟨ti, hi, hz0, hz1, hz2⟩ := info_parts Tryz.infoH
 have HI := hide hi
 have HZ := hide hz0
 clear hi hz0
 by_cases hn0 : n = 0
 ·subst hn0
  have hA := hl.zero
  subst hA
  clear h3 hl
  cases a with
  | none =>
   go_enter Tryz.func147, Tryz.ntmps147
   go_wp2
   go_ret
   exact ⟨_, _, _, rfl, hNat_zero _ _ _ (by decide), Below.refl _ _⟩
  | some ad =>
   go_enter Tryz.func147, Tryz.ntmps147
   go_wp2
   go_ret
   exact ⟨_, _, _, rfl, hNat_zero _ _ _ (by decide), Below.refl _ _⟩
 obtain ⟨b, o, rfl, hlt, hc⟩ := h3 (by omega)
 have hnews : ∀ j u, (drow A n)[j]? = some u → w.cell? ((⟨b, o, none⟩ : Addr).add j) = some u := fun j u hu => by
  have hj : j < n := by
   have h := (List.getElem?_eq_some_iff.1 hu).1
   rw [drow_length] at h
   exact h
  rw [drow_get _ hj] at hu
  rw [Go.WideShapes.add_plain, hc j hj]
  exact hu
 have hone : ∀ u ∈ drow A n, u.oneCell' = true := fun u hu => by
  unfold drow at hu
  obtain ⟨j, _, rfl⟩ := List.mem_map.1 hu
  rfl
 have HNW := hide hnews
 have HON := hide hone
 have HLA := hide hl
 have HP0 : Hid (0 < n) := by show _ < _; omega
 have HL63 : Hid (0 + n ≤ maxLen) := by show _ ≤ _; unfold maxLen; omega
 have HL64 : Hid ((0 + n) * 4 ≤ 140737488355328) := by show _ ≤ _; omega
 clear hnews hone hl hc h3 hn0
 go_enter Tryz.func147, Tryz.ntmps147
 go_wp2_with (at_builtin; go_loud (refine wpList_append_lies _ rfl _ _ _ rfl w.heap.size 175 ti (.int .u32 0) 1 4 Tryz.underlying82 (unhide HI) (unhide HZ) hz1 hz2 rfl (by decide) _ 0 [] rfl (World.ownsRow_nil _ _ _ _) ⟨b, o, none⟩ n c (drow A n) rfl (by rw [drow_length, Nat.mul_one]) (unhide HNW) (unhide HON) (unhide HP0) (unhide HL63) (unhide HL64) (Nat.le_refl _) w.heap.size rfl ?_; intro g2 cap w5 hown hgrow hat hlt5))
 have hv : HNat w5 (.slice (some ⟨g2, 0, none⟩) n cap) A := by
  rcases hown.2 with ⟨e, _⟩ | ⟨g', cap', cur, e, hb, hh, hc1, hc2, hs, ht⟩
  ·injection e with e; cases e
  ·injection e with e1 e2 e3
   injection e1 with e1
   injection e1 with e1
   subst e1 e3
   refine ⟨_, n, cap, rfl, unhide HLA, by omega, by unfold maxLen at hc2; exact hc2, fun _ => ⟨g2, 0, rfl, hlt5, fun j hj => ?_⟩⟩
   have h : (cur.toList.take ((0 + n) * 1))[j]? = (drow A n)[j]? := by rw [ht]; rfl
   rw [List.getElem?_take_of_lt (by omega), drow_get _ hj] at h
   have h' : cur[j]? = some (.int .u32 (Wh.dig A j)) := by simpa using h
   rw [Nat.zero_add]
   simp only [World.cell?, hh]
   exact h'
 have hb5 : Below w.heap.size w w5 := Below.grown (Below.refl _ _) hgrow (Nat.le_refl _) (fun k hk => by cases hk)
 have HV := hide hv
 have HB := hide hb5
 clear hown hgrow hat hv hb5 HNW HON
 go_wp2
 go_ret
 exact ⟨_, _, _, rfl, unhide HV, unhide HB⟩

def GivesAt (w : World) (b o : Nat) (N : Int) (e : Ending) (w' : World) : Prop := e = .returned (.pointer (some ⟨b, o, none⟩)) ∧ ∃ (w1 : World) (a : Option Addr) (n c : Nat), Below w.heap.size w w1 ∧ HNat w1 (.slice a n c) (N.natAbs : Int) ∧ w' = put w1 b o (.slice a n c) (decide (N < 0))
theorem GivesAt.int {w w' : World} {b o : Nat} {N : Int} {e : Ending} (h : GivesAt w b o N e w') (k : SlotI w b o) : BInt w' b o N := by
 obtain ⟨_, w1, a, n, c, hb, hn, rfl⟩ := h
 exact put_int (k.below hb) hn rfl
theorem GivesAt.other {w w' : World} {b o b' o' : Nat} {N M : Int} {e : Ending} (h : GivesAt w b o N e w') (k : SlotI w b o) (x : BInt w b' o' M) (ha : ApartI b o b' o') : BInt w' b' o' M := by
 obtain ⟨_, w1, a, n, c, hb, hn, rfl⟩ := h
 exact (x.below hb).put (k.below hb) ha
theorem GivesAt.bl {w0 w w' : World} {b o : Nat} {N : Int} {e : Ending} (h : GivesAt w b o N e w') (h0 : Below w0.heap.size w0 w) (hb0 : w0.heap.size ≤ b) : Below w0.heap.size w0 w' := by
 obtain ⟨_, w1, a, n, c, hb, hn, rfl⟩ := h
 exact Below.put (bstep h0 hb) hb0
theorem neg_len {w : World} {a : Option Addr} {n c : Nat} {N : Int} {s : Bool} (h : HNat w (.slice a n c) (N.natAbs : Int)) (hs : N ≠ 0 → s = decide (N < 0)) : (s && decide (0 < n)) = decide (N < 0) := by
 obtain ⟨a', n', c', e, hl, _⟩ := h
 injection e with e1 e2 e3
 subst e2
 by_cases hN : N = 0
 ·subst hN
  have := hl.of_zero
  subst this
  simp
 ·rw [hs hN]
  have : 0 < n := by
   rcases Nat.eq_zero_or_pos n with h0 | h0
   ·subst h0; have := hl.zero; omega
   ·exact h0
  simp [this]

set_option maxHeartbeats 4000000 in
set_option maxRecDepth 100000 in
set_option linter.unusedSimpArgs false in
theorem setInt64_any (b o : Nat) (x : Int) (h0 : -9223372036854775808 ≤ x) (h1 : x ≤ 9223372036854775807) (w : World) (k : SlotI w b o) :
  Calls Tryz.prog 117 #[.pointer (some ⟨b, o, none⟩), .int .i64 x] w (GivesAt w b o x) := by
 have HK := hide k
 clear k
 by_cases hx : x < 0
 ·have e1 : IntKind.u64.wrap x = x + 18446744073709551616 := by rw [IntKind.wrap_u64]; omega
  have e2 : IntKind.u64.wrap (-(x + 18446744073709551616)) = -x := by rw [IntKind.wrap_u64]; omega
  have HWO := hide (words_any (-x) (by omega) (by omega) w)
  go_enter Tryz.func117, Tryz.ntmps117
  go_wp2_with fail
  refine (unhide HWO).mono ?_
  rintro e w1 ⟨v, rfl, hv, hb⟩
  have hv' : HNat w1 v (x.natAbs : Int) := by rw [show (x.natAbs : Int) = -x by omega]; exact hv
  obtain ⟨a, n, c, rfl, _⟩ := id hv'
  have HGV := hide (give_any b o true a n c w1 ((unhide HK).below hb))
  have HV := hide hv'
  clear hv hv' HWO
  go_wp2_with fail
  refine (unhide HGV).mono ?_
  rintro e w2 ⟨rfl, rfl⟩
  go_wp2
  go_ret
  exact ⟨rfl, w1, a, n, c, hb, unhide HV, by have hq := neg_len (N := x) (s := true) (unhide HV) (fun _ => by simp [hx]); simp only [Bool.true_and] at hq; rw [hq]⟩
 ·have e1 : IntKind.u64.wrap x = x := by rw [IntKind.wrap_u64]; omega
  have HWO := hide (words_any x (by omega) (by omega) w)
  go_enter Tryz.func117, Tryz.ntmps117
  go_wp2_with fail
  refine (unhide HWO).mono ?_
  rintro e w1 ⟨v, rfl, hv, hb⟩
  have hv' : HNat w1 v (x.natAbs : Int) := by rw [show (x.natAbs : Int) = x by omega]; exact hv
  obtain ⟨a, n, c, rfl, _⟩ := id hv'
  have HGV := hide (give_any b o false a n c w1 ((unhide HK).below hb))
  have HV := hide hv'
  clear hv hv' HWO
  go_wp2_with fail
  refine (unhide HGV).mono ?_
  rintro e w2 ⟨rfl, rfl⟩
  go_wp2
  go_ret
  exact ⟨rfl, w1, a, n, c, hb, unhide HV, by have hq := neg_len (N := x) (s := false) (unhide HV) (fun _ => by simp [hx]); simp only [Bool.false_and] at hq; rw [← hq]⟩

theorem slot_of {W : World} {g : Nat} {s : Bool} {a : Option Addr} {n c : Nat} {T : TypeId} (h : W.heap[g]? = some (.cells #[.bool s, .slice a n c] T)) : SlotI W g 0 :=
 ⟨⟨s, by simp [World.cell?, h]⟩, ⟨a, n, c, by simp [World.cell?, h]⟩, by simp [World.frozen?, h], by simp [World.frozen?, h], (Array.getElem?_eq_some_iff.1 h).1⟩
theorem int_of {W : World} {g : Nat} {T : TypeId} (h : W.heap[g]? = some (.cells #[.bool false, .slice none 0 0] T)) : BInt W g 0 0 :=
 ⟨by simp [World.cell?, h], ⟨none, 0, 0, by simp [World.cell?, h], hNat_zero _ _ _ (by decide)⟩, by simp [World.frozen?, h], by simp [World.frozen?, h], (Array.getElem?_eq_some_iff.1 h).1⟩
theorem slot_new (w : World) : SlotI (w.alloc (.cells #[.bool false, .slice none 0 0] 84)) w.heap.size 0 := slot_of (heap_alloc_new w _)
theorem int_new (w : World) : BInt (w.alloc (.cells #[.bool false, .slice none 0 0] 84)) w.heap.size 0 0 := int_of (heap_alloc_new w _)

set_option maxHeartbeats 4000000 in
set_option maxRecDepth 100000 in
set_option linter.unusedSimpArgs false in
theorem newInt_any (x : Int) (h0 : -9223372036854775808 ≤ x) (h1 : x ≤ 9223372036854775807) (w : World) :
  Calls Tryz.prog 85 #[.int .i64 x] w fun e w' => ∃ b, e = .returned (.pointer (some ⟨b, 0, none⟩)) ∧ w.heap.size ≤ b ∧ BInt w' b 0 x ∧ Below w.heap.size w w' := by
 have k := slot_new w
 have bA := abelow w (.cells #[.bool false, .slice none 0 0] 84)
 obtain ⟨W0, hW0⟩ : ∃ W, w.alloc (.cells #[.bool false, .slice none 0 0] 84) = W := ⟨_, rfl⟩
 obtain ⟨g, hg⟩ : ∃ g, w.heap.size = g := ⟨_, rfl⟩
 rw [hW0, hg] at k
 rw [hW0] at bA
 have HS := hide (setInt64_any g 0 x h0 h1 W0 k)
 have HK := hide k
 have HB := hide bA
 have HG := hide hg
 clear k bA
 go_enter Tryz.func85, Tryz.ntmps85
 go_wp2_with fail
 clear hW0 hg
 refine (unhide HS).mono ?_
 intro e w1 h
 have HI := hide (h.int (unhide HK))
 have HB1 := hide (h.bl (unhide HB) (Nat.le_of_eq (unhide HG)))
 obtain ⟨rfl, _⟩ := h
 go_wp2
 go_ret
 exact ⟨g, rfl, Nat.le_of_eq (unhide HG), unhide HI, unhide HB1⟩
end Go.Proofs.YtcelbgleajpenaaGreatDoor
/- The checker's whole numbers: copied, turned, multiplied, compared. -/
namespace Go.Proofs.YtcelbgleajpenaaGreatDoor
open Go.RowKit Go.Sort Go.Shelf

set_option maxHeartbeats 4000000 in
set_option maxRecDepth 100000 in
set_option linter.unusedSimpArgs false in
theorem isign_any (b o : Nat) (N : Int) (w : World) (x : BInt w b o N) :
  Calls Tryz.prog 58 #[.pointer (some ⟨b, o, none⟩)] w fun e w' => e = .returned (.int .i64 N.sign) ∧ w' = w := by
 obtain ⟨a, n, c, ea, a', n', c', e, hl, _⟩ := x.ab
 injection e with e1 e2 e3
 subst e2
 have es := x.sg
 clear x
 by_cases hN : N = 0
 ·subst hN
  have h0 := hl.of_zero
  subst h0
  clear hl
  go_enter Tryz.func58, Tryz.ntmps58
  go_wp2
  go_ret
  exact ⟨rfl, rfl⟩
 have hp : 0 < n := by
  rcases Nat.eq_zero_or_pos n with h0 | h0
  ·subst h0; have := hl.zero; omega
  ·exact h0
 have hnb : ((n : Int) == 0) = false := by simp; omega
 clear hl
 by_cases hng : N < 0
 ·rw [Int.sign_eq_neg_one_of_neg hng]
  rw [decide_eq_true hng] at es
  clear hp hN
  go_enter Tryz.func58, Tryz.ntmps58
  go_wp2
  go_ret
  exact ⟨rfl, rfl⟩
 ·rw [Int.sign_eq_one_of_pos (by omega)]
  rw [decide_eq_false hng] at es
  clear hp hN
  go_enter Tryz.func58, Tryz.ntmps58
  go_wp2
  go_ret
  exact ⟨rfl, rfl⟩

end Go.Proofs.YtcelbgleajpenaaGreatDoor
namespace Go.Proofs.YtcelbgleajpenaaGreatDoor
open Go.RowKit Go.Sort Go.Shelf

theorem neg_sign {N : Int} {s : Bool} (h : -N ≠ 0) (hs : decide (N < 0) = s) : (!s) = decide (-N < 0) := by
 rw [← hs]
 by_cases hN : N < 0
 ·rw [decide_eq_true hN, decide_eq_false (show ¬ (-N < 0) by omega)]; rfl
 ·rw [decide_eq_false hN, decide_eq_true (show -N < 0 by omega)]; rfl

set_option maxHeartbeats 4000000 in
set_option maxRecDepth 100000 in
set_option linter.unusedSimpArgs false in
theorem iset_any (b o b' o' : Nat) (N : Int) (w : World) (k : SlotI w b o) (x : BInt w b' o' N) (sn : SmH (N.natAbs : Int)) :
  Calls Tryz.prog 115 #[.pointer (some ⟨b, o, none⟩), .pointer (some ⟨b', o', none⟩)] w (GivesAt w b o N) := by
 obtain ⟨a, n, c, ea, hn⟩ := x.ab
 have es := x.sg
 have hlt := x.lt
 obtain ⟨s, hs⟩ : ∃ s, decide (N < 0) = s := ⟨_, rfl⟩
 rw [hs] at es
 have HTW : Hid (∀ W, Below w.heap.size w W → Calls Tryz.prog 147 #[.slice a n c] W fun e w' => ∃ a n c, e = .returned (.slice a n c) ∧ HNat w' (.slice a n c) (N.natAbs : Int) ∧ Below W.heap.size W w') := fun W hW => twin_any (.slice a n c) (N.natAbs : Int) W (hn.below hW) sn
 have HCC : Hid (∀ W, Below w.heap.size w W → (fun w' : World => w'.cell? ⟨b', o', none⟩ = some (.bool s) ∧ w'.cell? ⟨b', o' + 1, none⟩ = some (.slice a n c)) W) := fun W hW => ⟨by rw [hW.cell (p := ⟨b', o', none⟩) hlt]; exact es, by rw [hW.cell (p := ⟨b', o' + 1, none⟩) hlt]; exact ea⟩
 have HK := hide k
 have HS := hide hs
 clear x k hn es ea hlt hs sn
 go_enter Tryz.func115, Tryz.ntmps115
 go_wp2_with fail
 refine wp_region_till (fun w' : World => w'.cell? ⟨b', o', none⟩ = some (.bool s) ∧ w'.cell? ⟨b', o' + 1, none⟩ = some (.slice a n c)) 10 (by kernel_rfl) ?_
 have bd0 : Below w.heap.size w w.drew := (Below.refl _ _).drew
 have hC0 : (fun w' : World => w'.cell? ⟨b', o', none⟩ = some (.bool s) ∧ w'.cell? ⟨b', o' + 1, none⟩ = some (.slice a n c)) w.drew := unhide HCC _ bd0
 refine wpTill_pure (i := 0) (v := ?_) rfl (by kernel_rfl) (by kernel_rfl) (by kernel_rfl) (by kernel_rfl) (fun _ _ _ h => h) (Or.inl ⟨by rfl, ?_⟩) (fun _ => hC0) ?_
 rotate_left
 ·intro w hSw; clear hSw; go_simp; (try with_reducible rfl)
 (try simp only [List.getElem_toArray, List.getElem_cons_succ, List.getElem_cons_zero])
 (try simp only [Act.put, List.setIfInBounds_toArray, List.set_cons_zero, List.set_cons_succ])
 refine wpTill_pure (i := 1) (v := ?_) rfl (by kernel_rfl) (by kernel_rfl) (by kernel_rfl) (by kernel_rfl) (fun _ _ _ h => h) (Or.inl ⟨by rfl, ?_⟩) (fun _ => hC0) ?_
 rotate_left
 ·intro w hSw; clear hSw; go_simp; (try with_reducible rfl)
 (try simp only [List.getElem_toArray, List.getElem_cons_succ, List.getElem_cons_zero])
 (try simp only [Act.put, List.setIfInBounds_toArray, List.set_cons_zero, List.set_cons_succ])
 refine wpTill_pure (i := 2) (v := ?_) rfl (by kernel_rfl) (by kernel_rfl) (by kernel_rfl) (by kernel_rfl) (fun _ _ _ h => h) (Or.inl ⟨by rfl, ?_⟩) (fun _ => hC0) ?_
 rotate_left
 ·intro w hSw; clear hSw; go_simp; (try with_reducible rfl)
 (try simp only [List.getElem_toArray, List.getElem_cons_succ, List.getElem_cons_zero])
 (try simp only [Act.put, List.setIfInBounds_toArray, List.set_cons_zero, List.set_cons_succ])
 refine wpTill_pure (i := 3) (v := ?_) rfl (by kernel_rfl) (by kernel_rfl) (by kernel_rfl) (by kernel_rfl) (fun _ _ _ h => h) (Or.inl ⟨by rfl, ?_⟩) (fun _ => hC0) ?_
 rotate_left
 ·intro w hSw; clear hSw; go_simp; (try with_reducible rfl)
 (try simp only [List.getElem_toArray, List.getElem_cons_succ, List.getElem_cons_zero])
 (try simp only [Act.put, List.setIfInBounds_toArray, List.set_cons_zero, List.set_cons_succ])
 refine wpTill_take (i := 4) (v := ?_) rfl (by kernel_rfl) (by kernel_rfl) (by kernel_rfl) (by kernel_rfl) (by kernel_rfl) (by kernel_rfl) (fun _ _ _ h => h) (Or.inl ⟨by rfl, ?_⟩) hC0 ?_
 rotate_left
 ·intro w hSw; (try dsimp only at hSw); obtain ⟨z0, z1⟩ := hSw; go_simp; (try with_reducible rfl)
 (try simp only [List.getElem_toArray, List.getElem_cons_succ, List.getElem_cons_zero])
 (try simp only [Act.put, List.setIfInBounds_toArray, List.set_cons_zero, List.set_cons_succ])
 refine wpTill_pure (i := 5) (v := ?_) rfl (by kernel_rfl) (by kernel_rfl) (by kernel_rfl) (by kernel_rfl) (fun _ _ _ h => h) (Or.inl ⟨by rfl, ?_⟩) (fun _ => hC0) ?_
 rotate_left
 ·intro w hSw; clear hSw; go_simp; (try with_reducible rfl)
 (try simp only [List.getElem_toArray, List.getElem_cons_succ, List.getElem_cons_zero])
 (try simp only [Act.put, List.setIfInBounds_toArray, List.set_cons_zero, List.set_cons_succ])
 refine wpTill_pure (i := 6) (v := ?_) rfl (by kernel_rfl) (by kernel_rfl) (by kernel_rfl) (by kernel_rfl) (fun _ _ _ h => h) (Or.inl ⟨by rfl, ?_⟩) (fun _ => hC0) ?_
 rotate_left
 ·intro w hSw; clear hSw; go_simp; (try with_reducible rfl)
 (try simp only [List.getElem_toArray, List.getElem_cons_succ, List.getElem_cons_zero])
 (try simp only [Act.put, List.setIfInBounds_toArray, List.set_cons_zero, List.set_cons_succ])
 refine wpTill_pure (i := 7) (v := ?_) rfl (by kernel_rfl) (by kernel_rfl) (by kernel_rfl) (by kernel_rfl) (fun _ _ _ h => h) (Or.inl ⟨by rfl, ?_⟩) (fun _ => hC0) ?_
 rotate_left
 ·intro w hSw; clear hSw; go_simp; (try with_reducible rfl)
 (try simp only [List.getElem_toArray, List.getElem_cons_succ, List.getElem_cons_zero])
 (try simp only [Act.put, List.setIfInBounds_toArray, List.set_cons_zero, List.set_cons_succ])
 refine wpTill_deep (i := 8) (v := ?_) [9, 10] rfl (by kernel_rfl) (by kernel_rfl) (by kernel_rfl) (by kernel_rfl) (by kernel_rfl) (by kernel_rfl) (by kernel_rfl) (fun _ _ _ h => h) (Or.inl ⟨by rfl, ?_⟩) hC0 ?_
 rotate_left
 ·intro w hSw; (try dsimp only at hSw); obtain ⟨z0, z1⟩ := hSw; go_simp; (try with_reducible rfl)
 (try simp only [List.getElem_toArray, List.getElem_cons_succ, List.getElem_cons_zero])
 (try simp only [Act.put, List.setIfInBounds_toArray, List.set_cons_zero, List.set_cons_succ])
 refine wpTill_one (k := 9) (by kernel_rfl) rfl (fun K hK => ?_)
 (try simp only [List.getElem_toArray, List.getElem_cons_succ, List.getElem_cons_zero])
 go_simp
 refine (unhide HTW _ bd0).mono ?_
 rintro e w1 ⟨a1, n1, c1, rfl, hv1, hb1⟩
 have cc_1 := bstep bd0 hb1
 have hC_1 : (fun w' : World => w'.cell? ⟨b', o', none⟩ = some (.bool s) ∧ w'.cell? ⟨b', o' + 1, none⟩ = some (.slice a n c)) w1 := unhide HCC _ cc_1
 refine hK.out _ _ (fun _ => hC_1) ?_
 clear hK K
 (try simp only [Act.put, List.setIfInBounds_toArray, List.set_cons_zero, List.set_cons_succ])
 refine wpTill_one (k := 10) (by kernel_rfl) rfl (fun K hK => ?_)
 (try simp only [List.getElem_toArray, List.getElem_cons_succ, List.getElem_cons_zero])
 go_simp
 refine (give_any b o (s) a1 n1 c1 w1 ((unhide HK).below cc_1)).mono ?_
 rintro e w2 ⟨rfl, rfl⟩
 refine hK.out _ _ (fun h => absurd (h.symm.trans (by kernel_rfl)) Bool.false_ne_true) ?_
 clear hK K
 (try simp only [Act.put, List.setIfInBounds_toArray, List.set_cons_zero, List.set_cons_succ])
 refine wpTill_one (k := 11) (by kernel_rfl) rfl (fun K hK => ?_)
 (try simp only [List.getElem_toArray, List.getElem_cons_succ, List.getElem_cons_zero])
 go_simp
 refine hK.out _ _ (fun h => absurd (h.symm.trans (by kernel_rfl)) Bool.false_ne_true) ?_
 clear hK K
 (try simp only [Act.put, List.setIfInBounds_toArray, List.set_cons_zero, List.set_cons_succ])
 refine wpTill_done (by kernel_rfl) ?_ _
 have hq : ((s) && decide (0 < n1)) = decide (N < 0) := neg_len (N := N) (by rw [show ((N).natAbs : Int) = (N.natAbs : Int) by omega]; exact hv1) (fun h => by rw [← unhide HS])
 have HV := hide hv1
 have HB := hide cc_1
 have HQ := hide hq
 clear hq hv1 cc_1 hb1 hC_1 hC0 bd0 HCC HTW
 go_wp2
 go_ret
 exact ⟨rfl, w1, a1, n1, c1, unhide HB, by rw [show ((N).natAbs : Int) = (N.natAbs : Int) by omega]; exact unhide HV, by rw [unhide HQ]⟩

set_option maxHeartbeats 4000000 in
set_option maxRecDepth 100000 in
set_option linter.unusedSimpArgs false in
theorem ineg_any (b o b' o' : Nat) (N : Int) (w : World) (k : SlotI w b o) (x : BInt w b' o' N) (sn : SmH (N.natAbs : Int)) :
  Calls Tryz.prog 148 #[.pointer (some ⟨b, o, none⟩), .pointer (some ⟨b', o', none⟩)] w (GivesAt w b o (-N)) := by
 obtain ⟨a, n, c, ea, hn⟩ := x.ab
 have es := x.sg
 have hlt := x.lt
 obtain ⟨s, hs⟩ : ∃ s, decide (N < 0) = s := ⟨_, rfl⟩
 rw [hs] at es
 have HTW : Hid (∀ W, Below w.heap.size w W → Calls Tryz.prog 147 #[.slice a n c] W fun e w' => ∃ a n c, e = .returned (.slice a n c) ∧ HNat w' (.slice a n c) (N.natAbs : Int) ∧ Below W.heap.size W w') := fun W hW => twin_any (.slice a n c) (N.natAbs : Int) W (hn.below hW) sn
 have HCC : Hid (∀ W, Below w.heap.size w W → (fun w' : World => w'.cell? ⟨b', o', none⟩ = some (.bool s) ∧ w'.cell? ⟨b', o' + 1, none⟩ = some (.slice a n c)) W) := fun W hW => ⟨by rw [hW.cell (p := ⟨b', o', none⟩) hlt]; exact es, by rw [hW.cell (p := ⟨b', o' + 1, none⟩) hlt]; exact ea⟩
 have HK := hide k
 have HS := hide hs
 clear x k hn es ea hlt hs sn
 go_enter Tryz.func148, Tryz.ntmps148
 go_wp2_with fail
 refine wp_region_till (fun w' : World => w'.cell? ⟨b', o', none⟩ = some (.bool s) ∧ w'.cell? ⟨b', o' + 1, none⟩ = some (.slice a n c)) 11 (by kernel_rfl) ?_
 have bd0 : Below w.heap.size w w.drew := (Below.refl _ _).drew
 have hC0 : (fun w' : World => w'.cell? ⟨b', o', none⟩ = some (.bool s) ∧ w'.cell? ⟨b', o' + 1, none⟩ = some (.slice a n c)) w.drew := unhide HCC _ bd0
 refine wpTill_pure (i := 0) (v := ?_) rfl (by kernel_rfl) (by kernel_rfl) (by kernel_rfl) (by kernel_rfl) (fun _ _ _ h => h) (Or.inl ⟨by rfl, ?_⟩) (fun _ => hC0) ?_
 rotate_left
 ·intro w hSw; clear hSw; go_simp; (try with_reducible rfl)
 (try simp only [List.getElem_toArray, List.getElem_cons_succ, List.getElem_cons_zero])
 (try simp only [Act.put, List.setIfInBounds_toArray, List.set_cons_zero, List.set_cons_succ])
 refine wpTill_pure (i := 1) (v := ?_) rfl (by kernel_rfl) (by kernel_rfl) (by kernel_rfl) (by kernel_rfl) (fun _ _ _ h => h) (Or.inl ⟨by rfl, ?_⟩) (fun _ => hC0) ?_
 rotate_left
 ·intro w hSw; clear hSw; go_simp; (try with_reducible rfl)
 (try simp only [List.getElem_toArray, List.getElem_cons_succ, List.getElem_cons_zero])
 (try simp only [Act.put, List.setIfInBounds_toArray, List.set_cons_zero, List.set_cons_succ])
 refine wpTill_pure (i := 2) (v := ?_) rfl (by kernel_rfl) (by kernel_rfl) (by kernel_rfl) (by kernel_rfl) (fun _ _ _ h => h) (Or.inl ⟨by rfl, ?_⟩) (fun _ => hC0) ?_
 rotate_left
 ·intro w hSw; clear hSw; go_simp; (try with_reducible rfl)
 (try simp only [List.getElem_toArray, List.getElem_cons_succ, List.getElem_cons_zero])
 (try simp only [Act.put, List.setIfInBounds_toArray, List.set_cons_zero, List.set_cons_succ])
 refine wpTill_pure (i := 3) (v := ?_) rfl (by kernel_rfl) (by kernel_rfl) (by kernel_rfl) (by kernel_rfl) (fun _ _ _ h => h) (Or.inl ⟨by rfl, ?_⟩) (fun _ => hC0) ?_
 rotate_left
 ·intro w hSw; clear hSw; go_simp; (try with_reducible rfl)
 (try simp only [List.getElem_toArray, List.getElem_cons_succ, List.getElem_cons_zero])
 (try simp only [Act.put, List.setIfInBounds_toArray, List.set_cons_zero, List.set_cons_succ])
 refine wpTill_deep (i := 4) (v := ?_) [5, 11] rfl (by kernel_rfl) (by kernel_rfl) (by kernel_rfl) (by kernel_rfl) (by kernel_rfl) (by kernel_rfl) (by kernel_rfl) (fun _ _ _ h => h) (Or.inl ⟨by rfl, ?_⟩) hC0 ?_
 rotate_left
 ·intro w hSw; (try dsimp only at hSw); obtain ⟨z0, z1⟩ := hSw; go_simp; (try with_reducible rfl)
 (try simp only [List.getElem_toArray, List.getElem_cons_succ, List.getElem_cons_zero])
 (try simp only [Act.put, List.setIfInBounds_toArray, List.set_cons_zero, List.set_cons_succ])
 refine wpTill_pure (i := 5) (v := ?_) rfl (by kernel_rfl) (by kernel_rfl) (by kernel_rfl) (by kernel_rfl) (fun _ _ _ h => h) (Or.inl ⟨by rfl, ?_⟩) (fun _ => hC0) ?_
 rotate_left
 ·intro w hSw; clear hSw; go_simp; (try with_reducible rfl)
 (try simp only [List.getElem_toArray, List.getElem_cons_succ, List.getElem_cons_zero])
 (try simp only [Act.put, List.setIfInBounds_toArray, List.set_cons_zero, List.set_cons_succ])
 refine wpTill_pure (i := 6) (v := ?_) rfl (by kernel_rfl) (by kernel_rfl) (by kernel_rfl) (by kernel_rfl) (fun _ _ _ h => h) (Or.inl ⟨by rfl, ?_⟩) (fun _ => hC0) ?_
 rotate_left
 ·intro w hSw; clear hSw; go_simp; (try with_reducible rfl)
 (try simp only [List.getElem_toArray, List.getElem_cons_succ, List.getElem_cons_zero])
 (try simp only [Act.put, List.setIfInBounds_toArray, List.set_cons_zero, List.set_cons_succ])
 refine wpTill_pure (i := 7) (v := ?_) rfl (by kernel_rfl) (by kernel_rfl) (by kernel_rfl) (by kernel_rfl) (fun _ _ _ h => h) (Or.inl ⟨by rfl, ?_⟩) (fun _ => hC0) ?_
 rotate_left
 ·intro w hSw; clear hSw; go_simp; (try with_reducible rfl)
 (try simp only [List.getElem_toArray, List.getElem_cons_succ, List.getElem_cons_zero])
 (try simp only [Act.put, List.setIfInBounds_toArray, List.set_cons_zero, List.set_cons_succ])
 refine wpTill_pure (i := 8) (v := ?_) rfl (by kernel_rfl) (by kernel_rfl) (by kernel_rfl) (by kernel_rfl) (fun _ _ _ h => h) (Or.inl ⟨by rfl, ?_⟩) (fun _ => hC0) ?_
 rotate_left
 ·intro w hSw; clear hSw; go_simp; (try with_reducible rfl)
 (try simp only [List.getElem_toArray, List.getElem_cons_succ, List.getElem_cons_zero])
 (try simp only [Act.put, List.setIfInBounds_toArray, List.set_cons_zero, List.set_cons_succ])
 refine wpTill_deep (i := 9) (v := ?_) [10, 11] rfl (by kernel_rfl) (by kernel_rfl) (by kernel_rfl) (by kernel_rfl) (by kernel_rfl) (by kernel_rfl) (by kernel_rfl) (fun _ _ _ h => h) (Or.inl ⟨by rfl, ?_⟩) hC0 ?_
 rotate_left
 ·intro w hSw; (try dsimp only at hSw); obtain ⟨z0, z1⟩ := hSw; go_simp; (try with_reducible rfl)
 (try simp only [List.getElem_toArray, List.getElem_cons_succ, List.getElem_cons_zero])
 (try simp only [Act.put, List.setIfInBounds_toArray, List.set_cons_zero, List.set_cons_succ])
 refine wpTill_one (k := 10) (by kernel_rfl) rfl (fun K hK => ?_)
 (try simp only [List.getElem_toArray, List.getElem_cons_succ, List.getElem_cons_zero])
 go_simp
 refine (unhide HTW _ bd0).mono ?_
 rintro e w1 ⟨a1, n1, c1, rfl, hv1, hb1⟩
 have cc_1 := bstep bd0 hb1
 have hC_1 : (fun w' : World => w'.cell? ⟨b', o', none⟩ = some (.bool s) ∧ w'.cell? ⟨b', o' + 1, none⟩ = some (.slice a n c)) w1 := unhide HCC _ cc_1
 refine hK.out _ _ (fun _ => hC_1) ?_
 clear hK K
 (try simp only [Act.put, List.setIfInBounds_toArray, List.set_cons_zero, List.set_cons_succ])
 refine wpTill_one (k := 11) (by kernel_rfl) rfl (fun K hK => ?_)
 (try simp only [List.getElem_toArray, List.getElem_cons_succ, List.getElem_cons_zero])
 go_simp
 refine (give_any b o (!s) a1 n1 c1 w1 ((unhide HK).below cc_1)).mono ?_
 rintro e w2 ⟨rfl, rfl⟩
 refine hK.out _ _ (fun h => absurd (h.symm.trans (by kernel_rfl)) Bool.false_ne_true) ?_
 clear hK K
 (try simp only [Act.put, List.setIfInBounds_toArray, List.set_cons_zero, List.set_cons_succ])
 refine wpTill_one (k := 12) (by kernel_rfl) rfl (fun K hK => ?_)
 (try simp only [List.getElem_toArray, List.getElem_cons_succ, List.getElem_cons_zero])
 go_simp
 refine hK.out _ _ (fun h => absurd (h.symm.trans (by kernel_rfl)) Bool.false_ne_true) ?_
 clear hK K
 (try simp only [Act.put, List.setIfInBounds_toArray, List.set_cons_zero, List.set_cons_succ])
 refine wpTill_done (by kernel_rfl) ?_ _
 have hq : ((!s) && decide (0 < n1)) = decide ((-N) < 0) := neg_len (N := (-N)) (by rw [show (((-N)).natAbs : Int) = (N.natAbs : Int) by omega]; exact hv1) (fun h => by exact neg_sign h (unhide HS))
 have HV := hide hv1
 have HB := hide cc_1
 have HQ := hide hq
 clear hq hv1 cc_1 hb1 hC_1 hC0 bd0 HCC HTW
 go_wp2
 go_ret
 exact ⟨rfl, w1, a1, n1, c1, unhide HB, by rw [show (((-N)).natAbs : Int) = (N.natAbs : Int) by omega]; exact unhide HV, by rw [unhide HQ]⟩

theorem mul_sign {N M : Int} (h : N * M ≠ 0) : (decide (N < 0) != decide (M < 0)) = decide (N * M < 0) := by
 have hN : N ≠ 0 := fun e => h (by rw [e, Int.zero_mul])
 have hM : M ≠ 0 := fun e => h (by rw [e, Int.mul_zero])
 rcases Int.lt_or_gt_of_ne hN with a | a <;> rcases Int.lt_or_gt_of_ne hM with c | c
 ·have := Int.mul_pos_of_neg_of_neg a c
  simp [a, c]; omega
 ·have := Int.mul_neg_of_neg_of_pos a c
  simp [a, this]; omega
 ·have := Int.mul_neg_of_pos_of_neg a c
  simp [c, this]; omega
 ·have := Int.mul_pos a c
  rw [decide_eq_false (show ¬ N < 0 by omega), decide_eq_false (show ¬ M < 0 by omega), decide_eq_false (show ¬ N * M < 0 by omega)]; rfl
set_option maxHeartbeats 4000000 in
set_option maxRecDepth 100000 in
set_option linter.unusedSimpArgs false in
theorem imul_any (b o b' o' b'' o'' : Nat) (N M : Int) (w : World) (k : SlotI w b o) (x : BInt w b' o' N) (y : BInt w b'' o'' M) (sn : SmH (N.natAbs : Int)) (sm : SmH (M.natAbs : Int)) :
  Calls Tryz.prog 61 #[.pointer (some ⟨b, o, none⟩), .pointer (some ⟨b', o', none⟩), .pointer (some ⟨b'', o'', none⟩)] w (GivesAt w b o (N * M)) := by
 obtain ⟨a, n, c, ea, hn⟩ := x.ab
 obtain ⟨a2, n2, c2, ea2, hn2⟩ := y.ab
 have es := x.sg
 have hlt := x.lt
 have es2 := y.sg
 have hlt2 := y.lt
 obtain ⟨s, hs⟩ : ∃ s, decide (N < 0) = s := ⟨_, rfl⟩
 obtain ⟨s2, hs2⟩ : ∃ s, decide (M < 0) = s := ⟨_, rfl⟩
 rw [hs] at es
 rw [hs2] at es2
 have HMU : Hid (∀ W, Below w.heap.size w W → Calls Tryz.prog 102 #[.slice a n c, .slice a2 n2 c2] W fun e w' => ∃ v, e = .returned v ∧ HNat w' v ((N.natAbs : Int) * (M.natAbs : Int)) ∧ Below W.heap.size W w') := fun W hW => mul32_any _ _ _ _ W (hn.below hW) (hn2.below hW) sn sm
 have HCC : Hid (∀ W, Below w.heap.size w W → (fun w' : World => (w'.cell? ⟨b', o', none⟩ = some (.bool s) ∧ w'.cell? ⟨b', o' + 1, none⟩ = some (.slice a n c)) ∧ w'.cell? ⟨b'', o'', none⟩ = some (.bool s2) ∧ w'.cell? ⟨b'', o'' + 1, none⟩ = some (.slice a2 n2 c2)) W) := fun W hW => ⟨⟨by rw [hW.cell (p := ⟨b', o', none⟩) hlt]; exact es, by rw [hW.cell (p := ⟨b', o' + 1, none⟩) hlt]; exact ea⟩, by rw [hW.cell (p := ⟨b'', o'', none⟩) hlt2]; exact es2, by rw [hW.cell (p := ⟨b'', o'' + 1, none⟩) hlt2]; exact ea2⟩
 have HK := hide k
 have HS := hide hs
 have HS2 := hide hs2
 clear x y k hn hn2 es ea es2 ea2 hlt hlt2 hs hs2 sn sm
 go_enter Tryz.func61, Tryz.ntmps61
 go_wp2_with fail
 refine wp_region_till (fun w' : World => (w'.cell? ⟨b', o', none⟩ = some (.bool s) ∧ w'.cell? ⟨b', o' + 1, none⟩ = some (.slice a n c)) ∧ w'.cell? ⟨b'', o'', none⟩ = some (.bool s2) ∧ w'.cell? ⟨b'', o'' + 1, none⟩ = some (.slice a2 n2 c2)) 19 (by kernel_rfl) ?_
 have bd0 : Below w.heap.size w w.drew := (Below.refl _ _).drew
 have hC0 : (fun w' : World => (w'.cell? ⟨b', o', none⟩ = some (.bool s) ∧ w'.cell? ⟨b', o' + 1, none⟩ = some (.slice a n c)) ∧ w'.cell? ⟨b'', o'', none⟩ = some (.bool s2) ∧ w'.cell? ⟨b'', o'' + 1, none⟩ = some (.slice a2 n2 c2)) w.drew := unhide HCC _ bd0
 refine wpTill_pure (i := 0) (v := ?_) rfl (by kernel_rfl) (by kernel_rfl) (by kernel_rfl) (by kernel_rfl) (fun _ _ _ h => h) (Or.inl ⟨by rfl, ?_⟩) (fun _ => hC0) ?_
 rotate_left
 ·intro w hSw; clear hSw; go_simp; (try with_reducible rfl)
 (try simp only [List.getElem_toArray, List.getElem_cons_succ, List.getElem_cons_zero])
 (try simp only [Act.put, List.setIfInBounds_toArray, List.set_cons_zero, List.set_cons_succ])
 refine wpTill_pure (i := 1) (v := ?_) rfl (by kernel_rfl) (by kernel_rfl) (by kernel_rfl) (by kernel_rfl) (fun _ _ _ h => h) (Or.inl ⟨by rfl, ?_⟩) (fun _ => hC0) ?_
 rotate_left
 ·intro w hSw; clear hSw; go_simp; (try with_reducible rfl)
 (try simp only [List.getElem_toArray, List.getElem_cons_succ, List.getElem_cons_zero])
 (try simp only [Act.put, List.setIfInBounds_toArray, List.set_cons_zero, List.set_cons_succ])
 refine wpTill_pure (i := 2) (v := ?_) rfl (by kernel_rfl) (by kernel_rfl) (by kernel_rfl) (by kernel_rfl) (fun _ _ _ h => h) (Or.inl ⟨by rfl, ?_⟩) (fun _ => hC0) ?_
 rotate_left
 ·intro w hSw; clear hSw; go_simp; (try with_reducible rfl)
 (try simp only [List.getElem_toArray, List.getElem_cons_succ, List.getElem_cons_zero])
 (try simp only [Act.put, List.setIfInBounds_toArray, List.set_cons_zero, List.set_cons_succ])
 refine wpTill_pure (i := 3) (v := ?_) rfl (by kernel_rfl) (by kernel_rfl) (by kernel_rfl) (by kernel_rfl) (fun _ _ _ h => h) (Or.inl ⟨by rfl, ?_⟩) (fun _ => hC0) ?_
 rotate_left
 ·intro w hSw; clear hSw; go_simp; (try with_reducible rfl)
 (try simp only [List.getElem_toArray, List.getElem_cons_succ, List.getElem_cons_zero])
 (try simp only [Act.put, List.setIfInBounds_toArray, List.set_cons_zero, List.set_cons_succ])
 refine wpTill_deep (i := 4) (v := ?_) [9, 19] rfl (by kernel_rfl) (by kernel_rfl) (by kernel_rfl) (by kernel_rfl) (by kernel_rfl) (by kernel_rfl) (by kernel_rfl) (fun _ _ _ h => h) (Or.inl ⟨by rfl, ?_⟩) hC0 ?_
 rotate_left
 ·intro w hSw; (try dsimp only at hSw); obtain ⟨⟨z0, z1⟩, z2, z3⟩ := hSw; go_simp; (try with_reducible rfl)
 (try simp only [List.getElem_toArray, List.getElem_cons_succ, List.getElem_cons_zero])
 (try simp only [Act.put, List.setIfInBounds_toArray, List.set_cons_zero, List.set_cons_succ])
 refine wpTill_pure (i := 5) (v := ?_) rfl (by kernel_rfl) (by kernel_rfl) (by kernel_rfl) (by kernel_rfl) (fun _ _ _ h => h) (Or.inl ⟨by rfl, ?_⟩) (fun _ => hC0) ?_
 rotate_left
 ·intro w hSw; clear hSw; go_simp; (try with_reducible rfl)
 (try simp only [List.getElem_toArray, List.getElem_cons_succ, List.getElem_cons_zero])
 (try simp only [Act.put, List.setIfInBounds_toArray, List.set_cons_zero, List.set_cons_succ])
 refine wpTill_pure (i := 6) (v := ?_) rfl (by kernel_rfl) (by kernel_rfl) (by kernel_rfl) (by kernel_rfl) (fun _ _ _ h => h) (Or.inl ⟨by rfl, ?_⟩) (fun _ => hC0) ?_
 rotate_left
 ·intro w hSw; clear hSw; go_simp; (try with_reducible rfl)
 (try simp only [List.getElem_toArray, List.getElem_cons_succ, List.getElem_cons_zero])
 (try simp only [Act.put, List.setIfInBounds_toArray, List.set_cons_zero, List.set_cons_succ])
 refine wpTill_pure (i := 7) (v := ?_) rfl (by kernel_rfl) (by kernel_rfl) (by kernel_rfl) (by kernel_rfl) (fun _ _ _ h => h) (Or.inl ⟨by rfl, ?_⟩) (fun _ => hC0) ?_
 rotate_left
 ·intro w hSw; clear hSw; go_simp; (try with_reducible rfl)
 (try simp only [List.getElem_toArray, List.getElem_cons_succ, List.getElem_cons_zero])
 (try simp only [Act.put, List.setIfInBounds_toArray, List.set_cons_zero, List.set_cons_succ])
 refine wpTill_deep (i := 8) (v := ?_) [9, 19] rfl (by kernel_rfl) (by kernel_rfl) (by kernel_rfl) (by kernel_rfl) (by kernel_rfl) (by kernel_rfl) (by kernel_rfl) (fun _ _ _ h => h) (Or.inl ⟨by rfl, ?_⟩) hC0 ?_
 rotate_left
 ·intro w hSw; (try dsimp only at hSw); obtain ⟨⟨z0, z1⟩, z2, z3⟩ := hSw; go_simp; (try with_reducible rfl)
 (try simp only [List.getElem_toArray, List.getElem_cons_succ, List.getElem_cons_zero])
 (try simp only [Act.put, List.setIfInBounds_toArray, List.set_cons_zero, List.set_cons_succ])
 refine wpTill_pure (i := 9) (v := ?_) rfl (by kernel_rfl) (by kernel_rfl) (by kernel_rfl) (by kernel_rfl) (fun _ _ _ h => h) (Or.inl ⟨by rfl, ?_⟩) (fun _ => hC0) ?_
 rotate_left
 ·intro w hSw; clear hSw; go_simp; (try with_reducible rfl)
 (try simp only [List.getElem_toArray, List.getElem_cons_succ, List.getElem_cons_zero])
 (try simp only [Act.put, List.setIfInBounds_toArray, List.set_cons_zero, List.set_cons_succ])
 refine wpTill_pure (i := 10) (v := ?_) rfl (by kernel_rfl) (by kernel_rfl) (by kernel_rfl) (by kernel_rfl) (fun _ _ _ h => h) (Or.inl ⟨by rfl, ?_⟩) (fun _ => hC0) ?_
 rotate_left
 ·intro w hSw; clear hSw; go_simp; (try with_reducible rfl)
 (try simp only [List.getElem_toArray, List.getElem_cons_succ, List.getElem_cons_zero])
 (try simp only [Act.put, List.setIfInBounds_toArray, List.set_cons_zero, List.set_cons_succ])
 refine wpTill_pure (i := 11) (v := ?_) rfl (by kernel_rfl) (by kernel_rfl) (by kernel_rfl) (by kernel_rfl) (fun _ _ _ h => h) (Or.inl ⟨by rfl, ?_⟩) (fun _ => hC0) ?_
 rotate_left
 ·intro w hSw; clear hSw; go_simp; (try with_reducible rfl)
 (try simp only [List.getElem_toArray, List.getElem_cons_succ, List.getElem_cons_zero])
 (try simp only [Act.put, List.setIfInBounds_toArray, List.set_cons_zero, List.set_cons_succ])
 refine wpTill_pure (i := 12) (v := ?_) rfl (by kernel_rfl) (by kernel_rfl) (by kernel_rfl) (by kernel_rfl) (fun _ _ _ h => h) (Or.inl ⟨by rfl, ?_⟩) (fun _ => hC0) ?_
 rotate_left
 ·intro w hSw; clear hSw; go_simp; (try with_reducible rfl)
 (try simp only [List.getElem_toArray, List.getElem_cons_succ, List.getElem_cons_zero])
 (try simp only [Act.put, List.setIfInBounds_toArray, List.set_cons_zero, List.set_cons_succ])
 refine wpTill_deep (i := 13) (v := ?_) [18, 19] rfl (by kernel_rfl) (by kernel_rfl) (by kernel_rfl) (by kernel_rfl) (by kernel_rfl) (by kernel_rfl) (by kernel_rfl) (fun _ _ _ h => h) (Or.inl ⟨by rfl, ?_⟩) hC0 ?_
 rotate_left
 ·intro w hSw; (try dsimp only at hSw); obtain ⟨⟨z0, z1⟩, z2, z3⟩ := hSw; go_simp; (try with_reducible rfl)
 (try simp only [List.getElem_toArray, List.getElem_cons_succ, List.getElem_cons_zero])
 (try simp only [Act.put, List.setIfInBounds_toArray, List.set_cons_zero, List.set_cons_succ])
 refine wpTill_pure (i := 14) (v := ?_) rfl (by kernel_rfl) (by kernel_rfl) (by kernel_rfl) (by kernel_rfl) (fun _ _ _ h => h) (Or.inl ⟨by rfl, ?_⟩) (fun _ => hC0) ?_
 rotate_left
 ·intro w hSw; clear hSw; go_simp; (try with_reducible rfl)
 (try simp only [List.getElem_toArray, List.getElem_cons_succ, List.getElem_cons_zero])
 (try simp only [Act.put, List.setIfInBounds_toArray, List.set_cons_zero, List.set_cons_succ])
 refine wpTill_pure (i := 15) (v := ?_) rfl (by kernel_rfl) (by kernel_rfl) (by kernel_rfl) (by kernel_rfl) (fun _ _ _ h => h) (Or.inl ⟨by rfl, ?_⟩) (fun _ => hC0) ?_
 rotate_left
 ·intro w hSw; clear hSw; go_simp; (try with_reducible rfl)
 (try simp only [List.getElem_toArray, List.getElem_cons_succ, List.getElem_cons_zero])
 (try simp only [Act.put, List.setIfInBounds_toArray, List.set_cons_zero, List.set_cons_succ])
 refine wpTill_pure (i := 16) (v := ?_) rfl (by kernel_rfl) (by kernel_rfl) (by kernel_rfl) (by kernel_rfl) (fun _ _ _ h => h) (Or.inl ⟨by rfl, ?_⟩) (fun _ => hC0) ?_
 rotate_left
 ·intro w hSw; clear hSw; go_simp; (try with_reducible rfl)
 (try simp only [List.getElem_toArray, List.getElem_cons_succ, List.getElem_cons_zero])
 (try simp only [Act.put, List.setIfInBounds_toArray, List.set_cons_zero, List.set_cons_succ])
 refine wpTill_deep (i := 17) (v := ?_) [18, 19] rfl (by kernel_rfl) (by kernel_rfl) (by kernel_rfl) (by kernel_rfl) (by kernel_rfl) (by kernel_rfl) (by kernel_rfl) (fun _ _ _ h => h) (Or.inl ⟨by rfl, ?_⟩) hC0 ?_
 rotate_left
 ·intro w hSw; (try dsimp only at hSw); obtain ⟨⟨z0, z1⟩, z2, z3⟩ := hSw; go_simp; (try with_reducible rfl)
 (try simp only [List.getElem_toArray, List.getElem_cons_succ, List.getElem_cons_zero])
 (try simp only [Act.put, List.setIfInBounds_toArray, List.set_cons_zero, List.set_cons_succ])
 refine wpTill_one (k := 18) (by kernel_rfl) rfl (fun K hK => ?_)
 (try simp only [List.getElem_toArray, List.getElem_cons_succ, List.getElem_cons_zero])
 go_simp
 refine (unhide HMU _ bd0).mono ?_
 rintro e w1 ⟨v1, rfl, hv1, hb1⟩
 have hv2 : HNat w1 v1 ((N * M).natAbs : Int) := by rw [Int.natAbs_mul, Int.natCast_mul]; exact hv1
 obtain ⟨a1, n1, c1, rfl, _⟩ := id hv2
 have cc_1 := bstep bd0 hb1
 have hC_1 : (fun w' : World => (w'.cell? ⟨b', o', none⟩ = some (.bool s) ∧ w'.cell? ⟨b', o' + 1, none⟩ = some (.slice a n c)) ∧ w'.cell? ⟨b'', o'', none⟩ = some (.bool s2) ∧ w'.cell? ⟨b'', o'' + 1, none⟩ = some (.slice a2 n2 c2)) w1 := unhide HCC _ cc_1
 refine hK.out _ _ (fun _ => hC_1) ?_
 clear hK K
 (try simp only [Act.put, List.setIfInBounds_toArray, List.set_cons_zero, List.set_cons_succ])
 refine wpTill_one (k := 19) (by kernel_rfl) rfl (fun K hK => ?_)
 (try simp only [List.getElem_toArray, List.getElem_cons_succ, List.getElem_cons_zero])
 go_simp
 refine (give_any b o (s != s2) a1 n1 c1 w1 ((unhide HK).below cc_1)).mono ?_
 rintro e w2 ⟨rfl, rfl⟩
 refine hK.out _ _ (fun h => absurd (h.symm.trans (by kernel_rfl)) Bool.false_ne_true) ?_
 clear hK K
 (try simp only [Act.put, List.setIfInBounds_toArray, List.set_cons_zero, List.set_cons_succ])
 refine wpTill_one (k := 20) (by kernel_rfl) rfl (fun K hK => ?_)
 (try simp only [List.getElem_toArray, List.getElem_cons_succ, List.getElem_cons_zero])
 go_simp
 refine hK.out _ _ (fun h => absurd (h.symm.trans (by kernel_rfl)) Bool.false_ne_true) ?_
 clear hK K
 (try simp only [Act.put, List.setIfInBounds_toArray, List.set_cons_zero, List.set_cons_succ])
 refine wpTill_done (by kernel_rfl) ?_ _
 have hq : ((s != s2) && decide (0 < n1)) = decide (N * M < 0) := neg_len (N := N * M) hv2 (fun h => by rw [← unhide HS, ← unhide HS2]; exact mul_sign h)
 have HV := hide hv2
 have HB := hide cc_1
 have HQ := hide hq
 clear hq hv1 hv2 cc_1 hb1 hC_1 hC0 bd0 HCC HMU
 go_wp2
 go_ret
 exact ⟨rfl, w1, a1, n1, c1, unhide HB, unhide HV, by rw [unhide HQ]⟩
end Go.Proofs.YtcelbgleajpenaaGreatDoor
