/- The checker's whole numbers: made, copied, turned, multiplied. -/
import Derived.Test.YtcelbgleajpenaaGreatDoorBB
import Derived.Test.YtcelbgleajpenaaGreatDoorX2
import Derived.Deep.AppendLies
import Derived.Test.YtcelbgleajpenaaGreatDoorA8
namespace Go.Proofs.YtcelbgleajpenaaGreatDoor
open Go.RowKit Go.Sort Go.Shelf

def drow (A : Int) (n : Nat) : List Value := (List.range n).map fun j => .int .u32 (Wh.dig A j)
theorem drow_length (A : Int) (n : Nat) : (drow A n).length = n := by simp [drow]
theorem drow_get (A : Int) {n j : Nat} (h : j < n) : (drow A n)[j]? = some (.int .u32 (Wh.dig A j)) := by simp [drow, h]

set_option maxHeartbeats 4000000 in
set_option maxRecDepth 100000 in
set_option linter.unusedSimpArgs false in
theorem twin_any (va : Value) (A : Int) (w : World) (ha : HNat w va A) (sa : SmH A) :
    Calls Tryz.prog 147 #[va] w fun e w' => ∃ a n c, e = .returned (.slice a n c) ∧ HNat w' (.slice a n c) A ∧ Below w.heap.size w w' := by
  obtain ⟨a, n, c, rfl, hl, h1, h2, h3⟩ := ha
  have hn6 : n ≤ 1000000 := sa.len hl
  clear sa
  obtain ⟨ti, hi, hz0, hz1, hz2⟩ := info_parts Tryz.infoH
  have HI := hide hi
  have HZ := hide hz0
  clear hi hz0
  by_cases hn0 : n = 0
  · subst hn0
    have hA := hl.zero
    subst hA
    clear h3 hl
    cases a with
    | none =>
      go_enter Tryz.func147, Tryz.ntmps147
      go_wp2
      go_ret
      exact ⟨_, _, _, rfl, hNat_zero _ _ _ (by decide), Below.refl _ _⟩
    | some ad =>
      go_enter Tryz.func147, Tryz.ntmps147
      go_wp2
      go_ret
      exact ⟨_, _, _, rfl, hNat_zero _ _ _ (by decide), Below.refl _ _⟩
  obtain ⟨b, o, rfl, hlt, hc⟩ := h3 (by omega)
  have hnews : ∀ j u, (drow A n)[j]? = some u → w.cell? ((⟨b, o, none⟩ : Addr).add j) = some u := fun j u hu => by
    have hj : j < n := by
      have h := (List.getElem?_eq_some_iff.1 hu).1
      rw [drow_length] at h
      exact h
    rw [drow_get _ hj] at hu
    rw [Go.WideShapes.add_plain, hc j hj]
    exact hu
  have hone : ∀ u ∈ drow A n, u.oneCell' = true := fun u hu => by
    unfold drow at hu
    obtain ⟨j, _, rfl⟩ := List.mem_map.1 hu
    rfl
  have HNW := hide hnews
  have HON := hide hone
  have HLA := hide hl
  have HP0 : Hid (0 < n) := by show _ < _; omega
  have HL63 : Hid (0 + n ≤ maxLen) := by show _ ≤ _; unfold maxLen; omega
  have HL64 : Hid ((0 + n) * 4 ≤ 140737488355328) := by show _ ≤ _; omega
  clear hnews hone hl hc h3 hn0
  go_enter Tryz.func147, Tryz.ntmps147
  go_wp2_with (at_builtin; go_loud (refine wpList_append_lies _ rfl _ _ _ rfl w.heap.size 175 ti (.int .u32 0) 1 4 Tryz.underlying82 (unhide HI) (unhide HZ) hz1 hz2 rfl (by decide) _ 0 [] rfl (World.ownsRow_nil _ _ _ _) ⟨b, o, none⟩ n c (drow A n) rfl (by rw [drow_length, Nat.mul_one]) (unhide HNW) (unhide HON) (unhide HP0) (unhide HL63) (unhide HL64) (Nat.le_refl _) w.heap.size rfl ?_; intro g2 cap w5 hown hgrow hat hlt5))
  have hv : HNat w5 (.slice (some ⟨g2, 0, none⟩) n cap) A := by
    rcases hown.2 with ⟨e, _⟩ | ⟨g', cap', cur, e, hb, hh, hc1, hc2, hs, ht⟩
    · injection e with e; cases e
    · injection e with e1 e2 e3
      injection e1 with e1
      injection e1 with e1
      subst e1 e3
      refine ⟨_, n, cap, rfl, unhide HLA, by omega, by unfold maxLen at hc2; exact hc2, fun _ => ⟨g2, 0, rfl, hlt5, fun j hj => ?_⟩⟩
      have h : (cur.toList.take ((0 + n) * 1))[j]? = (drow A n)[j]? := by rw [ht]; rfl
      rw [List.getElem?_take_of_lt (by omega), drow_get _ hj] at h
      have h' : cur[j]? = some (.int .u32 (Wh.dig A j)) := by simpa using h
      rw [Nat.zero_add]
      simp only [World.cell?, hh]
      exact h'
  have hb5 : Below w.heap.size w w5 := Below.grown (Below.refl _ _) hgrow (Nat.le_refl _) (fun k hk => by cases hk)
  have HV := hide hv
  have HB := hide hb5
  clear hown hgrow hat hv hb5 HNW HON
  go_wp2
  go_ret
  exact ⟨_, _, _, rfl, unhide HV, unhide HB⟩

/-- What a method that makes z a number leaves. -/
def GivesAt (w : World) (b o : Nat) (N : Int) (e : Ending) (w' : World) : Prop := e = .returned (.pointer (some ⟨b, o, none⟩)) ∧ ∃ (w1 : World) (a : Option Addr) (n c : Nat), Below w.heap.size w w1 ∧ HNat w1 (.slice a n c) (N.natAbs : Int) ∧ w' = put w1 b o (.slice a n c) (decide (N < 0))
theorem GivesAt.int {w w' : World} {b o : Nat} {N : Int} {e : Ending} (h : GivesAt w b o N e w') (k : SlotI w b o) : BInt w' b o N := by
  obtain ⟨_, w1, a, n, c, hb, hn, rfl⟩ := h
  exact put_int (k.below hb) hn rfl
theorem GivesAt.other {w w' : World} {b o b' o' : Nat} {N M : Int} {e : Ending} (h : GivesAt w b o N e w') (k : SlotI w b o) (x : BInt w b' o' M) (ha : ApartI b o b' o') : BInt w' b' o' M := by
  obtain ⟨_, w1, a, n, c, hb, hn, rfl⟩ := h
  exact (x.below hb).put (k.below hb) ha
theorem GivesAt.bl {w0 w w' : World} {b o : Nat} {N : Int} {e : Ending} (h : GivesAt w b o N e w') (h0 : Below w0.heap.size w0 w) (hb0 : w0.heap.size ≤ b) : Below w0.heap.size w0 w' := by
  obtain ⟨_, w1, a, n, c, hb, hn, rfl⟩ := h
  exact Below.put (bstep h0 hb) hb0
theorem neg_len {w : World} {a : Option Addr} {n c : Nat} {N : Int} {s : Bool} (h : HNat w (.slice a n c) (N.natAbs : Int)) (hs : N ≠ 0 → s = decide (N < 0)) : (s && decide (0 < n)) = decide (N < 0) := by
  obtain ⟨a', n', c', e, hl, _⟩ := h
  injection e with e1 e2 e3
  subst e2
  by_cases hN : N = 0
  · subst hN
    have := hl.of_zero
    subst this
    simp
  · rw [hs hN]
    have : 0 < n := by
      rcases Nat.eq_zero_or_pos n with h0 | h0
      · subst h0; have := hl.zero; omega
      · exact h0
    simp [this]

set_option maxHeartbeats 4000000 in
set_option maxRecDepth 100000 in
set_option linter.unusedSimpArgs false in
theorem setInt64_any (b o : Nat) (x : Int) (h0 : -9223372036854775808 ≤ x) (h1 : x ≤ 9223372036854775807) (w : World) (k : SlotI w b o) :
    Calls Tryz.prog 117 #[.pointer (some ⟨b, o, none⟩), .int .i64 x] w (GivesAt w b o x) := by
  have HK := hide k
  clear k
  by_cases hx : x < 0
  · have e1 : IntKind.u64.wrap x = x + 18446744073709551616 := by rw [IntKind.wrap_u64]; omega
    have e2 : IntKind.u64.wrap (-(x + 18446744073709551616)) = -x := by rw [IntKind.wrap_u64]; omega
    have HWO := hide (words_any (-x) (by omega) (by omega) w)
    go_enter Tryz.func117, Tryz.ntmps117
    go_wp2_with fail
    refine (unhide HWO).mono ?_
    rintro e w1 ⟨v, rfl, hv, hb⟩
    have hv' : HNat w1 v (x.natAbs : Int) := by rw [show (x.natAbs : Int) = -x by omega]; exact hv
    obtain ⟨a, n, c, rfl, _⟩ := id hv'
    have HGV := hide (give_any b o true a n c w1 ((unhide HK).below hb))
    have HV := hide hv'
    clear hv hv' HWO
    go_wp2_with fail
    refine (unhide HGV).mono ?_
    rintro e w2 ⟨rfl, rfl⟩
    go_wp2
    go_ret
    exact ⟨rfl, w1, a, n, c, hb, unhide HV, by have hq := neg_len (N := x) (s := true) (unhide HV) (fun _ => by simp [hx]); simp only [Bool.true_and] at hq; rw [hq]⟩
  · have e1 : IntKind.u64.wrap x = x := by rw [IntKind.wrap_u64]; omega
    have HWO := hide (words_any x (by omega) (by omega) w)
    go_enter Tryz.func117, Tryz.ntmps117
    go_wp2_with fail
    refine (unhide HWO).mono ?_
    rintro e w1 ⟨v, rfl, hv, hb⟩
    have hv' : HNat w1 v (x.natAbs : Int) := by rw [show (x.natAbs : Int) = x by omega]; exact hv
    obtain ⟨a, n, c, rfl, _⟩ := id hv'
    have HGV := hide (give_any b o false a n c w1 ((unhide HK).below hb))
    have HV := hide hv'
    clear hv hv' HWO
    go_wp2_with fail
    refine (unhide HGV).mono ?_
    rintro e w2 ⟨rfl, rfl⟩
    go_wp2
    go_ret
    exact ⟨rfl, w1, a, n, c, hb, unhide HV, by have hq := neg_len (N := x) (s := false) (unhide HV) (fun _ => by simp [hx]); simp only [Bool.false_and] at hq; rw [← hq]⟩

/-- A new place. -/
theorem slot_of {W : World} {g : Nat} {s : Bool} {a : Option Addr} {n c : Nat} {T : TypeId} (h : W.heap[g]? = some (.cells #[.bool s, .slice a n c] T)) : SlotI W g 0 :=
  ⟨⟨s, by simp [World.cell?, h]⟩, ⟨a, n, c, by simp [World.cell?, h]⟩, by simp [World.frozen?, h], by simp [World.frozen?, h], (Array.getElem?_eq_some_iff.1 h).1⟩
theorem int_of {W : World} {g : Nat} {T : TypeId} (h : W.heap[g]? = some (.cells #[.bool false, .slice none 0 0] T)) : BInt W g 0 0 :=
  ⟨by simp [World.cell?, h], ⟨none, 0, 0, by simp [World.cell?, h], hNat_zero _ _ _ (by decide)⟩, by simp [World.frozen?, h], by simp [World.frozen?, h], (Array.getElem?_eq_some_iff.1 h).1⟩
theorem slot_new (w : World) : SlotI (w.alloc (.cells #[.bool false, .slice none 0 0] 84)) w.heap.size 0 := slot_of (heap_alloc_new w _)
theorem int_new (w : World) : BInt (w.alloc (.cells #[.bool false, .slice none 0 0] 84)) w.heap.size 0 0 := int_of (heap_alloc_new w _)

set_option maxHeartbeats 4000000 in
set_option maxRecDepth 100000 in
set_option linter.unusedSimpArgs false in
theorem newInt_any (x : Int) (h0 : -9223372036854775808 ≤ x) (h1 : x ≤ 9223372036854775807) (w : World) :
    Calls Tryz.prog 85 #[.int .i64 x] w fun e w' => ∃ b, e = .returned (.pointer (some ⟨b, 0, none⟩)) ∧ w.heap.size ≤ b ∧ BInt w' b 0 x ∧ Below w.heap.size w w' := by
  have k := slot_new w
  have bA := abelow w (.cells #[.bool false, .slice none 0 0] 84)
  obtain ⟨W0, hW0⟩ : ∃ W, w.alloc (.cells #[.bool false, .slice none 0 0] 84) = W := ⟨_, rfl⟩
  obtain ⟨g, hg⟩ : ∃ g, w.heap.size = g := ⟨_, rfl⟩
  rw [hW0, hg] at k
  rw [hW0] at bA
  have HS := hide (setInt64_any g 0 x h0 h1 W0 k)
  have HK := hide k
  have HB := hide bA
  have HG := hide hg
  clear k bA
  go_enter Tryz.func85, Tryz.ntmps85
  go_wp2_with fail
  clear hW0 hg
  refine (unhide HS).mono ?_
  intro e w1 h
  have HI := hide (h.int (unhide HK))
  have HB1 := hide (h.bl (unhide HB) (Nat.le_of_eq (unhide HG)))
  obtain ⟨rfl, _⟩ := h
  go_wp2
  go_ret
  exact ⟨g, rfl, Nat.le_of_eq (unhide HG), unhide HI, unhide HB1⟩
end Go.Proofs.YtcelbgleajpenaaGreatDoor
/- The checker's whole numbers: copied, turned, multiplied, compared. -/
namespace Go.Proofs.YtcelbgleajpenaaGreatDoor
open Go.RowKit Go.Sort Go.Shelf

set_option maxHeartbeats 4000000 in
set_option maxRecDepth 100000 in
set_option linter.unusedSimpArgs false in
theorem isign_any (b o : Nat) (N : Int) (w : World) (x : BInt w b o N) :
    Calls Tryz.prog 58 #[.pointer (some ⟨b, o, none⟩)] w fun e w' => e = .returned (.int .i64 N.sign) ∧ w' = w := by
  obtain ⟨a, n, c, ea, a', n', c', e, hl, _⟩ := x.ab
  injection e with e1 e2 e3
  subst e2
  have es := x.sg
  clear x
  by_cases hN : N = 0
  · subst hN
    have h0 := hl.of_zero
    subst h0
    clear hl
    go_enter Tryz.func58, Tryz.ntmps58
    go_wp2
    go_ret
    exact ⟨rfl, rfl⟩
  have hp : 0 < n := by
    rcases Nat.eq_zero_or_pos n with h0 | h0
    · subst h0; have := hl.zero; omega
    · exact h0
  have hnb : ((n : Int) == 0) = false := by simp; omega
  clear hl
  by_cases hng : N < 0
  · rw [Int.sign_eq_neg_one_of_neg hng]
    rw [decide_eq_true hng] at es
    clear hp hN
    go_enter Tryz.func58, Tryz.ntmps58
    go_wp2
    go_ret
    exact ⟨rfl, rfl⟩
  · rw [Int.sign_eq_one_of_pos (by omega)]
    rw [decide_eq_false hng] at es
    clear hp hN
    go_enter Tryz.func58, Tryz.ntmps58
    go_wp2
    go_ret
    exact ⟨rfl, rfl⟩

end Go.Proofs.YtcelbgleajpenaaGreatDoor
