/- ShopList. -/
import Derived.Test.YtepgdlgifempeaaDoorZ9
namespace Go.Proofs.YtepgdlgifempeaaDoor
open Go.RowKit Go.Sort Stb Shp Hp

theorem parts_none (w : World) : Calls Tryd.prog 21 #[.slice none 0 0, .slice none 0 0] w fun e w' => e = .returned (.bool true) ∧ Below w.heap.size w w' :=
  parts_good none none 0 0 [] w ⟨Nat.le_refl _, by decide, fun h => absurd h (Nat.lt_irrefl _)⟩ ⟨Nat.le_refl _, by decide, fun h => absurd h (Nat.lt_irrefl _)⟩ (by decide)
theorem parts_own {w w' : World} {B B' : Nat} {v v' : Value} {ps : List Prt} (h : OwnQ w' B v ps) (h' : OwnV w B' v' ps) (hb : Below w.heap.size w w') (hl : ps.length ≤ 1000) :
    Calls Tryd.prog 21 #[v, v'] w' fun e w'' => e = .returned (.bool true) ∧ Below w'.heap.size w' w'' := by
  obtain ⟨a, c, rfl, hq⟩ := h.qrow
  obtain ⟨a', c', rfl, hq'⟩ := h'.qrow
  exact parts_good a a' c c' ps w' hq (hq'.below hb) hl

set_option maxHeartbeats 8000000 in
set_option maxRecDepth 100000 in
set_option linter.unusedSimpArgs false in
theorem shopList_any (a : Option Addr) (n c : Nat) (l : Nat → Int) (m : Int) (ra : Option Addr) (len rc : Nat) (r : Nat → Int) (w : World) (het : ErrTy w) (ha : IRow w a n c l) (hr : IRow w ra len rc r) :
    Calls Tryd.prog 6 #[.slice a n c, .int .i64 m, .slice ra len rc] w fun e w' => e = .returned (.bool true) ∧ Below w.heap.size w w' := by
  have b1 := ha.1
  have b2 := ha.2.1
  have b3 := hr.1
  have b4 := hr.2.1
  by_cases h1 : 100 < n
  · have e1 : (100 : Int) < (n : Int) := by omega
    clear ha hr
    go_enter Tryd.func6, Tryd.ntmps6
    go_wp2
    go_ret
    exact ⟨rfl, Below.refl _ _⟩
  by_cases h2 : 100 < len
  · have e1 : ¬ (100 : Int) < (n : Int) := by omega
    have e2 : (100 : Int) < (len : Int) := by omega
    clear ha hr
    go_enter Tryd.func6, Tryd.ntmps6
    go_wp2
    go_ret
    exact ⟨rfl, Below.refl _ _⟩
  have e1 : ¬ (100 : Int) < (n : Int) := by omega
  have e2 : ¬ (100 : Int) < (len : Int) := by omega
  have HE := hide het
  have HA := hide ha
  have HR := hide hr
  have C1 := hide (rlengths_any a n c l m w ha)
  have C3 : Hid (∀ W, Below w.heap.size w W → Calls Tryd.prog 23 #[.slice a n c, .int .i64 m, .slice ra len rc] W (ListPost W n l m r len)) := fun W hW => list_any a n c l m ra len rc r W (ha.below hW) (hr.below hW) (by omega)
  have CO : Hid (Calls Tryd.prog 11 #[.slice ra len rc, .int .i64 (n : Int)] w fun e w' => e = .returned (.int .i64 (ocode r len n)) ∧ Below w.heap.size w w') := rorder_any ra len rc r n w hr (by omega)
  clear ha hr het
  by_cases hz : scode n l m r len = 0
  case neg =>
    obtain ⟨k, hk⟩ : ∃ k, scode n l m r len = k := ⟨_, rfl⟩
    have hz : k ≠ 0 := by rw [← hk]; exact hz
    have q1 : (k == 0) = false := by simpa using hz
    have HK := hide hk
    have HT := hide hz
    have HEND : Hid (∀ W, Below w.heap.size w W → Calls Tryd.prog 23 #[.slice a n c, .int .i64 m, .slice ra len rc] W fun e w' => e = .returned (.tuple #[.int .i64 0, .slice none 0 0, .iface 26 (.int .i64 k)]) ∧ Below w.heap.size w w') := fun W hW => by
      refine (unhide C3 W hW).mono ?_
      rintro e w2 ⟨hb2, hp⟩
      refine ⟨?_, below_step hW hb2⟩
      rcases hp with ⟨_, h⟩ | ⟨h, _⟩
      · rw [h, unhide HK]
      · exact absurd (h.symm.trans (unhide HK)) (fun e => unhide HT e.symm)
    by_cases ht : lcode n l m = 0
    case neg =>
      have hd : lcode n l m = k := by rw [← hk]; unfold scode; rw [if_pos ht]
      rw [hd] at C1
      clear hd hk hz ht C3 CO
      go_enter Tryd.func6, Tryd.ntmps6
      go_wp2_with fail
      refine (unhide C1).mono ?_
      rintro e w1 ⟨rfl, rfl⟩
      have C3' := hide (unhide HEND w1 (Below.refl _ _))
      clear C1 HEND
      go_wp2_with fail
      refine (unhide C3').mono ?_
      rintro e w2 ⟨rfl, hb2⟩
      have HB2 := hide hb2
      have C4 := hide (whole_bad 0 k (unhide HT) w2 ((unhide HE).below (unhide HB2)))
      clear hb2 C3'
      go_wp2_with fail
      refine (unhide C4).mono ?_
      rintro e w3 ⟨rfl, hb3⟩
      have HB3 := hide (below_step (unhide HB2) hb3)
      have C5 := hide (parts_none w3)
      clear hb3 C4
      go_wp2_with fail
      refine (unhide C5).mono ?_
      rintro e w4 ⟨rfl, hb4⟩
      have HB4 := hide (below_step (unhide HB3) hb4)
      clear hb4 C5
      go_wp2
      go_ret
      exact ⟨rfl, unhide HB4⟩
    · have hd : ocode r len n = k := by rw [← hk]; unfold scode; rw [if_neg (by rw [ht]; decide)]
      rw [ht] at C1
      rw [hd] at CO
      clear hd hk hz ht C3
      go_enter Tryd.func6, Tryd.ntmps6
      go_wp2_with fail
      refine (unhide C1).mono ?_
      rintro e w1 ⟨rfl, rfl⟩
      clear C1
      go_wp2_with fail
      refine (unhide CO).mono ?_
      rintro e w1' ⟨rfl, hb1⟩
      have C3' := hide (unhide HEND w1' hb1)
      clear CO HEND hb1
      go_wp2_with fail
      refine (unhide C3').mono ?_
      rintro e w2 ⟨rfl, hb2⟩
      have HB2 := hide hb2
      have C4 := hide (whole_bad 0 k (unhide HT) w2 ((unhide HE).below (unhide HB2)))
      clear hb2 C3'
      go_wp2_with fail
      refine (unhide C4).mono ?_
      rintro e w3 ⟨rfl, hb3⟩
      have HB3 := hide (below_step (unhide HB2) hb3)
      have C5 := hide (parts_none w3)
      clear hb3 C4
      go_wp2_with fail
      refine (unhide C5).mono ?_
      rintro e w4 ⟨rfl, hb4⟩
      have HB4 := hide (below_step (unhide HB3) hb4)
      clear hb4 C5
      go_wp2
      go_ret
      exact ⟨rfl, unhide HB4⟩
  · obtain ⟨gL, gR, rfl⟩ := sgood_of hz
    have ht : lcode len l m = 0 := by
      by_cases h : lcode len l m = 0
      · exact h
      · unfold scode at hz; rw [if_pos h] at hz; exact hz
    have ho : ocode r len len = 0 := by unfold scode at hz; rw [if_neg (by rw [ht]; decide)] at hz; exact hz
    rw [ht] at C1
    rw [ho] at CO
    have HZ := hide hz
    obtain ⟨M, rfl⟩ : ∃ M : Nat, m = (M : Int) := ⟨m.toNat, by have := gL.m1; omega⟩
    have HG : Hid (GoodL len l M ∧ GoodR len r) := ⟨gL, gR⟩
    have hn := gL.few
    clear ht ho hz gL gR
    go_enter Tryd.func6, Tryd.ntmps6
    go_wp2_with fail
    refine (unhide C1).mono ?_
    rintro e w1 ⟨rfl, rfl⟩
    clear C1
    go_wp2_with fail
    refine (unhide CO).mono ?_
    rintro e w2 ⟨rfl, hb2⟩
    have HB2 := hide hb2
    have C2 := hide (listed_any a len c l M ra rc r w2 ((unhide HA).below hb2) ((unhide HR).below hb2) (unhide HG).1 (unhide HG).2)
    clear CO hb2
    go_wp2_with fail
    refine (unhide C2).mono ?_
    rintro e w3 ⟨v, rfl, hV, hb3⟩
    have HB3 := hide (below_step (unhide HB2) hb3)
    have C3' := hide (unhide C3 w3 (unhide HB3))
    have HV := hide hV
    clear C2 C3 hb3 hV
    go_wp2_with fail
    refine (unhide C3').mono ?_
    rintro e w4 ⟨hb4, hp⟩
    rcases hp with ⟨h, _⟩ | ⟨_, v', rfl, hQ⟩
    · exact absurd (unhide HZ) h
    have HB4 := hide (below_step (unhide HB3) hb4)
    have em : (M : Int).toNat = M := Int.toNat_natCast M
    rw [em] at hQ ⊢
    have C4 := hide (whole_good (lend M l r len) w4)
    have C5 : Hid (∀ W, Below w4.heap.size w4 W → Calls Tryd.prog 21 #[v', v] W fun e w'' => e = .returned (.bool true) ∧ Below W.heap.size W w'') := fun W hW => parts_own (hQ.keep hW) (unhide HV) (below_step hb4 hW) (by rw [lpt_len]; omega)
    clear hb4 C3' hQ HV em
    go_wp2_with fail
    refine (unhide C4).mono ?_
    rintro e w5 ⟨rfl, hb5⟩
    have HB5 := hide (below_step (unhide HB4) hb5)
    have C5' := hide (unhide C5 w5 hb5)
    clear hb5 C4 C5
    go_wp2_with fail
    refine (unhide C5').mono ?_
    rintro e w6 ⟨rfl, hb6⟩
    have HB6 := hide (below_step (unhide HB5) hb6)
    clear hb6 C5'
    go_wp2
    go_ret
    exact ⟨rfl, unhide HB6⟩
end Go.Proofs.YtepgdlgifempeaaDoor
