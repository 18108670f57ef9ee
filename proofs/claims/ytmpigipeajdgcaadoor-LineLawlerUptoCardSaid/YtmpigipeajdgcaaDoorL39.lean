/- The law of Lawler: its walk. -/
import Derived.Test.YtmpigipeajdgcaaDoorL38
namespace Go.Proofs.YtmpigipeajdgcaaDoor
open Go.RowKit Go.Sort

/-- How many numbers stand in the first rows. -/
def tot (m : Nat) (ln : Nat → Nat) : Nat → Nat
  | 0 => m
  | i + 1 => tot m ln i + ln i
theorem tot_bd {m : Nat} {ln : Nat → Nat} (hm : m ≤ 1048576) (hl : ∀ i, ln i ≤ 1048576) : ∀ i, tot m ln i ≤ 1048576 + 1048576 * i
  | 0 => by show m ≤ _; omega
  | i + 1 => by
    have := tot_bd hm hl i
    have := hl i
    show tot m ln i + ln i ≤ _
    omega

set_option maxHeartbeats 8000000 in
set_option maxRecDepth 100000 in
set_option linter.unusedSimpArgs false in
theorem lineLawler_any (a : Option Addr) (n c : Nat) (f : Nat → T3) (va : Option Addr) (m vc : Nat) (H : Nat → Option Addr × Nat × Nat) (R : Nat → Nat → Int) (w : World) (het : ErrTy w) (ha : TRow w a n c f) (hr : RRow w va m vc H R) (hmb : m ≤ 1048576) (hl : ∀ i, lnH H i ≤ 1048576) :
    Calls Tryd.prog 9 #[.slice a n c, .slice va m vc] w fun e w' => e = .returned (.bool true) ∧ Below w.heap.size w w' := by
  have b1 := ha.1
  have b2 := ha.2.1
  have b5 := hr.1
  have b6 := hr.2.1
  have HA := hide ha
  have HR := hide hr
  have HL := hide hl
  have HE := hide het
  have HTK : Hid (n ≤ 1000 → Calls Tryd.prog 13 #[.slice a n c] w fun e w' => ∃ a' c', e = .returned (.slice a' n c') ∧ TRow w' a' n c' f ∧ Below w.heap.size w w') := fun h => tasks_any a n c f w ha h
  clear ha hr hl het
  go_enter Tryd.func9, Tryd.ntmps9
  go_wp2_with fail
  go_loopw [5, 6] (fun vt vi wv => ∃ i : Nat, vi = .int .i64 (i : Int) ∧ i ≤ m ∧ vt = .int .i64 ((tot m (lnH H) i : Nat) : Int) ∧ wv = w) (fun _ vi _ => m - (intOf vi).toNat)
  case atStart => exact ⟨0, rfl, Nat.zero_le _, rfl, rfl⟩
  case round =>
    obtain ⟨i, rfl, hi, rfl, rfl⟩ := hrel
    have htb := tot_bd hmb (unhide HL) i
    by_cases him : i < m
    · obtain ⟨_, _, h3, h4⟩ := unhide HR
      obtain ⟨b, o, rfl, hbl, hc⟩ := h4 (by omega)
      have c0 := hc i him
      have hrow := h3 i him
      have hli := unhide HL i
      have hs : tot m (lnH H) (i + 1) = tot m (lnH H) i + lnH H i := rfl
      obtain ⟨⟨ha0, hl0, hcp⟩, hH⟩ : ∃ t, H i = t := ⟨_, rfl⟩
      have hlH : lnH H i = hl0 := by unfold lnH; rw [hH]
      rw [hH] at c0 hrow
      simp only at c0 hrow
      rw [hlH] at hli hs
      obtain ⟨t, ht⟩ : ∃ t, tot m (lnH H) i = t := ⟨_, rfl⟩
      rw [ht] at hs htb ⊢
      have HS := hide hs
      have q7 := hrow.1
      have q8 := hrow.2.1
      have e1 : (0 : Int) ≤ (i : Int) := by omega
      have e2 : (i : Int) < (m : Int) := by omega
      have e3 : IntKind.i64.wrap ((t : Int) + (hl0 : Int)) = (t : Int) + (hl0 : Int) := by rw [IntKind.wrap_i64]; omega
      have e6 : IntKind.i64.wrap ((i : Int) + 1) = (i : Int) + 1 := by rw [IntKind.wrap_i64]; omega
      clear h3 h4 hc hrow hH hlH hs ht htb HTK
      go_wp2
      exact ⟨⟨i + 1, by go_num, him, by rw [unhide HS]; simp, by trivial⟩, by simp [intOf]; omega⟩
    · obtain rfl : i = m := by omega
      have e0 : ¬ (i : Int) < (i : Int) := by omega
      obtain ⟨t, ht⟩ : ∃ t, tot i (lnH H) i = t := ⟨_, rfl⟩
      rw [ht]
      clear htb ht
      by_cases h1 : 100 < n
      · have e1 : (100 : Int) < (n : Int) := by omega
        clear HTK
        go_wp2
        (try simp only [Exit.inBlock, Exit.then])
        (try go_wp2)
        go_ret
        exact ⟨rfl, Below.refl _ _⟩
      have e1 : ¬ (100 : Int) < (n : Int) := by omega
      by_cases h2 : 200 < t
      · have e2 : (200 : Int) < (t : Int) := by omega
        clear HTK
        go_wp2
        (try simp only [Exit.inBlock, Exit.then])
        (try go_wp2)
        go_ret
        exact ⟨rfl, Below.refl _ _⟩
      have e2 : ¬ (200 : Int) < (t : Int) := by omega
      have C1 := hide (unhide HTK (by omega))
      clear HTK
      go_wp2_with fail
      (try simp only [Exit.inBlock, Exit.then])
      (try go_wp2_with fail)
      refine (unhide C1).mono ?_
      rintro e w1 ⟨aj, cj, rfl, htj, hb1⟩
      have HB1 := hide hb1
      have C2 := hide (rlawler_any aj n cj f va i vc H R w1 htj ((unhide HR).below hb1))
      have q3 := htj.1
      have q4 := htj.2.1
      clear hb1 htj C1
      go_wp2_with fail
      refine (unhide C2).mono ?_
      rintro e w2 ⟨hb2, hp⟩
      have HB2 := hide (below_step (unhide HB1) hb2)
      have C3 := hide (lawler_any a n c f va i vc H R w2 ((unhide HA).below (unhide HB2)) ((unhide HR).below (unhide HB2)) (unhide HL))
      clear hb2 C2
      rcases hp with ⟨hz, rfl⟩ | ⟨hz, st, hst, G, hG, rfl, hO⟩
      · have HZ := hide hz
        obtain ⟨k, hk⟩ : ∃ k, lawcode n i f R (lnH H) = k := ⟨_, rfl⟩
        rw [hk]
        have HK := hide hk
        clear hz hk
        go_wp2_with fail
        refine (unhide C3).mono ?_
        rintro e w3 ⟨hb3, hp⟩
        have HB3 := hide (below_step (unhide HB2) hb3)
        rcases hp with ⟨_, rfl⟩ | ⟨hz, _⟩
        case inr => exact absurd hz (unhide HZ)
        rw [unhide HK]
        have hk0 : k ≠ 0 := by rw [← unhide HK]; exact unhide HZ
        have C4 := hide (ints_bad k hk0 w3 ((unhide HE).below (unhide HB3)))
        have C5 : Hid (∀ W, Below w3.heap.size w3 W → Calls Tryd.prog 23 #[.int .i64 0, .iface 24 (.int .i64 k), .int .i64 0, .int .i64 k] W fun e w' => e = .returned (.bool true) ∧ Below W.heap.size W w') := fun W hW => whole_bad 0 k hk0 W (((unhide HE).below (unhide HB3)).below hW)
        clear hb3 C3 hk0
        go_wp2_with fail
        refine (unhide C4).mono ?_
        rintro e w4 ⟨rfl, hb4⟩
        have HB4 := hide (below_step (unhide HB3) hb4)
        have D5 := hide (unhide C5 w4 hb4)
        clear hb4 C4
        go_wp2_with fail
        refine (unhide D5).mono ?_
        rintro e w5 ⟨rfl, hb5⟩
        have HB5 := hide (below_step (unhide HB4) hb5)
        clear hb5 D5
        go_wp2
        go_ret
        exact ⟨rfl, unhide HB5⟩
      · have HZ := hide hz
        have HST := hide hst
        have HO := hide hO
        clear hz hst hO hG
        obtain ⟨gr, hgr⟩ : ∃ g, st.gr = g := ⟨_, rfl⟩
        rw [hgr]
        have HGR := hide hgr
        clear hgr
        go_wp2_with fail
        refine (unhide C3).mono ?_
        rintro e w3 ⟨hb3, hp⟩
        have HB3 := hide (below_step (unhide HB2) hb3)
        rcases hp with ⟨hz, _⟩ | ⟨_, st', hst', G', hG', rfl, hO'⟩
        · exact absurd (unhide HZ) hz
        obtain rfl : st = st' := Option.some.inj ((unhide HST).symm.trans hst')
        rw [unhide HGR]
        have C4 := hide (ints_good (some ⟨G', 0, none⟩) (some ⟨G, 0, none⟩) n n n (rowS n n st.suf) w3 (hO'.irow (by omega)) (((unhide HO).keep hb3).irow (by omega)))
        have C5 : Hid (∀ W, Calls Tryd.prog 23 #[.int .i64 gr, .nilIface, .int .i64 gr, .int .i64 0] W fun e w' => e = .returned (.bool true) ∧ Below W.heap.size W w') := fun W => whole_good gr W
        clear hb3 C3 hO' hG' hst'
        go_wp2_with fail
        refine (unhide C4).mono ?_
        rintro e w4 ⟨rfl, hb4⟩
        have HB4 := hide (below_step (unhide HB3) hb4)
        clear hb4 C4
        go_wp2_with fail
        refine (unhide C5 w4).mono ?_
        rintro e w5 ⟨rfl, hb5⟩
        have HB5 := hide (below_step (unhide HB4) hb5)
        clear hb5 C5
        go_wp2
        go_ret
        exact ⟨rfl, unhide HB5⟩
end Go.Proofs.YtmpigipeajdgcaaDoor
