/- TripBetter: the walk. -/
import Derived.Test.YtcmddkekidgkoaaDoorTT7
import Derived.Test.YtcmddkekidgkoaaDoorTT8
import Derived.Test.YtcmddkekidgkoaaDoorTL0
namespace Go.Proofs.YtcmddkekidgkoaaDoor
open Go.RowKit Go.Sort Go.Shelf

theorem BetE.bad {w w' : World} {k : Int} {R : Nat → Nat → Int} {p : Nat} {V : Nat → Int} {e : Ending} (h : BetE w k R p V e w') (hk : k ≠ 0) : e = .returned (.tuple #[.slice none 0 0, .iface 25 (.int .i64 k)]) ∧ Below w.heap.size w w' := by
  obtain ⟨hb, ⟨_, he⟩ | ⟨h0, _⟩⟩ := h
  · exact ⟨he, hb⟩
  · exact absurd h0 hk
theorem BetE.good {w w' : World} {R : Nat → Nat → Int} {p : Nat} {V : Nat → Int} {e : Ending} (h : BetE w 0 R p V e w') : ∃ G U, e = .returned (.tuple #[.slice (some ⟨G, 0, none⟩) p p, .nilIface]) ∧ OwnI w' G p U ∧ EndB R p V U ∧ Below w.heap.size w w' := by
  obtain ⟨hb, ⟨h0, _⟩ | ⟨_, G, U, _, he, hO, hE⟩⟩ := h
  · exact absurd rfl h0
  · exact ⟨G, U, he, hO, hE, hb⟩
set_option maxHeartbeats 8000000 in
set_option maxRecDepth 100000 in
set_option linter.unusedSimpArgs false in
theorem tripBetter_any (a : Option Addr) (n c : Nat) (H : Nat → Option Addr × Nat × Nat) (R : Nat → Nat → Int) (va : Option Addr) (p vc : Nat) (V : Nat → Int) (w : World) (het : ErrTy w) (hr : RRow w a n c H R) (hv : IRow w va p vc V) :
    Calls Tryd.prog 10 #[.slice a n c, .slice va p vc] w fun e w' => e = .returned (.bool true) ∧ Below w.heap.size w w' := by
  have q1 := hr.1
  have q2 := hr.2.1
  have q3 := hv.1
  have q4 := hv.2.1
  have HR := hide hr
  have HV := hide hv
  have HET := hide het
  have HBG := hide (big_any a n c H R w hr)
  have HMC := hide (mapCheck_any a n c H R w hr)
  clear hr hv het
  go_enter Tryd.func10, Tryd.ntmps10
  go_wp2_with fail
  refine (unhide HBG).mono ?_
  rintro e w1 ⟨⟨b, rfl⟩, rfl⟩
  clear HBG
  cases b with
  | true =>
    go_wp2
    go_ret
    exact ⟨rfl, Below.refl _ _⟩
  | false =>
  by_cases h60 : 60 < p
  · have e0 : (60 : Int) < (p : Int) := by omega
    go_wp2
    go_ret
    exact ⟨rfl, Below.refl _ _⟩
  have e0 : ¬ (60 : Int) < (p : Int) := by omega
  have HBT : Hid (∀ W, Below w1.heap.size w1 W → Calls Tryd.prog 41 #[.slice a n c, .slice va p vc] W (BetE W (bcode n R (lnH H) p V) R p V)) := fun W hW => Better_any a n c H R va p vc V W ((unhide HR).below hW) ((unhide HV).below hW) (by omega)
  have HOR := hide (rorder_any va p vc V (n : Int) w1 (unhide HV) (by omega))
  go_wp2_with fail
  refine (unhide HMC).mono ?_
  rintro e w2 ⟨rfl, rfl⟩
  clear HMC e0
  by_cases hk : mcode n R (lnH H) = 0
  case neg =>
    have hcd : bcode n R (lnH H) p V = mcode n R (lnH H) := if_pos hk
    rw [hcd] at HBT
    obtain ⟨k, hk2⟩ : ∃ k, mcode n R (lnH H) = k := ⟨_, rfl⟩
    rw [hk2] at HBT hk ⊢
    have HK := hide hk
    have HB4 := hide (Below.refl w2.heap.size w2)
    have HL4 := hide ((unhide HBT w2 (unhide HB4)).mono fun e w' h => h.bad (unhide HK))
    have g2 : (k == 0) = false := by simpa using hk
    clear hk hk2 hcd HBT HOR
    go_wp2_with fail
    go_loopw [6, 5, 7] (fun vi ve _ wr => vi = .int .i64 0 ∧ ve = .int .i64 k ∧ wr = w2) (fun _ _ _ _ => 0)
    case atStart => exact ⟨rfl, rfl, rfl⟩
    case round =>
      obtain ⟨rfl, rfl, hw4⟩ := hrel
      subst hw4
      by_cases h0 : (0 : Int) < (n : Int)
      all_goals
        go_wp2_with fail
        refine (unhide HL4).mono ?_
        rintro e w5 ⟨rfl, hb5⟩
        have HB5 := hide (below_step (unhide HB4) hb5)
        clear hb5 HL4
        go_wp2_with fail
        refine (ints_bad k (unhide HK) w5 ((unhide HET).below (unhide HB5))).mono ?_
        rintro e w6 ⟨rfl, hb6⟩
        have HB6 := hide (below_step (unhide HB5) hb6)
        clear hb6
        go_wp2
        go_ret
        exact ⟨rfl, unhide HB6⟩
  have HG := hide (gmap_of hk)
  have h9 := (gmap_of hk).few
  rw [hk]
  have HK := hide hk
  clear hk
  go_wp2_with fail
  refine (unhide HOR).mono ?_
  rintro e w4 ⟨rfl, hb4⟩
  have HB4 := hide hb4
  clear hb4 HOR
  by_cases ho : ocode V p n = 0
  case neg =>
    have hcd : bcode n R (lnH H) p V = ocode V p n := by unfold bcode; rw [if_neg (by simp [unhide HK]), if_pos ho]
    rw [hcd] at HBT
    obtain ⟨k, hk2⟩ : ∃ k, ocode V p n = k := ⟨_, rfl⟩
    rw [hk2] at HBT ho ⊢
    have HKO := hide ho
    have HL4 := hide ((unhide HBT w4 (unhide HB4)).mono fun e w' h => h.bad (unhide HKO))
    have g2 : (k == 0) = false := by simpa using ho
    clear ho hk2 hcd HBT
    go_wp2_with fail
    go_loopw [6, 5, 7] (fun vi ve _ wr => vi = .int .i64 0 ∧ ve = .int .i64 k ∧ wr = w4) (fun _ _ _ _ => 0)
    case atStart => exact ⟨rfl, rfl, rfl⟩
    case round =>
      obtain ⟨rfl, rfl, hw4⟩ := hrel
      subst hw4
      by_cases h0 : (0 : Int) < (n : Int)
      all_goals
        go_wp2_with fail
        refine (unhide HL4).mono ?_
        rintro e w5 ⟨rfl, hb5⟩
        have HB5 := hide (below_step (unhide HB4) hb5)
        clear hb5 HL4
        go_wp2_with fail
        refine (ints_bad k (unhide HKO) w5 ((unhide HET).below (unhide HB5))).mono ?_
        rintro e w6 ⟨rfl, hb6⟩
        have HB6 := hide (below_step (unhide HB5) hb6)
        clear hb6
        go_wp2
        go_ret
        exact ⟨rfl, unhide HB6⟩
  have hpn : p = n := by
    unfold ocode at ho
    by_cases cc : (p : Int) = n
    · exact Int.ofNat.inj cc
    · rw [if_pos cc] at ho; exact absurd ho (by decide)
  subst hpn
  have hGR : GoodR p V := goodR_of (by unfold ocode at ho; rw [if_neg (by simp)] at ho; exact ho)
  have HRG : Hid (RngV p p V) := hGR.rng
  rw [ho]
  have HO := hide ho
  clear ho hGR
  go_wp2_with fail
  go_loopw [6, 5, 7] (fun vi ve _ wr => ∃ i : Nat, vi = .int .i64 (i : Int) ∧ i ≤ p ∧ ((ve = .int .i64 0 ∧ ∀ x y, x < i → y < p → R x y = R y x) ∨ (ve = .int .i64 3 ∧ symB p R = false)) ∧ Below w2.heap.size w2 wr) (fun vi _ _ _ => p - (intOf vi).toNat)
  case atStart => exact ⟨0, rfl, Nat.zero_le _, Or.inl ⟨rfl, fun x y h => absurd h (Nat.not_lt_zero _)⟩, unhide HB4⟩
  case round =>
    obtain ⟨i, rfl, hi, hh, hb⟩ := hrel
    obtain ⟨ws, hws⟩ : ∃ W, W = wr := ⟨_, rfl⟩
    rw [← hws] at hb ⊢
    have HB4 := hide hb
    clear hb hws
    rcases hh with ⟨rfl, hall⟩ | ⟨rfl, hsy⟩
    case inr =>
      have hcd : bcode p R (lnH H) p V = 3 := by unfold bcode; rw [if_neg (by simp [unhide HK]), if_neg (by simp [unhide HO]), if_pos hsy]
      rw [hcd] at HBT
      have HL4 := hide ((unhide HBT ws (unhide HB4)).mono fun e w' h => h.bad (by decide))
      clear hcd HBT hsy
      by_cases h0 : (i : Int) < (p : Int)
      all_goals
        go_wp2_with fail
        refine (unhide HL4).mono ?_
        rintro e w5 ⟨rfl, hb5⟩
        have HB5 := hide (below_step (unhide HB4) hb5)
        clear hb5 HL4
        go_wp2_with fail
        refine (ints_bad 3 (by decide) w5 ((unhide HET).below (unhide HB5))).mono ?_
        rintro e w6 ⟨rfl, hb6⟩
        have HB6 := hide (below_step (unhide HB5) hb6)
        clear hb6
        go_wp2
        go_ret
        exact ⟨rfl, unhide HB6⟩
    have HALL := hide hall
    clear hall
    by_cases hlt : i < p
    · have e1 : (0 : Int) ≤ (i : Int) := by omega
      have e2 : (i : Int) < (p : Int) := by omega
      have e6 : IntKind.i64.wrap ((i : Int) + 1) = ((i + 1 : Nat) : Int) := by rw [IntKind.wrap_i64]; omega
      go_wp2_with fail
      go_loopw [7, 5] (fun vj ve wv => ∃ j : Nat, vj = .int .i64 (j : Int) ∧ j ≤ p ∧ ((ve = .int .i64 0 ∧ ∀ y, y < j → R i y = R y i) ∨ (ve = .int .i64 3 ∧ symB p R = false)) ∧ Below w2.heap.size w2 wv) (fun vj _ _ => p - (intOf vj).toNat)
      case atStart => exact ⟨0, rfl, Nat.zero_le _, Or.inl ⟨rfl, fun y h => absurd h (Nat.not_lt_zero _)⟩, unhide HB4⟩
      case round =>
        obtain ⟨j, rfl, hj, hh, hbv⟩ := hrel
        obtain ⟨wv, hwv⟩ : ∃ W, W = wr := ⟨_, rfl⟩
        rw [← hwv] at hbv ⊢
        have HBV := hide hbv
        by_cases hjl : j < p
        · obtain ⟨b, o, b2, o2, c2, rfl, c0, k0, _, _, z1⟩ := ((unhide HR).below hbv).at (unhide HG) (i := i) (j := j) hlt hjl
          obtain ⟨b', o', b3, o3, c3, e, k1, k2, _, _, z2⟩ := ((unhide HR).below hbv).at (unhide HG) (i := j) (j := i) hjl hlt
          injection e with e; injection e with e3 e4
          subst e3 e4
          obtain ⟨x, hx⟩ : ∃ x, R i j = x := ⟨_, rfl⟩
          obtain ⟨y, hy⟩ : ∃ y, R j i = y := ⟨_, rfl⟩
          rw [hx] at k0
          rw [hy] at k2
          have f1 : (0 : Int) ≤ (j : Int) := by omega
          have f2 : (j : Int) < (p : Int) := by omega
          have f6 : IntKind.i64.wrap ((j : Int) + 1) = ((j + 1 : Nat) : Int) := by rw [IntKind.wrap_i64]; omega
          have HNX : Hid (∀ q, Below w2.heap.size w2 (wv.drewN q)) := fun q => ⟨hbv.os, hbv.tape, hbv.output, hbv.size, hbv.block⟩
          by_cases hxy : x = y
          · have g0 : (x != y) = false := by simpa using hxy
            rcases hh with ⟨rfl, hq⟩ | ⟨rfl, hsy⟩
            · have HJ : Hid (∀ q, q < j + 1 → R i q = R q i) := fun q hq2 => by
                by_cases cc : q = j
                · rw [cc, hx, hy, hxy]
                · exact hq q (by omega)
              clear hq hx hy hxy hbv hwv
              go_wp2_with fail
              go_quiet (fail)
              go_wp2
              exact ⟨⟨j + 1, rfl, hjl, Or.inl ⟨rfl, unhide HJ⟩, unhide HNX _⟩, by simp [intOf]; omega⟩
            · have HSY := hide hsy
              clear hsy hx hy hxy hbv hwv
              go_wp2_with fail
              go_quiet (fail)
              go_wp2
              exact ⟨⟨j + 1, rfl, hjl, Or.inr ⟨rfl, unhide HSY⟩, unhide HNX _⟩, by simp [intOf]; omega⟩
          · have g0 : (x != y) = true := by simpa using hxy
            have HSY : Hid (symB p R = false) := symB_false fun h => hxy (by rw [← hx, ← hy]; exact h i j hlt hjl)
            clear hh hx hy hxy hbv hwv
            go_wp2_with fail
            go_quiet (fail)
            go_wp2
            exact ⟨⟨j + 1, rfl, hjl, Or.inr ⟨rfl, unhide HSY⟩, unhide HNX _⟩, by simp [intOf]; omega⟩
        · obtain rfl : j = p := by omega
          have f2 : ¬ (j : Int) < (j : Int) := by omega
          rcases hh with ⟨rfl, hq⟩ | ⟨rfl, hsy⟩
          · have HJ : Hid (∀ x y, x < i + 1 → y < j → R x y = R y x) := fun x y h1 h2 => by
              by_cases cc : x = i
              · rw [cc]; exact hq y h2
              · exact unhide HALL x y (by omega) h2
            clear hq hbv hwv
            go_wp2
            exact ⟨⟨i + 1, rfl, hlt, Or.inl ⟨rfl, unhide HJ⟩, unhide HBV⟩, by simp [intOf]; omega⟩
          · have HSY := hide hsy
            clear hsy hbv hwv
            go_wp2
            exact ⟨⟨i + 1, rfl, hlt, Or.inr ⟨rfl, unhide HSY⟩, unhide HBV⟩, by simp [intOf]; omega⟩
    · obtain rfl : i = p := by omega
      have f2 : ¬ (i : Int) < (i : Int) := by omega
      have hsy : symB i R = true := symB_true.2 fun x y h1 h2 => unhide HALL x y h1 h2
      have hcd : bcode i R (lnH H) i V = 0 := by unfold bcode; rw [if_neg (by simp [unhide HK]), if_neg (by simp [unhide HO]), hsy]; rfl
      rw [hcd] at HBT
      have HRL := hide (Better19_any a i c H R va vc V ws ((unhide HR).below (unhide HB4)) ((unhide HV).below (unhide HB4)) (unhide HG) (unhide HRG))
      clear hcd hsy
      go_wp2_with fail
      refine (unhide HRL).mono ?_
      rintro e w5 ⟨v5, U, rfl, hS5, hE5, hb5⟩
      have HS5 := hide hS5
      have HE5 := hide hE5
      have HB5 := hide (below_step (unhide HB4) hb5)
      have HL5 := hide ((unhide HBT w5 (unhide HB5)).mono fun e w' h => h.good)
      clear hb5 HRL HBT hS5 hE5
      go_wp2_with fail
      refine (unhide HL5).mono ?_
      rintro e w6 ⟨G, U', rfl, hO6, hE6, hb6⟩
      obtain rfl := (unhide HE5).uniq hE6
      obtain ⟨a5, c5, rfl, hI5⟩ := (unhide HS5).keep hb6
      have HIN := hide (ints_good (some ⟨G, 0, none⟩) a5 i i c5 U w6 (hO6.irow (by omega)) hI5)
      have HB6 := hide (below_step (unhide HB5) hb6)
      clear hb6 HL5 hO6 hE6 hI5 HS5 HE5
      go_wp2_with fail
      refine (unhide HIN).mono ?_
      rintro e w7 ⟨rfl, hb7⟩
      have HB7 := hide (below_step (unhide HB6) hb7)
      clear hb7
      go_wp2
      go_ret
      exact ⟨rfl, unhide HB7⟩
end Go.Proofs.YtcmddkekidgkoaaDoor
