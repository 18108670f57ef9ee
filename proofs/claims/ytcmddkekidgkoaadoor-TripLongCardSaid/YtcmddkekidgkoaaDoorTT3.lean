/- TripLong: the walk. -/
import Derived.Test.YtcmddkekidgkoaaDoorTT2
namespace Go.Proofs.YtcmddkekidgkoaaDoor
open Go.RowKit Go.Sort Go.Shelf

theorem LgE.bad {w w' : World} {k x : Int} {e : Ending} (h : LgE w k x e w') (hk : k ≠ 0) : e = .returned (.tuple #[.int .i64 0, .iface 25 (.int .i64 k)]) ∧ Below w.heap.size w w' := by
  obtain ⟨hb, ⟨_, he⟩ | ⟨h0, _⟩⟩ := h
  · exact ⟨he, hb⟩
  · exact absurd h0 hk
theorem LgE.good {w w' : World} {x : Int} {e : Ending} (h : LgE w 0 x e w') : e = .returned (.tuple #[.int .i64 x, .nilIface]) ∧ Below w.heap.size w w' := by
  obtain ⟨hb, ⟨h0, _⟩ | ⟨_, he⟩⟩ := h
  · exact absurd rfl h0
  · exact ⟨he, hb⟩
set_option maxHeartbeats 8000000 in
set_option maxRecDepth 100000 in
set_option linter.unusedSimpArgs false in
theorem tripLong_any (a : Option Addr) (n c : Nat) (H : Nat → Option Addr × Nat × Nat) (R : Nat → Nat → Int) (va : Option Addr) (p vc : Nat) (V : Nat → Int) (w : World) (het : ErrTy w) (hr : RRow w a n c H R) (hv : IRow w va p vc V) :
    Calls Tryd.prog 7 #[.slice a n c, .slice va p vc] w fun e w' => e = .returned (.bool true) ∧ Below w.heap.size w w' := by
  have q1 := hr.1
  have q2 := hr.2.1
  have q3 := hv.1
  have q4 := hv.2.1
  have HR := hide hr
  have HV := hide hv
  have HET := hide het
  have HBG := hide (big_any a n c H R w hr)
  have HMC := hide (mapCheck_any a n c H R w hr)
  have HCK := hide (rcheck_any a n c H R w hr)
  have HTL := hide (tellV (mcode n R (lnH H)) w het)
  have HLG : Hid (∀ W, Below w.heap.size w W → Calls Tryd.prog 32 #[.slice a n c, .slice va p vc] W (LgE W (lgcode n R (lnH H) p V) (lngW R V p))) := fun W hW => Long_any a n c H R va p vc V W ((unhide HR).below hW) ((unhide HV).below hW)
  clear hr hv het
  go_enter Tryd.func7, Tryd.ntmps7
  go_wp2_with fail
  refine (unhide HBG).mono ?_
  rintro e w1 ⟨⟨b, rfl⟩, rfl⟩
  clear HBG
  cases b with
  | true =>
    go_wp2
    go_ret
    exact ⟨rfl, Below.refl _ _⟩
  | false =>
  by_cases h150 : 150 < p
  · have e0 : (150 : Int) < (p : Int) := by omega
    go_wp2
    go_ret
    exact ⟨rfl, Below.refl _ _⟩
  have e0 : ¬ (150 : Int) < (p : Int) := by omega
  have g1 : (mcode n R (lnH H) != mcode n R (lnH H)) = false := by simp
  go_wp2_with fail
  refine (unhide HMC).mono ?_
  rintro e w2 ⟨rfl, rfl⟩
  go_wp2_with fail
  refine (unhide HCK).mono ?_
  rintro e w3 ⟨rfl, rfl⟩
  go_wp2_with fail
  refine (unhide HTL).mono ?_
  rintro e w4 ⟨rfl, hb4⟩
  have HB4 := hide hb4
  clear hb4 HMC HCK HTL e0
  by_cases hk : mcode n R (lnH H) = 0
  case neg =>
    have hcd : lgcode n R (lnH H) p V = mcode n R (lnH H) := if_pos hk
    rw [hcd] at HLG
    obtain ⟨k, hk2⟩ : ∃ k, mcode n R (lnH H) = k := ⟨_, rfl⟩
    rw [hk2] at HLG hk g1 ⊢
    have HK := hide hk
    have HL4 := hide ((unhide HLG w4 (unhide HB4)).mono fun e w' h => h.bad (unhide HK))
    have g2 : (k == 0) = false := by simpa using hk
    clear hk hk2 hcd HLG
    go_wp2_with fail
    go_loopw [6, 5] (fun vi ve wr => vi = .int .i64 0 ∧ ve = .int .i64 k ∧ wr = w4) (fun _ _ _ => 0)
    case atStart => exact ⟨rfl, rfl, rfl⟩
    case round =>
      obtain ⟨rfl, rfl, hw4⟩ := hrel
      subst hw4
      by_cases h0 : (0 : Int) < (p : Int)
      all_goals
        go_wp2_with fail
        refine (unhide HL4).mono ?_
        rintro e w5 ⟨rfl, hb5⟩
        have HB5 := hide (below_step (unhide HB4) hb5)
        clear hb5 HL4
        go_wp2_with fail
        refine (whole_bad 0 k (unhide HK) w5 ((unhide HET).below (unhide HB5))).mono ?_
        rintro e w6 ⟨rfl, hb6⟩
        have HB6 := hide (below_step (unhide HB5) hb6)
        clear hb6
        go_wp2
        go_ret
        exact ⟨rfl, unhide HB6⟩
  have HG := hide (gmap_of hk)
  rw [hk] at g1 ⊢
  clear g1
  by_cases h100 : 100 < p
  · have hcd : lgcode n R (lnH H) p V = 4 := by unfold lgcode; rw [if_neg (by simp [hk]), if_pos h100]
    rw [hcd] at HLG
    have HL4 := hide ((unhide HLG w4 (unhide HB4)).mono fun e w' h => h.bad (by decide))
    have e0 : (100 : Int) < (p : Int) := by omega
    have h0 : (0 : Int) < (p : Int) := by omega
    clear hcd HLG hk
    go_wp2_with fail
    go_loopw [6, 5] (fun vi ve wr => vi = .int .i64 0 ∧ ve = .int .i64 4 ∧ wr = w4) (fun _ _ _ => 0)
    case atStart => exact ⟨rfl, rfl, rfl⟩
    case round =>
      obtain ⟨rfl, rfl, hw4⟩ := hrel
      subst hw4
      go_wp2_with fail
      refine (unhide HL4).mono ?_
      rintro e w5 ⟨rfl, hb5⟩
      have HB5 := hide (below_step (unhide HB4) hb5)
      clear hb5 HL4
      go_wp2_with fail
      refine (whole_bad 0 4 (by decide) w5 ((unhide HET).below (unhide HB5))).mono ?_
      rintro e w6 ⟨rfl, hb6⟩
      have HB6 := hide (below_step (unhide HB5) hb6)
      clear hb6
      go_wp2
      go_ret
      exact ⟨rfl, unhide HB6⟩
  have e0 : ¬ (100 : Int) < (p : Int) := by omega
  have hp : p ≤ 100 := by omega
  have HK := hide hk
  clear hk
  go_wp2_with fail
  go_loopw [6, 5] (fun vi ve wr => ∃ i : Nat, vi = .int .i64 (i : Int) ∧ i ≤ p ∧ ((ve = .int .i64 0 ∧ ∀ j, j < i → wbad n (V j) = false) ∨ (ve = .int .i64 2 ∧ wany n V p = true)) ∧ wr = w4) (fun vi _ _ => p - (intOf vi).toNat)
  case atStart => exact ⟨0, rfl, Nat.zero_le _, Or.inl ⟨rfl, fun j hj => absurd hj (Nat.not_lt_zero _)⟩, rfl⟩
  case round =>
    obtain ⟨i, rfl, hi, hh, hw4⟩ := hrel
    subst hw4
    rcases hh with ⟨rfl, hj⟩ | ⟨rfl, hwy⟩
    case inr =>
      have hcd : lgcode n R (lnH H) p V = 2 := by unfold lgcode; rw [if_neg (by simp [unhide HK]), if_neg (by omega), if_pos hwy]
      rw [hcd] at HLG
      have HL4 := hide ((unhide HLG _ (unhide HB4)).mono fun e w' h => h.bad (by decide))
      clear hcd HLG hwy
      by_cases h0 : (i : Int) < (p : Int)
      all_goals
        go_wp2_with fail
        refine (unhide HL4).mono ?_
        rintro e w5 ⟨rfl, hb5⟩
        have HB5 := hide (below_step (unhide HB4) hb5)
        clear hb5 HL4
        go_wp2_with fail
        refine (whole_bad 0 2 (by decide) w5 ((unhide HET).below (unhide HB5))).mono ?_
        rintro e w6 ⟨rfl, hb6⟩
        have HB6 := hide (below_step (unhide HB5) hb6)
        clear hb6
        go_wp2
        go_ret
        exact ⟨rfl, unhide HB6⟩
    by_cases hlt : i < p
    · obtain ⟨b, o, rfl, hbl, hc⟩ := ((unhide HV).below (unhide HB4)).2.2 (by omega)
      have k0 := hc i hlt
      obtain ⟨x, hx⟩ : ∃ x, V i = x := ⟨_, rfl⟩
      rw [hx] at k0
      have f1 : (0 : Int) ≤ (i : Int) := by omega
      have f2 : (i : Int) < (p : Int) := by omega
      have f3 : IntKind.i64.wrap ((i : Int) + 1) = ((i + 1 : Nat) : Int) := by rw [IntKind.wrap_i64]; omega
      by_cases hbx : x < 0 ∨ (n : Int) ≤ x
      · have HW : Hid (wany n V p = true) := List.any_eq_true.2 ⟨i, List.mem_range.2 hlt, by show decide (V i < 0 ∨ (n : Int) ≤ V i) = true; rw [hx]; exact decide_eq_true hbx⟩
        clear hc hj hx
        by_cases hx0 : x < 0
        · clear hbx
          go_wp2
          exact ⟨⟨i + 1, rfl, hlt, Or.inr ⟨rfl, unhide HW⟩, by first | rfl | trivial⟩, by simp [intOf]; omega⟩
        · have hx1 : (n : Int) ≤ x := by omega
          clear hbx
          go_wp2
          exact ⟨⟨i + 1, rfl, hlt, Or.inr ⟨rfl, unhide HW⟩, by first | rfl | trivial⟩, by simp [intOf]; omega⟩
      · have HJ : Hid (∀ j, j < i + 1 → wbad n (V j) = false) := fun j hj2 => by
          by_cases c : j = i
          · subst c; show decide (V j < 0 ∨ (n : Int) ≤ V j) = false; rw [hx]; exact decide_eq_false hbx
          · exact hj j (by omega)
        have hx0 : ¬ x < 0 := by omega
        have hx1 : ¬ (n : Int) ≤ x := by omega
        clear hc hj hx hbx
        go_wp2
        exact ⟨⟨i + 1, rfl, hlt, Or.inl ⟨rfl, unhide HJ⟩, by first | rfl | trivial⟩, by simp [intOf]; omega⟩
    · obtain rfl : i = p := by omega
      have f2 : ¬ (i : Int) < (i : Int) := by omega
      have hwy : wany n V i = false := by
        cases hb : wany n V i with
        | false => rfl
        | true =>
          obtain ⟨q, h1, h2⟩ := List.any_eq_true.1 hb
          rw [hj q (List.mem_range.1 h1)] at h2
          cases h2
      have hcd : lgcode n R (lnH H) i V = 0 := by unfold lgcode; rw [if_neg (by simp [unhide HK]), if_neg (by omega), hwy]; rfl
      rw [hcd] at HLG
      have HRL := hide (rLong_any a n c H R va i vc V _ ((unhide HR).below (unhide HB4)) ((unhide HV).below (unhide HB4)) (unhide HG) (wany_false hwy) hp)
      obtain ⟨x, hx⟩ : ∃ x, lngW R V i = x := ⟨_, rfl⟩
      rw [hx] at HRL HLG
      clear hj hcd hwy hx
      go_wp2_with fail
      refine (unhide HRL).mono ?_
      rintro e w5 ⟨rfl, hb5⟩
      have HB5 := hide (below_step (unhide HB4) hb5)
      have HL5 := hide ((unhide HLG w5 (unhide HB5)).mono fun e w' h => h.good)
      clear hb5 HRL HLG
      go_wp2_with fail
      refine (unhide HL5).mono ?_
      rintro e w6 ⟨rfl, hb6⟩
      have HB6 := hide (below_step (unhide HB5) hb6)
      clear hb6 HL5
      go_wp2_with fail
      refine (whole_good x w6).mono ?_
      rintro e w7 ⟨rfl, hb7⟩
      have HB7 := hide (below_step (unhide HB6) hb7)
      clear hb7
      go_wp2
      go_ret
      exact ⟨rfl, unhide HB7⟩
end Go.Proofs.YtcmddkekidgkoaaDoor
