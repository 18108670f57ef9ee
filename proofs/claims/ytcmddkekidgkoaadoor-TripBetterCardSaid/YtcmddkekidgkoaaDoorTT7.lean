/- Round ways: Better of the program. -/
import Derived.Test.YtcmddkekidgkoaaDoorTT6
import Derived.WalkMore
import Derived.Deep.LoopGhost
namespace Go.Proofs.YtcmddkekidgkoaaDoor
open Go.RowKit Go.Sort Go.Shelf

set_option maxHeartbeats 8000000 in
set_option maxRecDepth 100000 in
set_option linter.unusedSimpArgs false in
theorem Better_any (a : Option Addr) (n c : Nat) (H : Nat → Option Addr × Nat × Nat) (R : Nat → Nat → Int) (va : Option Addr) (p vc : Nat) (V : Nat → Int) (w : World) (hr : RRow w a n c H R) (hv : IRow w va p vc V) (hp60 : p ≤ 100000) :
    Calls Tryd.prog 41 #[.slice a n c, .slice va p vc] w (BetE w (bcode n R (lnH H) p V) R p V) := by
  have HC := hide (rcheck_any a n c H R w hr)
  have HO := hide (order_any va p vc V (n : Int) w hv hp60)
  have HR := hide hr
  have HV := hide hv
  have q1 := hr.1
  have q2 := hr.2.1
  have q3 := hv.1
  have q4 := hv.2.1
  by_cases hk : mcode n R (lnH H) = 0
  case neg =>
    rw [errV_not hk] at HC
    rw [show bcode n R (lnH H) p V = mcode n R (lnH H) from if_pos hk]
    obtain ⟨k, hk2⟩ : ∃ k, mcode n R (lnH H) = k := ⟨_, rfl⟩
    rw [hk2] at HC hk ⊢
    have HK := hide hk
    clear hk hk2 hr hv HO HR HV
    go_enter Tryd.func41, Tryd.ntmps41
    go_wp2_with fail
    go_step3
    go_wp2_with fail
    refine (unhide HC).mono ?_
    rintro e w2 ⟨rfl, rfl⟩
    go_wp2
    (try rw [Exit.noGoto_ret])
    go_ret2
    exact ⟨Below.refl _ _, Or.inl ⟨unhide HK, rfl⟩⟩
  have HG := hide (gmap_of hk)
  rw [hk, errV_zero] at HC
  by_cases ho : ocode V p n = 0
  case neg =>
    rw [errV_not ho] at HO
    rw [show bcode n R (lnH H) p V = ocode V p n by unfold bcode; rw [if_neg (by simp [hk]), if_pos ho]]
    obtain ⟨k, hk2⟩ : ∃ k, ocode V p n = k := ⟨_, rfl⟩
    rw [hk2] at HO ho ⊢
    have HK := hide ho
    clear hk ho hk2 hr hv HR HV
    go_enter Tryd.func41, Tryd.ntmps41
    go_wp2_with fail
    go_step3
    go_wp2_with fail
    refine (unhide HC).mono ?_
    rintro e w2 ⟨rfl, rfl⟩
    go_wp2_with fail
    refine (unhide HO).mono ?_
    rintro e w3 ⟨rfl, hb3⟩
    go_wp2
    (try rw [Exit.noGoto_ret])
    go_ret2
    exact ⟨hb3, Or.inl ⟨unhide HK, rfl⟩⟩
  rw [ho, errV_zero] at HO
  have HAL : Hid (∀ W, Below w.heap.size w W → Calls Tryd.prog 76 #[.slice a n c] W fun e w' => e = .returned (.bool (symB n R)) ∧ w' = W) := fun W hW => alike_any a n c H R W ((unhide HR).below hW) (unhide HG)
  cases hs : symB n R with
  | false =>
    rw [show bcode n R (lnH H) p V = 3 by unfold bcode; rw [if_neg (by simp [hk]), if_neg (by simp [ho]), if_pos hs]]
    rw [hs] at HAL
    clear hk ho hr hv HV hs HR
    go_enter Tryd.func41, Tryd.ntmps41
    go_wp2_with fail
    go_step3
    go_wp2_with fail
    refine (unhide HC).mono ?_
    rintro e w2 ⟨rfl, rfl⟩
    go_wp2_with fail
    refine (unhide HO).mono ?_
    rintro e w3 ⟨rfl, hb3⟩
    have HB3 := hide hb3
    have HA3 := hide (unhide HAL w3 hb3)
    clear hb3 HAL HO HC
    go_wp2_with fail
    refine (unhide HA3).mono ?_
    rintro e w4 ⟨rfl, rfl⟩
    go_wp2
    (try rw [Exit.noGoto_ret])
    go_ret2
    exact ⟨unhide HB3, Or.inl ⟨by decide, rfl⟩⟩
  | true =>
  rw [show bcode n R (lnH H) p V = 0 by unfold bcode; rw [if_neg (by simp [hk]), if_neg (by simp [ho]), hs]; rfl]
  rw [hs] at HAL
  have hS := symB_true.1 hs
  have hpn : p = n := by
    unfold ocode at ho
    by_cases c : (p : Int) = n
    · exact Int.ofNat.inj c
    · rw [if_pos c] at ho; exact absurd ho (by decide)
  subst hpn
  have hGR : GoodR p V := goodR_of (by unfold ocode at ho; rw [if_neg (by simp)] at ho; exact ho)
  have h9 := (gmap_of hk).few
  have HRG : Hid (RngV p p V) := hGR.rng
  have HS := hide hS
  have HSH : Hid (∀ G V' i k W, RngV p p V' → 1 ≤ i → i < k → k < p → Below w.heap.size w W → OwnI W G p V' → Calls Tryd.prog 77 #[.slice a p c, .slice (some ⟨G, 0, none⟩) p p, .int .i64 ((i : Nat) : Int), .int .i64 ((k : Nat) : Int)] W fun e w' => e = .returned (.bool (sB R V' p i k)) ∧ Below W.heap.size W w') := fun G V' i k W h0 h1 h2 h3 h4 h5 => by
    have h := shortens_any a p c H R (some ⟨G, 0, none⟩) p p V' i k W ((unhide HR).below h4) (h5.irow (by omega)) (unhide HG) h0 h1 h2 h3 (by omega)
    rw [shB_len (unhide HS) h0 h1 h2 h3] at h
    exact h
  clear hk ho hr hv hs hS hGR HR hp60
  go_enter Tryd.func41, Tryd.ntmps41
  go_wp2_with fail
  go_step3
  go_wp2_with fail
  refine (unhide HC).mono ?_
  rintro e w2 ⟨rfl, rfl⟩
  go_wp2_with fail
  refine (unhide HO).mono ?_
  rintro e w3 ⟨rfl, hb3⟩
  have HA3 := hide (unhide HAL w3 hb3)
  have mk := make_ints p (by omega) w3
  have O0 := make_own w3 p
  have B0 := below_step hb3 (alloc_below w3 (.cells (lrow (fun _ => 0) p).toArray 3))
  obtain ⟨W0, hW0⟩ : ∃ W, w3.alloc (.cells (lrow (fun _ => 0) p).toArray 3) = W := ⟨_, rfl⟩
  have hGE := hb3.size
  rw [hW0] at mk O0 B0
  obtain ⟨G, hG⟩ : ∃ G, w3.heap.size = G := ⟨_, rfl⟩
  rw [hG] at mk O0 hGE
  obtain ⟨W1, hcp, O1, B1⟩ := copyI_run (c := vc) (a := va) O0 ((unhide HV).below B0) B0 hGE
  have HO1 := hide O1
  have HB1 := hide B1
  have HGE := hide hGE
  clear hb3 HAL HO HC O0 B0 hW0 hG O1 B1 hGE HV
  go_wp2_with fail
  refine (unhide HA3).mono ?_
  rintro e w4 ⟨rfl, rfl⟩
  go_wp2_with fail
  go_step3
  go_wp2_with fail
  clear mk hcp
  go_loopw [9, 10] (fun vi vk wr => ∃ V', OwnI wr G p V' ∧ RngV p p V' ∧ (∀ U, EndB R p V' U → EndB R p V U) ∧ Below w2.heap.size w2 wr) (fun _ _ wr => (lngW R (cellN wr G) p).toNat)
  case atStart => exact ⟨V, unhide HO1, unhide HRG, fun U h => h, unhide HB1⟩
  case round =>
    obtain ⟨V', hO, hRg, hEnd, hb⟩ := hrel
    obtain ⟨wq, hwq⟩ : ∃ W, W = wr := ⟨_, rfl⟩
    rw [← hwq] at hO hb ⊢
    have HO2 := hide hO
    have HRG2 := hide hRg
    have HEND := hide hEnd
    have HB2 := hide hb
    have HME : Hid (lngW R (cellN wq G) p = lngW R V' p) := lngW_congr R fun j hj => hO.cellN hj
    clear hO hRg hEnd hb hwq HO1 HB1
    go_wp2_with fail
    go_loopw [9, 10] (fun vi _ ws => ∃ i : Nat, vi = .int .i64 (i : Int) ∧ 1 ≤ i ∧ (i ≤ p ∨ i = 1) ∧ (∀ x y, x < i → 1 ≤ x → x < y → y < p → sB R V' p x y = false) ∧ Below wq.heap.size wq ws) (fun vi _ _ => p + 1 - (intOf vi).toNat)
    case atStart => exact ⟨1, rfl, Nat.le_refl _, Or.inr rfl, fun x y h1 h2 => by omega, Below.refl _ _⟩
    case round =>
      obtain ⟨i, rfl, hi1, hip, hno, hbs⟩ := hrel
      obtain ⟨ws, hws⟩ : ∃ W, W = wr := ⟨_, rfl⟩
      rw [← hws] at hbs ⊢
      have HNO := hide hno
      have HBS := hide hbs
      clear hno hbs hws
      by_cases hil : i < p
      · have e1 : (i : Int) < (p : Int) := by omega
        have e2 : IntKind.i64.wrap ((i : Int) + 1) = ((i + 1 : Nat) : Int) := by rw [IntKind.wrap_i64]; omega
        go_wp2_with fail
        go_loopw [10] (fun vk wt => ∃ k : Nat, vk = .int .i64 (k : Int) ∧ i < k ∧ k ≤ p ∧ (∀ y, i < y → y < k → sB R V' p i y = false) ∧ Below wq.heap.size wq wt) (fun vk _ => p - (intOf vk).toNat)
        case atStart => exact ⟨i + 1, rfl, Nat.lt_succ_self _, hil, fun y h1 h2 => by omega, unhide HBS⟩
        case round =>
          obtain ⟨k, rfl, hik, hkp, hnk, hbt⟩ := hrel
          obtain ⟨wt, hwt⟩ : ∃ W, W = wr := ⟨_, rfl⟩
          rw [← hwt] at hbt ⊢
          have HNK := hide hnk
          have HBT := hide hbt
          have hOt := (unhide HO2).keep hbt
          have HOT := hide hOt
          clear hnk hbt hwt
          by_cases hkl : k < p
          · have f1 : (k : Int) < (p : Int) := by omega
            have f2 : IntKind.i64.wrap ((k : Int) + 1) = ((k + 1 : Nat) : Int) := by rw [IntKind.wrap_i64]; omega
            have HC1 := hide (unhide HSH G V' i k wt (unhide HRG2) hi1 hik hkl (below_step (unhide HB2) (unhide HBT)) hOt)
            clear hOt
            cases hsb : sB R V' p i k with
            | true =>
              rw [hsb] at HC1
              have HSB := hide hsb
              clear hsb
              go_wp2_with fail
              refine (unhide HC1).mono ?_
              rintro e w5 ⟨rfl, hb5⟩
              have HREV := fun L C hL => rev_own (w := w2) (L := L) (C := C) ((unhide HOT).keep hb5) (below_step (unhide HB2) (below_step (unhide HBT) hb5)) (unhide HGE) hik hkl (by omega) hL
              have HFI : Hid (FirstB R p V' i k) := ⟨hi1, hik, hkl, unhide HSB, fun x y h1 h2 h3 h4 => by
                rcases h4 with h4 | ⟨h4, h5⟩
                · exact unhide HNO x y h4 h1 h2 h3
                · rw [h4] at h2 ⊢; exact unhide HNK y h2 h5⟩
              have HLT : Hid ((lngW R (turnV V' i k) p).toNat < (lngW R V' p).toNat) := by
                have h1 := of_decide_eq_true (unhide HSB)
                have h2 := lngW_nonneg (unhide HG) ((unhide HRG2).turn (i := i) (k := k) (by omega) hkl)
                show _ < _
                omega
              have HRV := hide HREV
              clear HREV hb5
              go_wp2_with fail
              refine (unhide HRV _ _ rfl).mono ?_
              rintro e w6 ⟨rfl, hO6, hb6⟩
              have HME6 : Hid (lngW R (cellN w6 G) p = lngW R (turnV V' i k) p) := lngW_congr R fun j hj => hO6.cellN hj
              have HO6 := hide hO6
              have HB6 := hide hb6
              clear hO6 hb6
              go_wp2
              exact ⟨⟨turnV V' i k, unhide HO6, (unhide HRG2).turn (by omega) hkl, fun U hU => unhide HEND U (EndB.step (unhide HFI) hU), unhide HB6⟩, by rw [unhide HME6, unhide HME]; exact unhide HLT⟩
            | false =>
              rw [hsb] at HC1
              have HNK2 : Hid (∀ y, i < y → y < k + 1 → sB R V' p i y = false) := fun y h1 h2 => by
                by_cases c : y = k
                · rw [c]; exact hsb
                · exact unhide HNK y h1 (by omega)
              clear hsb
              go_wp2_with fail
              refine (unhide HC1).mono ?_
              rintro e w5 ⟨rfl, hb5⟩
              have HB5 := hide (below_step (unhide HBT) hb5)
              clear hb5
              go_wp2
              exact ⟨⟨k + 1, rfl, by omega, hkl, unhide HNK2, unhide HB5⟩, by simp [intOf]; omega⟩
          · obtain rfl : k = p := by omega
            have f1 : ¬ (k : Int) < (k : Int) := by omega
            have HNO2 : Hid (∀ x y, x < i + 1 → 1 ≤ x → x < y → y < k → sB R V' k x y = false) := fun x y h1 h2 h3 h4 => by
              by_cases c : x = i
              · rw [c] at h3 ⊢; exact unhide HNK y h3 h4
              · exact unhide HNO x y (by omega) h2 h3 h4
            clear hOt
            go_wp2
            exact ⟨⟨i + 1, rfl, by omega, Or.inl hil, unhide HNO2, unhide HBT⟩, by simp [intOf]; omega⟩
      · have e1 : ¬ (i : Int) < (p : Int) := by omega
        have HRST : Hid (RestB R p V') := fun x y h1 h2 h3 => unhide HNO x y (by omega) h1 h2 h3
        have HFB := hide (below_step (unhide HB2) (unhide HBS))
        have HFO := hide ((unhide HO2).keep (unhide HBS))
        go_wp2
        (try rw [Exit.noGoto_ret])
        go_ret2
        exact ⟨unhide HFB, Or.inr ⟨rfl, G, V', unhide HGE, rfl, unhide HFO, unhide HEND V' (EndB.rest (unhide HRST))⟩⟩
end Go.Proofs.YtcmddkekidgkoaaDoor
