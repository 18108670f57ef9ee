/- The longest way through; ShopFlow. -/
import Derived.Test.YtepgdlgifempeaaDoorZ3
import Derived.Test.YtepgdlgifempeaaDoorM33
namespace Go.Proofs.YtepgdlgifempeaaDoor
open Go.RowKit Go.Sort Stb Flw

def rA (f : Nat → T2) (r : Nat → Int) (i : Nat) : Int := aD f (r i).toNat
def rB (f : Nat → T2) (r : Nat → Int) (i : Nat) : Int := bD f (r i).toNat
theorem sm_psum (f : Nat → T2) (r : Nat → Int) : ∀ k, Lin.psum (aD f) (rl r k) = sm (rA f r) k
  | 0 => rfl
  | k + 1 => by
    rw [rl_succ, Lin.psum_append, sm_psum f r k]
    show _ + (aD f (r k).toNat + 0) = _ + aD f (r k).toNat
    omega
theorem flq_flow (f : Nat → T2) (r : Nat → Int) : ∀ k, flowV f r k = flq (rA f r) (rB f r) k
  | 0 => rfl
  | k + 1 => by
    have h := flq_flow f r k
    unfold flowV at h ⊢
    rw [rl_succ, Shp.fl_snoc, Int.zero_add, sm_psum, h]
    rfl
theorem rA_bd {n : Nat} {f : Nat → T2} {r : Nat → Int} (hD : GoodD n f) (h : GoodR n r) : ∀ i, i < n → 0 ≤ rA f r i ∧ rA f r i ≤ 1000000000 := fun i hi => hD.a _ (by have := h.rng i hi; omega)
theorem rB_bd {n : Nat} {f : Nat → T2} {r : Nat → Int} (hD : GoodD n f) (h : GoodR n r) : ∀ i, i < n → 0 ≤ rB f r i ∧ rB f r i ≤ 1000000000 := fun i hi => hD.b _ (by have := h.rng i hi; omega)

set_option maxHeartbeats 8000000 in
set_option maxRecDepth 100000 in
set_option linter.unusedSimpArgs false in
theorem rflow_any (a : Option Addr) (n c : Nat) (f : Nat → T2) (ra : Option Addr) (rc : Nat) (r : Nat → Int) (w : World) (ha : DRow w a n c f) (hr : IRow w ra n rc r) (hD : GoodD n f) (hR : GoodR n r) :
    Calls Tryd.prog 12 #[.slice a n c, .slice ra n rc] w fun e w' => e = .returned (.int .i64 (flowV f r n)) ∧ Below w.heap.size w w' := by
  have HV : Hid (mst (rA f r) (rB f r) n n = flowV f r n) := by show _ = _; rw [flq_flow]; exact mst_flq (rA_bd hD hR) (rB_bd hD hR) n (Nat.le_refl _)
  rw [← unhide HV]
  have HP : Hid (∀ k m, m ≤ n → 0 ≤ pth (rA f r) (rB f r) k m ∧ pth (rA f r) (rB f r) k m ≤ 2 * 1000000000 * m) := fun k m hm => pth_bd (rA_bd hD hR) (rB_bd hD hR) k m hm
  have HM : Hid (∀ K, 0 ≤ mst (rA f r) (rB f r) n K ∧ mst (rA f r) (rB f r) n K ≤ 2 * 1000000000 * n) := fun K => mst_bd (rA_bd hD hR) (rB_bd hD hR) (by decide) (Nat.le_refl _) K
  have HAB : Hid (∀ i, i < n → (0 ≤ rA f r i ∧ rA f r i ≤ 1000000000) ∧ 0 ≤ rB f r i ∧ rB f r i ≤ 1000000000) := fun i hi => ⟨rA_bd hD hR i hi, rB_bd hD hR i hi⟩
  have HG : Hid (∀ i, i < n → 0 ≤ r i ∧ r i < n) := fun i hi => hR.rng i hi
  have HA := hide ha.2.2
  have HR := hide hr.2.2
  have hn := hD.few
  have h1 := ha.1
  have h2 := ha.2.1
  have h3 := hr.1
  have h4 := hr.2.1
  clear HV ha hr hD hR
  go_enter Tryd.func12, Tryd.ntmps12
  go_wp2_with fail
  go_loopw [5, 12] (fun vm vk wr => ∃ K : Nat, vk = .int .i64 (K : Int) ∧ vm = .int .i64 (mst (rA f r) (rB f r) n K) ∧ K ≤ n ∧ wr = w) (fun _ vk _ => n - (intOf vk).toNat)
  case atStart => exact ⟨0, rfl, rfl, Nat.zero_le _, rfl⟩
  case round =>
    obtain ⟨K, rfl, rfl, hK, hwr⟩ := hrel
    have hwr := hwr.symm
    subst hwr
    by_cases hlt : K < n
    · have e1 : (K : Int) < (n : Int) := by omega
      have e2 : IntKind.i64.wrap ((K : Int) + 1) = (K : Int) + 1 := by rw [IntKind.wrap_i64]; omega
      have HS : Hid (mst (rA f r) (rB f r) n (K + 1) = max (mst (rA f r) (rB f r) n K) (pth (rA f r) (rB f r) K n)) := rfl
      obtain ⟨M, hM⟩ : ∃ M, mst (rA f r) (rB f r) n K = M := ⟨_, rfl⟩
      rw [hM] at HS ⊢
      clear hM
      go_wp2_with fail
      go_loopw [7, 17] (fun vn vi wv => ∃ i : Nat, vi = .int .i64 (i : Int) ∧ vn = .int .i64 (pth (rA f r) (rB f r) K i) ∧ i ≤ n ∧ wv = w) (fun _ vi _ => n - (intOf vi).toNat)
      case atStart => exact ⟨0, rfl, rfl, Nat.zero_le _, rfl⟩
      case round =>
        obtain ⟨i, rfl, rfl, hi, hwv⟩ := hrel
        have hwv := hwv.symm
        subst hwv
        by_cases hil : i < n
        · obtain ⟨b, o, rfl, hbl, hc⟩ := unhide HA (by omega)
          obtain ⟨b', o', rfl, hbl', hc'⟩ := unhide HR (by omega)
          have c0 := hc' i hil
          have hg := unhide HG i hil
          have hab := unhide HAB i hil
          have hp := unhide HP K i (by omega)
          have HN : Hid (pth (rA f r) (rB f r) K (i + 1) = pth (rA f r) (rB f r) K i + (if i ≤ K then rA f r i else 0) + (if K ≤ i then rB f r i else 0)) := rfl
          have hx : rA f r i = (f (r i).toNat).1 := rfl
          have hy : rB f r i = (f (r i).toNat).2 := rfl
          obtain ⟨j, hj⟩ : ∃ j : Nat, (r i).toNat = j := ⟨_, rfl⟩
          have hri : r i = (j : Int) := by omega
          have hjn : j < n := by omega
          have ⟨k0, k1⟩ := hc j hjn
          rw [hj] at hx hy
          rw [← hx] at k0
          rw [← hy] at k1
          rw [hri] at c0
          obtain ⟨x, hx⟩ : ∃ x, rA f r i = x := ⟨_, rfl⟩
          obtain ⟨y, hy⟩ : ∃ y, rB f r i = y := ⟨_, rfl⟩
          rw [hx] at k0 hab HN
          rw [hy] at k1 hab HN
          obtain ⟨t, ht⟩ : ∃ t, pth (rA f r) (rB f r) K i = t := ⟨_, rfl⟩
          rw [ht] at hp HN ⊢
          have g1 : (i : Int) < (n : Int) := by omega
          have g2 : (0 : Int) ≤ (i : Int) := by omega
          have g3 : (j : Int) < (n : Int) := by omega
          have g4 : (0 : Int) ≤ (j : Int) := by omega
          have g5 : IntKind.i64.wrap ((i : Int) + 1) = (i : Int) + 1 := by rw [IntKind.wrap_i64]; omega
          clear hc hc' HA HR hg hri hj hx hy ht HM
          rcases Nat.lt_trichotomy i K with q | q | q
          · have q1 : (i : Int) ≤ (K : Int) := by omega
            have q2 : ¬ (K : Int) ≤ (i : Int) := by omega
            rw [if_pos (by omega), if_neg (by omega)] at HN
            have g6 : IntKind.i64.wrap (t + x) = t + x := by rw [IntKind.wrap_i64]; omega
            go_wp2
            exact ⟨⟨i + 1, by go_num, by rw [unhide HN, Int.add_zero], hil, by trivial⟩, by simp [intOf]; omega⟩
          · subst q
            have q1 : (i : Int) ≤ (i : Int) := by omega
            rw [if_pos (by omega), if_pos (by omega)] at HN
            have g6 : IntKind.i64.wrap (t + x) = t + x := by rw [IntKind.wrap_i64]; omega
            have g7 : IntKind.i64.wrap (t + x + y) = t + x + y := by rw [IntKind.wrap_i64]; omega
            go_wp2
            exact ⟨⟨i + 1, by go_num, by rw [unhide HN], hil, by trivial⟩, by simp [intOf]; omega⟩
          · have q1 : ¬ (i : Int) ≤ (K : Int) := by omega
            have q2 : (K : Int) ≤ (i : Int) := by omega
            rw [if_neg (by omega), if_pos (by omega)] at HN
            have g6 : IntKind.i64.wrap (t + y) = t + y := by rw [IntKind.wrap_i64]; omega
            go_wp2
            exact ⟨⟨i + 1, by go_num, by rw [unhide HN, Int.add_zero], hil, by trivial⟩, by simp [intOf]; omega⟩
        · obtain rfl : i = n := by omega
          have g1 : ¬ (i : Int) < (i : Int) := by omega
          obtain ⟨t, ht⟩ : ∃ t, pth (rA f r) (rB f r) K i = t := ⟨_, rfl⟩
          rw [ht] at HS ⊢
          have hmx : max M t = if M < t then t else M := by split <;> omega
          obtain ⟨mx, hmx2⟩ : ∃ mx, (if M < t then t else M) = mx := ⟨_, rfl⟩
          rw [hmx, hmx2] at HS
          clear hmx ht
          go_wp2_with fail
          (try simp only [Exit.inBlock, Exit.then])
          (try go_wp2_with fail)
          exact ⟨⟨K + 1, by go_num, by rw [unhide HS], hlt, by trivial⟩, by simp [intOf]; omega⟩
    · obtain rfl : K = n := by omega
      have e1 : ¬ (K : Int) < (K : Int) := by omega
      go_wp2
      go_ret
      exact ⟨rfl, Below.refl _ _⟩

set_option maxHeartbeats 8000000 in
set_option maxRecDepth 100000 in
set_option linter.unusedSimpArgs false in
theorem shopFlow_any (a : Option Addr) (n c : Nat) (f : Nat → T2) (ra : Option Addr) (len rc : Nat) (r : Nat → Int) (w : World) (het : ErrTy w) (ha : DRow w a n c f) (hr : IRow w ra len rc r) :
    Calls Tryd.prog 3 #[.slice a n c, .slice ra len rc] w fun e w' => e = .returned (.bool true) ∧ Below w.heap.size w w' := by
  have b1 := ha.1
  have b2 := ha.2.1
  have b3 := hr.1
  have b4 := hr.2.1
  by_cases h1 : 100 < n
  · have e1 : (100 : Int) < (n : Int) := by omega
    clear ha hr
    go_enter Tryd.func3, Tryd.ntmps3
    go_wp2
    go_ret
    exact ⟨rfl, Below.refl _ _⟩
  by_cases h2 : 100 < len
  · have e1 : ¬ (100 : Int) < (n : Int) := by omega
    have e2 : (100 : Int) < (len : Int) := by omega
    clear ha hr
    go_enter Tryd.func3, Tryd.ntmps3
    go_wp2
    go_ret
    exact ⟨rfl, Below.refl _ _⟩
  have e1 : ¬ (100 : Int) < (n : Int) := by omega
  have e2 : ¬ (100 : Int) < (len : Int) := by omega
  have HE := hide het
  have HA := hide ha
  have HR := hide hr
  have C0 := hide (twos_any a n c f w ha (by omega))
  have C3 : Hid (∀ W, Below w.heap.size w W → Calls Tryd.prog 13 #[.slice a n c, .slice ra len rc] W (FlowPost W n f r len)) := fun W hW => flow_any a n c f ra len rc r W (ha.below hW) (hr.below hW) (by omega)
  have CO : Hid (∀ W, Below w.heap.size w W → Calls Tryd.prog 11 #[.slice ra len rc, .int .i64 (n : Int)] W fun e w' => e = .returned (.int .i64 (ocode r len n)) ∧ Below W.heap.size W w') := fun W hW => rorder_any ra len rc r n W (hr.below hW) (by omega)
  clear ha hr het
  by_cases hz : fcode n f r len = 0
  case neg =>
    obtain ⟨k, hk⟩ : ∃ k, fcode n f r len = k := ⟨_, rfl⟩
    have hz : k ≠ 0 := by rw [← hk]; exact hz
    have q1 : (k == 0) = false := by simpa using hz
    have HK := hide hk
    have HT := hide hz
    have HEND : Hid (∀ W, Below w.heap.size w W → Calls Tryd.prog 13 #[.slice a n c, .slice ra len rc] W fun e w' => e = .returned (.tuple #[.int .i64 0, .iface 26 (.int .i64 k)]) ∧ Below w.heap.size w w') := fun W hW => by
      refine (unhide C3 W hW).mono ?_
      rintro e w2 ⟨hb2, hp⟩
      refine ⟨?_, below_step hW hb2⟩
      rcases hp with ⟨_, h⟩ | ⟨h, _⟩
      · rw [h, unhide HK]
      · exact absurd (h.symm.trans (unhide HK)) (fun e => unhide HT e.symm)
    by_cases ht : dcode n f = 0
    case neg =>
      have hd : dcode n f = k := by rw [← hk]; unfold fcode; rw [if_pos ht]
      have HD := hide hd
      clear hd hk hz ht C3 CO
      go_enter Tryd.func3, Tryd.ntmps3
      go_wp2_with fail
      refine (unhide C0).mono ?_
      rintro e w0 ⟨a', c', rfl, hr, hb0⟩
      have C1 := hide (rtwos_any a' n c' f w0 hr)
      rw [unhide HD] at C1
      have HB0 := hide hb0
      have q5 := hr.1
      have q6 := hr.2.1
      clear hr hb0 C0
      go_wp2_with fail
      refine (unhide C1).mono ?_
      rintro e w1 ⟨rfl, hb1⟩
      have C3' := hide (unhide HEND w1 (below_step (unhide HB0) hb1))
      clear C1 HEND hb1
      go_wp2_with fail
      refine (unhide C3').mono ?_
      rintro e w2 ⟨rfl, hb2⟩
      have HB2 := hide hb2
      have C4 := hide (whole_bad 0 k (unhide HT) w2 ((unhide HE).below (unhide HB2)))
      clear hb2 C3'
      go_wp2_with fail
      refine (unhide C4).mono ?_
      rintro e w3 ⟨rfl, hb3⟩
      have HB3 := hide (below_step (unhide HB2) hb3)
      clear hb3 C4
      go_wp2
      go_ret
      exact ⟨rfl, unhide HB3⟩
    · have hd : ocode r len n = k := by rw [← hk]; unfold fcode; rw [if_neg (by rw [ht]; decide)]
      have HD := hide hd
      have HT2 := hide ht
      clear hd hk hz ht C3
      go_enter Tryd.func3, Tryd.ntmps3
      go_wp2_with fail
      refine (unhide C0).mono ?_
      rintro e w0 ⟨a', c', rfl, hr, hb0⟩
      have C1 := hide (rtwos_any a' n c' f w0 hr)
      rw [unhide HT2] at C1
      have HB0 := hide hb0
      have q5 := hr.1
      have q6 := hr.2.1
      clear hr hb0 C0
      go_wp2_with fail
      refine (unhide C1).mono ?_
      rintro e w1 ⟨rfl, hb1⟩
      have HB1 := hide (below_step (unhide HB0) hb1)
      have CO' := hide (unhide CO w1 (unhide HB1))
      rw [unhide HD] at CO'
      clear C1 CO hb1
      go_wp2_with fail
      refine (unhide CO').mono ?_
      rintro e w1' ⟨rfl, hb1⟩
      have C3' := hide (unhide HEND w1' (below_step (unhide HB1) hb1))
      clear CO' HEND hb1
      go_wp2_with fail
      refine (unhide C3').mono ?_
      rintro e w2 ⟨rfl, hb2⟩
      have HB2 := hide hb2
      have C4 := hide (whole_bad 0 k (unhide HT) w2 ((unhide HE).below (unhide HB2)))
      clear hb2 C3'
      go_wp2_with fail
      refine (unhide C4).mono ?_
      rintro e w3 ⟨rfl, hb3⟩
      have HB3 := hide (below_step (unhide HB2) hb3)
      clear hb3 C4
      go_wp2
      go_ret
      exact ⟨rfl, unhide HB3⟩
  · obtain ⟨gD, gR, rfl⟩ := fgood_of hz
    have ht : dcode len f = 0 := by
      by_cases h : dcode len f = 0
      · exact h
      · unfold fcode at hz; rw [if_pos h] at hz; exact hz
    have ho : ocode r len len = 0 := by unfold fcode at hz; rw [if_neg (by rw [ht]; decide)] at hz; exact hz
    have HT := hide ht
    have HO := hide ho
    have HZ := hide hz
    have HG : Hid (GoodD len f ∧ GoodR len r) := ⟨gD, gR⟩
    clear ht ho hz gD gR
    go_enter Tryd.func3, Tryd.ntmps3
    go_wp2_with fail
    refine (unhide C0).mono ?_
    rintro e w0 ⟨a', c', rfl, hr, hb0⟩
    have C1 := hide (rtwos_any a' len c' f w0 hr)
    rw [unhide HT] at C1
    have HB0 := hide hb0
    have q5 := hr.1
    have q6 := hr.2.1
    have HRR := hide hr
    clear hr hb0 C0
    go_wp2_with fail
    refine (unhide C1).mono ?_
    rintro e w1 ⟨rfl, hb1⟩
    have HB1 := hide (below_step (unhide HB0) hb1)
    have CO' := hide (unhide CO w1 (unhide HB1))
    rw [unhide HO] at CO'
    have HR1 := hide ((unhide HRR).below hb1)
    clear C1 CO hb1
    go_wp2_with fail
    refine (unhide CO').mono ?_
    rintro e w2 ⟨rfl, hb2⟩
    have HB2 := hide (below_step (unhide HB1) hb2)
    have C2 := hide (rflow_any a' len c' f ra rc r w2 ((unhide HR1).below hb2) ((unhide HR).below (unhide HB2)) (unhide HG).1 (unhide HG).2)
    clear CO' hb2
    go_wp2_with fail
    refine (unhide C2).mono ?_
    rintro e w3 ⟨rfl, hb3⟩
    have HB3 := hide (below_step (unhide HB2) hb3)
    have C3' := hide (unhide C3 w3 (unhide HB3))
    clear C2 C3 hb3
    go_wp2_with fail
    refine (unhide C3').mono ?_
    rintro e w4 ⟨hb4, hp⟩
    rcases hp with ⟨h, _⟩ | ⟨_, rfl⟩
    · exact absurd (unhide HZ) h
    have HB4 := hide (below_step (unhide HB3) hb4)
    have C4 := hide (whole_good (flowV f r len) w4)
    clear hb4 C3'
    go_wp2_with fail
    refine (unhide C4).mono ?_
    rintro e w5 ⟨rfl, hb5⟩
    have HB5 := hide (below_step (unhide HB4) hb5)
    clear hb5 C4
    go_wp2
    go_ret
    exact ⟨rfl, unhide HB5⟩
end Go.Proofs.YtepgdlgifempeaaDoor
