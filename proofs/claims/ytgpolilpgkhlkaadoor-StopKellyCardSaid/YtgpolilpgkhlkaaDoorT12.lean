/- Chains: Check. -/
import Derived.Test.YtgpolilpgkhlkaaDoorT11
namespace Go.Proofs.YtgpolilpgkhlkaaDoor
open Go.RowKit Go.Sort Go.Shelf

set_option maxHeartbeats 16000000 in
set_option maxRecDepth 100000 in
set_option linter.unusedSimpArgs false in
theorem ccheck_any (v : Value) (P : List (List Rat)) (gs : List Rat) (c : Rat) (w : World) (h : ChainIs w v P gs c) (sm : SmC P gs c) : Calls Tryd.prog 50 #[v] w (ErrPost w (ccode P gs)) := by
  have hnk := sm.nk
  have hng := sm.ng
  have HSM := hide sm
  obtain ⟨l, m, t, rfl, hS, hT, hR⟩ := h
  have hln := rows_len hS
  have hmn := law_len hT
  have X0 := CBox.new hS hT hR
  have b0 := alloc_below w (.cells #[.slice l.a l.n l.c, .slice m.a m.n m.c, .bool t.s, .slice t.a1 t.n1 t.c1, .slice t.a2 t.n2 t.c2] 37)
  obtain ⟨W0, hW0⟩ : ∃ W, w.alloc (.cells #[.slice l.a l.n l.c, .slice m.a m.n m.c, .bool t.s, .slice t.a1 t.n1 t.c1, .slice t.a2 t.n2 t.c2] 37) = W := ⟨_, rfl⟩
  obtain ⟨bx, hbx⟩ : ∃ b, w.heap.size = b := ⟨_, rfl⟩
  rw [hW0] at X0 b0
  rw [hbx] at X0
  have ⟨c0, c1, c2, c3, c4⟩ := X0.cells _ (Below.refl _ _)
  have HX0 := hide X0
  have HB0 := hide b0
  obtain ⟨n, hn⟩ : ∃ n, P.length = n := ⟨_, rfl⟩
  have HN := hide hn
  rw [hn] at hln
  obtain ⟨k, hk⟩ : ∃ k, gs.length = k := ⟨_, rfl⟩
  have HK := hide hk
  rw [hk] at hmn
  clear hk
  rw [hln] at c0
  rw [hmn] at c1
  unfold cval
  rw [hln, hmn] at hW0 ⊢
  have HLN := hide hln
  have HMN := hide hmn
  clear hS hT hR X0 b0 hn hln hmn
  rw [unhide HN] at hnk
  rw [unhide HK] at hng
  clear sm
  go_enter Tryd.func50, Tryd.ntmps50
  by_cases hx : 1 ≤ n ∧ n ≤ 8
  rotate_left
  · have HE : Hid (ccode P gs = 4) := by
      show ccode P gs = 4
      unfold ccode
      rw [if_neg (fun x => hx (by rw [← unhide HN]; exact x))]
    by_cases h1 : (n : Int) < 1
    · go_wp2
      go_ret
      exact ⟨by rw [unhide HE]; rfl, unhide HB0⟩
    · have h2 : (8 : Int) < (n : Int) := by omega
      go_wp2
      go_ret
      exact ⟨by rw [unhide HE]; rfl, unhide HB0⟩
  obtain ⟨hx1, hx2⟩ := hx
  have h1 : ¬ (n : Int) < 1 := by omega
  have h2 : ¬ (8 : Int) < (n : Int) := by omega
  by_cases hkn : k = n
  rotate_left
  · have e3 : ((k : Int) == (n : Int)) = false := by rw [beq_eq_false_iff_ne]; omega
    have HE : Hid (ccode P gs = 3) := by
      show ccode P gs = 3
      unfold ccode
      rw [if_pos (by rw [unhide HN]; exact ⟨hx1, hx2⟩), if_neg (by rw [unhide HN, unhide HK]; exact hkn)]
    clear hkn
    go_wp2
    go_ret
    exact ⟨by rw [unhide HE]; rfl, unhide HB0⟩
  subst hkn
  have e3 : ((k : Int) == (k : Int)) = true := by rw [beq_iff_eq]
  have HE : Hid (ccode P gs = rcd P.length P P.length) := by
    show ccode P gs = _
    unfold ccode
    rw [if_pos (by rw [unhide HN]; exact ⟨hx1, hx2⟩), if_pos (by rw [unhide HN, unhide HK])]
  go_wp2_with fail
  clear hW0 hbx c0 c1 c2 c3 c4 e3
  go_loopw [26] (fun vi wr => ∃ i : Nat, vi = .int .i64 (i : Int) ∧ i ≤ k ∧ Below W0.heap.size W0 wr ∧ rcd P.length P i = 0) (fun vi _ => k - (intOf vi).toNat)
  case atStart => exact ⟨0, rfl, Nat.zero_le _, Below.refl _ _, rfl⟩
  case round =>
    obtain ⟨i, rfl, hi, hb, hz⟩ := hrel
    have HB := hide hb
    have HZ := hide hz
    by_cases hlt : i < k
    · have f1 : (i : Int) < (k : Int) := by omega
      have f0 : (0 : Int) ≤ (i : Int) := by omega
      have hlt' : i < P.length := by have := unhide HN; omega
      obtain ⟨bk, ok, m, hla, hbk, k0, hA⟩ := ((unhide HX0).2.1.below hb).at hlt'
      have HSH := hide (cshares_any m.val _ k wr hA (by omega) (fun u hu => (unhide HSM).rp i u hlt' hu) ((unhide HSM).nn i hlt'))
      have HLT := hide hlt'
      rw [hla]
      clear hb hz hA hlt'
      go_wp2_with fail
      refine (unhide HSH).mono ?_
      rintro e w4 ⟨rfl, hb4⟩
      have HB4 := hide (below_step (unhide HB) hb4)
      obtain ⟨z, hk⟩ : ∃ z, shc k P[i]! = z := ⟨_, rfl⟩
      rw [hk]
      have HKZ := hide hk
      clear hk hb4 k0 HSH
      by_cases hk0 : z = 0
      · subst hk0
        have e5 : errV 0 = .nilIface := rfl
        rw [e5]
        go_wp2_with fail
        refine ⟨⟨i + 1, by go_num, hlt, unhide HB4, ?_⟩, by simp [intOf]; omega⟩
        show (if rcd P.length P i = 0 then _ else _) = _
        rw [if_pos (unhide HZ), unhide HN]; exact unhide HKZ
      · have e5 : errV z = .iface 81 (.int .i64 z) := by unfold errV; rw [if_neg hk0]
        rw [e5]
        have HE2 : Hid (ccode P gs = z) := by
          show ccode P gs = z
          rw [unhide HE]
          exact rcd_end (unhide HLT) (unhide HZ) (by rw [unhide HN]; exact unhide HKZ) hk0
        have HE5 := hide e5
        clear hk0 e5
        go_wp2
        go_ret
        exact ⟨by rw [unhide HE2]; exact (congrArg Ending.returned (unhide HE5)).symm, below_step (unhide HB0) (unhide HB4)⟩
    · obtain rfl : i = k := by omega
      have f1 : ¬ (i : Int) < (i : Int) := by omega
      clear hb hz
      go_wp2
      go_ret
      exact ⟨by rw [unhide HE]; have := unhide HZ; rw [← unhide HN] at this; rw [this]; rfl, below_step (unhide HB0) (unhide HB)⟩

set_option maxHeartbeats 16000000 in
set_option maxRecDepth 100000 in
set_option linter.unusedSimpArgs false in
theorem soutside_any (n : Nat) (hn : n ≤ 20) (w : World) : Calls Tryd.prog 51 #[.int .i64 (n : Int)] w fun e w' => e = .returned (.bool false) ∧ Below w.heap.size w w' := by
  have h1 : ¬ (n : Int) < 0 := by omega
  have h2 : ¬ (20 : Int) < (n : Int) := by omega
  go_enter Tryd.func51, Tryd.ntmps51
  go_wp2
  go_ret
  exact ⟨rfl, Below.refl _ _⟩

set_option maxHeartbeats 16000000 in
set_option maxRecDepth 100000 in
set_option linter.unusedSimpArgs false in
theorem ctimes_any (v : Value) (P : List (List Rat)) (gs : List Rat) (c : Rat) (times : Nat) (ht : times ≤ 20) (w : World) (h : ChainIs w v P gs c) (sm : SmC P gs c) : Calls Tryd.prog 30 #[v, .int .i64 (times : Int)] w (ErrPost w (ccode P gs)) := by
  have HSM := hide sm
  obtain ⟨l, m, t, rfl, hS, hT, hR⟩ := h
  have hln := rows_len hS
  have hmn := law_len hT
  have X0 := CBox.new hS hT hR
  have b0 := alloc_below w (.cells #[.slice l.a l.n l.c, .slice m.a m.n m.c, .bool t.s, .slice t.a1 t.n1 t.c1, .slice t.a2 t.n2 t.c2] 37)
  obtain ⟨W0, hW0⟩ : ∃ W, w.alloc (.cells #[.slice l.a l.n l.c, .slice m.a m.n m.c, .bool t.s, .slice t.a1 t.n1 t.c1, .slice t.a2 t.n2 t.c2] 37) = W := ⟨_, rfl⟩
  obtain ⟨bx, hbx⟩ : ∃ b, w.heap.size = b := ⟨_, rfl⟩
  rw [hW0] at X0 b0
  rw [hbx] at X0
  have ⟨c0, c1, c2, c3, c4⟩ := X0.cells _ (Below.refl _ _)
  have HX0 := hide X0
  have HB0 := hide b0
  obtain ⟨n, hn⟩ : ∃ n, P.length = n := ⟨_, rfl⟩
  have HN := hide hn
  rw [hn] at hln
  obtain ⟨k, hk⟩ : ∃ k, gs.length = k := ⟨_, rfl⟩
  have HK := hide hk
  rw [hk] at hmn
  clear hk
  rw [hln] at c0
  rw [hmn] at c1
  unfold cval
  rw [hln, hmn] at hW0 ⊢
  have HLN := hide hln
  have HMN := hide hmn
  clear hS hT hR X0 b0 hn hln hmn
  have HCK := hide (ccheck_any (cval l m t) P gs c W0 (unhide HX0).chain (unhide HSM))
  unfold cval at HCK
  rw [unhide HLN, unhide HMN] at HCK
  clear sm
  go_enter Tryd.func30, Tryd.ntmps30
  go_wp2_with fail
  clear hW0 hbx c0 c1 c2 c3 c4
  refine (unhide HCK).mono ?_
  rintro e w1 ⟨rfl, hb1⟩
  have HB1 := hide (below_step (unhide HB0) hb1)
  obtain ⟨z, hz⟩ : ∃ z, ccode P gs = z := ⟨_, rfl⟩
  rw [hz]
  have HZ := hide hz
  clear hb1 hz HCK
  by_cases hk0 : z = 0
  · subst hk0
    have e5 : errV 0 = .nilIface := rfl
    rw [e5]
    go_wp2_with fail
    refine (soutside_any times ht w1).mono ?_
    rintro e w2 ⟨rfl, hb2⟩
    have HB2 := hide (below_step (unhide HB1) hb2)
    clear hb2 HB1
    go_wp2
    go_ret
    exact ⟨by rw [unhide HZ]; rfl, unhide HB2⟩
  · have e5 : errV z = .iface 81 (.int .i64 z) := by unfold errV; rw [if_neg hk0]
    have HE5 := hide e5
    rw [e5]
    clear hk0 e5
    go_wp2
    go_ret
    exact ⟨by rw [unhide HZ]; exact (congrArg Ending.returned (unhide HE5)).symm, unhide HB1⟩

end Go.Proofs.YtgpolilpgkhlkaaDoor
