/- The checker's whole numbers as machine words. -/
import Derived.Test.YtnmmfcoclpapdaaGreatDoorB56
import Derived.Test.YtnmmfcoclpapdaaGreatDoorA8
namespace Go.Proofs.YtnmmfcoclpapdaaGreatDoor
open Go.RowKit Go.Sort Go.Shelf

set_option maxHeartbeats 8000000 in
set_option maxRecDepth 100000 in
set_option linter.unusedSimpArgs false in
theorem uint64_any (b o : Nat) (N : Int) (w : World) (x : BInt w b o N) (h : (N.natAbs : Int) < 18446744073709551616) :
    Calls Tryz.prog 77 #[.pointer (some ⟨b, o, none⟩)] w fun e w' => e = .returned (.int .u64 (N.natAbs : Int)) ∧ w' = w := by
  obtain ⟨a, n, c, ea, hn⟩ := x.ab
  obtain ⟨a', n', c', e, hl, h1, h2, h3⟩ := hn
  injection e with e1 e2 e3
  subst e1 e2 e3
  obtain ⟨A, hA0⟩ : ∃ A, (N.natAbs : Int) = A := ⟨_, rfl⟩
  rw [hA0] at hl h3 h ⊢
  have hn2 : n ≤ 2 := len_le hl (by rw [pw2]; exact h)
  have hA : Wh.vl (Wh.dig A) n = A := Wh.vl_dig_all hl.1 hl.2.1
  have hn : n = 0 ∨ n = 1 ∨ n = 2 := by omega
  rcases hn with rfl | rfl | rfl
  · have h0 := hl.zero
    subst h0
    clear h3 hl hA h x hA0
    go_enter Tryz.func77, Tryz.ntmps77
    go_wp2
    go_ret
    exact ⟨rfl, rfl⟩
  · obtain ⟨bb, oo, rfl, hlt, hc⟩ := h3 (by decide)
    have c0 := hc 0 (by decide)
    rw [Nat.add_zero] at c0
    rw [Wh.vl_one] at hA
    rw [hA] at c0
    have u0 : IntKind.u64.wrap A = A := by rw [IntKind.wrap_u64]; have := hl.1; omega
    clear h3 hl hA h hc x hA0
    go_enter Tryz.func77, Tryz.ntmps77
    go_wp2
    go_ret
    exact ⟨rfl, rfl⟩
  · obtain ⟨bb, oo, rfl, hlt, hc⟩ := h3 (by decide)
    have c0 := hc 0 (by decide)
    have c1 := hc 1 (by decide)
    rw [Nat.add_zero] at c0
    have w0 := Wh.dig_w A 0
    have w1 := Wh.dig_w A 1
    obtain ⟨p, hp⟩ : ∃ p, Wh.dig A 0 = p := ⟨_, rfl⟩
    obtain ⟨q, hq⟩ : ∃ q, Wh.dig A 1 = q := ⟨_, rfl⟩
    have hv : p + q * 4294967296 = A := by
      rw [show (2 : Nat) = 1 + 1 from rfl, Wh.vl_succ, Wh.vl_one, hp, hq, Wh.pw_one] at hA
      omega
    rw [hp] at c0 w0
    rw [hq] at c1 w1
    have ux : IntKind.u64.wrap p = p := by rw [IntKind.wrap_u64]; have := w0.1; have := w0.2; omega
    have uy : IntKind.u64.wrap q = q := by rw [IntKind.wrap_u64]; have := w1.1; have := w1.2; omega
    have us : IntKind.u64.wrap (q * 4294967296) = q * 4294967296 := by rw [IntKind.wrap_u64]; have := w1.1; have := w1.2; omega
    have uo := or32' w0 w1
    rw [hv] at uo
    clear h3 hl hA h hc hp hq hv w0 w1 x hA0
    go_enter Tryz.func77, Tryz.ntmps77
    go_wp2
    go_ret
    exact ⟨rfl, rfl⟩
set_option maxHeartbeats 8000000 in
set_option maxRecDepth 100000 in
set_option linter.unusedSimpArgs false in
theorem int64_any (b o : Nat) (N : Int) (w : World) (x : BInt w b o N) (h0 : -9223372036854775808 ≤ N) (h1 : N ≤ 9223372036854775807) :
    Calls Tryz.prog 18 #[.pointer (some ⟨b, o, none⟩)] w fun e w' => e = .returned (.int .i64 N) ∧ w' = w := by
  have HU := hide (uint64_any b o N w x (by omega))
  have es := x.sg
  obtain ⟨V, hV⟩ : ∃ V, IntKind.i64.wrap (N.natAbs : Int) = V := ⟨_, rfl⟩
  have hV' := hV
  rw [IntKind.wrap_i64] at hV'
  by_cases hn : N < 0
  · rw [decide_eq_true hn] at es
    have hW : IntKind.i64.wrap (-V) = N := by rw [IntKind.wrap_i64]; omega
    obtain ⟨A, hA⟩ : ∃ A, (N.natAbs : Int) = A := ⟨_, rfl⟩
    rw [hA] at HU hV
    clear x hn h0 h1 hV' hA
    go_enter Tryz.func18, Tryz.ntmps18
    go_wp2_with fail
    refine (unhide HU).mono ?_
    rintro e w1 ⟨rfl, hw⟩
    have hw := hw.symm
    subst hw
    go_wp2
    go_ret
    exact ⟨rfl, rfl⟩
  · rw [decide_eq_false hn] at es
    have hW : V = N := by omega
    obtain ⟨A, hA⟩ : ∃ A, (N.natAbs : Int) = A := ⟨_, rfl⟩
    rw [hA] at HU hV
    subst hW
    clear x hn h0 h1 hV' hA
    go_enter Tryz.func18, Tryz.ntmps18
    go_wp2_with fail
    refine (unhide HU).mono ?_
    rintro e w1 ⟨rfl, hw⟩
    have hw := hw.symm
    subst hw
    go_wp2
    go_ret
    exact ⟨rfl, rfl⟩
theorem top_bits : ∀ s : Nat, s < 32 → bits .and .u64 (2147483648 / 2 ^ s) 1 = if s = 31 then 1 else 0 := by decide +kernel
set_option maxHeartbeats 8000000 in
set_option maxRecDepth 100000 in
set_option linter.unusedSimpArgs false in
theorem bit_top (bb oo c i : Nat) (w : World) (c0 : w.cell? ⟨bb, oo, none⟩ = some (.int .u32 0)) (c1 : w.cell? ⟨bb, oo + 1, none⟩ = some (.int .u32 2147483648)) (hi : i ≤ 63) :
    Calls Tryz.prog 126 #[.slice (some ⟨bb, oo, none⟩) 2 c, .int .i64 (i : Int)] w fun e w' => e = .returned (.int .u64 (if i = 63 then 1 else 0)) ∧ w' = w := by
  have f0 : ¬ (i : Int) < 0 := by omega
  have u0 : IntKind.u64.wrap (i : Int) = (i : Int) := by rw [IntKind.wrap_u64]; omega
  by_cases h : i < 32
  · have q0 : Int.tdiv (i : Int) 32 = 0 := by rw [Int.tdiv_eq_ediv_of_nonneg (by omega)]; omega
    have r0 : Int.tmod (i : Int) 32 = (i : Int) := by rw [Int.tmod_eq_emod_of_nonneg (by omega)]; omega
    have r1 : IntKind.u64.wrap (i : Int) = (i : Int) := u0
    have e63 : ¬ i = 63 := by omega
    rw [if_neg e63]
    clear e63
    go_enter Tryz.func126, Tryz.ntmps126
    go_wp2
    go_ret
    exact ⟨rfl, rfl⟩
  · obtain ⟨s, hs⟩ : ∃ s, i - 32 = s := ⟨_, rfl⟩
    have q0 : Int.tdiv (i : Int) 32 = 1 := by rw [Int.tdiv_eq_ediv_of_nonneg (by omega)]; omega
    have r0 : Int.tmod (i : Int) 32 = (s : Int) := by rw [Int.tmod_eq_emod_of_nonneg (by omega)]; omega
    have r1 : IntKind.u64.wrap (s : Int) = (s : Int) := by rw [IntKind.wrap_u64]; omega
    have tb := top_bits s (by omega)
    have e63 : (if i = 63 then (1 : Int) else 0) = if s = 31 then 1 else 0 := by
      by_cases e : i = 63
      · rw [if_pos e, if_pos (by omega)]
      · rw [if_neg e, if_neg (by omega)]
    rw [e63]
    obtain ⟨t, ht⟩ : ∃ t : Int, (2147483648 : Int) / 2 ^ s = t := ⟨_, rfl⟩
    have tp : (0 : Int) < 2 ^ s := two_pos s
    have t0 : 0 ≤ t := by rw [← ht]; exact Int.ediv_nonneg (by decide) (by omega)
    have t1 : t ≤ 2147483648 := by rw [← ht]; exact Int.ediv_le_self _ (by decide)
    have w1 : IntKind.u32.wrap t = t := by rw [IntKind.wrap_u32]; omega
    have w2 : IntKind.u64.wrap t = t := by rw [IntKind.wrap_u64]; omega
    rw [ht] at tb
    obtain ⟨z, hz⟩ : ∃ z : Int, (if s = 31 then (1 : Int) else 0) = z := ⟨_, rfl⟩
    rw [hz] at tb ⊢
    have hs32 : s < 32 := by omega
    have n1 : ¬ (1 : Int) ≥ 2 := by decide
    clear e63 hz hs h t0 t1 tp
    go_enter Tryz.func126, Tryz.ntmps126
    go_wp2
    go_ret
    exact ⟨rfl, rfl⟩
set_option maxHeartbeats 8000000 in
set_option maxRecDepth 100000 in
set_option linter.unusedSimpArgs false in
theorem trailing_top (b o : Nat) (N : Int) (w : World) (x : BInt w b o N) (h : (N.natAbs : Int) = 9223372036854775808) :
    Calls Tryz.prog 76 #[.pointer (some ⟨b, o, none⟩)] w fun e w' => e = .returned (.int .u64 63) ∧ w' = w := by
  obtain ⟨a, n, c, ea, hn⟩ := x.ab
  obtain ⟨a', n', c', e, hl, h1, h2, h3⟩ := hn
  injection e with e1 e2 e3
  subst e1 e2 e3
  rw [h] at hl h3
  have hn2 : n = 2 := hl.uniq ⟨by decide, by decide, Or.inr (by decide)⟩
  subst hn2
  obtain ⟨bb, oo, rfl, hlt, hc⟩ := h3 (by decide)
  have c0 := hc 0 (by decide)
  have c1 := hc 1 (by decide)
  rw [Nat.add_zero, show Wh.dig 9223372036854775808 0 = 0 by decide] at c0
  rw [show Wh.dig 9223372036854775808 1 = 2147483648 by decide] at c1
  have HBI : Hid (∀ i, i ≤ 63 → Calls Tryz.prog 126 #[.slice (some ⟨bb, oo, none⟩) 2 c, .int .i64 ((i : Nat) : Int)] w fun e w' => e = .returned (.int .u64 (if i = 63 then 1 else 0)) ∧ w' = w) := fun i hi => bit_top bb oo c i w c0 c1 hi
  clear h3 hl hc x h c0 c1
  go_enter Tryz.func76, Tryz.ntmps76
  go_wp2_with fail
  go_loopw [3] (fun vi wr => ∃ (i : Nat), vi = .int .u64 (i : Int) ∧ i ≤ 63 ∧ wr = w) (fun vi _ => 63 - (intOf vi).toNat)
  case atStart => exact ⟨0, rfl, by decide, rfl⟩
  case round =>
    obtain ⟨i, rfl, hi, hw⟩ := hrel
    subst hw
    have u0 : IntKind.i64.wrap (i : Int) = (i : Int) := by rw [IntKind.wrap_i64]; omega
    have u1 : IntKind.u64.wrap ((i : Int) + 1) = (i : Int) + 1 := by rw [IntKind.wrap_u64]; omega
    have HB := hide (unhide HBI i hi)
    by_cases e : i = 63
    · subst e
      rw [if_pos rfl] at HB
      go_wp2_with fail
      refine (unhide HB).mono ?_
      rintro e w1 ⟨rfl, hw⟩
      have hw := hw.symm
      subst hw
      go_wp2
      (try simp only [Exit.inBlock, Exit.then])
      (try go_wp2)
      go_ret
      exact ⟨rfl, rfl⟩
    · rw [if_neg e] at HB
      go_wp2_with fail
      refine (unhide HB).mono ?_
      rintro e w1 ⟨rfl, hw⟩
      have hw := hw.symm
      subst hw
      go_wp2_with fail
      exact ⟨⟨i + 1, by go_num, by omega, by first | rfl | trivial⟩, by simp [intOf]; omega⟩
theorem two_lt {j k : Nat} (h : (2 : Int) ^ j < 2 ^ k) : j < k := by
  rcases Nat.lt_or_ge j k with h1 | h1
  · exact h1
  · have := two_mono h1
    omega
theorem top_k {A : Int} {k : Nat} (hA : A = 9223372036854775808) (h1 : 1 ≤ k) (h2 : k ≤ 32) (lo : (2 : Int) ^ (k - 1) ≤ Wh.dig A (2 - 1)) (hi : Wh.dig A (2 - 1) < 2 ^ k) : k = 32 := by
  subst hA
  rw [show Wh.dig 9223372036854775808 (2 - 1) = 2 ^ 31 by decide] at hi
  have := two_lt hi
  omega
set_option maxHeartbeats 8000000 in
set_option maxRecDepth 100000 in
set_option linter.unusedSimpArgs false in
theorem isInt64_any (b o : Nat) (N : Int) (w : World) (x : BInt w b o N) (h0 : -9223372036854775808 ≤ N) (h1 : N ≤ 9223372036854775808) :
    Calls Tryz.prog 17 #[.pointer (some ⟨b, o, none⟩)] w fun e w' => e = .returned (.bool (decide (N ≤ 9223372036854775807))) ∧ w' = w := by
  have HX := hide x
  have es := x.sg
  obtain ⟨a, n, c, ea, hn⟩ := x.ab
  obtain ⟨a', n', c', e, hl, hr⟩ := hn
  injection e with e1 e2 e3
  subst e1 e2 e3
  have hn2 : n ≤ 2 := len_le hl (by rw [pw2]; omega)
  by_cases hA : (N.natAbs : Int) < 9223372036854775808
  · rw [decide_eq_true (show N ≤ 9223372036854775807 by omega)]
    by_cases hz : n = 0
    · subst hz
      have HL : Hid (Calls Tryz.prog 75 #[.slice a 0 c] w fun e w' => e = .returned (.int .i64 0) ∧ w' = w) := by
        show Calls _ _ _ _ _
        clear HX es ea hl hr x
        go_enter Tryz.func75, Tryz.ntmps75
        go_wp2
        go_ret
        exact ⟨rfl, rfl⟩
      clear x hl hr es h0 h1 hA
      go_enter Tryz.func17, Tryz.ntmps17
      go_wp2_with fail
      refine (unhide HL).mono ?_
      rintro e w1 ⟨rfl, hw⟩
      have hw := hw.symm
      subst hw
      go_wp2
      go_ret
      exact ⟨rfl, rfl⟩
    · have HL := hide (length32_any a n c _ w hl hr (by omega) (by omega))
      have HA := hide hA
      have HLL := hide hl
      have HNB : Hid (1 ≤ n ∧ n ≤ 2) := ⟨by omega, by omega⟩
      clear x hl hr es h0 h1 hA
      go_enter Tryz.func17, Tryz.ntmps17
      go_wp2_with fail
      refine (unhide HL).mono ?_
      rintro e w1 ⟨k, rfl, hk1, hk2, lo, hi, hw⟩
      have hw := hw.symm
      subst hw
      have hlt : ((n : Int) - 1) * 32 + (k : Int) < 64 := by
        have hb := unhide HNB
        rcases (show n = 1 ∨ n = 2 by omega) with e | e
        · subst e; omega
        · subst e
          have hv := Wh.vl_dig_all (unhide HLL).1 (unhide HLL).2.1
          rw [show (2 : Nat) = 1 + 1 from rfl, Wh.vl_succ, Wh.vl_one, Wh.pw_one] at hv
          have d0 := (Wh.dig_w (N.natAbs : Int) 0).1
          have hA := unhide HA
          have h31 : (2 : Int) ^ (k - 1) < 2 ^ 31 := by
            rw [show (2 : Int) ^ 31 = 2147483648 by decide]
            have lo' : (2 : Int) ^ (k - 1) ≤ Wh.dig (N.natAbs : Int) 1 := lo
            omega
          have := two_lt h31
          omega
      obtain ⟨L, hL⟩ : ∃ L, ((n : Int) - 1) * 32 + (k : Int) = L := ⟨_, rfl⟩
      rw [hL] at hlt ⊢
      clear hk1 hk2 lo hi hL HL
      go_wp2
      go_ret
      exact ⟨rfl, rfl⟩
  · have hA2 : (N.natAbs : Int) = 9223372036854775808 := by omega
    have hn2' : n = 2 := by
      rw [hA2] at hl
      exact hl.uniq ⟨by decide, by decide, Or.inr (by decide)⟩
    subst hn2'
    have HL := hide (length32_any a 2 c _ w hl hr (by decide) (by decide))
    have HTZ := hide (trailing_top b o N w x hA2)
    have HA := hide hA2
    by_cases hneg : N < 0
    · rw [decide_eq_true (show N ≤ 9223372036854775807 by omega)]
      rw [decide_eq_true hneg] at es
      clear x hl hr h0 h1 hA hA2 hneg
      go_enter Tryz.func17, Tryz.ntmps17
      go_wp2_with fail
      refine (unhide HL).mono ?_
      rintro e w1 ⟨k, rfl, hk1, hk2, lo, hi, hw⟩
      have hw := hw.symm
      subst hw
      have hk : k = 32 := top_k (unhide HA) hk1 hk2 lo hi
      subst hk
      clear lo hi hk1 hk2 HL
      go_wp2_with fail
      refine (unhide HTZ).mono ?_
      rintro e w2 ⟨rfl, hw⟩
      have hw := hw.symm
      subst hw
      go_wp2
      go_ret
      exact ⟨rfl, rfl⟩
    · rw [decide_eq_false (show ¬ N ≤ 9223372036854775807 by omega)]
      rw [decide_eq_false hneg] at es
      clear x hl hr h0 h1 hA hA2 hneg HTZ
      go_enter Tryz.func17, Tryz.ntmps17
      go_wp2_with fail
      refine (unhide HL).mono ?_
      rintro e w1 ⟨k, rfl, hk1, hk2, lo, hi, hw⟩
      have hw := hw.symm
      subst hw
      have hk : k = 32 := top_k (unhide HA) hk1 hk2 lo hi
      subst hk
      clear lo hi hk1 hk2 HL
      go_wp2
      go_ret
      exact ⟨rfl, rfl⟩
end Go.Proofs.YtnmmfcoclpapdaaGreatDoor
