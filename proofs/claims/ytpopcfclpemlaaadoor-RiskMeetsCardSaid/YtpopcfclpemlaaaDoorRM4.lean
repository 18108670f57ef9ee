/- Things of gates: whether the whole works, by a row of what does. -/
import Derived.Test.YtpopcfclpemlaaaDoorRM3
namespace Go.Proofs.YtpopcfclpemlaaaDoor
open Go.RowKit Go.Sort Go.Shelf

/-- The set of those of a row that do. -/
def stv (f : Nat → Bool) : Nat → Nat
  | 0 => 0
  | n + 1 => stv f n ||| (if f n = true then 2 ^ n else 0)
theorem stv_lt (f : Nat → Bool) : ∀ n, stv f n < 2 ^ n
  | 0 => Nat.one_pos
  | n + 1 => by
    have ih := stv_lt f n
    have e := Rsk.pow_succ2 n
    refine Nat.or_lt_two_pow (by omega) ?_
    split <;> omega
theorem stv_bit (f : Nat → Bool) : ∀ n k, (stv f n).testBit k = (decide (k < n) && f k)
  | 0, k => by
    show Nat.testBit 0 k = _
    rw [Nat.zero_testBit, decide_eq_false (Nat.not_lt_zero k)]; rfl
  | n + 1, k => by
    have ih := stv_bit f n k
    show (stv f n ||| (if f n = true then 2 ^ n else 0)).testBit k = _
    rw [Nat.testBit_or, ih]
    rcases Nat.lt_trichotomy k n with a | a | a
    · rw [decide_eq_true a, decide_eq_true (show k < n + 1 by omega)]
      have : (if f n = true then 2 ^ n else 0).testBit k = false := by
        split
        · rw [Nat.testBit_two_pow, decide_eq_false (by omega)]
        · exact Nat.zero_testBit k
      rw [this, Bool.or_false]
    · subst a
      rw [decide_eq_false (Nat.lt_irrefl k), decide_eq_true (show k < k + 1 by omega), Bool.false_and, Bool.false_or, Bool.true_and]
      by_cases e : f k = true
      · rw [if_pos e, Nat.testBit_two_pow_self, e]
      · rw [if_neg e, Nat.zero_testBit]
        rw [Bool.not_eq_true] at e
        exact e.symm
    · rw [decide_eq_false (show ¬ k < n by omega), decide_eq_false (show ¬ k < n + 1 by omega), Bool.false_and, Bool.false_or]
      split
      · rw [Nat.testBit_two_pow, decide_eq_false (by omega)]
      · rw [Nat.zero_testBit]
theorem stv_bits {s n : Nat} (h : s < 2 ^ n) : stv (fun k => s.testBit k) n = s := by
  apply Nat.eq_of_testBit_eq
  intro k
  rw [stv_bit]
  rcases Nat.lt_or_ge k n with a | a
  · rw [decide_eq_true a, Bool.true_and]
  · rw [decide_eq_false (by omega), Bool.false_and, Nat.testBit_lt_two_pow (Nat.lt_of_lt_of_le h (Nat.pow_le_pow_right (by decide) a))]
theorem or_val {s k : Nat} (hs : s < 1099511627776) (hk : k ≤ 39) : bits .or .i64 (s : Int) (wrap64 ((2 : Int) ^ k)) = ((s ||| 2 ^ k : Nat) : Int) := by
  have := pow_small (show k ≤ 40 by omega)
  rw [wrap64_pow (by omega), bits_or_i64 s (2 ^ k) (by omega) (by omega)]
theorem shr_bit {s k : Nat} (hs : s < 9223372036854775808) : (bits .and .i64 ((s : Int) / 2 ^ k) 1 == 1) = s.testBit k := by
  have e : ((s : Int) / 2 ^ k) = ((s >>> k : Nat) : Int) := by
    rw [Nat.shiftRight_eq_div_pow, Int.natCast_ediv, Int.natCast_pow]; rfl
  have hl : s >>> k < 9223372036854775808 := Nat.lt_of_le_of_lt (Nat.shiftRight_le s k) hs
  rw [e, show (1 : Int) = ((1 : Nat) : Int) from rfl, bits_and_i64 _ 1 hl (by decide)]
  unfold Nat.testBit
  rw [Nat.and_comm 1, Nat.and_one_is_mod]
  rcases Nat.mod_two_eq_zero_or_one (s >>> k) with x | x <;> rw [x] <;> decide
set_option maxHeartbeats 16000000 in
set_option maxRecDepth 100000 in
set_option linter.unusedSimpArgs false in
theorem rWorks_ok (a : Option Addr) (N c n G : Nat) (lf : Nat → Bool) (g : Rsk.Gs) (H : Nat → Option Addr × Nat) (w : World) (h : GRow w a N c g H) (hO : OwnB w G n lf) (hn : n ≤ 100) (hk : gcode (n : Int) g N = 0) :
    Calls Tryd.prog 24 #[.slice a N c, .slice (some ⟨G, 0, none⟩) n n] w fun e w' => e = .returned (.tuple #[.bool (Rsk.wk g N (stv lf n)), .nilIface]) ∧ Below w.heap.size w w' := by
  have hG := goodG_of hk
  have hP := hG.p2
  have HC := hide (gcheck_any (n : Int) a N c g H w h)
  rw [hk, errV_zero] at HC
  have HGR : Hid (∀ W, Below w.heap.size w W → GRow W a N c g H) := fun W hW => h.below hW
  have HGD := hide hG
  have HOB := hide hO
  have hsl : stv lf n < 1099511627776 := Nat.lt_of_lt_of_le (stv_lt lf n) (pow_small (Nat.le_trans hP (by decide)))
  have HSL := hide hsl
  have h1 := h.1
  have h2 := h.2.1
  obtain ⟨B, hB⟩ : ∃ B, Rsk.wk g N (stv lf n) = B := ⟨_, rfl⟩
  have HBB := hide hB
  rw [hB]
  clear h hk hG hO hsl hB
  go_enter Tryd.func24, Tryd.ntmps24
  go_wp2_with fail
  refine (unhide HC).mono ?_
  rintro e w1 ⟨rfl, hb1⟩
  have HB1 := hide hb1
  have HO1 := hide ((unhide HOB).keep hb1)
  have HW := hide (works_any a N c n (stv lf n) g H w1 (unhide HGR w1 hb1) (unhide HGD) (unhide HSL))
  rw [unhide HBB] at HW
  clear HC HOB hb1
  go_wp2_with fail
  go_loopw [7, 19] (fun vs vi wr => ∃ i : Nat, vs = .int .i64 (stv lf i : Int) ∧ vi = .int .i64 (i : Int) ∧ i ≤ n ∧ wr = w1) (fun _ vi _ => n - (intOf vi).toNat)
  case atStart => exact ⟨0, rfl, rfl, Nat.zero_le _, rfl⟩
  case round =>
    obtain ⟨i, rfl, rfl, hi, rfl⟩ := hrel
    by_cases hlt : i < n
    · have j1 : (i : Int) < (n : Int) := by omega
      have j0 : (0 : Int) ≤ (i : Int) := by omega
      have HLT := hide hlt
      have kc := (unhide HO1).cell (j := i) hlt
      have hs := Nat.lt_of_lt_of_le (stv_lt lf i) (pow_small (show i ≤ 40 by omega))
      have ov := or_val (s := stv lf i) (k := i) hs (by omega)
      have HST : Hid (stv lf (i + 1) = stv lf i ||| (if lf i = true then 2 ^ i else 0)) := rfl
      obtain ⟨s0, hs0⟩ : ∃ s, stv lf i = s := ⟨_, rfl⟩
      rw [hs0] at ov HST ⊢
      cases hb : lf i with
      | true =>
        rw [hb] at kc HST
        rw [if_pos rfl] at HST
        obtain ⟨s1, hs1⟩ : ∃ s, s0 ||| 2 ^ i = s := ⟨_, rfl⟩
        rw [hs1] at ov HST
        clear hs hlt hs0 hs1 hb
        go_wp2
        exact ⟨⟨i + 1, by rw [unhide HST], by go_num, unhide HLT, by first | exact rfl | trivial⟩, by have := unhide HLT; simp [intOf]; omega⟩
      | false =>
        rw [hb] at kc HST
        rw [if_neg (by decide), Nat.or_zero] at HST
        clear hs hlt hs0 hb ov
        go_wp2
        exact ⟨⟨i + 1, by rw [unhide HST], by go_num, unhide HLT, by first | exact rfl | trivial⟩, by have := unhide HLT; simp [intOf]; omega⟩
    · obtain rfl : i = n := by omega
      have j1 : ¬ (i : Int) < (i : Int) := by omega
      obtain ⟨s0, hs0⟩ : ∃ s, stv lf i = s := ⟨_, rfl⟩
      rw [hs0] at HW ⊢
      clear hs0
      go_wp2_with fail
      refine (unhide HW).mono ?_
      rintro e_ w2 ⟨rfl, hb2⟩
      have HF := hide (below_step (unhide HB1) hb2)
      clear hb2 HW
      go_wp2
      go_ret2
      exact ⟨rfl, unhide HF⟩

set_option maxHeartbeats 16000000 in
set_option maxRecDepth 100000 in
set_option linter.unusedSimpArgs false in
theorem mclosure_any (p0 p1 P : Nat) (a : Option Addr) (N c s : Nat) (g : Rsk.Gs) (H : Nat → Option Addr × Nat) (w : World) (HP0 : Hid (∀ W, Below w.heap.size w W → W.cell? ⟨p0, 0, none⟩ = some (.int .i64 (P : Int)))) (HP1 : Hid (∀ W, Below w.heap.size w W → W.cell? ⟨p1, 0, none⟩ = some (.slice a N c))) (h : GRow w a N c g H) (hk : gcode (P : Int) g N = 0) (hs : s < 2 ^ P) :
    Calls Tryd.prog 23 #[.int .i64 (s : Int), .pointer (some ⟨p0, 0, none⟩), .pointer (some ⟨p1, 0, none⟩)] w fun e w' => e = .returned (.bool (Rsk.wk g N s)) ∧ Below w.heap.size w w' := by
  have hG := goodG_of hk
  have hP := hG.p2
  have hs63 : s < 9223372036854775808 := Nat.lt_of_lt_of_le hs (Nat.le_trans (pow_small (Nat.le_trans hP (show 10 ≤ 40 by decide))) (by decide))
  have HS63 := hide hs63
  have HSS := hide hs
  have HK := hide hk
  have HGR : Hid (∀ W, Below w.heap.size w W → GRow W a N c g H) := fun W hW => h.below hW
  have hp := unhide HP0 w (Below.refl _ _)
  have qm := make_bools P (by omega) w
  have O0 := make_ownB w P
  have b0 := alloc_below w (.cells (brow (fun _ => false) P).toArray 4)
  obtain ⟨W0, hW0⟩ : ∃ W, w.alloc (.cells (brow (fun _ => false) P).toArray 4) = W := ⟨_, rfl⟩
  obtain ⟨GB, hGB⟩ : ∃ b, w.heap.size = b := ⟨_, rfl⟩
  rw [hW0] at qm O0 b0
  rw [hGB] at qm O0
  have HG : Hid (w.heap.size ≤ GB) := show _ ≤ _ by omega
  have HO0 : Hid (OwnB W0 GB P (fun j => decide (j < 0) && s.testBit j)) := O0.congr (fun j _ => by rw [decide_eq_false (Nat.not_lt_zero j)]; rfl)
  have HB0 := hide b0
  obtain ⟨B, hB⟩ : ∃ B, Rsk.wk g N s = B := ⟨_, rfl⟩
  have HBB := hide hB
  rw [hB]
  have h1 := h.1
  have h2 := h.2.1
  clear h hk hG hs hs63 b0 O0 hB
  go_enter Tryd.func23, Tryd.ntmps23
  go_wp2_with fail
  clear qm hW0 hGB hp
  go_loopw [6] (fun vi wr => ∃ i : Nat, vi = .int .i64 (i : Int) ∧ i ≤ P ∧ Below w.heap.size w wr ∧ OwnB wr GB P (fun j => decide (j < i) && s.testBit j)) (fun vi _ => P - (intOf vi).toNat)
  case atStart => exact ⟨0, rfl, Nat.zero_le _, unhide HB0, unhide HO0⟩
  case round =>
    obtain ⟨i, rfl, hi, hbr, hO⟩ := hrel
    have kp := unhide HP0 wr hbr
    clear HO0 HB0
    by_cases hlt : i < P
    · have j1 : (i : Int) < (P : Int) := by omega
      have j0 : (0 : Int) ≤ (i : Int) := by omega
      have HLT := hide hlt
      have fz := hO.free i
      have kc := hO.cell (j := i) hlt
      have hsb := shr_bit (s := s) (k := i) (unhide HS63)
      have OS := hide (fun v => hO.set i v)
      have BS : Hid (∀ v : Value, Below w.heap.size w (wr.setCell ⟨GB, i, none⟩ v)) := fun v => hbr.setCell (p := ⟨GB, i, none⟩) (unhide HG) v
      have HCG : Hid (∀ j, updB (fun j => decide (j < i) && s.testBit j) i (s.testBit i) j = (decide (j < i + 1) && s.testBit j)) := fun j => by
        show (if j = i then s.testBit i else (decide (j < i) && s.testBit j)) = _
        by_cases e : j = i
        · rw [if_pos e, e, decide_eq_true (show i < i + 1 by omega)]; rfl
        · rw [if_neg e]
          by_cases e2 : j < i
          · rw [decide_eq_true e2, decide_eq_true (show j < i + 1 by omega)]
          · rw [decide_eq_false e2, decide_eq_false (show ¬ j < i + 1 by omega)]
      obtain ⟨tb, htb⟩ : ∃ b, s.testBit i = b := ⟨_, rfl⟩
      rw [htb] at hsb HCG
      clear hbr hO hlt htb
      go_wp2
      exact ⟨⟨i + 1, by go_num, unhide HLT, unhide BS _, (unhide OS _).congr (fun j _ => unhide HCG j)⟩, by have := unhide HLT; simp [intOf]; omega⟩
    · obtain rfl : i = P := by omega
      have j1 : ¬ (i : Int) < (i : Int) := by omega
      have kq := unhide HP1 wr hbr
      have HW := hide (rWorks_ok a N c i GB (fun j => decide (j < i) && s.testBit j) g H wr (unhide HGR wr hbr) hO (by omega) (unhide HK))
      have e1 : stv (fun j => decide (j < i) && s.testBit j) i = s := by
        have : ∀ n, n ≤ i → stv (fun j => decide (j < i) && s.testBit j) n = stv (fun j => s.testBit j) n := by
          intro n
          induction n with
          | zero => intro _; rfl
          | succ n ih =>
            intro hn
            show stv (fun j => decide (j < i) && s.testBit j) n ||| (if (decide (n < i) && s.testBit n) = true then 2 ^ n else 0) = stv (fun j => s.testBit j) n ||| (if s.testBit n = true then 2 ^ n else 0)
            rw [ih (by omega), decide_eq_true (show n < i by omega), Bool.true_and]
        rw [this i (Nat.le_refl _)]
        exact stv_bits (unhide HSS)
      rw [e1, unhide HBB] at HW
      have HBR := hide hbr
      clear hbr hO e1
      go_wp2_with fail
      refine (unhide HW).mono ?_
      rintro e_ w2 ⟨rfl, hb2⟩
      have HF := hide (below_step (unhide HBR) hb2)
      clear hb2 HW
      cases B with
      | true =>
        go_wp2
        go_ret
        exact ⟨rfl, unhide HF⟩
      | false =>
        go_wp2
        go_ret
        exact ⟨rfl, unhide HF⟩

end Go.Proofs.YtpopcfclpemlaaaDoor
