/- A fraction's text is read back. -/
import Derived.Test.YtcelbgleajpenaaGreatDoorA10
import Derived.Test.YtcelbgleajpenaaGreatDoorA13
import Derived.Test.YtcelbgleajpenaaGreatDoorA12
namespace Go.Proofs.YtcelbgleajpenaaGreatDoor
open Go.RowKit Go.Sort Go.Shelf Go.Dd

end Go.Proofs.YtcelbgleajpenaaGreatDoor
/- Two fractions that are alike. -/
namespace Go.Proofs.YtcelbgleajpenaaGreatDoor
open Go.RowKit Go.Sort Go.Shelf Go.Dd

end Go.Proofs.YtcelbgleajpenaaGreatDoor
/- A fraction's text, and two fractions that are alike: numbers of any length. -/
namespace Go.Proofs.YtcelbgleajpenaaGreatDoor
open Go.RowKit Go.Sort Go.Shelf Go.Dd

theorem low_le (d : Nat) : low d ≤ (d : Int) := by unfold low; split <;> omega

theorem pw_dec (n : Nat) : Wd.pw n ≤ ((10 ^ (20 * n) : Nat) : Int) := by
 induction n with
 | zero => decide
 | succ n ih =>
  rw [Wd.pw_succ, show 20 * (n + 1) = 20 * n + 20 by omega, Nat.pow_add, Int.natCast_mul]
  have e : ((10 ^ 20 : Nat) : Int) = 100000000000000000000 := by decide
  rw [e]
  have hp := Wd.pw_pos n
  generalize ((10 ^ (20 * n) : Nat) : Int) = X at *
  omega

theorem text_size {N : Int} {j : Nat} (h : N < Wd.pw j) (hj : j ≤ KK) : (Lib.decDigits N.toNat).length ≤ 21990232555540 := by
 have h1 := Int.lt_of_lt_of_le h (pw_dec j)
 have h2 : N.toNat < 10 ^ (20 * j + 19 + 1) := by
  have e : 10 ^ (20 * j) ≤ 10 ^ (20 * j + 19 + 1) := Nat.pow_le_pow_right (by decide) (by omega)
  have h0 : 0 < 10 ^ (20 * j) := Nat.pow_pos (by decide)
  generalize 10 ^ (20 * j + 19 + 1) = Y at *
  generalize 10 ^ (20 * j) = X at *
  omega
 have h3 := dec_len_le (20 * j + 19) N.toNat h2
 unfold KK at hj
 omega

set_option maxHeartbeats 2000000 in
set_option maxRecDepth 100000 in
theorem textR_any (v : Value) (q : Rat) (w : World) (h : RatIs w v q) (j : Nat) (hq : RS q j) (hj : j ≤ KK) (htab : Tab w) :
  Calls Tryz.prog 49 #[v] w fun e w' => e = .returned (.string ⟨(qtext q).toArray⟩) ∧ Below w.heap.size w w' := by
 have hn : Sm (q.num.natAbs : Int) := sm_of hq.1 hj
 have hd : Sm (low q.den) := sm_le (low_le q.den) (sm_of hq.2 hj)
 have zN := text_size hq.1 hj
 have zD := text_size (Int.lt_of_le_of_lt (low_le q.den) hq.2) hj
 obtain ⟨ov, un, rfl, h1, h2⟩ := h
 have HN := hide h1
 have HD := hide h2
 obtain ⟨a, n, c, rfl, _, _⟩ := h1
 obtain ⟨a2, n2, c2, rfl, hl2, _⟩ := h2
 obtain ⟨s, hs⟩ : ∃ s, decide (q.num < 0) = s := ⟨_, rfl⟩
 rw [hs]
 obtain ⟨W, hW⟩ : ∃ W, w.alloc (.cells #[.bool s, .slice a n c, .slice a2 n2 c2] 37) = W := ⟨_, rfl⟩
 have hbW : Below w.heap.size w W := by rw [← hW]; exact alloc_below _ _
 have S0 : ∀ w', Below W.heap.size W w' → w'.cell? ⟨w.heap.size, 0, none⟩ = some (.bool s) ∧ w'.cell? ⟨w.heap.size, 1, none⟩ = some (.slice a n c) ∧ w'.cell? ⟨w.heap.size, 2, none⟩ = some (.slice a2 n2 c2) := fun w' h => by
  rw [← hW] at h
  exact one_box h
 have TN := text_any (.slice a n c) _ W ((unhide HN).below hbW) hn (tab_below htab hbW)
 have TD : ∀ w1, Below W.heap.size W w1 → Calls Tryz.prog 93 #[.slice a2 n2 c2] w1 fun e w' => e = .returned (.string ⟨(Lib.decDigits (low q.den).toNat).toArray⟩) ∧ Below W.heap.size W w' := fun w1 h1 =>
  (text_any _ _ w1 (((unhide HD).below hbW).below h1) hd (tab_below (tab_below htab hbW) h1)).mono (by rintro e w' ⟨rfl, h⟩; exact ⟨rfl, below_step h1 h⟩)
 obtain ⟨tN, htN⟩ : ∃ t, (⟨(Lib.decDigits (q.num.natAbs : Int).toNat).toArray⟩ : ByteArray) = t := ⟨_, rfl⟩
 obtain ⟨tD, htD⟩ : ∃ t, (⟨(Lib.decDigits (low q.den).toNat).toArray⟩ : ByteArray) = t := ⟨_, rfl⟩
 rw [htN] at TN
 rw [htD] at TD
 have sN : tN.size ≤ 21990232555540 := by rw [← htN]; exact (by simpa using zN : (Lib.decDigits (q.num.natAbs : Int).toNat).toArray.size ≤ 21990232555540)
 have sD : tD.size ≤ 21990232555540 := by rw [← htD]; exact (by simpa using zD : (Lib.decDigits (low q.den).toNat).toArray.size ≤ 21990232555540)
 obtain ⟨t1, ht1⟩ : ∃ t, (⟨#[45]⟩ : ByteArray) ++ tN = t := ⟨_, rfl⟩
 obtain ⟨t2, ht2⟩ : ∃ t, (⟨#[47]⟩ : ByteArray) ++ tD = t := ⟨_, rfl⟩
 have e45 : (⟨#[45]⟩ : ByteArray).size = 1 := rfl
 have e47 : (⟨#[47]⟩ : ByteArray).size = 1 := rfl
 have s1 : t1.size ≤ 21990232555541 := by rw [← ht1, ByteArray.size_append, e45]; omega
 have s2 : t2.size ≤ 21990232555541 := by rw [← ht2, ByteArray.size_append, e47]; omega
 obtain ⟨t3, ht3⟩ : ∃ t, tN ++ t2 = t := ⟨_, rfl⟩
 obtain ⟨t4, ht4⟩ : ∃ t, t1 ++ t2 = t := ⟨_, rfl⟩
 have r1 : ∀ w, (Op.stringOp .add ⟨#[45]⟩ tN).run Tryz.prog w = .ok (.string t1) w := fun w => by rw [run_string_add_sum _ _ _ (by rw [e45]; omega), ht1]
 have r2 : ∀ w, (Op.stringOp .add ⟨#[47]⟩ tD).run Tryz.prog w = .ok (.string t2) w := fun w => by rw [run_string_add_sum _ _ _ (by rw [e47]; omega), ht2]
 have r3 : ∀ w, (Op.stringOp .add tN t2).run Tryz.prog w = .ok (.string t3) w := fun w => by rw [run_string_add_sum _ _ _ (by omega), ht3]
 have r4 : ∀ w, (Op.stringOp .add t1 t2).run Tryz.prog w = .ok (.string t4) w := fun w => by rw [run_string_add_sum _ _ _ (by omega), ht4]
 have l1 : t1.data.toList = 45 :: Lib.decDigits q.num.natAbs := by rw [← ht1, ← htN]; simp
 have l3 : t3.data.toList = Lib.decDigits q.num.natAbs ++ 47 :: Lib.decDigits (low q.den).toNat := by rw [← ht3, ← ht2, ← htN, ← htD]; simp
 have l4 : t4.data.toList = 45 :: (Lib.decDigits q.num.natAbs ++ 47 :: Lib.decDigits (low q.den).toNat) := by rw [← ht4, ← ht2, ← ht1, ← htN, ← htD]; simp
 have HtN := hide htN
 have HtD := hide htD
 have L1 := hide l1
 have L3 := hide l3
 have L4 := hide l4
 clear htN htD sN sD s1 s2 ht1 ht2 ht3 ht4 e45 e47 l1 l3 l4 zN zD hn hd hq hj
 have ⟨k0, k1, k2⟩ := S0 W (Below.refl _ _)
 have HS0 := hide S0
 have HTN := hide TN
 have HTD := hide TD
 have HWE := hide hW
 have HBW := hide hbW
 clear hW hbW S0 TN TD htab
 by_cases hd1 : q.den = 1
 ·have hn2 : n2 = 0 := by
   rw [hd1] at hl2
   rcases hl2.2.2 with h | h
   ·exact h
   ·have := Wd.pw_pos (n2 - 1); simp [low] at h; omega
  subst hn2
  have HQ : Hid (qtext q = (if s then [45] else []) ++ Lib.decDigits q.num.natAbs) := by
   show qtext q = _
   rw [← hs]; simp [qtext, upperText, hd1]
  clear hs hl2
  cases s
  ·go_enter Tryz.func49, Tryz.ntmps49
   go_wp2_with fail
   rw [unhide HWE]
   refine (unhide HTN).mono ?_
   rintro e w1 ⟨rfl, hb1⟩
   have ⟨g0, g1, g2⟩ := unhide HS0 _ hb1
   go_wp2
   go_ret
   refine ⟨?_, below_step (unhide HBW) hb1⟩
   rewrite [unhide HQ, ← unhide HtN]
   rfl
  ·go_enter Tryz.func49, Tryz.ntmps49
   go_wp2_with fail
   rw [unhide HWE]
   refine (unhide HTN).mono ?_
   rintro e w1 ⟨rfl, hb1⟩
   have ⟨g0, g1, g2⟩ := unhide HS0 _ hb1
   go_wp2
   go_ret
   refine ⟨?_, below_step (unhide HBW) hb1⟩
   rewrite [unhide HQ]
   exact congrArg (fun t => Ending.returned (Value.string t)) (bytes_of (unhide L1))
 ·have hn2 : n2 ≠ 0 := by
   intro h; subst h
   have := hl2.zero
   have := q.den_nz
   unfold low at *
   split at * <;> omega
  have z2 : 0 < n2 := by omega
  have HQ : Hid (qtext q = ((if s then [45] else []) ++ Lib.decDigits q.num.natAbs) ++ (47 :: Lib.decDigits (low q.den).toNat)) := by
   show qtext q = _
   rw [← hs]; simp [qtext, upperText, hd1, low]
  clear hs hl2 hn2 hd1
  cases s
  ·go_enter Tryz.func49, Tryz.ntmps49
   go_wp2_with fail
   rw [unhide HWE]
   refine (unhide HTN).mono ?_
   rintro e w1 ⟨rfl, hb1⟩
   have ⟨g0, g1, g2⟩ := unhide HS0 _ hb1
   have HB1 := hide hb1
   clear hb1
   go_wp2_with fail
   refine (unhide HTD _ (unhide HB1)).mono ?_
   rintro e w2 ⟨rfl, hb2⟩
   go_wp2
   go_ret
   refine ⟨?_, below_step (unhide HBW) hb2⟩
   rewrite [unhide HQ]
   exact congrArg (fun t => Ending.returned (Value.string t)) (bytes_of (unhide L3))
  ·go_enter Tryz.func49, Tryz.ntmps49
   go_wp2_with fail
   rw [unhide HWE]
   refine (unhide HTN).mono ?_
   rintro e w1 ⟨rfl, hb1⟩
   have ⟨g0, g1, g2⟩ := unhide HS0 _ hb1
   have HB1 := hide hb1
   clear hb1
   go_wp2_with fail
   refine (unhide HTD _ (unhide HB1)).mono ?_
   rintro e w2 ⟨rfl, hb2⟩
   go_wp2
   go_ret
   refine ⟨?_, below_step (unhide HBW) hb2⟩
   rewrite [unhide HQ]
   exact congrArg (fun t => Ending.returned (Value.string t)) (bytes_of (unhide L4))

end Go.Proofs.YtcelbgleajpenaaGreatDoor
