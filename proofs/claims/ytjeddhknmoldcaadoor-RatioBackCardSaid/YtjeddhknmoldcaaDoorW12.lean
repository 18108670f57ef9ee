/- Signed numbers together; a number as an int; a fraction of a pair. -/
import Derived.Test.YtjeddhknmoldcaaDoorW11
namespace Go.Proofs.YtjeddhknmoldcaaDoor
open Go.RowKit Go.Sort Go.Shelf

theorem sm_of {N : Int} {k : Nat} (h : N < Wd.pw k) (hk : k ≤ KK) : Sm N := Int.lt_of_lt_of_le h (Wd.pw_mono hk)

set_option maxHeartbeats 2000000 in
theorem together_any (sa sb : Bool) (va vb : Value) (A B : Int) (w : World) (ha : NatIs w va A) (hb : NatIs w vb B) (hA : Sm A) (hB : Sm B) :
    Calls Tryd.prog 31 #[.bool sa, va, .bool sb, vb] w fun e w' => ∃ s v, e = .returned (.tuple #[.bool s, v]) ∧ NatIs w' v ((sn sa A + sn sb B).natAbs : Int) ∧ sn s ((sn sa A + sn sb B).natAbs : Int) = sn sa A + sn sb B ∧ Below w.heap.size w w' := by
  have hA0 := ha.nn
  have hB0 := hb.nn
  have HA := hide ha
  have HB := hide hb
  have HC := hide (cmp_any va vb A B w ha hb)
  obtain ⟨a, n, c, rfl, _, _⟩ := ha
  obtain ⟨b, m, d, rfl, _, _⟩ := hb
  by_cases hs : sa = sb
  · subst hs
    have hz : (sa == sa) = true := by simp
    have e1 : ((sn sa A + sn sa B).natAbs : Int) = A + B := by cases sa <;> simp [sn] <;> omega
    have e2 : sn sa (A + B) = sn sa A + sn sa B := by cases sa <;> simp [sn] <;> omega
    rw [e1]
    have E2 := hide e2
    clear e1 e2
    go_enter Tryd.func31, Tryd.ntmps31
    go_wp2_with (go_at_call 20; refine (add_any _ _ A B _ (unhide HA) (unhide HB) hA hB).mono ?_; rintro e w1 ⟨v1, rfl, hv1, hb1⟩)
    go_ret2
    exact ⟨_, _, rfl, hv1, unhide E2, hb1⟩
  · have hz : (sa == sb) = false := by cases sa <;> cases sb <;> simp_all
    have hsb : sb = !sa := by cases sa <;> cases sb <;> simp_all
    by_cases hlt : A < B
    · rw [Wd.sg_lt hlt] at HC
      have e1 : ((sn sa A + sn sb B).natAbs : Int) = B - A := by subst hsb; cases sa <;> simp [sn] <;> omega
      have e2 : sn sb (B - A) = sn sa A + sn sb B := by subst hsb; cases sa <;> simp [sn] <;> omega
      rw [e1]
      have E2 := hide e2
      clear e1 e2 hs hsb
      go_enter Tryd.func31, Tryd.ntmps31
      go_wp2_with fail
      refine (unhide HC).mono ?_
      rintro e w' ⟨rfl, k, hw'⟩
      subst hw'
      go_wp2_with fail
      refine (sub_any _ _ B A _ ((unhide HB).below (below_drewN w k)) ((unhide HA).below (below_drewN w k)) hB (by omega)).mono ?_
      rintro e w1 ⟨v1, rfl, hv1, hb1⟩
      go_wp2
      go_ret2
      exact ⟨_, _, rfl, hv1, unhide E2, (below_drewN w k).trans hb1⟩
    · have hcs : ∃ t, Wd.sg A B = t ∧ 0 ≤ t ∧ t ≤ 1 := by
        rcases Int.lt_or_le B A with h | h
        · exact ⟨1, Wd.sg_gt h, by decide, by decide⟩
        · exact ⟨0, Wd.sg_eq (by omega), by decide, by decide⟩
      obtain ⟨t, ht, ht0, ht1⟩ := hcs
      rw [ht] at HC
      have htd : decide (t < 0) = false := decide_eq_false (by omega)
      have e1 : ((sn sa A + sn sb B).natAbs : Int) = A - B := by subst hsb; cases sa <;> simp [sn] <;> omega
      have e2 : sn sa (A - B) = sn sa A + sn sb B := by subst hsb; cases sa <;> simp [sn] <;> omega
      rw [e1]
      have E2 := hide e2
      clear e1 e2 hs hsb ht ht0 ht1
      go_enter Tryd.func31, Tryd.ntmps31
      go_wp2_with fail
      refine (unhide HC).mono ?_
      rintro e w' ⟨rfl, k, hw'⟩
      subst hw'
      go_wp2_with fail
      refine (sub_any _ _ A B _ ((unhide HA).below (below_drewN w k)) ((unhide HB).below (below_drewN w k)) hA (by omega)).mono ?_
      rintro e w1 ⟨v1, rfl, hv1, hb1⟩
      go_wp2
      go_ret2
      exact ⟨_, _, rfl, hv1, unhide E2, (below_drewN w k).trans hb1⟩

/-- The int that a number with a sign is, if one can be it. -/
def asInt (s : Bool) (N : Int) : Int × Bool := if -9223372036854775808 ≤ sn s N ∧ sn s N ≤ 9223372036854775807 then (sn s N, true) else (0, false)

set_option maxHeartbeats 2000000 in
theorem number_any (s : Bool) (v : Value) (N : Int) (w : World) (h : NatIs w v N) :
    Calls Tryd.prog 22 #[v, .bool s] w fun e w' => e = .returned (.tuple #[.int .i64 (asInt s N).1, .bool (asInt s N).2]) ∧ w' = w := by
  obtain ⟨a, n, c, rfl, hl, hr⟩ := h
  by_cases h0 : n = 0
  · subst h0
    have := hl.zero
    subst this
    have e : asInt s 0 = (0, true) := by cases s <;> rfl
    rw [e]
    clear hl hr e
    go_enter Tryd.func22, Tryd.ntmps22
    go_wp2
    go_ret2
    exact ⟨rfl, rfl⟩
  have z0 : ((n : Int) == 0) = false := by rw [beq_eq_false_iff_ne]; omega
  by_cases h1 : 1 < n
  · have hN : 18446744073709551616 ≤ N := by
      rcases hl.2.2 with h | h
      · omega
      · have := Wd.pw_mono (m := 1) (n := n - 1) (by omega)
        rw [Wd.pw_one] at this; omega
    have e : asInt s N = (0, false) := by unfold asInt; rw [if_neg]; cases s <;> simp [sn] <;> omega
    rw [e]
    clear hl hr e hN
    go_enter Tryd.func22, Tryd.ntmps22
    go_wp2
    go_ret2
    exact ⟨rfl, rfl⟩
  obtain rfl : n = 1 := by omega
  have hp := hl.pos (by decide)
  have hw : N < 18446744073709551616 := by have := hl.2.1; rw [Wd.pw_one] at this; exact this
  obtain ⟨_, b, o, rfl, hbl, hc⟩ := natIs_word hl hr hp hw
  clear hl hr h0 h1 z0
  cases s
  · by_cases hb : N ≤ 9223372036854775807
    · have e : asInt false N = (N, true) := by unfold asInt; rw [if_pos]; rfl; simp [sn]; omega
      rw [e]
      clear e
      go_enter Tryd.func22, Tryd.ntmps22
      go_wp2
      go_ret2
      exact ⟨rfl, rfl⟩
    · have e : asInt false N = (0, false) := by unfold asInt; rw [if_neg]; simp [sn]; omega
      rw [e]
      clear e
      go_enter Tryd.func22, Tryd.ntmps22
      go_wp2
      go_ret2
      exact ⟨rfl, rfl⟩
  · by_cases hb : N ≤ 9223372036854775808
    · have e : asInt true N = (-N, true) := by unfold asInt; rw [if_pos]; rfl; simp [sn]; omega
      rw [e]
      have hwr : IntKind.i64.wrap (IntKind.u64.wrap (-N)) = -N := by rw [IntKind.wrap_u64, IntKind.wrap_i64]; omega
      clear e
      go_enter Tryd.func22, Tryd.ntmps22
      go_wp2
      go_ret2
      exact ⟨rfl, rfl⟩
    · have e : asInt true N = (0, false) := by unfold asInt; rw [if_neg]; simp [sn]; omega
      rw [e]
      clear e
      go_enter Tryd.func22, Tryd.ntmps22
      go_wp2
      go_ret2
      exact ⟨rfl, rfl⟩

set_option maxHeartbeats 2000000 in
theorem f_any (x y : Int) (hx0 : -9223372036854775808 ≤ x) (hx1 : x ≤ 9223372036854775807) (hy0 : -9223372036854775808 ≤ y) (hy1 : y ≤ 9223372036854775807) (w : World) :
    Calls Tryd.prog 4 #[.agg #[.int .i64 x, .int .i64 y]] w fun e w' => ∃ v, e = .returned v ∧ RatIs w' v (Rat.divInt x (if y = 0 then 1 else y)) ∧ Below w.heap.size w w' := by
  by_cases hy : y = 0
  · subst hy
    rw [if_pos rfl]
    obtain ⟨W, hW⟩ : ∃ W, (w.alloc (.cells #[.int .i64 x, .int .i64 1] 23)).alloc (.cells #[.bool false, .slice none 0 0, .slice none 0 0] 27) = W := ⟨_, rfl⟩
    have hbW : Below w.heap.size w W := by rw [← hW]; exact ((Below.refl _ _).alloc (Nat.le_refl _) _).alloc (by simp) _
    have hbx : ∀ w1, Below W.heap.size W w1 → w1.heap[w.heap.size + 1]? = some (.cells #[.bool false, .slice none 0 0, .slice none 0 0] 27) ∧ w.heap.size + 1 < w1.heap.size := fun w1 h => by
      rw [← hW] at h
      have := box3 h
      simpa using this
    have HW := hide hW
    have HBX := hide hbx
    have HBW := hide hbW
    clear hW hbx hbW
    go_enter Tryd.func4, Tryd.ntmps4
    go_wp2_with fail
    rw [unhide HW]
    refine (of_any x 1 hx0 hx1 (by decide) (by decide) (by decide) W).mono ?_
    rintro e w1 ⟨v, rfl, hv, hb1⟩
    have HV := hide hv
    obtain ⟨ov, un, rfl, hov, hun⟩ := hv
    obtain ⟨a4, n4, c4, rfl, _, _⟩ := hov
    obtain ⟨a5, n5, c5, rfl, _, _⟩ := hun
    obtain ⟨s, hs⟩ : ∃ s, decide ((Rat.divInt x 1).num < 0) = s := ⟨_, rfl⟩
    rw [hs] at HV ⊢
    have ⟨hbx, hsz⟩ := unhide HBX _ hb1
    have ⟨c0, c1, c2, f0, f1, f2⟩ := box_cell hbx
    have HBX1 := hide hbx
    have HB1 := hide hb1
    clear hb1 hbx HBX
    go_wp2
    have ⟨r1, r2⟩ := rat_boxed (w0 := w) (unhide HV) (unhide HBX1) (below_step (unhide HBW) (unhide HB1)) (Nat.le_succ _) (Value.bool s) (Value.slice a4 n4 c4) (Value.slice a5 n5 c5)
    refine bodyPost_ret (v := .agg #[.bool s, .slice a4 n4 c4, .slice a5 n5 c5]) (by simp [results, Tryd.results4, go_sem, c0, c1, c2, hsz]) rfl ⟨_, rfl, r1.below (alloc_below _ _), below_step r2 (alloc_below _ _)⟩
  · rw [if_neg hy]
    have hz : (y == 0) = false := by rw [beq_eq_false_iff_ne]; exact hy
    obtain ⟨W, hW⟩ : ∃ W, (w.alloc (.cells #[.int .i64 x, .int .i64 y] 23)).alloc (.cells #[.bool false, .slice none 0 0, .slice none 0 0] 27) = W := ⟨_, rfl⟩
    have hbW : Below w.heap.size w W := by rw [← hW]; exact ((Below.refl _ _).alloc (Nat.le_refl _) _).alloc (by simp) _
    have hbx : ∀ w1, Below W.heap.size W w1 → w1.heap[w.heap.size + 1]? = some (.cells #[.bool false, .slice none 0 0, .slice none 0 0] 27) ∧ w.heap.size + 1 < w1.heap.size := fun w1 h => by
      rw [← hW] at h
      have := box3 h
      simpa using this
    have HW := hide hW
    have HBX := hide hbx
    have HBW := hide hbW
    clear hW hbx hbW
    go_enter Tryd.func4, Tryd.ntmps4
    go_wp2_with fail
    rw [unhide HW]
    refine (of_any x y hx0 hx1 hy0 hy1 hy W).mono ?_
    rintro e w1 ⟨v, rfl, hv, hb1⟩
    have HV := hide hv
    obtain ⟨ov, un, rfl, hov, hun⟩ := hv
    obtain ⟨a4, n4, c4, rfl, _, _⟩ := hov
    obtain ⟨a5, n5, c5, rfl, _, _⟩ := hun
    obtain ⟨s, hs⟩ : ∃ s, decide ((Rat.divInt x y).num < 0) = s := ⟨_, rfl⟩
    rw [hs] at HV ⊢
    have ⟨hbx, hsz⟩ := unhide HBX _ hb1
    have ⟨c0, c1, c2, f0, f1, f2⟩ := box_cell hbx
    have HBX1 := hide hbx
    have HB1 := hide hb1
    clear hb1 hbx HBX
    go_wp2
    have ⟨r1, r2⟩ := rat_boxed (w0 := w) (unhide HV) (unhide HBX1) (below_step (unhide HBW) (unhide HB1)) (Nat.le_succ _) (Value.bool s) (Value.slice a4 n4 c4) (Value.slice a5 n5 c5)
    refine bodyPost_ret (v := .agg #[.bool s, .slice a4 n4 c4, .slice a5 n5 c5]) (by simp [results, Tryd.results4, go_sem, c0, c1, c2, hsz]) rfl ⟨_, rfl, r1.below (alloc_below _ _), below_step r2 (alloc_below _ _)⟩
end Go.Proofs.YtjeddhknmoldcaaDoor
