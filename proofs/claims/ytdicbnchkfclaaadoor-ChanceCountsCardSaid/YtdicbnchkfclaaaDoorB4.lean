/- Signed numbers together; a number as an int; a fraction of a pair. -/
import Derived.Test.YtdicbnchkfclaaaDoorW11
namespace Go.Proofs.YtdicbnchkfclaaaDoor
open Go.RowKit Go.Sort Go.Shelf

theorem sm_of {N : Int} {k : Nat} (h : N < Wd.pw k) (hk : k ≤ KK) : Sm N := Int.lt_of_lt_of_le h (Wd.pw_mono hk)

set_option maxHeartbeats 2000000 in
theorem together_any (sa sb : Bool) (va vb : Value) (A B : Int) (w : World) (ha : NatIs w va A) (hb : NatIs w vb B) (hA : Sm A) (hB : Sm B) :
    Calls Tryd.prog 46 #[.bool sa, va, .bool sb, vb] w fun e w' => ∃ s v, e = .returned (.tuple #[.bool s, v]) ∧ NatIs w' v ((sn sa A + sn sb B).natAbs : Int) ∧ sn s ((sn sa A + sn sb B).natAbs : Int) = sn sa A + sn sb B ∧ Below w.heap.size w w' := by
  have hA0 := ha.nn
  have hB0 := hb.nn
  have HA := hide ha
  have HB := hide hb
  have HC := hide (cmp_any va vb A B w ha hb)
  obtain ⟨a, n, c, rfl, _, _⟩ := ha
  obtain ⟨b, m, d, rfl, _, _⟩ := hb
  by_cases hs : sa = sb
  · subst hs
    have hz : (sa == sa) = true := by simp
    have e1 : ((sn sa A + sn sa B).natAbs : Int) = A + B := by cases sa <;> simp [sn] <;> omega
    have e2 : sn sa (A + B) = sn sa A + sn sa B := by cases sa <;> simp [sn] <;> omega
    rw [e1]
    have E2 := hide e2
    clear e1 e2
    go_enter Tryd.func46, Tryd.ntmps46
    go_wp2_with (go_at_call 75; refine (add_any _ _ A B _ (unhide HA) (unhide HB) hA hB).mono ?_; rintro e w1 ⟨v1, rfl, hv1, hb1⟩)
    go_ret2
    exact ⟨_, _, rfl, hv1, unhide E2, hb1⟩
  · have hz : (sa == sb) = false := by cases sa <;> cases sb <;> simp_all
    have hsb : sb = !sa := by cases sa <;> cases sb <;> simp_all
    by_cases hlt : A < B
    · rw [Wd.sg_lt hlt] at HC
      have e1 : ((sn sa A + sn sb B).natAbs : Int) = B - A := by subst hsb; cases sa <;> simp [sn] <;> omega
      have e2 : sn sb (B - A) = sn sa A + sn sb B := by subst hsb; cases sa <;> simp [sn] <;> omega
      rw [e1]
      have E2 := hide e2
      clear e1 e2 hs hsb
      go_enter Tryd.func46, Tryd.ntmps46
      go_wp2_with fail
      refine (unhide HC).mono ?_
      rintro e w' ⟨rfl, k, hw'⟩
      subst hw'
      go_wp2_with fail
      refine (sub_any _ _ B A _ ((unhide HB).below (below_drewN w k)) ((unhide HA).below (below_drewN w k)) hB (by omega)).mono ?_
      rintro e w1 ⟨v1, rfl, hv1, hb1⟩
      go_wp2
      go_ret2
      exact ⟨_, _, rfl, hv1, unhide E2, (below_drewN w k).trans hb1⟩
    · have hcs : ∃ t, Wd.sg A B = t ∧ 0 ≤ t ∧ t ≤ 1 := by
        rcases Int.lt_or_le B A with h | h
        · exact ⟨1, Wd.sg_gt h, by decide, by decide⟩
        · exact ⟨0, Wd.sg_eq (by omega), by decide, by decide⟩
      obtain ⟨t, ht, ht0, ht1⟩ := hcs
      rw [ht] at HC
      have htd : decide (t < 0) = false := decide_eq_false (by omega)
      have e1 : ((sn sa A + sn sb B).natAbs : Int) = A - B := by subst hsb; cases sa <;> simp [sn] <;> omega
      have e2 : sn sa (A - B) = sn sa A + sn sb B := by subst hsb; cases sa <;> simp [sn] <;> omega
      rw [e1]
      have E2 := hide e2
      clear e1 e2 hs hsb ht ht0 ht1
      go_enter Tryd.func46, Tryd.ntmps46
      go_wp2_with fail
      refine (unhide HC).mono ?_
      rintro e w' ⟨rfl, k, hw'⟩
      subst hw'
      go_wp2_with fail
      refine (sub_any _ _ A B _ ((unhide HA).below (below_drewN w k)) ((unhide HB).below (below_drewN w k)) hA (by omega)).mono ?_
      rintro e w1 ⟨v1, rfl, hv1, hb1⟩
      go_wp2
      go_ret2
      exact ⟨_, _, rfl, hv1, unhide E2, (below_drewN w k).trans hb1⟩

/-- The int that a number with a sign is, if one can be it. -/
def asInt (s : Bool) (N : Int) : Int × Bool := if -9223372036854775808 ≤ sn s N ∧ sn s N ≤ 9223372036854775807 then (sn s N, true) else (0, false)

set_option maxHeartbeats 2000000 in
theorem f_any (x y : Int) (hx0 : -9223372036854775808 ≤ x) (hx1 : x ≤ 9223372036854775807) (hy0 : -9223372036854775808 ≤ y) (hy1 : y ≤ 9223372036854775807) (w : World) :
    Calls Tryd.prog 20 #[.agg #[.int .i64 x, .int .i64 y]] w fun e w' => ∃ v, e = .returned v ∧ RatIs w' v (Rat.divInt x (if y = 0 then 1 else y)) ∧ Below w.heap.size w w' := by
  by_cases hy : y = 0
  · subst hy
    rw [if_pos rfl]
    obtain ⟨W, hW⟩ : ∃ W, (w.alloc (.cells #[.int .i64 x, .int .i64 1] 46)).alloc (.cells #[.bool false, .slice none 0 0, .slice none 0 0] 36) = W := ⟨_, rfl⟩
    have hbW : Below w.heap.size w W := by rw [← hW]; exact ((Below.refl _ _).alloc (Nat.le_refl _) _).alloc (by simp) _
    have hbx : ∀ w1, Below W.heap.size W w1 → w1.heap[w.heap.size + 1]? = some (.cells #[.bool false, .slice none 0 0, .slice none 0 0] 36) ∧ w.heap.size + 1 < w1.heap.size := fun w1 h => by
      rw [← hW] at h
      have := box3 h
      simpa using this
    have HW := hide hW
    have HBX := hide hbx
    have HBW := hide hbW
    clear hW hbx hbW
    go_enter Tryd.func20, Tryd.ntmps20
    go_wp2_with fail
    rw [unhide HW]
    refine (of_any x 1 hx0 hx1 (by decide) (by decide) (by decide) W).mono ?_
    rintro e w1 ⟨v, rfl, hv, hb1⟩
    have HV := hide hv
    obtain ⟨ov, un, rfl, hov, hun⟩ := hv
    obtain ⟨a4, n4, c4, rfl, _, _⟩ := hov
    obtain ⟨a5, n5, c5, rfl, _, _⟩ := hun
    obtain ⟨s, hs⟩ : ∃ s, decide ((Rat.divInt x 1).num < 0) = s := ⟨_, rfl⟩
    rw [hs] at HV ⊢
    have ⟨hbx, hsz⟩ := unhide HBX _ hb1
    have ⟨c0, c1, c2, f0, f1, f2⟩ := box_cell hbx
    have HBX1 := hide hbx
    have HB1 := hide hb1
    clear hb1 hbx HBX
    go_wp2
    have ⟨r1, r2⟩ := rat_boxed (w0 := w) (unhide HV) (unhide HBX1) (below_step (unhide HBW) (unhide HB1)) (Nat.le_succ _) (Value.bool s) (Value.slice a4 n4 c4) (Value.slice a5 n5 c5)
    refine bodyPost_ret (v := .agg #[.bool s, .slice a4 n4 c4, .slice a5 n5 c5]) (by simp [results, Tryd.results20, go_sem, c0, c1, c2, hsz]) rfl ⟨_, rfl, r1.below (alloc_below _ _), below_step r2 (alloc_below _ _)⟩
  · rw [if_neg hy]
    have hz : (y == 0) = false := by rw [beq_eq_false_iff_ne]; exact hy
    obtain ⟨W, hW⟩ : ∃ W, (w.alloc (.cells #[.int .i64 x, .int .i64 y] 46)).alloc (.cells #[.bool false, .slice none 0 0, .slice none 0 0] 36) = W := ⟨_, rfl⟩
    have hbW : Below w.heap.size w W := by rw [← hW]; exact ((Below.refl _ _).alloc (Nat.le_refl _) _).alloc (by simp) _
    have hbx : ∀ w1, Below W.heap.size W w1 → w1.heap[w.heap.size + 1]? = some (.cells #[.bool false, .slice none 0 0, .slice none 0 0] 36) ∧ w.heap.size + 1 < w1.heap.size := fun w1 h => by
      rw [← hW] at h
      have := box3 h
      simpa using this
    have HW := hide hW
    have HBX := hide hbx
    have HBW := hide hbW
    clear hW hbx hbW
    go_enter Tryd.func20, Tryd.ntmps20
    go_wp2_with fail
    rw [unhide HW]
    refine (of_any x y hx0 hx1 hy0 hy1 hy W).mono ?_
    rintro e w1 ⟨v, rfl, hv, hb1⟩
    have HV := hide hv
    obtain ⟨ov, un, rfl, hov, hun⟩ := hv
    obtain ⟨a4, n4, c4, rfl, _, _⟩ := hov
    obtain ⟨a5, n5, c5, rfl, _, _⟩ := hun
    obtain ⟨s, hs⟩ : ∃ s, decide ((Rat.divInt x y).num < 0) = s := ⟨_, rfl⟩
    rw [hs] at HV ⊢
    have ⟨hbx, hsz⟩ := unhide HBX _ hb1
    have ⟨c0, c1, c2, f0, f1, f2⟩ := box_cell hbx
    have HBX1 := hide hbx
    have HB1 := hide hb1
    clear hb1 hbx HBX
    go_wp2
    have ⟨r1, r2⟩ := rat_boxed (w0 := w) (unhide HV) (unhide HBX1) (below_step (unhide HBW) (unhide HB1)) (Nat.le_succ _) (Value.bool s) (Value.slice a4 n4 c4) (Value.slice a5 n5 c5)
    refine bodyPost_ret (v := .agg #[.bool s, .slice a4 n4 c4, .slice a5 n5 c5]) (by simp [results, Tryd.results20, go_sem, c0, c1, c2, hsz]) rfl ⟨_, rfl, r1.below (alloc_below _ _), below_step r2 (alloc_below _ _)⟩
end Go.Proofs.YtdicbnchkfclaaaDoor
/- A fraction rounded down. -/
namespace Go.Proofs.YtdicbnchkfclaaaDoor
open Go.RowKit Go.Sort Go.Shelf

theorem one_box {w w' : World} {x0 x1 x2 : Value} {T : TypeId} (h : Below (w.alloc (.cells #[x0, x1, x2] T)).heap.size (w.alloc (.cells #[x0, x1, x2] T)) w') :
    w'.cell? ⟨w.heap.size, 0, none⟩ = some x0 ∧ w'.cell? ⟨w.heap.size, 1, none⟩ = some x1 ∧ w'.cell? ⟨w.heap.size, 2, none⟩ = some x2 := by
  have ⟨c0, c1, c2, _, _, _⟩ := box_cell (box3 h).1
  exact ⟨c0, c1, c2⟩

/-- What Floor answers. -/
def fits (z : Int) : Int × Bool := if -9223372036854775808 ≤ z ∧ z ≤ 9223372036854775807 then (z, true) else (0, false)

theorem floor_pos {z : Int} {d : Nat} (h : ¬ z < 0) : asInt false ((z.natAbs : Int) / d) = fits (z / d) := by
  unfold asInt fits sn
  rw [show (z.natAbs : Int) = z by omega]
  rfl
theorem floor_neg0 {z : Int} {d : Nat} (hd : d ≠ 0) (h : z < 0) (hr : (z.natAbs : Int) % d = 0) : asInt true ((z.natAbs : Int) / d) = fits (z / d) := by
  have e : sn true ((z.natAbs : Int) / d) = z / d := by
    have h1 := Int.mul_ediv_add_emod (z.natAbs : Int) d
    have h2 : z = (d : Int) * -((z.natAbs : Int) / d) := by rw [Int.mul_neg]; omega
    show -((z.natAbs : Int) / d) = z / d
    conv => rhs; rw [h2]
    rw [Int.mul_ediv_cancel_left _ (by omega)]
  unfold asInt fits
  rw [e]
theorem floor_neg1 {z : Int} {d : Nat} (hd : d ≠ 0) (h : z < 0) (hr : (z.natAbs : Int) % d ≠ 0) : asInt true ((z.natAbs : Int) / d + 1) = fits (z / d) := by
  have e : sn true ((z.natAbs : Int) / d + 1) = z / d := by
    have h1 := Int.mul_ediv_add_emod (z.natAbs : Int) d
    have r0 := Int.emod_nonneg (z.natAbs : Int) (b := d) (by omega)
    have r1 := Int.emod_lt_of_pos (z.natAbs : Int) (b := d) (by omega)
    generalize (z.natAbs : Int) / d = k at *
    generalize (z.natAbs : Int) % d = r at *
    show -(k + 1) = z / d
    have h2 : z = (d - r) + (d : Int) * -(k + 1) := by rw [Int.mul_neg, Int.mul_add]; omega
    rw [h2, Int.add_mul_ediv_left _ _ (by omega), Int.ediv_eq_zero_of_lt (by omega) (by omega)]
    omega
  unfold asInt fits
  rw [e]

end Go.Proofs.YtdicbnchkfclaaaDoor
