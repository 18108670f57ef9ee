/- A fraction rounded down. -/
import Derived.Test.YtjeddhknmoldcaaDoorW12
namespace Go.Proofs.YtjeddhknmoldcaaDoor
open Go.RowKit Go.Sort Go.Shelf

theorem one_box {w w' : World} {x0 x1 x2 : Value} {T : TypeId} (h : Below (w.alloc (.cells #[x0, x1, x2] T)).heap.size (w.alloc (.cells #[x0, x1, x2] T)) w') :
    w'.cell? ⟨w.heap.size, 0, none⟩ = some x0 ∧ w'.cell? ⟨w.heap.size, 1, none⟩ = some x1 ∧ w'.cell? ⟨w.heap.size, 2, none⟩ = some x2 := by
  have ⟨c0, c1, c2, _, _, _⟩ := box_cell (box3 h).1
  exact ⟨c0, c1, c2⟩

/-- What Floor answers. -/
def fits (z : Int) : Int × Bool := if -9223372036854775808 ≤ z ∧ z ≤ 9223372036854775807 then (z, true) else (0, false)

theorem floor_pos {z : Int} {d : Nat} (h : ¬ z < 0) : asInt false ((z.natAbs : Int) / d) = fits (z / d) := by
  unfold asInt fits sn
  rw [show (z.natAbs : Int) = z by omega]
  rfl
theorem floor_neg0 {z : Int} {d : Nat} (hd : d ≠ 0) (h : z < 0) (hr : (z.natAbs : Int) % d = 0) : asInt true ((z.natAbs : Int) / d) = fits (z / d) := by
  have e : sn true ((z.natAbs : Int) / d) = z / d := by
    have h1 := Int.mul_ediv_add_emod (z.natAbs : Int) d
    have h2 : z = (d : Int) * -((z.natAbs : Int) / d) := by rw [Int.mul_neg]; omega
    show -((z.natAbs : Int) / d) = z / d
    conv => rhs; rw [h2]
    rw [Int.mul_ediv_cancel_left _ (by omega)]
  unfold asInt fits
  rw [e]
theorem floor_neg1 {z : Int} {d : Nat} (hd : d ≠ 0) (h : z < 0) (hr : (z.natAbs : Int) % d ≠ 0) : asInt true ((z.natAbs : Int) / d + 1) = fits (z / d) := by
  have e : sn true ((z.natAbs : Int) / d + 1) = z / d := by
    have h1 := Int.mul_ediv_add_emod (z.natAbs : Int) d
    have r0 := Int.emod_nonneg (z.natAbs : Int) (b := d) (by omega)
    have r1 := Int.emod_lt_of_pos (z.natAbs : Int) (b := d) (by omega)
    generalize (z.natAbs : Int) / d = k at *
    generalize (z.natAbs : Int) % d = r at *
    show -(k + 1) = z / d
    have h2 : z = (d - r) + (d : Int) * -(k + 1) := by rw [Int.mul_neg, Int.mul_add]; omega
    rw [h2, Int.add_mul_ediv_left _ _ (by omega), Int.ediv_eq_zero_of_lt (by omega) (by omega)]
    omega
  unfold asInt fits
  rw [e]

set_option maxHeartbeats 4000000 in
set_option maxRecDepth 100000 in
theorem floor_small (v : Value) (q : Rat) (w : World) (h : RatIs w v q) (hs : Sm q.num.natAbs) (hs' : (q.num.natAbs : Int) < Wd.pw 8) (hd : (q.den : Int) < 18446744073709551616) :
    Calls Tryd.prog 9 #[v] w fun e w' => e = .returned (.tuple #[.int .i64 (fits (q.num / q.den)).1, .bool (fits (q.num / q.den)).2]) ∧ Below w.heap.size w w' := by
  have HA := hide h
  obtain ⟨ov, un, rfl, h1, h2⟩ := h
  have HNa := hide h1
  obtain ⟨a, n, c, rfl, _, _⟩ := h1
  obtain ⟨a2, n2, c2, rfl, _, _⟩ := h2
  obtain ⟨sa, hsa⟩ : ∃ s, decide (q.num < 0) = s := ⟨_, rfl⟩
  rw [hsa] at HA ⊢
  obtain ⟨W, hW⟩ : ∃ W, w.alloc (.cells #[.bool sa, .slice a n c, .slice a2 n2 c2] 27) = W := ⟨_, rfl⟩
  have hbW : Below w.heap.size w W := by rw [← hW]; exact (Below.refl _ _).alloc (Nat.le_refl _) _
  have S0 : ∀ w', Below W.heap.size W w' → (w'.cell? ⟨w.heap.size, 0, none⟩ = some (.bool sa) ∧ w'.cell? ⟨w.heap.size, 1, none⟩ = some (.slice a n c) ∧ w'.cell? ⟨w.heap.size, 2, none⟩ = some (.slice a2 n2 c2)) := fun w' h => by
    rw [← hW] at h
    exact one_box h
  have LA : ∀ w1, Below W.heap.size W w1 → Calls Tryd.prog 19 #[.agg #[.bool sa, .slice a n c, .slice a2 n2 c2]] w1 fun e w' => ∃ v, e = .returned v ∧ NatIs w' v q.den ∧ Below w1.heap.size w1 w' ∧ Below W.heap.size W w' := fun w1 h1 =>
    (lower_any _ q w1 (((unhide HA).below hbW).below h1)).mono (by rintro e w' ⟨v, rfl, hv, h⟩; exact ⟨v, rfl, hv, h, below_step h1 h⟩)
  have DA : ∀ w1 v, Below W.heap.size W w1 → NatIs w1 v q.den → Calls Tryd.prog 18 #[.slice a n c, v] w1 fun e w' => ∃ v1 v2, e = .returned (.tuple #[v1, v2]) ∧ NatIs w' v1 ((q.num.natAbs : Int) / q.den) ∧ NatIs w' v2 ((q.num.natAbs : Int) % q.den) ∧ Below w1.heap.size w1 w' ∧ Below W.heap.size W w' := fun w1 v h1 hv =>
    (divide_small _ _ _ _ w1 (((unhide HNa).below hbW).below h1) hv hs (by have := q.den_nz; omega) (Or.inr hd)).mono (by rintro e w' ⟨v1, v2, rfl, hv1, hv2, h⟩; exact ⟨v1, v2, rfl, hv1, hv2, h, below_step h1 h⟩)
  have HS0 := hide S0
  have HLA := hide LA
  have HDA := hide DA
  have hR := hide (Below.refl W.heap.size W)
  have HWE := hide hW
  have HBW := hide hbW
  clear hW hbW S0 LA DA
  have hdn := q.den_nz
  have hq0 : 0 ≤ (q.num.natAbs : Int) / q.den := Int.ediv_nonneg (by omega) (by omega)
  have hq1 : (q.num.natAbs : Int) / q.den ≤ q.num.natAbs := Int.ediv_le_self _ (by omega)
  go_enter Tryd.func9, Tryd.ntmps9
  go_wp2_with fail
  rw [unhide HWE]
  go_region_held3 (fun w' => (w'.cell? ⟨w.heap.size, 0, none⟩ = some (.bool sa) ∧ w'.cell? ⟨w.heap.size, 1, none⟩ = some (.slice a n c) ∧ w'.cell? ⟨w.heap.size, 2, none⟩ = some (.slice a2 n2 c2))) (first | exact unhide HS0 _ (unhide hR) | exact unhide HS0 _ (unhide hR).drew | exact unhide HS0 _ (by assumption))
    (first | (go_at_call 19; refine (unhide HLA _ ?_).mono ?_; (first | exact (unhide hR).drew | assumption); rintro e w3 ⟨v3, rfl, hv3, hr3, hb3⟩) | (go_at_call 18; refine (unhide HDA _ _ ?_ hv3).mono ?_; (first | exact (unhide hR).drew | assumption); rintro e w4 ⟨v4, v5, rfl, hv4, hv5, hr4, hb4⟩))
  have ⟨k0, k1, k2⟩ := unhide HS0 _ hb4
  have HV4 := hide hv4
  have HV5 := hide hv5
  obtain ⟨a4, n4, c4, rfl, _, _⟩ := hv4
  obtain ⟨a5, n5, c5, rfl, hl5, _⟩ := hv5
  have HB4 := hide (below_step (unhide HBW) hb4)
  clear hb4 hb3 hr3 hr4
  cases sa
  · have hn : ¬ q.num < 0 := of_decide_eq_false hsa
    have HF := hide (floor_pos (d := q.den) hn)
    clear hsa hn hl5
    go_wp2_with fail
    refine (number_any false _ _ _ (unhide HV4)).mono ?_
    rintro e w5 ⟨rfl, hw5⟩
    obtain rfl := hw5.symm
    go_wp2
    go_ret2
    rw [← unhide HF]
    exact ⟨rfl, unhide HB4⟩
  · have hn : q.num < 0 := of_decide_eq_true hsa
    by_cases hz : n5 = 0
    · subst hz
      have HF := hide (floor_neg0 hdn hn hl5.zero)
      clear hsa hn hl5
      go_wp2_with fail
      refine (number_any true _ _ _ (unhide HV4)).mono ?_
      rintro e w5 ⟨rfl, hw5⟩
      obtain rfl := hw5.symm
      go_wp2
      go_ret2
      rw [← unhide HF]
      exact ⟨rfl, unhide HB4⟩
    · have hp := hl5.pos (by omega)
      have HF := hide (floor_neg1 hdn hn (by omega))
      have hz' : 0 < n5 := by omega
      clear hsa hn hl5 hz hp
      go_wp2_with fail
      refine (one_any _).mono ?_
      rintro e w5 ⟨v5, rfl, hv5, hb5⟩
      have HV5' := hide hv5
      obtain ⟨a6, n6, c6, rfl, _, _⟩ := hv5
      have HV45 := hide ((unhide HV4).below hb5)
      have HB5 := hide (below_step (unhide HB4) hb5)
      have k0' : w5.cell? ⟨w.heap.size, 0, none⟩ = some (.bool true) := by rw [hb5.cell (p := ⟨w.heap.size, 0, none⟩) (World.block_lt_of_cell? _ _ k0)]; exact k0
      clear hb5
      go_wp2_with fail
      refine (add_any _ _ _ _ _ (unhide HV45) (unhide HV5') (sm_of (k := 8) (by omega) (by decide)) (sm_word (by decide))).mono ?_
      rintro e w7 ⟨v7, rfl, hv7, hb7⟩
      have k0'' : w7.cell? ⟨w.heap.size, 0, none⟩ = some (.bool true) := by rw [hb7.cell (p := ⟨w.heap.size, 0, none⟩) (World.block_lt_of_cell? _ _ k0')]; exact k0'
      have HV7 := hide hv7
      obtain ⟨a7, n7, c7, rfl, _, _⟩ := hv7
      have HB7 := hide (below_step (unhide HB5) hb7)
      clear hb7 k0 k1 k2 k0'
      go_wp2_with fail
      refine (number_any true _ _ _ (unhide HV7)).mono ?_
      rintro e w8 ⟨rfl, hw8⟩
      obtain rfl := hw8.symm
      go_wp2
      go_ret2
      rw [← unhide HF]
      exact ⟨rfl, unhide HB7⟩
end Go.Proofs.YtjeddhknmoldcaaDoor
