/- chance.raised, Moment and Over. -/
import Derived.Test.YtohkmkoklhnnlaaGreatDoorW68
namespace Go.Proofs.YtohkmkoklhnnlaaGreatDoor
open Go.RowKit Go.Sort Go.Shelf

theorem pow_le100 {x i : Nat} (hx : x ≤ 100) (hi : i ≤ 4) : x ^ i ≤ 100000000 := by
  have h1 : x ^ i ≤ 100 ^ i := Nat.pow_le_pow_left hx i
  have h2 : 100 ^ i ≤ 100 ^ 4 := Nat.pow_le_pow_right (by decide) hi
  have h3 : (100 : Nat) ^ 4 = 100000000 := by decide
  omega

theorem over1_any (x n : Nat) (pa : Addr) (hx : x ≤ 1000) (hn : n ≤ 1000) (w : World) (hc : w.cell? pa = some (.int .i64 (n : Int))) :
    Calls Tryz.prog 77 #[.int .i64 (x : Int), .pointer (some pa)] w fun e w' => e = .returned (.int .i64 (over n x)) ∧ Below w.heap.size w w' := by
  go_enter Tryz.func77, Tryz.ntmps77
  go_wp2
  go_ret
  exact ⟨rfl, Below.refl _ _⟩

theorem pow_I64 {x p : Nat} (hx : x ≤ 100) (hp : p ≤ 4) : I64 ((x ^ p : Nat) : Int) := by
  have := pow_le100 hx hp
  exact ⟨by omega, by omega⟩
theorem over_I64 {x n : Nat} (hx : x ≤ 1000) : I64 (over n x) := by unfold over; exact ⟨by omega, by omega⟩

theorem egOver (args : Array Value) (w : World) : (callFunc 77 args).run Tryz.prog w = .ok (.enter 77 args) w := by
  go_simp

def zAgg : Value := .agg #[.bool false, .slice none 0 0, .slice none 0 0]

theorem errV_zero : errV 0 = .nilIface := rfl
theorem errV_not {k : Int} (h : k ≠ 0) : errV k = .iface 50 (.int .i64 k) := by unfold errV; rw [if_neg h]

set_option maxHeartbeats 2000000 in
theorem over_err (v : Value) (qs : List Rat) (J p : Nat) (w : World) (h : LawIs w v qs) (hq : ∀ j, j < qs.length → RS qs[j]! J) (hJ : (qs.length * (J + 1) + 1 + J) + (qs.length * (J + 1) + 1 + J) + 1 ≤ KK) (hc : chk qs ≠ 0) :
    Calls Tryz.prog 59 #[v, .int .i64 (p : Int)] w fun e w' => e = .returned (.tuple #[zAgg, errV (chk qs)]) ∧ Below w.heap.size w w' := by
  obtain ⟨hb0, hX, hI, hI2⟩ := intBox_parts w (p : Int)
  have HC := hide (check_any v qs J _ (h.below hb0) hq hJ)
  rw [errV_not hc] at HC ⊢
  generalize chk qs = k at *
  have HB0 := hide hb0
  have HX := hide hX
  obtain ⟨W0, hW0⟩ : ∃ W, (w.alloc (.cells #[.int .i64 (p : Int)] 3)).alloc (.cells #[.bool false, .slice none 0 0, .slice none 0 0] 40) = W := ⟨_, rfl⟩
  obtain ⟨gr, hgr⟩ : ∃ g, w.heap.size + 1 = g := ⟨_, rfl⟩
  have hle : w.heap.size ≤ gr := by omega
  have hW0' : intBox w (p : Int) = W0 := hW0
  rw [hW0'] at HC HB0 HX
  rw [hgr] at HX
  have HLE := hide hle
  clear h hq hJ hc hb0 hX hI hI2 hW0' hle
  go_enter Tryz.func59, Tryz.ntmps59
  go_wp2_with fail
  clear hW0 hgr
  refine (unhide HC).mono ?_
  rintro e w2 ⟨rfl, hb2⟩
  have X2 := (unhide HX).keep hb2
  have ⟨g0, g1, g2, f0, f1, f2⟩ := box_cell X2.1
  have BEL := hide ((((below_step (unhide HB0) hb2).setCell (p := ⟨gr, 0, none⟩) (unhide HLE) (.bool false)).setCell (p := ⟨gr, 1, none⟩) (unhide HLE) (.slice none 0 0)).setCell (p := ⟨gr, 2, none⟩) (unhide HLE) (.slice none 0 0))
  clear X2 hb2
  go_wp2
  exact bodyPost_ret (v := .tuple #[zAgg, .iface 50 (.int .i64 k)]) (by simp [results, Tryz.results59, go_sem, g0, g1, g2, zAgg]) rfl ⟨rfl, unhide BEL⟩

set_option maxHeartbeats 2000000 in
theorem over_any (v : Value) (qs : List Rat) (J p : Nat) (w : World) (h : LawIs w v qs) (hq : ∀ j, j < qs.length → RS qs[j]! J) (hJ : 4 * (qs.length * (J + 2) + J + 10) ≤ KK) (hc : chk qs = 0) (hp : p ≤ 100) :
    Calls Tryz.prog 59 #[v, .int .i64 (p : Int)] w fun e w' => ∃ v, e = .returned (.tuple #[v, .nilIface]) ∧ RatIs w' v (wsum qs (over p) qs.length) ∧ Below w.heap.size w w' := by
  obtain ⟨hb0, hX, hI, hI2⟩ := intBox_parts w (p : Int)
  obtain ⟨c1, c2, _, _⟩ := chk_zero hc
  have HC := hide (check_any v qs J _ (h.below hb0) hq (by have e : qs.length * (J + 2) = qs.length * (J + 1) + qs.length := (Nat.mul_succ _ _); omega))
  rw [hc, errV_zero] at HC
  have HME : Hid (∀ W, Below (intBox w (p : Int)).heap.size (intBox w (p : Int)) W → Calls Tryz.prog 76 #[v, .func (.func 77) #[] #[.pointer (some ⟨w.heap.size, 0, none⟩)]] W fun e w' => ∃ v, e = .returned v ∧ RatIs w' v (wsum qs (over p) qs.length) ∧ Below W.heap.size W w') := fun W hW =>
    mean_any v qs J _ _ (over p) W (h.below (below_step hb0 hW)) hq hJ (fun j hj => over_I64 (by omega)) egOver (fun j hj W' hW' => over1_any j p _ (by omega) (by omega) W' (by rw [hW'.cell (p := ⟨w.heap.size, 0, none⟩) (Nat.lt_of_lt_of_le hI2 hW.size), hW.cell (p := ⟨w.heap.size, 0, none⟩) hI2]; exact hI))
  have HB0 := hide hb0
  have HX := hide hX
  have HI : Hid (∀ W, Below (intBox w (p : Int)).heap.size (intBox w (p : Int)) W → W.cell? ⟨w.heap.size, 0, none⟩ = some (.int .i64 (p : Int))) := fun W hW => by rw [hW.cell (p := ⟨w.heap.size, 0, none⟩) hI2]; exact hI
  obtain ⟨W0, hW0⟩ : ∃ W, (w.alloc (.cells #[.int .i64 (p : Int)] 3)).alloc (.cells #[.bool false, .slice none 0 0, .slice none 0 0] 40) = W := ⟨_, rfl⟩
  obtain ⟨gr, hgr⟩ : ∃ g, w.heap.size + 1 = g := ⟨_, rfl⟩
  have hle : w.heap.size ≤ gr := by omega
  have hW0' : intBox w (p : Int) = W0 := hW0
  rw [hW0'] at HC HB0 HX HME HI
  rw [hgr] at HX
  have HLE := hide hle
  have p1 : ¬ (p : Int) < 0 := by omega
  have p2 : ¬ (100 : Int) < (p : Int) := by omega
  clear h hq hJ hc hb0 hX hI hI2 hW0' hle c1 c2
  go_enter Tryz.func59, Tryz.ntmps59
  go_wp2_with fail
  clear hW0 hgr
  refine (unhide HC).mono ?_
  rintro e w2 ⟨rfl, hb2⟩
  have hc2 := unhide HI _ hb2
  have HX2 := hide ((unhide HX).keep hb2)
  have HB2 := hide (below_step (unhide HB0) hb2)
  have HM2 := hide (unhide HME _ hb2)
  clear hb2 HX HB0 HME HI HC
  go_wp2_with fail
  refine (unhide HM2).mono ?_
  rintro e w3 ⟨v3, rfl, hv3, hb3⟩
  obtain ⟨t, rfl, hr3⟩ := tri_of hv3
  have X3 := (unhide HX2).keep hb3
  have ⟨g0, g1, g2, f0, f1, f2⟩ := box_cell X3.1
  have rb := rat_boxed (w0 := w) hr3 X3.1 (below_step (unhide HB2) hb3) (unhide HLE) (.bool t.s) (.slice t.a1 t.n1 t.c1) (.slice t.a2 t.n2 t.c2)
  have RB := hide rb
  simp only [Tri.val]
  clear X3 rb hv3 hr3 hb3 hc2
  go_wp2
  have rb := unhide RB
  exact bodyPost_ret (v := .tuple #[.agg #[.bool t.s, .slice t.a1 t.n1 t.c1, .slice t.a2 t.n2 t.c2], .nilIface]) (by simp [results, Tryz.results59, go_sem, g0, g1, g2]) rfl ⟨_, rfl, rb.1, rb.2⟩

end Go.Proofs.YtohkmkoklhnnlaaGreatDoor
