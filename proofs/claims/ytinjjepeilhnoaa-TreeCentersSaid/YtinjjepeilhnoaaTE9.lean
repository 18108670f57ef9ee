/- Goldman's law: grown. -/
import Derived.Test.YtinjjepeilhnoaaTE6
namespace Go.Proofs.Ytinjjepeilhnoaa
open Go.RowKit Go.Sort Go.Shelf

set_option maxHeartbeats 1000000 in
theorem pick_any (a : Int) (n : Nat) (hn : 0 < n) (hn1 : n ≤ 1000) (w : World) :
    Calls Try.prog 10 #[.int .i64 a, .int .i64 (n : Int)] w fun e w' => ∃ k : Nat, e = .returned (.int .i64 (k : Int)) ∧ k < n ∧ w' = w := by
  have e1 : IntKind.u64.wrap (n : Int) = (n : Int) := by rw [IntKind.wrap_u64]; omega
  obtain ⟨x, hx⟩ : ∃ x, IntKind.u64.wrap a = x := ⟨_, rfl⟩
  have hx0 : 0 ≤ x := by rw [← hx, IntKind.wrap_u64]; omega
  have hx1 : x < 18446744073709551616 := by rw [← hx, IntKind.wrap_u64]; omega
  have hz : ((n : Int) == 0) = false := by rw [beq_eq_false_iff_ne]; omega
  have hm0 : 0 ≤ x % (n : Int) := Int.emod_nonneg _ (by omega)
  have hm1 : x % (n : Int) < (n : Int) := Int.emod_lt_of_pos _ (by omega)
  obtain ⟨k, hk⟩ : ∃ k : Nat, x % (n : Int) = (k : Int) := ⟨(x % (n : Int)).toNat, by omega⟩
  have hkn : k < n := by omega
  clear hm0 hm1
  go_enter Try.func10, Try.ntmps10
  go_wp2
  go_ret
  exact ⟨k, rfl, hkn, rfl⟩

def fG : Nat → T3 := fun j => if j = 0 then (0, 1, 2) else (1, 2, 3)
def sG : Nat → Nat → Bool := fun k v => if k = 0 then decide (v = 0) else decide (v = 2)
theorem goodG : GoodE 3 2 fG := by
  refine ⟨fun i hi => ?_, fun i hi => ?_, fun i hi => ?_⟩ <;>
    (match i, hi with
     | 0, _ => decide
     | 1, _ => decide)
theorem connG {R : Nat → Prop} (h : ∀ i, i < 2 → (R (eA fG i) ↔ R (eB fG i))) : (R 0 ↔ R 1) ∧ (R 1 ↔ R 2) := ⟨h 0 (by decide), h 1 (by decide)⟩
theorem treeG : GTree 3 2 fG sG := by
  refine ⟨by decide, by decide, rfl, goodG, ⟨goodG.lA, goodG.lB, fun R hR u v hu hv h => ?_, fun i j hi hj hne => ?_, fun i hi => ?_⟩⟩
  · obtain ⟨h1, h2⟩ := connG hR
    have h0 : R 0 := by
      match u, hu, h with
      | 0, _, h => exact h
      | 1, _, h => exact h1.2 h
      | 2, _, h => exact h1.2 (h2.2 h)
    match v, hv with
    | 0, _ => exact h0
    | 1, _ => exact h1.1 h0
    | 2, _ => exact h2.1 (h1.1 h0)
  · match i, j, hi, hj, hne with
    | 0, 1, _, _, _ => rfl
    | 1, 0, _, _, _ => rfl
    | 0, 0, _, _, hne => exact absurd rfl hne
    | 1, 1, _, _, hne => exact absurd rfl hne
  · match i, hi with
    | 0, _ => decide
    | 1, _ => decide
theorem cuG : Cu ((3 : Int)).toNat 2 fG true := ⟨fun _ R hR h0 v hv => treeG.tr.con R hR 0 v (by decide) hv h0, fun _ => rfl⟩
theorem pcodeG : pcode 3 2 fG true 3 (fun _ => 1) = 0 := by decide
theorem sumG : lst (sumT 3 2 fG sG (fun _ => 1)) (3 - 1) = (1, 5) := by decide
theorem sixG {w w2 : World} {T : TypeId} (h : Below (w.alloc (.cells #[.int .i64 0, .int .i64 1, .int .i64 2, .int .i64 1, .int .i64 2, .int .i64 3] T)).heap.size (w.alloc (.cells #[.int .i64 0, .int .i64 1, .int .i64 2, .int .i64 1, .int .i64 2, .int .i64 3] T)) w2) : TRow w2 (some ⟨w.heap.size, 0, none⟩) 2 2 fG := by
  have hs := alloc_size w (.cells #[.int .i64 0, .int .i64 1, .int .i64 2, .int .i64 1, .int .i64 2, .int .i64 3] T)
  refine ⟨Nat.le_refl _, by decide, fun _ => ⟨w.heap.size, 0, rfl, by have := h.size; omega, fun j hj => ?_⟩⟩
  match j, hj with
  | 0, _ =>
    rw [h.cell (p := ⟨w.heap.size, 0 + 0 * 3, none⟩) (by show w.heap.size < _; omega), h.cell (p := ⟨w.heap.size, 0 + 0 * 3 + 1, none⟩) (by show w.heap.size < _; omega), h.cell (p := ⟨w.heap.size, 0 + 0 * 3 + 2, none⟩) (by show w.heap.size < _; omega)]
    simp only [World.cell?, heap_alloc_new]
    exact ⟨rfl, rfl, rfl⟩
  | 1, _ =>
    rw [h.cell (p := ⟨w.heap.size, 0 + 1 * 3, none⟩) (by show w.heap.size < _; omega), h.cell (p := ⟨w.heap.size, 0 + 1 * 3 + 1, none⟩) (by show w.heap.size < _; omega), h.cell (p := ⟨w.heap.size, 0 + 1 * 3 + 2, none⟩) (by show w.heap.size < _; omega)]
    simp only [World.cell?, heap_alloc_new]
    exact ⟨rfl, rfl, rfl⟩
theorem onesG {w w2 : World} {T : TypeId} (h : Below (w.alloc (.cells #[.int .i64 1, .int .i64 1, .int .i64 1] T)).heap.size (w.alloc (.cells #[.int .i64 1, .int .i64 1, .int .i64 1] T)) w2) : IRow w2 (some ⟨w.heap.size, 0, none⟩) 3 3 (fun _ => 1) := by
  have ⟨c0, c1, c2⟩ := box3 (w := w) (x := .int .i64 1) (y := .int .i64 1) (z := .int .i64 1) (T := T) h
  have hs := alloc_size w (.cells #[.int .i64 1, .int .i64 1, .int .i64 1] T)
  refine ⟨Nat.le_refl _, by decide, fun _ => ⟨w.heap.size, 0, rfl, by have := h.size; omega, fun j hj => ?_⟩⟩
  match j, hj with
  | 0, _ => exact c0
  | 1, _ => exact c1
  | 2, _ => exact c2
set_option maxHeartbeats 4000000 in
set_option maxRecDepth 100000 in
theorem grown_any (w : World) : Calls Try.prog 9 #[] w fun e w' => e = .returned (.bool true) ∧ Below w.heap.size w w' := by
  have r0 := sixG (w := w) (T := 31) (Below.refl _ _)
  have b0 := alloc_below w (.cells #[.int .i64 0, .int .i64 1, .int .i64 2, .int .i64 1, .int .i64 2, .int .i64 3] 31)
  obtain ⟨W1, hW1⟩ : ∃ W, w.alloc (.cells #[.int .i64 0, .int .i64 1, .int .i64 2, .int .i64 1, .int .i64 2, .int .i64 3] 31) = W := ⟨_, rfl⟩
  rw [hW1] at r0 b0
  have r1 := onesG (w := W1) (T := 3) (Below.refl _ _)
  have b1 := alloc_below W1 (.cells #[.int .i64 1, .int .i64 1, .int .i64 1] 3)
  obtain ⟨W2, hW2⟩ : ∃ W, W1.alloc (.cells #[.int .i64 1, .int .i64 1, .int .i64 1] 3) = W := ⟨_, rfl⟩
  rw [hW2] at r1 b1
  have HM := hide (Middle_any 3 _ 2 2 fG _ 3 3 (fun _ => 1) true sG W2 ⟨by decide, by decide⟩ cuG (fun _ => treeG) (r0.below b1) r1 (by decide))
  have HB := hide (below_step b0 b1)
  clear r0 b0 r1 b1
  go_enter Try.func9, Try.ntmps9
  go_wp2_with fail
  refine (unhide HM).mono ?_
  rintro e w3 ⟨hb3, hp⟩
  rw [pcodeG, sumG] at hp
  rcases hp with ⟨h0, _⟩ | ⟨_, rfl⟩
  · exact absurd rfl h0
  have HB3 := hide (below_step (unhide HB) hb3)
  clear hb3 HM hW1 hW2
  go_wp2
  go_ret
  exact ⟨rfl, unhide HB3⟩
end Go.Proofs.Ytinjjepeilhnoaa
