/- The fact that the laws begin with: of two jobs the second one waits. -/
import Derived.Test.YtfebbjbobogkcaaP12
namespace Go.Proofs.Ytfebbjbobogkcaa
open Go.RowKit Go.Sort Sim

/-- The two jobs. -/
def two (i : Nat) : T3 := if i = 0 then (0, 5, 0) else (1, 2, 0)
theorem two_good : jcode 2 two = 0 := by decide
theorem two_waits : wt two 1 = 4 := by decide
theorem two_done : Done (qOf 2 two 6) 7 := by
  intro i hi
  have hi' : i < 2 := hi
  obtain rfl | rfl : i = 0 ∨ i = 1 := by omega
  · decide
  · decide
theorem two_ps {t : Nat} (h : Done (qOf 2 two 6) t) : pcsT (sim (qOf 2 two 6) t).ps = [(0, 0, 1), (1, 1, 3), (0, 3, 7)] := by
  rw [done_same h two_done]
  decide
theorem two_row {w w' : World} {T : TypeId} (h : Below (w.alloc (.cells #[.int .i64 0, .int .i64 5, .int .i64 0, .int .i64 1, .int .i64 2, .int .i64 0] T)).heap.size (w.alloc (.cells #[.int .i64 0, .int .i64 5, .int .i64 0, .int .i64 1, .int .i64 2, .int .i64 0] T)) w') : TRow w' (some ⟨w.heap.size, 0, none⟩) 2 2 two := by
  have hs := alloc_size w (.cells #[.int .i64 0, .int .i64 5, .int .i64 0, .int .i64 1, .int .i64 2, .int .i64 0] T)
  refine ⟨Nat.le_refl _, by decide, fun _ => ⟨w.heap.size, 0, rfl, by have := h.size; omega, fun j hj => ?_⟩⟩
  have c : ∀ i, w'.cell? ⟨w.heap.size, i, none⟩ = (#[Value.int .i64 0, .int .i64 5, .int .i64 0, .int .i64 1, .int .i64 2, .int .i64 0] : Array Value)[i]? := fun i => by
    rw [h.cell (p := ⟨w.heap.size, i, none⟩) (by show w.heap.size < _; omega)]
    simp only [World.cell?, heap_alloc_new]
    rfl
  simp only [c]
  obtain rfl | rfl : j = 0 ∨ j = 1 := by omega
  · exact ⟨rfl, rfl, rfl⟩
  · exact ⟨rfl, rfl, rfl⟩

set_option maxHeartbeats 4000000 in
theorem served_any (w : World) : Calls Try.prog 17 #[] w fun e w' => e = .returned (.bool true) ∧ Below w.heap.size w w' := by
  go_enter Try.func17, Try.ntmps17
  go_wp2_with fail
  refine (waits_any _ 2 2 two _ (two_row (Below.refl _ _)) two_good).mono ?_
  rintro e w1 ⟨G, rfl, hO, hb⟩
  have c1 := hO.cell (j := 1) (by decide)
  rw [two_waits] at c1
  have HB1 := hide (below_step (alloc_below _ _) hb)
  have hGl := hO.lt
  have HR : Hid (Calls Try.prog 15 #[.slice (some ⟨w1.heap.size, 0, none⟩) 2 2, .int .i64 6] (w1.alloc (.cells #[.int .i64 0, .int .i64 5, .int .i64 0, .int .i64 1, .int .i64 2, .int .i64 0] 46)) _) := run_any (some ⟨w1.heap.size, 0, none⟩) 2 2 two 6 _ (two_row (Below.refl _ _)) two_good (by decide) (by decide)
  have b2 := hide (alloc_below w1 (.cells #[.int .i64 0, .int .i64 5, .int .i64 0, .int .i64 1, .int .i64 2, .int .i64 0] 46))
  clear hb hO
  go_wp2_with fail
  refine (unhide HR).mono ?_
  rintro e w2 ⟨v, t, rfl, hd, ho, hb2⟩
  rw [two_ps hd] at ho
  obtain ⟨g, cap, rfl, h1, h2, _, _, _, hc⟩ := ho.form (by decide)
  have ⟨c20, _, _⟩ := hc 2 (by decide)
  have b12 := below_step (unhide b2) hb2
  rw [← b12.cell (p := ⟨G, 1, none⟩) hGl] at c1
  have FB := hide (below_step (unhide HB1) b12)
  have h1' : 3 ≤ cap := h1
  have c21 : w2.cell? ⟨g, 6, none⟩ = some (.int .i64 0) := c20
  clear hd ho hc HR b12 hb2 b2 HB1 h1 c20
  simp only [List.length_cons, List.length_nil]
  go_wp2_with fail
  go_ret
  exact ⟨rfl, unhide FB⟩
end Go.Proofs.Ytfebbjbobogkcaa
