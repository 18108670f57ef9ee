/- Fractions in boxes of the call's own. -/
import Derived.Test.YtcelbgleajpenaaGreatDoorA16
import Derived.Test.YtcelbgleajpenaaGreatDoorA18
import Derived.Test.YtcelbgleajpenaaGreatDoorA12
namespace Go.Proofs.YtcelbgleajpenaaGreatDoor
open Go.RowKit Go.Sort Go.Shelf

theorem heap_kept {W W' : World} {b : Nat} {o : Obj} (h : W.heap[b]? = some o) (hb : Below W.heap.size W W') : W'.heap[b]? = some o := by
 rw [hb.block _ (Array.getElem?_eq_some_iff.1 h).1]; exact h

theorem alloc_size (w : World) (o : Obj) : (w.alloc o).heap.size = w.heap.size + 1 := by rw [alloc_heap, Array.size_push]

def BoxIs (W : World) (b : Nat) (t : Tri) (q : Rat) : Prop := W.heap[b]? = some (.cells #[.bool t.s, .slice t.a1 t.n1 t.c1, .slice t.a2 t.n2 t.c2] 37) ∧ RatIs W t.val q

theorem BoxIs.keep {W W' : World} {b : Nat} {t : Tri} {q : Rat} (h : BoxIs W b t q) (hb : Below W.heap.size W W') : BoxIs W' b t q := ⟨heap_kept h.1 hb, h.2.below hb⟩
theorem BoxIs.new {w : World} {t : Tri} {q : Rat} (h : RatIs w t.val q) : BoxIs (w.alloc (.cells #[.bool t.s, .slice t.a1 t.n1 t.c1, .slice t.a2 t.n2 t.c2] 37)) w.heap.size t q :=
 ⟨heap_alloc_new w _, h.below (alloc_below w _)⟩
theorem BoxIs.cells {W : World} {b : Nat} {t : Tri} {q : Rat} (h : BoxIs W b t q) : ∀ W', Below W.heap.size W W' → W'.cell? ⟨b, 0, none⟩ = some (.bool t.s) ∧ W'.cell? ⟨b, 1, none⟩ = some (.slice t.a1 t.n1 t.c1) ∧ W'.cell? ⟨b, 2, none⟩ = some (.slice t.a2 t.n2 t.c2) := fun W' hb => by
 have ⟨k0, k1, k2, _, _, _⟩ := box_cell (heap_kept h.1 hb)
 exact ⟨k0, k1, k2⟩
theorem BoxIs.free {W : World} {b : Nat} {t : Tri} {q : Rat} (h : BoxIs W b t q) : W.frozen? ⟨b, 0, none⟩ = false ∧ W.frozen? ⟨b, 1, none⟩ = false ∧ W.frozen? ⟨b, 2, none⟩ = false := by
 have ⟨_, _, _, f0, f1, f2⟩ := box_cell h.1
 exact ⟨f0, f1, f2⟩
theorem BoxIs.lt {W : World} {b : Nat} {t : Tri} {q : Rat} (h : BoxIs W b t q) : b < W.heap.size := (Array.getElem?_eq_some_iff.1 h.1).1

theorem RatIs.boxSet {W : World} {b : Nat} {t : Tri} {q : Rat} {v : Value} {q' : Rat} (h : RatIs W v q') (hb : BoxIs W b t q) (x0 x1 x2 : Value) : RatIs (((W.setCell ⟨b, 0, none⟩ x0).setCell ⟨b, 1, none⟩ x1).setCell ⟨b, 2, none⟩ x2) v q' := by
 refine h.other hb.1 (noWord3 _ _ _ _ _ _ _ _ _) (by simp [World.setCell]) (fun k hk => ?_)
 rw [Below.heap_setCell _ _ _ _ hk, Below.heap_setCell _ _ _ _ hk, Below.heap_setCell _ _ _ _ hk]

theorem BoxIs.set {W : World} {b : Nat} {t t' : Tri} {q q' : Rat} (h : BoxIs W b t q) (hr : RatIs W t'.val q') : BoxIs (((W.setCell ⟨b, 0, none⟩ (.bool t'.s)).setCell ⟨b, 1, none⟩ (.slice t'.a1 t'.n1 t'.c1)).setCell ⟨b, 2, none⟩ (.slice t'.a2 t'.n2 t'.c2)) b t' q' :=
 ⟨box_set h.1, hr.boxSet h _ _ _⟩
theorem BoxIs.other {W : World} {b c : Nat} {t u : Tri} {q r : Rat} (h : BoxIs W b t q) (hc : BoxIs W c u r) (hne : b ≠ c) (x0 x1 x2 : Value) : BoxIs (((W.setCell ⟨c, 0, none⟩ x0).setCell ⟨c, 1, none⟩ x1).setCell ⟨c, 2, none⟩ x2) b t q :=
 ⟨by rw [Below.heap_setCell _ _ _ _ hne, Below.heap_setCell _ _ _ _ hne, Below.heap_setCell _ _ _ _ hne]; exact h.1, h.2.boxSet hc _ _ _⟩

end Go.Proofs.YtcelbgleajpenaaGreatDoor
