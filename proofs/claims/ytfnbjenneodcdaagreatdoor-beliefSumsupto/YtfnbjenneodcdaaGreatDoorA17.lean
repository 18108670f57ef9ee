/- chance.Least. -/
import Derived.Test.YtfnbjenneodcdaaGreatDoorA16
import Derived.BigQuiet
namespace Go.Proofs.YtfnbjenneodcdaaGreatDoor
open Go.RowKit Go.Sort Go.Shelf

theorem sgl_neg {x y : Int} : Wd.sg x y < 0 ↔ x < y := by
  unfold Wd.sg
  split
  · simp [*]
  · split
    · simp [*]
    · constructor
      · intro h; omega
      · intro h; omega
theorem sgl_pos {x y : Int} : 0 < Wd.sg x y ↔ y < x := by
  unfold Wd.sg
  split
  · constructor
    · intro h; omega
    · intro h; omega
  · split
    · constructor
      · intro h; omega
      · intro h; omega
    · constructor
      · intro h; omega
      · intro h; omega

/-- Two boxes of fractions: what is asked for, and the sum so far. -/
structure LeastAt (w wr : World) (G : Nat) (tc t : Tri) (qc q : Rat) : Prop where
  ch : wr.heap[w.heap.size]? = some (.cells #[.bool tc.s, .slice tc.a1 tc.n1 tc.c1, .slice tc.a2 tc.n2 tc.c2] 26)
  all : wr.heap[G]? = some (.cells #[.bool t.s, .slice t.a1 t.n1 t.c1, .slice t.a2 t.n2 t.c2] 26)
  rc : RatIs wr tc.val qc
  rat : RatIs wr t.val q
  bl : Below w.heap.size w wr
  gl : w.heap.size < G

theorem LeastAt.keep {w wr w' : World} {G : Nat} {tc t : Tri} {qc q : Rat} (h : LeastAt w wr G tc t qc q) (hb : Below wr.heap.size wr w') : LeastAt w w' G tc t qc q := by
  have l1 := (Array.getElem?_eq_some_iff.1 h.ch).1
  have l2 := (Array.getElem?_eq_some_iff.1 h.all).1
  exact ⟨by rw [hb.block _ l1]; exact h.ch, by rw [hb.block _ l2]; exact h.all, h.rc.below hb, h.rat.below hb, below_step h.bl hb, h.gl⟩

theorem LeastAt.set {w wr : World} {G : Nat} {tc t t' : Tri} {qc q q' : Rat} (h : LeastAt w wr G tc t qc q) (hr : RatIs wr t'.val q') :
    LeastAt w (((wr.setCell ⟨G, 0, none⟩ (.bool t'.s)).setCell ⟨G, 1, none⟩ (.slice t'.a1 t'.n1 t'.c1)).setCell ⟨G, 2, none⟩ (.slice t'.a2 t'.n2 t'.c2)) G tc t' qc q' := by
  have rb := rat_boxed (w0 := w) hr h.all h.bl (Nat.le_of_lt h.gl) (.bool t'.s) (.slice t'.a1 t'.n1 t'.c1) (.slice t'.a2 t'.n2 t'.c2)
  have rc := rat_boxed (w0 := w) h.rc h.all h.bl (Nat.le_of_lt h.gl) (.bool t'.s) (.slice t'.a1 t'.n1 t'.c1) (.slice t'.a2 t'.n2 t'.c2)
  have ne : w.heap.size ≠ G := Nat.ne_of_lt h.gl
  refine ⟨?_, box_set h.all, rc.1, rb.1, rb.2, h.gl⟩
  rw [Below.heap_setCell _ _ _ _ ne, Below.heap_setCell _ _ _ _ ne, Below.heap_setCell _ _ _ _ ne]
  exact h.ch

theorem chk_zero {qs : List Rat} (h : chk qs = 0) : 0 < qs.length ∧ qs.length ≤ 101 ∧ (∀ j, j < qs.length → 0 ≤ qs[j]!.num) ∧ qsum qs qs.length = 1 := by
  unfold chk at h
  split at h
  · omega
  · rename_i h1
    split at h
    · omega
    · rename_i h2
      split at h
      · rename_i h3
        exact ⟨by omega, by omega, fun j hj => Int.not_lt.1 (fun hn => h2 ⟨j, hj, hn⟩), h3⟩
      · omega

/-- What Least says. -/
def LeastSays (qs : List Rat) (qc : Rat) (n k : Int) : Prop := (k = if chk qs ≠ 0 then chk qs else if qc.num ≤ 0 ∨ (qc.den : Int) < qc.num then 2 else 0) ∧ (k ≠ 0 → n = 0) ∧ (k = 0 → ∃ m : Nat, n = m ∧ m < qs.length ∧ qsum qs m < qc ∧ qc ≤ qsum qs (m + 1))

end Go.Proofs.YtfnbjenneodcdaaGreatDoor
/- chance.trimmed. -/
namespace Go.Proofs.YtfnbjenneodcdaaGreatDoor
open Go.RowKit Go.Sort Go.Shelf

/-- How many stay of the first n. -/
def tlen (qs : List Rat) : Nat → Nat
  | 0 => 0
  | 1 => 1
  | n + 2 => if qs[n + 1]!.num = 0 then tlen qs (n + 1) else n + 2
theorem tlen_le (qs : List Rat) : ∀ n, tlen qs n ≤ n
  | 0 => Nat.le_refl _
  | 1 => Nat.le_refl _
  | n + 2 => by
    unfold tlen
    split
    · exact Nat.le_trans (tlen_le qs (n + 1)) (by omega)
    · exact Nat.le_refl _

theorem LawIs.take {w : World} {a : Option Addr} {n c : Nat} {qs : List Rat} (h : LawIs w (.slice a n c) qs) (m : Nat) (hm : m ≤ qs.length) : LawIs w (.slice a m c) (qs.take m) := by
  obtain ⟨a', c', e, h1, h2, h3⟩ := h
  injection e with e1 e2 e3
  subst e1; subst e3
  have hl : (qs.take m).length = m := by rw [List.length_take]; omega
  refine ⟨a, c, by rw [hl], by rw [hl]; omega, h2, fun hp => ?_⟩
  rw [hl] at hp
  obtain ⟨b, o, ea, hb, hc⟩ := h3 (by omega)
  refine ⟨b, o, ea, hb, fun j hj => ?_⟩
  rw [hl] at hj
  have e : (qs.take m)[j]! = qs[j]! := by
    rw [List.getElem!_eq_getElem?_getD, List.getElem!_eq_getElem?_getD, List.getElem?_take_of_lt hj]
  rw [e]
  exact hc j (by omega)

end Go.Proofs.YtfnbjenneodcdaaGreatDoor
