/- A row of fractions of the call's own, made by make and written into. -/
import Derived.Test.YtcelbgleajpenaaGreatDoorA17
import Derived.Test.YtcelbgleajpenaaGreatDoorA12
import Derived.Test.YtcelbgleajpenaaGreatDoorA14
namespace Go.Proofs.YtcelbgleajpenaaGreatDoor
open Go.RowKit Go.Sort Go.Shelf

theorem tcells_set (us : List Tri) (j : Nat) (t : Tri) (hj : j < us.length) :
  tcells (us.set j t) = (((tcells us).set (j * 3) (.bool t.s)).set (j * 3 + 1) (.slice t.a1 t.n1 t.c1)).set (j * 3 + 2) (.slice t.a2 t.n2 t.c2) := by
 induction us generalizing j with
 | nil => simp at hj
 | cons u us ih =>
  have e : ∀ (u : Tri) us, tcells (u :: us) = .bool u.s :: .slice u.a1 u.n1 u.c1 :: .slice u.a2 u.n2 u.c2 :: tcells us := fun _ _ => rfl
  cases j with
  | zero => rw [List.set_cons_zero, e, e]; rfl
  | succ j =>
   have e1 : (j + 1) * 3 = j * 3 + 1 + 1 + 1 := by omega
   rw [List.set_cons_succ, e, e, ih j (by simpa using hj), e1]
   rfl

def zTri : Tri := ⟨false, none, none, 0, 0, 0, 0⟩

structure SumsAt (w wr : World) (g : Nat) (us : List Tri) (qs : List Rat) : Prop where
 row : wr.heap[g]? = some (.cells (tcells us).toArray 37)
 len : us.length = qs.length
 rat : ∀ j, j < us.length → RatIs wr (us[j]!).val qs[j]!
 bl : Below w.heap.size w wr
 gl : w.heap.size ≤ g

theorem SumsAt.keep {w wr w' : World} {g : Nat} {us : List Tri} {qs : List Rat} (h : SumsAt w wr g us qs) (hb : Below wr.heap.size wr w') : SumsAt w w' g us qs :=
 ⟨by rw [hb.block _ (Array.getElem?_eq_some_iff.1 h.row).1]; exact h.row, h.len, fun j hj => (h.rat j hj).below hb, below_step h.bl hb, h.gl⟩

theorem SumsAt.cells {w wr : World} {g : Nat} {us : List Tri} {qs : List Rat} (h : SumsAt w wr g us qs) (j : Nat) (hj : j < us.length) :
  (wr.cell? ⟨g, j * 3, none⟩ = some (.bool (us[j]!).s) ∧ wr.cell? ⟨g, j * 3 + 1, none⟩ = some (.slice (us[j]!).a1 (us[j]!).n1 (us[j]!).c1) ∧ wr.cell? ⟨g, j * 3 + 2, none⟩ = some (.slice (us[j]!).a2 (us[j]!).n2 (us[j]!).c2)) ∧
  wr.frozen? ⟨g, j * 3, none⟩ = false ∧ wr.frozen? ⟨g, j * 3 + 1, none⟩ = false ∧ wr.frozen? ⟨g, j * 3 + 2, none⟩ = false := by
 have ck : ∀ k, k < 3 → wr.cell? ⟨g, j * 3 + k, none⟩ = (us[j]!).cells[k]? := fun k hk => by
  simp only [World.cell?, h.row]
  have e := tcells_get us j k hj hk
  simpa using e
 refine ⟨⟨ck 0 (by decide), ck 1 (by decide), ck 2 (by decide)⟩, ?_, ?_, ?_⟩ <;> simp [World.frozen?, h.row]

theorem sums_wordless {w wr : World} {g : Nat} {us : List Tri} {qs : List Rat} (h : SumsAt w wr g us qs) : Wordless wr g := wordless_of h.row (fun u hu => tcells_notWord us u (by simpa using hu))

theorem sums_noWord {us : List Tri} {T : TypeId} {fr : Nat × Nat} : NoWord (.cells (tcells us).toArray T fr) := by
 intro cs T' fr' e j x
 injection e with e
 subst e
 intro hx
 obtain ⟨hlt, hx⟩ := Array.getElem?_eq_some_iff.1 hx
 have := tcells_notWord us (.int .u64 x) (by rw [← hx]; simp)
 exact this

theorem RatIs.rowed {w : World} {g : Nat} {us : List Tri} {v : Value} {q : Rat} {T : TypeId} (h : RatIs w v q) (hg : w.heap[g]? = some (.cells (tcells us).toArray T)) (i0 i1 i2 : Nat) (x0 x1 x2 : Value) :
  RatIs (((w.setCell ⟨g, i0, none⟩ x0).setCell ⟨g, i1, none⟩ x1).setCell ⟨g, i2, none⟩ x2) v q := by
 refine h.other hg sums_noWord (by simp [World.setCell]) (fun k hk => ?_)
 rw [Below.heap_setCell _ _ _ _ hk, Below.heap_setCell _ _ _ _ hk, Below.heap_setCell _ _ _ _ hk]

theorem row_set {w : World} {g : Nat} {us : List Tri} {T : TypeId} (h : w.heap[g]? = some (.cells (tcells us).toArray T)) (j : Nat) (hj : j < us.length) (t : Tri) :
  (((w.setCell ⟨g, j * 3, none⟩ (.bool t.s)).setCell ⟨g, j * 3 + 1, none⟩ (.slice t.a1 t.n1 t.c1)).setCell ⟨g, j * 3 + 2, none⟩ (.slice t.a2 t.n2 t.c2)).heap[g]? = some (.cells (tcells (us.set j t)).toArray T) := by
 rw [setCell_eq, setCell_eq, setCell_eq, tcells_set us j t hj]
 simp [mapBlock, Array.getElem?_modify, h, onCells]

theorem SumsAt.set {w wr : World} {g : Nat} {us : List Tri} {qs : List Rat} (h : SumsAt w wr g us qs) (j : Nat) (hj : j < us.length) (t : Tri) (q : Rat) (hr : RatIs wr t.val q) :
  SumsAt w (((wr.setCell ⟨g, j * 3, none⟩ (.bool t.s)).setCell ⟨g, j * 3 + 1, none⟩ (.slice t.a1 t.n1 t.c1)).setCell ⟨g, j * 3 + 2, none⟩ (.slice t.a2 t.n2 t.c2)) g (us.set j t) (qs.set j q) := by
 refine ⟨row_set h.row j hj t, by rw [List.length_set, List.length_set]; exact h.len, fun k hk => ?_, ((h.bl.setCell h.gl _).setCell h.gl _).setCell h.gl _, h.gl⟩
 rw [List.length_set] at hk
 have hl := h.len
 by_cases e : j = k
 ·subst e
  have e1 : (us.set j t)[j]! = t := by simp [hj]
  have e2 : (qs.set j q)[j]! = q := by simp [show j < qs.length by omega]
  rw [e1, e2]
  exact hr.rowed h.row _ _ _ _ _ _
 ·have e1 : (us.set j t)[k]! = us[k]! := by simp [e]
  have e2 : (qs.set j q)[k]! = qs[k]! := by simp [e]
  rw [e1, e2]
  exact (h.rat k hk).rowed h.row _ _ _ _ _ _

theorem SumsAt.law {w wr : World} {g : Nat} {us : List Tri} {qs : List Rat} (h : SumsAt w wr g us qs) (hc : us.length ≤ 9223372036854775807) : LawIs wr (.slice (some ⟨g, 0, none⟩) us.length us.length) qs := by
 have hl := h.len
 refine ⟨some ⟨g, 0, none⟩, us.length, by rw [hl], by omega, hc, fun hp => ⟨g, 0, rfl, (Array.getElem?_eq_some_iff.1 h.row).1, fun j hj => ?_⟩⟩
 obtain ⟨⟨c0, c1, c2⟩, _⟩ := h.cells j (by omega)
 exact ⟨_, _, _, _, _, _, _, by rw [Nat.zero_add]; exact c0, by rw [Nat.zero_add]; exact c1, by rw [Nat.zero_add]; exact c2, h.rat j (by omega)⟩
end Go.Proofs.YtcelbgleajpenaaGreatDoor
/- make of a row of fractions. -/
namespace Go.Proofs.YtcelbgleajpenaaGreatDoor
open Go.RowKit Go.Sort Go.Shelf

theorem zcells (n : Nat) : tcells (List.replicate n zTri) = (List.range (n * 3)).map (fun i => zR[i % 3]!) := by
 induction n with
 | zero => rfl
 | succ n ih =>
  rw [List.replicate_succ', tcells_append, ih, show (n + 1) * 3 = n * 3 + 3 by omega, List.range_add, List.map_append]
  congr 1
  simp only [List.map_map]
  have e : ∀ k, k < 3 → ((fun i => zR[i % 3]!) ∘ fun x => n * 3 + x) k = zR[k]! := fun k hk => by
   show zR[(n * 3 + k) % 3]! = _
   rw [Nat.mul_comm, Nat.mul_add_mod, Nat.mod_eq_of_lt hk]
  rw [show List.range 3 = [0, 1, 2] from rfl, List.map_cons, List.map_cons, List.map_cons, List.map_nil, e 0 (by decide), e 1 (by decide), e 2 (by decide)]
  rfl

theorem make_tri (k : Int) (h0 : 0 ≤ k) (h1 : k ≤ 1099511627776) (w : World) :
  (Instr.makeSlice 63 (.int .i64 k) (.int .i64 k)).run Tryz.prog w = .ok (.slice (some ⟨w.heap.size, 0, none⟩) k.toNat k.toNat) (w.alloc (.cells (tcells (List.replicate k.toNat zTri)).toArray 37)) := by
 obtain ⟨i, hi, hz0, hz1, hz2⟩ := info_parts Tryz.infoR
 have e : madeCells (Value.agg zR).cells (k.toNat * i.size) = (tcells (List.replicate k.toNat zTri)).toArray := by
  rw [hz1, zcells]
  have hzc : (Value.agg zR).cells = zR := by simp [Value.cells, zR]
  rw [hzc]
  generalize k.toNat * 3 = n
  apply Array.ext
  ·simp [madeCells]
  ·intro j h1 h2
   simp [madeCells, zR]
 rw [run_make w 63 37 i (.agg zR) Tryz.underlying63 hi hz0 .i64 .i64 k k h0 (Int.le_refl _) (by rw [hz2]; omega) (by omega), e]

theorem SumsAt.start (w w1 : World) (n : Nat) (hb : Below w.heap.size w w1) : SumsAt w (w1.alloc (.cells (tcells (List.replicate n zTri)).toArray 37)) w1.heap.size (List.replicate n zTri) (List.replicate n 0) := by
 refine ⟨heap_alloc_new w1 _, by rw [List.length_replicate, List.length_replicate], fun j hj => ?_, below_step hb (alloc_below w1 _), hb.size⟩
 rw [List.length_replicate] at hj
 have e1 : (List.replicate n zTri)[j]! = zTri := by simp [hj]
 have e2 : (List.replicate n (0 : Rat))[j]! = 0 := by simp [hj]
 rw [e1, e2]
 exact ⟨.slice none 0 0, .slice none 0 0, rfl, natIs_zero _ none 0 (by decide), natIs_zero _ none 0 (by decide)⟩
end Go.Proofs.YtcelbgleajpenaaGreatDoor
/- chance.Both. -/
namespace Go.Proofs.YtcelbgleajpenaaGreatDoor
open Go.RowKit Go.Sort Go.Shelf

end Go.Proofs.YtcelbgleajpenaaGreatDoor
/- The checker's coins. -/
namespace Go.Proofs.YtcelbgleajpenaaGreatDoor
open Go.RowKit Go.Sort Go.Shelf

end Go.Proofs.YtcelbgleajpenaaGreatDoor
