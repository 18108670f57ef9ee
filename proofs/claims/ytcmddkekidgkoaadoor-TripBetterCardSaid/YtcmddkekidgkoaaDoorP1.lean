/- Rows of three numbers each: jobs and pieces. -/
import Derived.Test.YtcmddkekidgkoaaDoorF0
import Derived.WalkKit
import Derived.WalkSpells
import Derived.WalkLawsBesides
import Derived.BigQuiet
import Derived.Deep.QuietTactic
import Derived.Deep.Draws
import Derived.Deep.Slices
import Derived.Deep.AppendLies
import Derived.Laws.CopyOwn
import Derived.Laws.MakeOwn
import Derived.Sort.Row
namespace Go.Proofs.YtcmddkekidgkoaaDoor
open Go.RowKit Go.Sort Go.ChangeShapes Go.WideShapes Go.ChangeAt Go.Joins

theorem hide {p : Prop} (h : p) : Hid p := h
theorem unhide {p : Prop} (h : Hid p) : p := h
theorem below_drewN (w : World) (k : Nat) : Below w.heap.size w (w.drewN k) := ⟨rfl, rfl, rfl, Nat.le_refl _, fun _ _ => rfl⟩
theorem drew_below (w : World) : Below w.heap.size w w.drew := (Below.refl _ _).drew
theorem below_step {w w1 w2 : World} (h : Below w.heap.size w w1) (k : Below w1.heap.size w1 w2) : Below w.heap.size w w2 := h.trans (k.mono h.size)
theorem alloc_below (w : World) (o : Obj) : Below w.heap.size w (w.alloc o) := (Below.refl _ _).alloc (Nat.le_refl _) _
theorem alloc_heap (w : World) (o : Obj) : (w.alloc o).heap = w.heap.push o := rfl
theorem alloc_size (w : World) (o : Obj) : (w.alloc o).heap.size = w.heap.size + 1 := by rw [alloc_heap, Array.size_push]
theorem info_parts {P : Program} {t : TypeId} {z : Option Value} {s b : Nat} (h : (P.info? t).map (fun i => (i.zero, i.size, i.bytes)) = some (z, s, b)) : ∃ i, P.info? t = some i ∧ i.zero = z ∧ i.size = s ∧ i.bytes = b := by
  cases hi : P.info? t with
  | none => rw [hi] at h; cases h
  | some i =>
    rw [hi] at h
    simp only [Option.map_some, Option.some.injEq, Prod.mk.injEq] at h
    exact ⟨i, rfl, h.1, h.2.1, h.2.2⟩
def I64 (x : Int) : Prop := -9223372036854775808 ≤ x ∧ x ≤ 9223372036854775807

/-- Three numbers. -/
abbrev T3 : Type := Int × Int × Int
def T3.cells (t : T3) : List Value := [.int .i64 t.1, .int .i64 t.2.1, .int .i64 t.2.2]

/-- A row of threes in memory: n of them, number j is f j. -/
def TRow (w : World) (a : Option Addr) (n c : Nat) (f : Nat → T3) : Prop :=
  n ≤ c ∧ c ≤ 9223372036854775807 ∧ (0 < n → ∃ b o, a = some ⟨b, o, none⟩ ∧ b < w.heap.size ∧ ∀ j, j < n → w.cell? ⟨b, o + j * 3, none⟩ = some (.int .i64 (f j).1) ∧ w.cell? ⟨b, o + j * 3 + 1, none⟩ = some (.int .i64 (f j).2.1) ∧ w.cell? ⟨b, o + j * 3 + 2, none⟩ = some (.int .i64 (f j).2.2))

theorem TRow.below {w w' : World} {a : Option Addr} {n c : Nat} {f : Nat → T3} (h : TRow w a n c f) (hb : Below w.heap.size w w') : TRow w' a n c f := by
  obtain ⟨h1, h2, h3⟩ := h
  refine ⟨h1, h2, fun hn => ?_⟩
  obtain ⟨b, o, e, hlt, hc⟩ := h3 hn
  refine ⟨b, o, e, Nat.lt_of_lt_of_le hlt hb.size, fun j hj => ?_⟩
  rw [hb.cell (p := ⟨b, o + j * 3, none⟩) hlt, hb.cell (p := ⟨b, o + j * 3 + 1, none⟩) hlt, hb.cell (p := ⟨b, o + j * 3 + 2, none⟩) hlt]
  exact hc j hj

/-- A row of ints in memory: n of them, number j is f j. -/
def IRow (w : World) (a : Option Addr) (n c : Nat) (f : Nat → Int) : Prop :=
  n ≤ c ∧ c ≤ 9223372036854775807 ∧ (0 < n → ∃ b o, a = some ⟨b, o, none⟩ ∧ b < w.heap.size ∧ ∀ j, j < n → w.cell? ⟨b, o + j, none⟩ = some (.int .i64 (f j)))

theorem IRow.below {w w' : World} {a : Option Addr} {n c : Nat} {f : Nat → Int} (h : IRow w a n c f) (hb : Below w.heap.size w w') : IRow w' a n c f := by
  obtain ⟨h1, h2, h3⟩ := h
  refine ⟨h1, h2, fun hn => ?_⟩
  obtain ⟨b, o, e, hlt, hc⟩ := h3 hn
  refine ⟨b, o, e, Nat.lt_of_lt_of_le hlt hb.size, fun j hj => ?_⟩
  rw [hb.cell (p := ⟨b, o + j, none⟩) hlt]
  exact hc j hj

/-- A box of three cells is kept. -/
theorem box3 {w w2 : World} {x y z : Value} {T : TypeId} (h : Below (w.alloc (.cells #[x, y, z] T)).heap.size (w.alloc (.cells #[x, y, z] T)) w2) :
    w2.cell? ⟨w.heap.size, 0, none⟩ = some x ∧ w2.cell? ⟨w.heap.size, 1, none⟩ = some y ∧ w2.cell? ⟨w.heap.size, 2, none⟩ = some z := by
  have hs := alloc_size w (.cells #[x, y, z] T)
  rw [h.cell (p := ⟨w.heap.size, 0, none⟩) (by show w.heap.size < _; omega), h.cell (p := ⟨w.heap.size, 1, none⟩) (by show w.heap.size < _; omega), h.cell (p := ⟨w.heap.size, 2, none⟩) (by show w.heap.size < _; omega)]
  simp only [World.cell?, heap_alloc_new]
  exact ⟨rfl, rfl, rfl⟩

section
variable {H : Type} {enc : TypeId × Value → H} {P : Program} {w : World} {base : Nat} {spare : Nat → Bool} {held : Bool}
theorem open_slice_threes {t e : TypeId} {f0 f1 f2 : Field} {fuel : Nat} {cs : List Value} {x : DataW H × List MemPlace} (ht : P.underlying t = some (.slice e)) (he : P.underlying e = some (.struct #[f0, f1, f2]))
    (ce : P.cellsOf e = 3) (o0 : f0.offset = 0) (o1 : f1.offset = 1) (o2 : f2.offset = 2) (c0 : P.cellsOf f0.type = 1) (c1 : P.cellsOf f1.type = 1) (c2 : P.cellsOf f2.type = 1)
    (h : DataW.trod enc P w base spare held fuel t cs = some x) :
    cs = [.slice none 0 0] ∨ ∃ (a : Addr) (len cap m n : Nat), cs = [.slice (some a) len cap] ∧ len ≤ cap ∧ cap ≤ maxLen ∧ m = (if spare a.block then cap else len) ∧
      ∀ i, i < m → ∃ V0 V1 V2 D0 D1 D2, w.cell? (a.add (i * 3)) = some V0 ∧ w.cell? (a.add (i * 3 + 1)) = some V1 ∧ w.cell? (a.add (i * 3 + 2)) = some V2 ∧
        DataW.trod enc P w base spare held n f0.type [V0] = some D0 ∧ DataW.trod enc P w base spare held n f1.type [V1] = some D1 ∧ DataW.trod enc P w base spare held n f2.type [V2] = some D2 := by
  rcases Deep.open_slice ht h with h0 | ⟨a, len, cap, m, n, D, Pl, rfl, hb, hl, hm, hmm, rfl, hx⟩
  · exact Or.inl h0.1
  refine Or.inr ⟨a, len, cap, m, n - 1, rfl, hl, hm, hmm, fun i hi => ?_⟩
  obtain ⟨cs', h1, h2⟩ := hx i hi
  rw [ce] at h1
  obtain ⟨_, hlen, hcell⟩ := World.cells?_some h1
  obtain ⟨xs, k, hk, hxy, _, hxl, hf⟩ := DataW.trod_struct he h2
  have hk' : k = n - 1 := by omega
  subst hk'
  match xs, hxl, cs', hlen with
  | [y0, y1, y2], _, [v0, v1, v2], _ =>
    have g0 := hf 0 f0 rfl
    have g1 := hf 1 f1 rfl
    have g2 := hf 2 f2 rfl
    simp [o0, o1, o2, c0, c1, c2] at g0 g1 g2
    have e0 := hcell 0 (by omega)
    have e1 := hcell 1 (by omega)
    have e2 := hcell 2 (by omega)
    rw [Go.Deep.add_add] at e0 e1 e2
    exact ⟨v0, v1, v2, y0, y1, y2, by simpa using e0, by simpa using e1, by simpa using e2, g0, g1, g2⟩
end

theorem Tryd.cellsI : Tryd.prog.cellsOf 3 = 1 := by kernel_rfl
/-- Threes in bounds. -/
def In64 (n : Nat) (f : Nat → T3) : Prop := ∀ j, j < n → I64 (f j).1 ∧ I64 (f j).2.1 ∧ I64 (f j).2.2

set_option maxRecDepth 100000 in
/-- A row of threes that came in. -/
theorem row_of_arg {H : Type} {enc : TypeId × Value → H} {W : World} {base : Nat} {v : Value} {d : DataW H} {p : List MemPlace} {tr te : TypeId} {f0 f1 f2 : Field} (hu : Tryd.prog.underlying tr = some (.slice te)) (he : Tryd.prog.underlying te = some (.struct #[f0, f1, f2])) (ce : Tryd.prog.cellsOf te = 3)
    (o0 : f0.offset = 0) (o1 : f1.offset = 1) (o2 : f2.offset = 2) (c0 : f0.type = 3) (c1 : f1.type = 3) (c2 : f2.type = 3)
    (hval : Value.okWide Tryd.prog W .any base tr v) (h : DataW.Trod enc Tryd.prog W 0 (fun _ => true) true tr v d p) : ∃ a n c f, v = .slice a n c ∧ TRow W a n c f ∧ In64 n f := by
  obtain ⟨a0, len, cap, rfl⟩ := okWide_slice hu hval
  obtain ⟨fuel, hf⟩ := h
  rcases open_slice_threes hu he ce o0 o1 o2 (by rw [c0]; exact Tryd.cellsI) (by rw [c1]; exact Tryd.cellsI) (by rw [c2]; exact Tryd.cellsI) hf with hcs | ⟨a, len', cap', m, n, hcs, hl, hm, hmm, hall⟩
  · have e : Value.slice a0 len cap = .slice none 0 0 := by simpa [Value.cells] using hcs
    injection e with e1 e2 e3
    subst e1 e2 e3
    exact ⟨none, 0, 0, fun _ => (0, 0, 0), rfl, ⟨Nat.le_refl _, by decide, fun h => absurd h (Nat.lt_irrefl _)⟩, fun j hj => absurd hj (Nat.not_lt_zero _)⟩
  · have e : Value.slice a0 len cap = .slice (some a) len' cap' := by simpa [Value.cells] using hcs
    injection e with e1 e2 e3
    subst e1 e2 e3
    simp only [if_true] at hmm
    have each : ∀ i, i < len → ∃ q : T3, W.cell? (a.add (i * 3)) = some (.int .i64 q.1) ∧ W.cell? (a.add (i * 3 + 1)) = some (.int .i64 q.2.1) ∧ W.cell? (a.add (i * 3 + 2)) = some (.int .i64 q.2.2) ∧ I64 q.1 ∧ I64 q.2.1 ∧ I64 q.2.2 := fun i hi => by
      obtain ⟨V0, V1, V2, D0, D1, D2, k0, k1, k2, t0, t1, t2⟩ := hall i (by omega)
      rw [c0] at t0
      rw [c1] at t1
      rw [c2] at t2
      obtain ⟨x, e0, ex, wx⟩ := DataW.trod_int Tryd.underlying3 t0
      obtain ⟨y, e1, ey, wy⟩ := DataW.trod_int Tryd.underlying3 t1
      obtain ⟨z, e2, ez, wz⟩ := DataW.trod_int Tryd.underlying3 t2
      simp at e0 e1 e2
      rw [e0] at k0
      rw [e1] at k1
      rw [e2] at k2
      exact ⟨(x, y, z), k0, k1, k2, bounds_i64 wx, bounds_i64 wy, bounds_i64 wz⟩
    obtain ⟨F, hF⟩ := Deep.choose_lt each
    refine ⟨some a, len, cap, F, rfl, ⟨by simpa using hl, by unfold maxLen at hm; exact hm, fun hp => ?_⟩, fun j hj => ⟨(hF j hj).2.2.2.1, (hF j hj).2.2.2.2⟩⟩
    obtain ⟨b, off, spot⟩ := a
    have hspot : spot = none := by simpa [Addr.add] using World.cell?_spot (hF 0 hp).1
    subst hspot
    refine ⟨b, off, rfl, World.block_lt_of_cell? W _ (hF 0 hp).1, fun j hj => ?_⟩
    have k0 := (hF j hj).1
    have k1 := (hF j hj).2.1
    have k2 := (hF j hj).2.2.1
    rw [Go.WideShapes.add_plain] at k0 k1 k2
    exact ⟨k0, k1, k2⟩
end Go.Proofs.YtcmddkekidgkoaaDoor
