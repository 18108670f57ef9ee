/- Renewals: Left. -/
import Derived.Test.YtcelbgleajpenaaGreatDoorA16
import Derived.BigQuiet
import Derived.Test.YtcelbgleajpenaaGreatDoorA12
import Derived.Test.YtcelbgleajpenaaGreatDoorA14
import Derived.Test.YtcelbgleajpenaaGreatDoorM20
import Derived.Test.YtcelbgleajpenaaGreatDoorX2
import Derived.Test.YtcelbgleajpenaaGreatDoorA15
import Derived.Test.YtcelbgleajpenaaGreatDoorRows
import Derived.WalkKit
import Derived.WalkSpells
import Derived.WalkLawsBesides
import Derived.Test.YtcelbgleajpenaaGreatDoorA1
import Derived.Test.YtcelbgleajpenaaGreatDoorS0
import Derived.Test.YtcelbgleajpenaaGreatDoorB43
import Derived.Laws.CopyOwn
import Derived.Test.YtcelbgleajpenaaGreatDoorBI
import Derived.Test.YtcelbgleajpenaaGreatDoorM80
import Derived.Test.YtcelbgleajpenaaGreatDoorBG
import Derived.Test.YtcelbgleajpenaaGreatDoorB28
namespace Go.Proofs.YtcelbgleajpenaaGreatDoor
open Go.RowKit Go.Sort Go.Shelf

theorem chk_zero {qs : List Rat} (h : chk qs = 0) : 0 < qs.length ∧ qs.length ≤ 101 ∧ (∀ j, j < qs.length → 0 ≤ qs[j]!.num) ∧ qsum qs qs.length = 1 := by
  unfold chk at h
  split at h
  · omega
  · rename_i h1
    split at h
    · omega
    · rename_i h2
      split at h
      · rename_i h3
        exact ⟨by omega, by omega, fun j hj => Int.not_lt.1 (fun hn => h2 ⟨j, hj, hn⟩), h3⟩
      · omega

end Go.Proofs.YtcelbgleajpenaaGreatDoor
/- chance.trimmed. -/
namespace Go.Proofs.YtcelbgleajpenaaGreatDoor
open Go.RowKit Go.Sort Go.Shelf

/-- How many stay of the first n. -/
def tlen (qs : List Rat) : Nat → Nat
  | 0 => 0
  | 1 => 1
  | n + 2 => if qs[n + 1]!.num = 0 then tlen qs (n + 1) else n + 2
theorem tlen_le (qs : List Rat) : ∀ n, tlen qs n ≤ n
  | 0 => Nat.le_refl _
  | 1 => Nat.le_refl _
  | n + 2 => by
    unfold tlen
    split
    · exact Nat.le_trans (tlen_le qs (n + 1)) (by omega)
    · exact Nat.le_refl _

end Go.Proofs.YtcelbgleajpenaaGreatDoor
namespace Go.Proofs.YtcelbgleajpenaaGreatDoor
open Go.RowKit Go.Sort Go.Shelf

theorem tcells_set (us : List Tri) (j : Nat) (t : Tri) (hj : j < us.length) :
    tcells (us.set j t) = (((tcells us).set (j * 3) (.bool t.s)).set (j * 3 + 1) (.slice t.a1 t.n1 t.c1)).set (j * 3 + 2) (.slice t.a2 t.n2 t.c2) := by
  induction us generalizing j with
  | nil => simp at hj
  | cons u us ih =>
    have e : ∀ (u : Tri) us, tcells (u :: us) = .bool u.s :: .slice u.a1 u.n1 u.c1 :: .slice u.a2 u.n2 u.c2 :: tcells us := fun _ _ => rfl
    cases j with
    | zero => rw [List.set_cons_zero, e, e]; rfl
    | succ j =>
      have e1 : (j + 1) * 3 = j * 3 + 1 + 1 + 1 := by omega
      rw [List.set_cons_succ, e, e, ih j (by simpa using hj), e1]
      rfl

def zTri : Tri := ⟨false, none, none, 0, 0, 0, 0⟩

/-- A row of fractions in block g of the call's own. -/
structure SumsAt (w wr : World) (g : Nat) (us : List Tri) (qs : List Rat) : Prop where
  row : wr.heap[g]? = some (.cells (tcells us).toArray 37)
  len : us.length = qs.length
  rat : ∀ j, j < us.length → RatIs wr (us[j]!).val qs[j]!
  bl : Below w.heap.size w wr
  gl : w.heap.size ≤ g

theorem SumsAt.keep {w wr w' : World} {g : Nat} {us : List Tri} {qs : List Rat} (h : SumsAt w wr g us qs) (hb : Below wr.heap.size wr w') : SumsAt w w' g us qs :=
  ⟨by rw [hb.block _ (Array.getElem?_eq_some_iff.1 h.row).1]; exact h.row, h.len, fun j hj => (h.rat j hj).below hb, below_step h.bl hb, h.gl⟩

theorem SumsAt.cells {w wr : World} {g : Nat} {us : List Tri} {qs : List Rat} (h : SumsAt w wr g us qs) (j : Nat) (hj : j < us.length) :
    (wr.cell? ⟨g, j * 3, none⟩ = some (.bool (us[j]!).s) ∧ wr.cell? ⟨g, j * 3 + 1, none⟩ = some (.slice (us[j]!).a1 (us[j]!).n1 (us[j]!).c1) ∧ wr.cell? ⟨g, j * 3 + 2, none⟩ = some (.slice (us[j]!).a2 (us[j]!).n2 (us[j]!).c2)) ∧
    wr.frozen? ⟨g, j * 3, none⟩ = false ∧ wr.frozen? ⟨g, j * 3 + 1, none⟩ = false ∧ wr.frozen? ⟨g, j * 3 + 2, none⟩ = false := by
  have ck : ∀ k, k < 3 → wr.cell? ⟨g, j * 3 + k, none⟩ = (us[j]!).cells[k]? := fun k hk => by
    simp only [World.cell?, h.row]
    have e := tcells_get us j k hj hk
    simpa using e
  refine ⟨⟨ck 0 (by decide), ck 1 (by decide), ck 2 (by decide)⟩, ?_, ?_, ?_⟩ <;> simp [World.frozen?, h.row]

theorem sums_noWord {us : List Tri} {T : TypeId} {fr : Nat × Nat} : NoWord (.cells (tcells us).toArray T fr) := by
  intro cs T' fr' e j x
  injection e with e
  subst e
  intro hx
  obtain ⟨hlt, hx⟩ := Array.getElem?_eq_some_iff.1 hx
  have := tcells_notWord us (.int .u64 x) (by rw [← hx]; simp)
  exact this

theorem RatIs.rowed {w : World} {g : Nat} {us : List Tri} {v : Value} {q : Rat} {T : TypeId} (h : RatIs w v q) (hg : w.heap[g]? = some (.cells (tcells us).toArray T)) (i0 i1 i2 : Nat) (x0 x1 x2 : Value) :
    RatIs (((w.setCell ⟨g, i0, none⟩ x0).setCell ⟨g, i1, none⟩ x1).setCell ⟨g, i2, none⟩ x2) v q := by
  refine h.other hg sums_noWord (by simp [World.setCell]) (fun k hk => ?_)
  rw [Below.heap_setCell _ _ _ _ hk, Below.heap_setCell _ _ _ _ hk, Below.heap_setCell _ _ _ _ hk]

theorem row_set {w : World} {g : Nat} {us : List Tri} {T : TypeId} (h : w.heap[g]? = some (.cells (tcells us).toArray T)) (j : Nat) (hj : j < us.length) (t : Tri) :
    (((w.setCell ⟨g, j * 3, none⟩ (.bool t.s)).setCell ⟨g, j * 3 + 1, none⟩ (.slice t.a1 t.n1 t.c1)).setCell ⟨g, j * 3 + 2, none⟩ (.slice t.a2 t.n2 t.c2)).heap[g]? = some (.cells (tcells (us.set j t)).toArray T) := by
  rw [setCell_eq, setCell_eq, setCell_eq, tcells_set us j t hj]
  simp [mapBlock, Array.getElem?_modify, h, onCells]

theorem SumsAt.set {w wr : World} {g : Nat} {us : List Tri} {qs : List Rat} (h : SumsAt w wr g us qs) (j : Nat) (hj : j < us.length) (t : Tri) (q : Rat) (hr : RatIs wr t.val q) :
    SumsAt w (((wr.setCell ⟨g, j * 3, none⟩ (.bool t.s)).setCell ⟨g, j * 3 + 1, none⟩ (.slice t.a1 t.n1 t.c1)).setCell ⟨g, j * 3 + 2, none⟩ (.slice t.a2 t.n2 t.c2)) g (us.set j t) (qs.set j q) := by
  refine ⟨row_set h.row j hj t, by rw [List.length_set, List.length_set]; exact h.len, fun k hk => ?_, ((h.bl.setCell h.gl _).setCell h.gl _).setCell h.gl _, h.gl⟩
  rw [List.length_set] at hk
  have hl := h.len
  by_cases e : j = k
  · subst e
    have e1 : (us.set j t)[j]! = t := by simp [hj]
    have e2 : (qs.set j q)[j]! = q := by simp [show j < qs.length by omega]
    rw [e1, e2]
    exact hr.rowed h.row _ _ _ _ _ _
  · have e1 : (us.set j t)[k]! = us[k]! := by simp [e]
    have e2 : (qs.set j q)[k]! = qs[k]! := by simp [e]
    rw [e1, e2]
    exact (h.rat k hk).rowed h.row _ _ _ _ _ _

/-- A whole row is a law. -/
theorem SumsAt.law {w wr : World} {g : Nat} {us : List Tri} {qs : List Rat} (h : SumsAt w wr g us qs) (hc : us.length ≤ 9223372036854775807) : LawIs wr (.slice (some ⟨g, 0, none⟩) us.length us.length) qs := by
  have hl := h.len
  refine ⟨some ⟨g, 0, none⟩, us.length, by rw [hl], by omega, hc, fun hp => ⟨g, 0, rfl, (Array.getElem?_eq_some_iff.1 h.row).1, fun j hj => ?_⟩⟩
  obtain ⟨⟨c0, c1, c2⟩, _⟩ := h.cells j (by omega)
  exact ⟨_, _, _, _, _, _, _, by rw [Nat.zero_add]; exact c0, by rw [Nat.zero_add]; exact c1, by rw [Nat.zero_add]; exact c2, h.rat j (by omega)⟩
end Go.Proofs.YtcelbgleajpenaaGreatDoor
/- make of a row of fractions. -/
namespace Go.Proofs.YtcelbgleajpenaaGreatDoor
open Go.RowKit Go.Sort Go.Shelf

theorem zcells (n : Nat) : tcells (List.replicate n zTri) = (List.range (n * 3)).map (fun i => zR[i % 3]!) := by
  induction n with
  | zero => rfl
  | succ n ih =>
    rw [List.replicate_succ', tcells_append, ih, show (n + 1) * 3 = n * 3 + 3 by omega, List.range_add, List.map_append]
    congr 1
    simp only [List.map_map]
    have e : ∀ k, k < 3 → ((fun i => zR[i % 3]!) ∘ fun x => n * 3 + x) k = zR[k]! := fun k hk => by
      show zR[(n * 3 + k) % 3]! = _
      rw [Nat.mul_comm, Nat.mul_add_mod, Nat.mod_eq_of_lt hk]
    rw [show List.range 3 = [0, 1, 2] from rfl, List.map_cons, List.map_cons, List.map_cons, List.map_nil, e 0 (by decide), e 1 (by decide), e 2 (by decide)]
    rfl

theorem SumsAt.start (w w1 : World) (n : Nat) (hb : Below w.heap.size w w1) : SumsAt w (w1.alloc (.cells (tcells (List.replicate n zTri)).toArray 37)) w1.heap.size (List.replicate n zTri) (List.replicate n 0) := by
  refine ⟨heap_alloc_new w1 _, by rw [List.length_replicate, List.length_replicate], fun j hj => ?_, below_step hb (alloc_below w1 _), hb.size⟩
  rw [List.length_replicate] at hj
  have e1 : (List.replicate n zTri)[j]! = zTri := by simp [hj]
  have e2 : (List.replicate n (0 : Rat))[j]! = 0 := by simp [hj]
  rw [e1, e2]
  exact ⟨.slice none 0 0, .slice none 0 0, rfl, natIs_zero _ none 0 (by decide), natIs_zero _ none 0 (by decide)⟩
end Go.Proofs.YtcelbgleajpenaaGreatDoor
/- chance.Both. -/
namespace Go.Proofs.YtcelbgleajpenaaGreatDoor
open Go.RowKit Go.Sort Go.Shelf

end Go.Proofs.YtcelbgleajpenaaGreatDoor
/- The checker's coins. -/
namespace Go.Proofs.YtcelbgleajpenaaGreatDoor
open Go.RowKit Go.Sort Go.Shelf

end Go.Proofs.YtcelbgleajpenaaGreatDoor
namespace Go.Proofs.YtcelbgleajpenaaGreatDoor
open Go.RowKit Go.Sort Go.Shelf

theorem heap_kept {W W' : World} {b : Nat} {o : Obj} (h : W.heap[b]? = some o) (hb : Below W.heap.size W W') : W'.heap[b]? = some o := by
  rw [hb.block _ (Array.getElem?_eq_some_iff.1 h).1]; exact h

/-- Block b holds the fraction q, written t. -/
def BoxIs (W : World) (b : Nat) (t : Tri) (q : Rat) : Prop := W.heap[b]? = some (.cells #[.bool t.s, .slice t.a1 t.n1 t.c1, .slice t.a2 t.n2 t.c2] 37) ∧ RatIs W t.val q

theorem BoxIs.new {w : World} {t : Tri} {q : Rat} (h : RatIs w t.val q) : BoxIs (w.alloc (.cells #[.bool t.s, .slice t.a1 t.n1 t.c1, .slice t.a2 t.n2 t.c2] 37)) w.heap.size t q :=
  ⟨heap_alloc_new w _, h.below (alloc_below w _)⟩
/-- The cells, in a world that has grown. -/
theorem BoxIs.cells {W : World} {b : Nat} {t : Tri} {q : Rat} (h : BoxIs W b t q) : ∀ W', Below W.heap.size W W' → W'.cell? ⟨b, 0, none⟩ = some (.bool t.s) ∧ W'.cell? ⟨b, 1, none⟩ = some (.slice t.a1 t.n1 t.c1) ∧ W'.cell? ⟨b, 2, none⟩ = some (.slice t.a2 t.n2 t.c2) := fun W' hb => by
  have ⟨k0, k1, k2, _, _, _⟩ := box_cell (heap_kept h.1 hb)
  exact ⟨k0, k1, k2⟩
end Go.Proofs.YtcelbgleajpenaaGreatDoor
namespace Go.Proofs.YtcelbgleajpenaaGreatDoor
open Go.RowKit Go.Sort Go.Shelf

/-- The first k of a row of N are said, the others 0. -/
def fill (f : Nat → Rat) (N k : Nat) : List Rat := (List.range N).map fun i => if i < k then f i else 0
theorem fill_length (f : Nat → Rat) (N k : Nat) : (fill f N k).length = N := by simp [fill]
theorem fill_zero (f : Nat → Rat) (N : Nat) : List.replicate N 0 = fill f N 0 := by
  apply List.ext_getElem?
  intro i
  unfold fill
  by_cases h : i < N <;> simp [h]
theorem fill_get {f : Nat → Rat} {N k i : Nat} (h : i < k) (hN : i < N) : (fill f N k)[i]! = f i := by simp [fill, h, hN]
theorem fill_none {f : Nat → Rat} {N k i : Nat} (h : k ≤ i) (hN : i < N) : (fill f N k)[i]! = 0 := by
  have : ¬ i < k := by omega
  simp [fill, this, hN]
theorem fill_set (f : Nat → Rat) (N k : Nat) : (fill f N k).set k (f k) = fill f N (k + 1) := by
  apply List.ext_getElem?
  intro i
  unfold fill
  rw [List.getElem?_set]
  by_cases h : k = i
  · subst h
    by_cases hk : k < N <;> simp [hk]
  · by_cases hi : i < N
    · have e : (i < k + 1) = (i < k) := by apply propext; omega
      simp [h, hi, e]
    · simp [h, hi]
/-- A row that is said wholly. -/
def row (f : Nat → Rat) (N : Nat) : List Rat := fill f N N
theorem row_length (f : Nat → Rat) (N : Nat) : (row f N).length = N := fill_length _ _ _
theorem row_get {f : Nat → Rat} {N i : Nat} (h : i < N) : (row f N)[i]! = f i := fill_get h h
theorem row_eq {qs : List Rat} {f : Nat → Rat} {N : Nat} (hl : qs.length = N) (h : ∀ i, i < N → qs[i]! = f i) : qs = row f N := by
  apply List.ext_getElem?
  intro i
  by_cases hi : i < N
  · have a := h i hi
    rw [← row_get (f := f) hi] at a
    rw [List.getElem!_eq_getElem?_getD, List.getElem!_eq_getElem?_getD] at a
    have h1 : i < qs.length := by omega
    have h2 : i < (row f N).length := by rw [row_length]; exact hi
    rw [List.getElem?_eq_getElem h1, List.getElem?_eq_getElem h2] at a ⊢
    simpa using a
  · rw [List.getElem?_eq_none (by omega), List.getElem?_eq_none (by rw [row_length]; omega)]
theorem row_congr {f g : Nat → Rat} {N : Nat} (h : ∀ i, i < N → f i = g i) : row f N = row g N := row_eq (row_length f N) (fun i hi => by rw [row_get hi, h i hi])
theorem make_ratios (k : Int) (h0 : 0 ≤ k) (h1 : k ≤ 1099511627776) (w : World) :
    (Instr.makeSlice 42 (.int .i64 k) (.int .i64 k)).run Tryz.prog w = .ok (.slice (some ⟨w.heap.size, 0, none⟩) k.toNat k.toNat) (w.alloc (.cells (tcells (List.replicate k.toNat zTri)).toArray 37)) := by
  obtain ⟨i, hi, hz0, hz1, hz2⟩ := info_parts Tryz.infoR
  have e : madeCells (Value.agg zR).cells (k.toNat * i.size) = (tcells (List.replicate k.toNat zTri)).toArray := by
    rw [hz1, zcells]
    have hzc : (Value.agg zR).cells = zR := by simp [Value.cells, zR]
    rw [hzc]
    generalize k.toNat * 3 = n
    apply Array.ext
    · simp [madeCells]
    · intro j h1 h2
      simp [madeCells, zR]
  rw [run_make w 42 37 i (.agg zR) Tryz.underlying42 hi hz0 .i64 .i64 k k h0 (Int.le_refl _) (by rw [hz2]; omega) (by omega), e]

end Go.Proofs.YtcelbgleajpenaaGreatDoor
namespace Go.Proofs.YtcelbgleajpenaaGreatDoor
open Go.RowKit Go.Sort Go.Shelf

theorem one_RS' : RS (1 : Rat) 1 := by
  refine ⟨?_, ?_⟩ <;> (show (1 : Int) < Wd.pw 1; decide)
end Go.Proofs.YtcelbgleajpenaaGreatDoor
namespace Go.Proofs.YtcelbgleajpenaaGreatDoor
open Go.RowKit Go.Sort Go.Shelf

theorem pqs_get {l : List (Int × Int)} {t : Nat} (h : t < l.length) : (pqs l)[t]! = pq l[t]! := by simp [pqs, h]
theorem pqs_RS {w : World} {v : Value} {qs : List (Int × Int)} (h : PairsAre w v qs) (t : Nat) (ht : t < (pqs qs).length) : RS (pqs qs)[t]! 1 := by
  rw [pqs_length] at ht
  obtain ⟨_, _, _, _, _, h6, _⟩ := h
  rw [pqs_get ht]
  exact pq_RS (h6 t ht).1 (h6 t ht).2
end Go.Proofs.YtcelbgleajpenaaGreatDoor
namespace Go.Proofs.YtcelbgleajpenaaGreatDoor
open Go.RowKit Go.Sort Go.Shelf

end Go.Proofs.YtcelbgleajpenaaGreatDoor
/- chance.raised, Moment and Over. -/
namespace Go.Proofs.YtcelbgleajpenaaGreatDoor
open Go.RowKit Go.Sort Go.Shelf

theorem errV_zero : errV 0 = .nilIface := rfl
theorem errV_not {k : Int} (h : k ≠ 0) : errV k = .iface 27 (.int .i64 k) := by unfold errV; rw [if_neg h]

end Go.Proofs.YtcelbgleajpenaaGreatDoor
namespace Go.Proofs.YtcelbgleajpenaaGreatDoor
open Go.RowKit Go.Sort Go.Shelf

theorem tlen_pos' (qs : List Rat) : ∀ {n}, 0 < n → 0 < tlen qs n
  | 0, h => absurd h (by decide)
  | 1, _ => Nat.one_pos
  | n + 2, _ => by
    unfold tlen
    split
    · exact tlen_pos' qs (by omega)
    · omega
end Go.Proofs.YtcelbgleajpenaaGreatDoor
namespace Go.Proofs.YtcelbgleajpenaaGreatDoor
open Go.RowKit Go.Sort Go.Shelf

theorem RS_int {x : Int} (h : I64 x) : RS (x : Rat) 1 := by
  refine ⟨?_, ?_⟩
  · rw [Rat.num_intCast, Wd.pw_one]; have := h.1; have := h.2; omega
  · rw [Rat.den_intCast]; decide
end Go.Proofs.YtcelbgleajpenaaGreatDoor
namespace Go.Proofs.YtcelbgleajpenaaGreatDoor
open Go.RowKit Go.Sort Go.Shelf

theorem SumsAt.rebase {w w1 wr : World} {g : Nat} {us : List Tri} {qs : List Rat} (h : SumsAt w1 wr g us qs) (hb : Below w.heap.size w w1) : SumsAt w wr g us qs :=
  ⟨h.row, h.len, h.rat, below_step hb h.bl, Nat.le_trans hb.size h.gl⟩
theorem row_setq {f g : Nat → Rat} {n j : Nat} {v : Rat} (hj : j < n) (h1 : g j = v) (h2 : ∀ i, i < n → i ≠ j → g i = f i) : (row f n).set j v = row g n := by
  refine row_eq (by rw [List.length_set, row_length]) (fun i hi => ?_)
  rw [List.getElem!_eq_getElem?_getD, List.getElem?_set]
  by_cases e : j = i
  · subst e
    rw [if_pos rfl, if_pos (by rw [row_length]; exact hj)]
    exact h1.symm
  · rw [if_neg e, ← List.getElem!_eq_getElem?_getD, row_get hi]
    exact (h2 i hi (Ne.symm e)).symm
/-- The row's numbers as a function: 0 behind its end. -/
def xq (qs : List Rat) (i : Nat) : Rat := qs[i]!
theorem xq_out {qs : List Rat} {i : Nat} (h : qs.length ≤ i) : xq qs i = 0 := by
  show qs[i]! = 0
  rw [List.getElem!_eq_getElem?_getD, List.getElem?_eq_none h]; rfl
theorem qsum_xq (qs : List Rat) : ∀ k, qsum qs k = Bth.ps (xq qs) k
  | 0 => rfl
  | k + 1 => by show qsum qs k + qs[k]! = _; rw [qsum_xq qs k]; rfl
theorem tlen_zero' (qs : List Rat) : ∀ n j, tlen qs n ≤ j → j < n → qs[j]! = 0
  | 0, _, _, h => absurd h (Nat.not_lt_zero _)
  | 1, j, h, h' => by unfold tlen at h; omega
  | n + 2, j, h, h' => by
    unfold tlen at h
    split at h
    · rename_i hz
      rcases Nat.lt_or_ge j (n + 1) with h1 | h1
      · exact tlen_zero' qs (n + 1) j h h1
      · obtain rfl : j = n + 1 := by omega
        exact Rat.num_eq_zero.1 hz
    · omega
/-- What renew's check says: as Check, and 11 where one may fail at 0. -/
def rnc (qs : List Rat) : Int := if chk qs = 0 then (if 0 < (xq qs 0).num then 11 else 0) else chk qs
theorem rnc_zero {qs : List Rat} (h : rnc qs = 0) : chk qs = 0 ∧ xq qs 0 = 0 := by
  unfold rnc at h
  by_cases hc : chk qs = 0
  · rw [if_pos hc] at h
    refine ⟨hc, ?_⟩
    by_cases h0 : 0 < (xq qs 0).num
    · rw [if_pos h0] at h; exact absurd h (by decide)
    · obtain ⟨a, _, c, _⟩ := chk_zero hc
      have := c 0 a
      exact Rat.num_eq_zero.1 (by show (qs[0]!).num = 0; have h0' : ¬ 0 < (qs[0]!).num := h0; omega)
  · rw [if_neg hc] at h; exact absurd h hc
/-- The greatest age. -/
def gst (qs : List Rat) : Nat := tlen qs qs.length - 1
theorem rnc_age {qs : List Rat} (h : rnc qs = 0) : Rnw.Age (xq qs) (gst qs) ∧ gst qs + 1 = tlen qs qs.length ∧ gst qs + 1 ≤ qs.length ∧ qs.length ≤ 101 := by
  obtain ⟨hc, h0⟩ := rnc_zero h
  obtain ⟨a, b, c, d⟩ := chk_zero hc
  have t1 := tlen_pos' qs a
  have t2 := tlen_le qs qs.length
  have e : gst qs + 1 = tlen qs qs.length := by unfold gst; omega
  have hout : ∀ j, gst qs < j → xq qs j = 0 := fun j hj => by
    rcases Nat.lt_or_ge j qs.length with h1 | h1
    · exact tlen_zero' qs qs.length j (by omega) h1
    · exact xq_out h1
  refine ⟨⟨h0, fun j => ?_, ?_, hout⟩, e, by omega, b⟩
  · rcases Nat.lt_or_ge j qs.length with h1 | h1
    · exact Rat.num_nonneg.1 (c j h1)
    · rw [xq_out h1]; exact Rat.le_refl
  · rw [← Rnw.ps_cut (xq qs) (gst qs + 1) qs.length (by omega) (fun j p _ => hout j (by omega)), ← qsum_xq]; exact d
theorem LawIs.parts {w : World} {a : Option Addr} {n c : Nat} {qs : List Rat} (h : LawIs w (.slice a n c) qs) : qs.length = n ∧ n ≤ c ∧ c ≤ 9223372036854775807 ∧ (0 < n → ∃ b o, a = some ⟨b, o, none⟩ ∧ b < w.heap.size ∧ ∀ j, j < n → ∃ t : Tri, w.cell? ⟨b, o + j * 3, none⟩ = some (.bool t.s) ∧ w.cell? ⟨b, o + j * 3 + 1, none⟩ = some (.slice t.a1 t.n1 t.c1) ∧ w.cell? ⟨b, o + j * 3 + 2, none⟩ = some (.slice t.a2 t.n2 t.c2) ∧ RatIs w t.val (xq qs j)) := by
  have h' := h
  obtain ⟨a', c', e, h1, h2, h3⟩ := h
  injection e with e1 e2 e3
  subst e1; subst e3; subst e2
  refine ⟨rfl, h1, h2, fun hp => ?_⟩
  obtain ⟨b, o, ea, hlt, hc⟩ := h3 hp
  refine ⟨b, o, ea, hlt, fun j hj => ?_⟩
  obtain ⟨s, a1, a2, n1, c1, n2, c2, k0, k1, k2, r⟩ := hc j hj
  exact ⟨⟨s, a1, a2, n1, c1, n2, c2⟩, k0, k1, k2, r⟩
end Go.Proofs.YtcelbgleajpenaaGreatDoor
namespace Go.Proofs.YtcelbgleajpenaaGreatDoor
open Go.RowKit Go.Sort Go.Shelf

set_option maxHeartbeats 16000000 in
set_option maxRecDepth 100000 in
set_option linter.unusedSimpArgs false in
theorem rcheck_any (v : Value) (qs : List Rat) (J : Nat) (w : World) (h : LawIs w v qs) (hq : ∀ j, j < qs.length → RS qs[j]! J) (hJ : (qs.length * (J + 1) + 1 + J) + (qs.length * (J + 1) + 1 + J) + 1 ≤ KK) :
    Calls Tryz.prog 76 #[v] w fun e w' => e = .returned (errV (rnc qs)) ∧ Below w.heap.size w w' := by
  have HC := hide (check_any v qs J w h hq hJ)
  have h' := h
  obtain ⟨a, c, rfl, -⟩ := h'
  by_cases hc : chk qs = 0
  · have hr : rnc qs = if 0 < (xq qs 0).num then 11 else 0 := by unfold rnc; rw [if_pos hc]
    rw [hr]
    rw [hc, errV_zero] at HC
    obtain ⟨p1, p2, _, _⟩ := chk_zero hc
    obtain ⟨_, hc1, hc2, h3⟩ := h.parts
    obtain ⟨b, o, rfl, hlt, hcs⟩ := h3 p1
    obtain ⟨t, k0, k1, k2, r⟩ := hcs 0 p1
    rw [Nat.zero_mul, Nat.add_zero] at k0 k1 k2
    obtain ⟨n, hn⟩ : ∃ n, qs.length = n := ⟨_, rfl⟩
    rw [hn] at HC p1 p2 hc1 ⊢
    have HK : Hid (∀ W, Below w.heap.size w W → W.cell? ⟨b, o, none⟩ = some (.bool t.s) ∧ W.cell? ⟨b, o + 1, none⟩ = some (.slice t.a1 t.n1 t.c1) ∧ W.cell? ⟨b, o + 2, none⟩ = some (.slice t.a2 t.n2 t.c2)) := fun W hW => ⟨by rw [hW.cell (p := ⟨b, o, none⟩) hlt]; exact k0, by rw [hW.cell (p := ⟨b, o + 1, none⟩) hlt]; exact k1, by rw [hW.cell (p := ⟨b, o + 2, none⟩) hlt]; exact k2⟩
    have HSG : Hid (∀ W, Below w.heap.size w W → Calls Tryz.prog 103 #[.agg #[.bool t.s, .slice t.a1 t.n1 t.c1, .slice t.a2 t.n2 t.c2]] W fun e w' => e = .returned (.int .i64 (xq qs 0).num.sign) ∧ Below W.heap.size W w') := fun W hW => sign_any t.val (xq qs 0) W (r.below hW)
    obtain ⟨q, hq'⟩ : ∃ q, xq qs 0 = q := ⟨_, rfl⟩
    rw [hq'] at HSG ⊢
    have i0 : (0 : Int) < (n : Int) := by omega
    clear h hq hJ hr hc hcs r h3 hn hq' hlt k0 k1 k2
    by_cases hneg : 0 < q.num
    · rw [if_pos hneg]
      have hsn : q.num.sign = 1 := Int.sign_eq_one_of_pos hneg
      rw [hsn] at HSG
      clear hneg hsn
      go_enter Tryz.func76, Tryz.ntmps76
      go_wp2_with fail
      refine (unhide HC).mono ?_
      rintro e w1 ⟨rfl, hb1⟩
      have HS1 := hide (unhide HSG w1 hb1)
      have ⟨k0, k1, k2⟩ := unhide HK w1 hb1
      have HB1 := hide hb1
      clear hb1 HC HSG HK
      go_wp2_with fail
      refine (unhide HS1).mono ?_
      rintro e w2 ⟨rfl, hb2⟩
      have HB2 := hide (below_step (unhide HB1) hb2)
      clear hb2 k0 k1 k2
      go_wp2
      go_ret
      exact ⟨rfl, unhide HB2⟩
    · rw [if_neg hneg]
      have bd := sign_bd q.num
      have hsn : q.num.sign ≤ 0 := by
        rcases Int.lt_trichotomy q.num 0 with h | h | h
        · rw [Int.sign_eq_neg_one_of_neg h]; decide
        · rw [h]; decide
        · omega
      obtain ⟨bda, bdb⟩ := bd
      generalize q.num.sign = x at *
      have hd : decide (0 < x) = false := decide_eq_false (by omega)
      clear hneg bda bdb hsn
      go_enter Tryz.func76, Tryz.ntmps76
      go_wp2_with fail
      refine (unhide HC).mono ?_
      rintro e w1 ⟨rfl, hb1⟩
      have HS1 := hide (unhide HSG w1 hb1)
      have ⟨k0, k1, k2⟩ := unhide HK w1 hb1
      have HB1 := hide hb1
      clear hb1 HC HSG HK
      go_wp2_with fail
      refine (unhide HS1).mono ?_
      rintro e w2 ⟨rfl, hb2⟩
      have HB2 := hide (below_step (unhide HB1) hb2)
      clear hb2 k0 k1 k2
      go_wp2
      go_ret
      exact ⟨rfl, unhide HB2⟩
  · have hr : rnc qs = chk qs := by unfold rnc; rw [if_neg hc]
    rw [hr]
    rw [errV_not hc] at HC ⊢
    generalize chk qs = k at *
    clear h hq hJ hr hc
    generalize qs.length = n at *
    go_enter Tryz.func76, Tryz.ntmps76
    go_wp2_with fail
    refine (unhide HC).mono ?_
    rintro e w1 ⟨rfl, hb1⟩
    go_wp2
    go_ret
    exact ⟨rfl, hb1⟩

/-- What checkTime says. -/
def rtc (qs : List Rat) (up : Int) : Int := if rnc qs = 0 then (if up < 0 ∨ 100 < up then 2 else 0) else rnc qs
set_option maxHeartbeats 16000000 in
set_option maxRecDepth 100000 in
set_option linter.unusedSimpArgs false in
theorem rtime_any (v : Value) (qs : List Rat) (J : Nat) (up : Int) (w : World) (h : LawIs w v qs) (hq : ∀ j, j < qs.length → RS qs[j]! J) (hJ : (qs.length * (J + 1) + 1 + J) + (qs.length * (J + 1) + 1 + J) + 1 ≤ KK) :
    Calls Tryz.prog 70 #[v, .int .i64 up] w fun e w' => e = .returned (errV (rtc qs up)) ∧ Below w.heap.size w w' := by
  have HC := hide (rcheck_any v qs J w h hq hJ)
  have h' := h
  obtain ⟨a, c, rfl, -⟩ := h'
  by_cases hc : rnc qs = 0
  · have hr : rtc qs up = if up < 0 ∨ 100 < up then 2 else 0 := by unfold rtc; rw [if_pos hc]
    rw [hr]
    rw [hc, errV_zero] at HC
    clear h hq hJ hr hc
    generalize qs.length = n at *
    by_cases h0 : up < 0
    · rw [if_pos (Or.inl h0)]
      go_enter Tryz.func70, Tryz.ntmps70
      go_wp2_with fail
      refine (unhide HC).mono ?_
      rintro e w1 ⟨rfl, hb1⟩
      go_wp2
      go_ret
      exact ⟨rfl, hb1⟩
    · by_cases h1 : 100 < up
      · rw [if_pos (Or.inr h1)]
        go_enter Tryz.func70, Tryz.ntmps70
        go_wp2_with fail
        refine (unhide HC).mono ?_
        rintro e w1 ⟨rfl, hb1⟩
        go_wp2
        go_ret
        exact ⟨rfl, hb1⟩
      · rw [if_neg (fun h => h.elim h0 h1)]
        go_enter Tryz.func70, Tryz.ntmps70
        go_wp2_with fail
        refine (unhide HC).mono ?_
        rintro e w1 ⟨rfl, hb1⟩
        go_wp2
        go_ret
        exact ⟨rfl, hb1⟩
  · have hr : rtc qs up = rnc qs := by unfold rtc; rw [if_neg hc]
    rw [hr]
    rw [errV_not hc] at HC ⊢
    generalize rnc qs = k at *
    clear h hq hJ hr hc
    generalize qs.length = n at *
    go_enter Tryz.func70, Tryz.ntmps70
    go_wp2_with fail
    refine (unhide HC).mono ?_
    rintro e w1 ⟨rfl, hb1⟩
    go_wp2
    go_ret
    exact ⟨rfl, hb1⟩

end Go.Proofs.YtcelbgleajpenaaGreatDoor
namespace Go.Proofs.YtcelbgleajpenaaGreatDoor
open Go.RowKit Go.Sort Go.Shelf

/-- A row of fractions of the call's own. -/
def DivPostz (w : World) (qs : List Rat) (n : Nat) (e : Ending) (w' : World) : Prop := ∃ g us, e = .returned (.slice (some ⟨g, 0, none⟩) n n) ∧ us.length = n ∧ w.heap.size ≤ g ∧ SumsAt w w' g us qs
end Go.Proofs.YtcelbgleajpenaaGreatDoor
namespace Go.Proofs.YtcelbgleajpenaaGreatDoor
open Go.RowKit Go.Sort Go.Shelf

/-- A row that comes with nil beside it. -/
def RowNil (w : World) (qs : List Rat) (n : Nat) (e : Ending) (w' : World) : Prop := ∃ g us, e = .returned (.tuple #[.slice (some ⟨g, 0, none⟩) n n, .nilIface]) ∧ us.length = n ∧ w.heap.size ≤ g ∧ SumsAt w w' g us qs

end Go.Proofs.YtcelbgleajpenaaGreatDoor
