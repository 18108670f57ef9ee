/- Trees of the program: a queue, an edge's other end. -/
import Derived.Test.YtcmddkekidgkoaaDoorTR0
import Derived.Test.YtcmddkekidgkoaaDoorM71
namespace Go.Proofs.YtcmddkekidgkoaaDoor
open Go.RowKit Go.Sort Go.Shelf

def errV (k : Int) : Value := if k = 0 then .nilIface else .iface 25 (.int .i64 k)
theorem errV_zero : errV 0 = .nilIface := rfl
theorem errV_not {k : Int} (h : k ≠ 0) : errV k = .iface 25 (.int .i64 k) := by unfold errV; rw [if_neg h]
theorem news_int (w : World) (x : Int) (T : TypeId) : ∀ j u, [Value.int .i64 x][j]? = some u → (w.alloc (.cells #[.int .i64 x] T)).cell? ((⟨w.heap.size, 0, none⟩ : Addr).add j) = some u :=
  World.news_of_block (cs := #[.int .i64 x]) (t := T) (fr := (0, 0)) (heap_alloc_new w _)
theorem one_int (x : Int) : ∀ u ∈ [Value.int .i64 x], u.oneCell' = true := by
  intro u hu
  simp only [List.mem_cons, List.not_mem_nil, or_false] at hu
  rw [hu]; rfl

/-- A row of ints that is read from its front and grows at its end. -/
structure QAt (w : World) (B g o n c : Nat) (q : List Nat) : Prop where
  len : q.length = n
  le : n ≤ c
  max : c ≤ 9223372036854775807
  base : B ≤ g
  lt : g < w.heap.size
  cell : ∀ j, j < n → w.cell? ⟨g, o + j, none⟩ = some (.int .i64 ((q[j]! : Nat) : Int))
  room : ∀ j, j < c → (w.cell? ⟨g, o + j, none⟩).isSome = true ∧ w.frozen? ⟨g, o + j, none⟩ = false
theorem QAt.keep {w w' : World} {B g o n c : Nat} {q : List Nat} (h : QAt w B g o n c q) (hb : Below w.heap.size w w') : QAt w' B g o n c q :=
  ⟨h.len, h.le, h.max, h.base, Nat.lt_of_lt_of_le h.lt hb.size, fun j hj => by rw [hb.cell (p := ⟨g, o + j, none⟩) h.lt]; exact h.cell j hj, fun j hj => by rw [hb.cell (p := ⟨g, o + j, none⟩) h.lt, hb.frozen (p := ⟨g, o + j, none⟩) h.lt]; exact h.room j hj⟩
theorem QAt.other {w : World} {B g o n c G p : Nat} {q : List Nat} {v : Value} (h : QAt w B g o n c q) (hG : G < B) : QAt (w.setCell ⟨G, p, none⟩ v) B g o n c q := by
  have e : (w.setCell ⟨G, p, none⟩ v).heap[g]? = w.heap[g]? := Below.heap_setCell _ _ _ _ (fun (e : g = G) => by have := h.base; omega)
  have e2 : (w.setCell ⟨G, p, none⟩ v).heap.size = w.heap.size := by rw [setCell_eq]; simp [mapBlock]
  exact ⟨h.len, h.le, h.max, h.base, by rw [e2]; exact h.lt, fun j hj => by rw [World.cell?_of_block (w := w) (a := ⟨g, o + j, none⟩) e]; exact h.cell j hj, fun j hj => by rw [World.cell?_of_block (w := w) (a := ⟨g, o + j, none⟩) e, World.frozen?_of_block (w := w) (a := ⟨g, o + j, none⟩) e]; exact h.room j hj⟩
theorem QAt.start (w : World) (B x : Nat) (hB : B ≤ w.heap.size) : QAt (w.alloc (.cells #[.int .i64 (x : Int)] 3)) B w.heap.size 0 1 1 [x] := by
  refine ⟨rfl, Nat.le_refl _, by decide, hB, by rw [alloc_size]; omega, fun j hj => ?_, fun j hj => ?_⟩
  · obtain rfl : j = 0 := by omega
    simp only [World.cell?, heap_alloc_new]; rfl
  · obtain rfl : j = 0 := by omega
    refine ⟨by simp only [World.cell?, heap_alloc_new]; rfl, by simp only [World.frozen?, heap_alloc_new]; rfl⟩
theorem QAt.tail {w : World} {B g o n c x : Nat} {q : List Nat} (h : QAt w B g o (n + 1) (c + 1) (x :: q)) : QAt w B g (o + 1) n c q := by
  have h1 := h.len
  have h2 := h.le
  have h3 := h.max
  refine ⟨by simpa using h1, by omega, by omega, h.base, h.lt, fun j hj => ?_, fun j hj => ?_⟩
  · have := h.cell (j + 1) (by omega)
    rw [show o + 1 + j = o + (j + 1) by omega, this]
    rfl
  · have := h.room (j + 1) (by omega)
    rw [show o + 1 + j = o + (j + 1) by omega]
    exact this
theorem QAt.tail0 {w : World} {B g o c x : Nat} {q : List Nat} (h : QAt w B g o 1 c (x :: q)) (o' : Nat) : QAt w B g o' 0 0 q := by
  have h1 := h.len
  refine ⟨by simpa using h1, Nat.le_refl _, by decide, h.base, h.lt, fun j hj => absurd hj (Nat.not_lt_zero _), fun j hj => absurd hj (Nat.not_lt_zero _)⟩
theorem setCells_one (w : World) (g o : Nat) (v : Value) : w.setCells g o [v] = w.setCell ⟨g, o, none⟩ v := rfl
theorem getBang_app {q : List Nat} {x j : Nat} (hj : j < q.length) : (q ++ [x])[j]! = q[j]! := by
  rw [List.getElem!_eq_getElem?_getD, List.getElem!_eq_getElem?_getD, List.getElem?_append_left hj]
theorem getBang_end {q : List Nat} {x : Nat} : (q ++ [x])[q.length]! = x := by
  rw [List.getElem!_eq_getElem?_getD, List.getElem?_append_right (Nat.le_refl _)]; simp
/-- One more at the end. -/
theorem QAt.push {w : World} {B g o n c : Nat} {q : List Nat} (h : QAt w B g o n c q) (hn : n ≤ 1000) (hB : B ≤ w.heap.size) (x : Nat) (ty : TypeId) (ad : Addr) (hx : w.cell? ad = some (.int .i64 (x : Int))) :
    ∃ g' o' c' w', (Builtin.append_ #[31, 31] ty #[.slice (some ⟨g, o, none⟩) n c, .slice (some ad) 1 1]).run Tryd.prog w = .ok (.slice (some ⟨g', o', none⟩) (n + 1) c') w' ∧ QAt w' B g' o' (n + 1) c' (q ++ [x]) ∧ w.grownBy w' (some g) := by
  obtain ⟨i, hi, hz0, hz1, hz2⟩ := info_parts Tryd.infoI
  have hlen := h.len
  have hs : Src Tryd.prog i.size 31 (.slice (some ad) 1 1) 1 [.int .i64 (x : Int)] w := Src.ofSlice w Tryd.underlying31 ad 1 1 [.int .i64 (x : Int)] (by rw [hz1]; rfl) (fun j u hu => by
    match j, hu with
    | 0, hu => rw [← Option.some.inj hu]; simpa [Addr.add] using hx) (one_int _)
  by_cases hr : n + 1 ≤ c
  · have hrun := run_append_room_src (P := Tryd.prog) w 31 31 ty 3 i Tryd.underlying31 hi g o n c _ 1 _ hs hr (fun j hj => by
      obtain rfl : j = 0 := by simpa using hj
      rw [hz1, Nat.mul_one]; exact (h.room n (by omega)).1) (fun j hj => by
      obtain rfl : j = 0 := by simpa using hj
      rw [hz1, Nat.mul_one]; exact (h.room n (by omega)).2)
    rw [hz1, Nat.mul_one, setCells_one] at hrun
    have e2 : (w.setCell ⟨g, o + n, none⟩ (.int .i64 (x : Int))).heap.size = w.heap.size := by rw [setCell_eq]; simp [mapBlock]
    obtain ⟨u0, hs0⟩ := Option.isSome_iff_exists.1 (h.room n (by omega)).1
    refine ⟨g, o, c, _, hrun, ⟨by simp [hlen], hr, h.max, h.base, by rw [e2]; exact h.lt, fun j hj => ?_, fun j hj => ⟨?_, ?_⟩⟩, ⟨rfl, rfl, rfl, by rw [e2]; exact Nat.le_refl _, fun k _ hne => Below.heap_setCell _ _ _ _ (fun e => hne (by rw [e]))⟩⟩
    · by_cases c1 : j = n
      · subst c1
        rw [World.cell?_setCell_same _ _ _ hs0, ← hlen, getBang_end]
      · rw [World.cell?_setCell_other _ _ _ _ (by intro e; injection e with _ e; omega), h.cell j (by omega), getBang_app (by omega)]
    · by_cases c1 : j = n
      · subst c1
        rw [World.cell?_setCell_same _ _ _ hs0]; rfl
      · rw [World.cell?_setCell_other _ _ _ _ (by intro e; injection e with _ e; omega)]
        exact (h.room j hj).1
    · rw [World.frozen?_setCell]; exact (h.room j hj).2
  · have hc : c = n := by have := h.le; omega
    have hold : (Builtin.firstCells i.size n (.slice (some ⟨g, o, none⟩) n c)).run Tryd.prog w.drew = .ok ((List.range n).map (fun j => Value.int .i64 ((q[j]! : Nat) : Int))).toArray w.drew := by
      rw [hz1]
      refine run_firstCells_some w.drew 1 n ⟨g, o, none⟩ n c _ (by simp) (fun j u hu => ?_)
      have hj : j < n := by
        rcases Nat.lt_or_ge j n with h | h
        · exact h
        · rw [List.getElem?_eq_none (by simpa using h)] at hu; cases hu
      rw [addr_plus]
      have e1 : ((List.range n).map (fun j => Value.int .i64 ((q[j]! : Nat) : Int)))[j]? = some (.int .i64 ((q[j]! : Nat) : Int)) := by simp [hj]
      rw [e1] at hu
      rw [← hu]
      exact h.cell j hj
    have hnext : Builtin.nextslicecap (n + 1) c * i.bytes ≤ 281474976710656 := growslice_fits (by omega) (by rw [hz2]; omega)
    have hrun := run_append_grow_src (P := Tryd.prog) w 31 31 ty 3 i (.int .i64 0) Tryd.underlying31 hi hz0 (some ⟨g, o, none⟩) n c _ hold _ 1 _ hs (by omega) (by omega) hnext
    have hge := grownCap_ge w (n + 1) c 3
    have hcm := grownCap_le_maxLen w (n + 1) c 3 (by unfold maxLen; omega)
    obtain ⟨C, hC⟩ : ∃ C, grownCap w (n + 1) c 3 = C := ⟨_, rfl⟩
    rw [hC] at hge hcm hrun
    obtain ⟨cs, hcs⟩ : ∃ cs : Array Value, ((List.range n).map (fun j => Value.int .i64 ((q[j]! : Nat) : Int)) ++ [Value.int .i64 (x : Int)]).toArray ++ Builtin.zeroCells (Value.int .i64 0).cells (C - (n + 1)) = cs := ⟨_, rfl⟩
    rw [hcs] at hrun
    have hsz : cs.size = C := by rw [← hcs, Array.size_append, size_zeroCells]; simp [Value.cells]; omega
    have hblk : (w.drew.alloc (.cells cs 3)).heap[w.heap.size]? = some (.cells cs 3) := heap_alloc_new w.drew _
    refine ⟨_, 0, C, _, hrun, ⟨by simp [hlen], hge, by unfold maxLen at hcm; exact hcm, hB, by rw [alloc_size]; exact Nat.lt_succ_self _, fun j hj => ?_, fun j hj => ⟨?_, ?_⟩⟩, ⟨rfl, rfl, rfl, by rw [alloc_size]; exact Nat.le_succ _, fun k hk _ => Below.heap_alloc w.drew _ k hk⟩⟩
    · simp only [World.cell?, hblk, Nat.zero_add]
      rw [← hcs, Array.getElem?_append_left (by simp; omega), List.getElem?_toArray]
      by_cases c1 : j = n
      · subst c1
        rw [List.getElem?_append_right (by simp)]
        have e : (q ++ [x])[q.length]! = x := getBang_end
        rw [hlen] at e
        rw [e]
        simp
      · rw [List.getElem?_append_left (by simp; omega), getBang_app (by omega)]
        simp [show j < n by omega]
    · simp only [World.cell?, hblk, Nat.zero_add]
      rw [Array.getElem?_eq_getElem (by rw [hsz]; exact hj)]; rfl
    · simp only [World.frozen?, hblk]; rfl

/-- The edges of a row of threes. -/
def eA (f : Nat → T3) (i : Nat) : Nat := (f i).1.toNat
def eB (f : Nat → T3) (i : Nat) : Nat := (f i).2.1.toNat
def eL (f : Nat → T3) (i : Nat) : Int := (f i).2.2
structure GoodE (n m : Nat) (f : Nat → T3) : Prop where
  a : ∀ i, i < m → 0 ≤ (f i).1 ∧ (f i).1 < (n : Int)
  b : ∀ i, i < m → 0 ≤ (f i).2.1 ∧ (f i).2.1 < (n : Int)
  l : ∀ i, i < m → 0 ≤ (f i).2.2 ∧ (f i).2.2 ≤ 1000000000
/-- The other end. -/
def oth (t : T3) (at_ : Int) : Int × Bool := if at_ = t.1 then (t.2.1, true) else if at_ = t.2.1 then (t.1, true) else (0, false)
set_option maxHeartbeats 4000000 in
theorem across_any (t : T3) (p : Int) (w : World) :
    Calls Tryd.prog 52 #[.agg #[.int .i64 t.1, .int .i64 t.2.1, .int .i64 t.2.2], .int .i64 p] w fun e w' => e = .returned (.tuple #[.int .i64 (oth t p).1, .bool (oth t p).2]) ∧ Below w.heap.size w w' := by
  obtain ⟨x, y, z⟩ := t
  simp only
  have ⟨q0, q1, q2⟩ := box3 (w := w) (x := .int .i64 x) (y := .int .i64 y) (z := .int .i64 z) (T := 81) (Below.refl _ _)
  have HFIN := hide (alloc_below w (.cells #[.int .i64 x, .int .i64 y, .int .i64 z] 81))
  obtain ⟨W1, hW1⟩ : ∃ W, w.alloc (.cells #[.int .i64 x, .int .i64 y, .int .i64 z] 81) = W := ⟨_, rfl⟩
  rw [hW1] at q0 q1 q2 HFIN
  by_cases h1 : p = x
  · have e1 : oth (x, y, z) p = (y, true) := if_pos h1
    rw [e1]
    have e2 : (p == x) = true := by simpa using h1
    clear e1 h1
    go_enter Tryd.func52, Tryd.ntmps52
    go_wp2
    go_ret2
    exact ⟨rfl, unhide HFIN⟩
  have e2 : (p == x) = false := by simpa using h1
  by_cases h2 : p = y
  · have e1 : oth (x, y, z) p = (x, true) := (if_neg h1).trans (if_pos h2)
    rw [e1]
    have e3 : (p == y) = true := by simpa using h2
    clear e1 h1 h2
    go_enter Tryd.func52, Tryd.ntmps52
    go_wp2
    go_ret2
    exact ⟨rfl, unhide HFIN⟩
  have e1 : oth (x, y, z) p = (0, false) := (if_neg h1).trans (if_neg h2)
  rw [e1]
  have e3 : (p == y) = false := by simpa using h2
  clear e1 h1 h2
  go_enter Tryd.func52, Tryd.ntmps52
  go_wp2
  go_ret2
  exact ⟨rfl, unhide HFIN⟩
end Go.Proofs.YtcmddkekidgkoaaDoor
