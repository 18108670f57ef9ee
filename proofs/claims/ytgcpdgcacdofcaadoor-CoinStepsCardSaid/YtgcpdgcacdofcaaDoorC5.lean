/- Rows that the program lays one by one: what make, copy and a store do to them. -/
import Derived.Test.YtgcpdgcacdofcaaDoorC4
import Derived.Laws.CopyOwn
import Derived.Laws.MakeOwn
import Derived.Sort.Row
namespace Go.Proofs.YtgcpdgcacdofcaaDoor
open Go.RowKit Go.Sort

/-- The row of rows: the first ones, and nil for what isn't laid yet. -/
def slots (gs : List Nat) (Lt N : Nat) : List Value := gs.map (fun g => .slice (some ⟨g, 0, none⟩) Lt Lt) ++ List.replicate (N - gs.length) (.slice none 0 0)
theorem slots_length {gs : List Nat} {Lt N : Nat} (h : gs.length ≤ N) : (slots gs Lt N).length = N := by simp [slots]; omega
theorem slots_get {gs : List Nat} {Lt N i : Nat} (h : i < gs.length) : (slots gs Lt N)[i]? = some (.slice (some ⟨gs[i]!, 0, none⟩) Lt Lt) := by
  unfold slots
  rw [List.getElem?_append_left (by simpa using h)]
  simp [h]
theorem slots_set {gs : List Nat} {Lt N g : Nat} (h : gs.length < N) : (slots gs Lt N).set gs.length (.slice (some ⟨g, 0, none⟩) Lt Lt) = slots (gs ++ [g]) Lt N := by
  unfold slots
  rw [List.set_append_right _ _ (by simp)]
  simp only [List.length_map, Nat.sub_self, List.map_append, List.map_cons, List.map_nil, List.length_append, List.length_cons, List.length_nil, List.append_assoc]
  congr 1
  obtain ⟨k, hk⟩ : ∃ k, N - gs.length = k + 1 := ⟨N - gs.length - 1, by omega⟩
  have hk' : N - (gs.length + (0 + 1)) = k := by omega
  rw [hk, hk', List.replicate_succ]
  rfl

structure StepsAt (w wr : World) (G Lt N : Nat) (gs : List Nat) (R : List (List Int)) : Prop where
  top : wr.heap[G]? = some (.cells (slots gs Lt N).toArray 22)
  row : ∀ i, i < gs.length → wr.heap[gs[i]!]? = some (.cells (ints R[i]!).toArray 3) ∧ (R[i]!).length = Lt
  apart : ∀ i j, i < j → j < gs.length → gs[i]! ≠ gs[j]!
  old : ∀ i, i < gs.length → w.heap.size ≤ gs[i]!
  len : R.length = gs.length
  bl : Below w.heap.size w wr
  gl : w.heap.size ≤ G

theorem StepsAt.lt {w wr : World} {G Lt N : Nat} {gs : List Nat} {R : List (List Int)} (h : StepsAt w wr G Lt N gs R) {i : Nat} (hi : i < gs.length) : gs[i]! < wr.heap.size := (Array.getElem?_eq_some_iff.1 (h.row i hi).1).1
theorem StepsAt.topLt {w wr : World} {G Lt N : Nat} {gs : List Nat} {R : List (List Int)} (h : StepsAt w wr G Lt N gs R) : G < wr.heap.size := (Array.getElem?_eq_some_iff.1 h.top).1
theorem StepsAt.ne {w wr : World} {G Lt N : Nat} {gs : List Nat} {R : List (List Int)} (h : StepsAt w wr G Lt N gs R) {i : Nat} (hi : i < gs.length) : gs[i]! ≠ G := by
  intro e
  have h1 := (h.row i hi).1
  rw [e, h.top] at h1
  injection h1 with h2
  injection h2 with _ h3
  exact absurd h3 (by decide)

theorem StepsAt.keep {w wr w' : World} {G Lt N : Nat} {gs : List Nat} {R : List (List Int)} (h : StepsAt w wr G Lt N gs R) (hb : Below wr.heap.size wr w') : StepsAt w w' G Lt N gs R :=
  ⟨by rw [hb.block _ h.topLt]; exact h.top, fun i hi => ⟨by rw [hb.block _ (h.lt hi)]; exact (h.row i hi).1, (h.row i hi).2⟩, h.apart, h.old, h.len, below_step h.bl hb, h.gl⟩

/-- The cells that are read. -/
theorem StepsAt.slot {w wr : World} {G Lt N : Nat} {gs : List Nat} {R : List (List Int)} (h : StepsAt w wr G Lt N gs R) {i : Nat} (hi : i < gs.length) : wr.cell? ⟨G, i, none⟩ = some (.slice (some ⟨gs[i]!, 0, none⟩) Lt Lt) := by
  simp only [World.cell?, h.top]
  have := slots_get (Lt := Lt) (N := N) hi
  simpa using this
theorem StepsAt.free {w wr : World} {G Lt N : Nat} {gs : List Nat} {R : List (List Int)} (h : StepsAt w wr G Lt N gs R) (i : Nat) : wr.frozen? ⟨G, i, none⟩ = false := by simp [World.frozen?, h.top]
theorem StepsAt.cell {w wr : World} {G Lt N : Nat} {gs : List Nat} {R : List (List Int)} (h : StepsAt w wr G Lt N gs R) {i j : Nat} (hi : i < gs.length) (hj : j < Lt) : wr.cell? ⟨gs[i]!, j, none⟩ = some (.int .i64 (R[i]!)[j]!) := by
  obtain ⟨h1, h2⟩ := h.row i hi
  simp only [World.cell?, h1]
  have := ints_get (xs := R[i]!) (j := j) (by omega)
  simpa using this
theorem StepsAt.freeRow {w wr : World} {G Lt N : Nat} {gs : List Nat} {R : List (List Int)} (h : StepsAt w wr G Lt N gs R) {i : Nat} (hi : i < gs.length) (j : Nat) : wr.frozen? ⟨gs[i]!, j, none⟩ = false := by
  simp only [World.frozen?]
  rw [(h.row i hi).1]
  simp

/-- A row is laid and put into its slot. -/
theorem StepsAt.add {w wr : World} {G Lt N : Nat} {gs : List Nat} {R : List (List Int)} (h : StepsAt w wr G Lt N gs R) (hn : gs.length < N) :
    StepsAt w ((wr.alloc (.cells (ints (List.replicate Lt 0)).toArray 3)).setCell ⟨G, gs.length, none⟩ (.slice (some ⟨wr.heap.size, 0, none⟩) Lt Lt)) G Lt N (gs ++ [wr.heap.size]) (R ++ [List.replicate Lt 0]) := by
  have k := h.keep (alloc_below wr (.cells (ints (List.replicate Lt 0)).toArray 3))
  have hG := h.topLt
  have hl := h.len
  refine ⟨?_, fun i hi => ?_, fun i j hij hj => ?_, fun i hi => ?_, by simp [hl], k.bl.setCell h.gl _, h.gl⟩
  · rw [setCell_eq]
    simp only [mapBlock, Array.getElem?_modify, k.top, if_true, Option.map_some, onCells]
    rw [← slots_set hn]
    simp
  · rw [List.length_append, List.length_singleton] at hi
    rcases Nat.lt_or_ge i gs.length with h' | h'
    · have e1 : (gs ++ [wr.heap.size])[i]! = gs[i]! := by simp [h', List.getElem?_append_left h']
      have e2 : (R ++ [List.replicate Lt 0])[i]! = R[i]! := by simp [List.getElem?_append_left (show i < R.length by omega)]
      rw [e1, e2, Below.heap_setCell _ _ _ _ (h.ne h')]
      exact k.row i h'
    · obtain rfl : i = gs.length := by omega
      have e1 : (gs ++ [wr.heap.size])[gs.length]! = wr.heap.size := by simp
      have e2 : (R ++ [List.replicate Lt 0])[gs.length]! = List.replicate Lt 0 := by rw [← hl]; simp
      rw [e1, e2, Below.heap_setCell _ _ _ _ (show wr.heap.size ≠ G by omega)]
      exact ⟨heap_alloc_new wr _, by simp⟩
  · rw [List.length_append, List.length_singleton] at hj
    have e1 : (gs ++ [wr.heap.size])[i]! = gs[i]! := by simp [List.getElem?_append_left (show i < gs.length by omega), show i < gs.length by omega]
    rcases Nat.lt_or_ge j gs.length with h' | h'
    · have e2 : (gs ++ [wr.heap.size])[j]! = gs[j]! := by simp [h', List.getElem?_append_left h']
      rw [e1, e2]; exact h.apart i j hij h'
    · obtain rfl : j = gs.length := by omega
      have e2 : (gs ++ [wr.heap.size])[gs.length]! = wr.heap.size := by simp
      rw [e1, e2]
      have := h.lt hij
      omega
  · rw [List.length_append, List.length_singleton] at hi
    rcases Nat.lt_or_ge i gs.length with h' | h'
    · have e1 : (gs ++ [wr.heap.size])[i]! = gs[i]! := by simp [h', List.getElem?_append_left h']
      rw [e1]; exact h.old i h'
    · obtain rfl : i = gs.length := by omega
      have e1 : (gs ++ [wr.heap.size])[gs.length]! = wr.heap.size := by simp
      rw [e1]; exact h.bl.size

/-- What one row holds is changed. -/
theorem StepsAt.turn {w wr w' : World} {G Lt N : Nat} {gs : List Nat} {R : List (List Int)} (h : StepsAt w wr G Lt N gs R) {i : Nat} (hi : i < gs.length) (xs : List Int) (hx : xs.length = Lt) (hrow : w'.heap[gs[i]!]? = some (.cells (ints xs).toArray 3))
    (hother : ∀ k, k ≠ gs[i]! → w'.heap[k]? = wr.heap[k]?) (hb : Below w.heap.size w w') : StepsAt w w' G Lt N gs (R.set i xs) := by
  have hl := h.len
  refine ⟨by rw [hother _ (fun e => h.ne hi e.symm)]; exact h.top, fun j hj => ?_, h.apart, h.old, by rw [List.length_set]; exact hl, hb, h.gl⟩
  by_cases e : i = j
  · subst e
    have e2 : (R.set i xs)[i]! = xs := by simp [show i < R.length by omega]
    rw [e2]; exact ⟨hrow, hx⟩
  · have e2 : (R.set i xs)[j]! = R[j]! := by simp [e]
    have hne : gs[j]! ≠ gs[i]! := by
      rcases Nat.lt_or_ge i j with h' | h'
      · exact (h.apart i j h' hj).symm
      · exact h.apart j i (by omega) hi
    rw [e2, hother _ hne]
    exact h.row j hj

theorem StepsAt.set {w wr : World} {G Lt N : Nat} {gs : List Nat} {R : List (List Int)} (h : StepsAt w wr G Lt N gs R) {i j : Nat} (hi : i < gs.length) (x : Int) :
    StepsAt w (wr.setCell ⟨gs[i]!, j, none⟩ (.int .i64 x)) G Lt N gs (R.set i ((R[i]!).set j x)) := by
  refine h.turn hi _ (by rw [List.length_set]; exact (h.row i hi).2) ?_ (fun k hk => Below.heap_setCell _ _ _ _ hk) (h.bl.setCell (h.old i hi) _)
  rw [setCell_eq]
  simp only [mapBlock, Array.getElem?_modify, (h.row i hi).1, if_true, Option.map_some, onCells]
  simp [ints, List.map_set]

theorem setRow_same {w : World} {g : Nat} {cs cs' : Array Value} {T : TypeId} (h : w.heap[g]? = some (.cells cs T)) : (w.setRow g cs').heap[g]? = some (.cells cs' T) := by
  simp [World.setRow, Array.getElem?_modify, h]
theorem setRow_other {w : World} {g k : Nat} {cs' : Array Value} (h : k ≠ g) : (w.setRow g cs').heap[k]? = w.heap[k]? := by
  simp [World.setRow, Array.getElem?_modify, Ne.symm h]
theorem setRow_size {w : World} {g : Nat} {cs' : Array Value} : (w.setRow g cs').heap.size = w.heap.size := by
  simp [World.setRow]

theorem Tryd.sizeI : (Tryd.prog.info? 3).map (·.size) = some 1 := by kernel_rfl

/-- copy(rows[i], rows[s]). -/
theorem StepsAt.copied {w wr : World} {G Lt N : Nat} {gs : List Nat} {R : List (List Int)} (h : StepsAt w wr G Lt N gs R) {i s : Nat} (hi : i < gs.length) (hs : s < gs.length) :
    ∃ W, (Builtin.copy_ #[22, 22] 3 #[.slice (some ⟨gs[i]!, 0, none⟩) Lt Lt, .slice (some ⟨gs[s]!, 0, none⟩) Lt Lt]).run Tryd.prog wr = .ok (.int .i64 (Lt : Int)) W ∧ StepsAt w W G Lt N gs (R.set i R[s]!) := by
  obtain ⟨r1, r2⟩ := h.row i hi
  obtain ⟨s1, s2⟩ := h.row s hs
  have hr := run_copy_row (P := Tryd.prog) wr 22 22 3 3 gs[i]! 0 Lt Lt ⟨gs[s]!, 0, none⟩ Lt Lt (ints R[i]!).toArray 3 (ints R[s]!) Tryd.underlying22 Tryd.sizeI r1
    (by rw [ints_length, s2]; exact (Nat.min_self _).symm)
    (fun j v hv => by
      have hj : j < Lt := by
        have := (List.getElem?_eq_some_iff.1 hv).1
        rw [ints_length, s2] at this; exact this
      rw [ints_get (by omega)] at hv
      have hc := h.cell hs hj
      rw [← hv]
      by_cases hj0 : j = 0
      · subst hj0; simpa [Addr.add] using hc
      · simpa [Addr.add, hj0] using hc)
    (by rw [ints_length, s2, List.size_toArray, ints_length, r2]; omega) (ints_one _)
  have e : ((ints R[i]!).toArray.toList.take 0 ++ ints R[s]! ++ (ints R[i]!).toArray.toList.drop (0 + (ints R[s]!).length)).toArray = (ints R[s]!).toArray := by
    rw [List.take_zero, List.nil_append, ints_length, s2, List.drop_eq_nil_of_le (by show (ints R[i]!).length ≤ _; rw [ints_length, r2]; omega), List.append_nil]
  rw [e, ints_length, s2] at hr
  refine ⟨_, hr, h.turn hi _ s2 ?_ (fun k hk => ?_) ?_⟩
  · exact setRow_same r1
  · exact setRow_other hk
  · refine ⟨h.bl.os, h.bl.tape, h.bl.output, by rw [setRow_size]; exact h.bl.size, fun k hk => ?_⟩
    have := h.old i hi
    rw [setRow_other (by omega)]
    exact h.bl.block k hk

theorem make_ints (k : Nat) (h1 : k ≤ 1099511627776) (w : World) :
    (Instr.makeSlice 22 (.int .i64 (k : Int)) (.int .i64 (k : Int))).run Tryd.prog w = .ok (.slice (some ⟨w.heap.size, 0, none⟩) k k) (w.alloc (.cells (ints (List.replicate k 0)).toArray 3)) := by
  obtain ⟨i, hi, hz0, hz1, hz2⟩ := info_parts Tryd.infoI
  have e : madeCells (Value.int .i64 0).cells ((k : Int).toNat * i.size) = (ints (List.replicate k 0)).toArray := by
    rw [hz1]
    apply Array.ext
    · simp [madeCells, ints]
    · intro j h1 h2
      simp [madeCells, ints, Value.cells, Nat.mod_one]
  rw [run_make w 22 3 i (.int .i64 0) Tryd.underlying22 hi hz0 .i64 .i64 k k (by omega) (Int.le_refl _) (by rw [hz2]; omega) (by omega), e]
  simp

theorem make_slots (k : Nat) (Lt : Nat) (h1 : k ≤ 1099511627776) (w : World) :
    (Instr.makeSlice 24 (.int .i64 (k : Int)) (.int .i64 (k : Int))).run Tryd.prog w = .ok (.slice (some ⟨w.heap.size, 0, none⟩) k k) (w.alloc (.cells (slots [] Lt k).toArray 22)) := by
  obtain ⟨i, hi, hz0, hz1, hz2⟩ := info_parts Tryd.infoIs
  have e : madeCells (Value.slice none 0 0).cells ((k : Int).toNat * i.size) = (slots [] Lt k).toArray := by
    rw [hz1]
    apply Array.ext
    · simp [madeCells, slots]
    · intro j h1 h2
      simp [madeCells, slots, Value.cells, Nat.mod_one]
  rw [run_make w 24 22 i (.slice none 0 0) Tryd.underlying24 hi hz0 .i64 .i64 k k (by omega) (Int.le_refl _) (by rw [hz2]; omega) (by omega), e]
  simp

theorem StepsAt.start (w : World) (Lt N : Nat) : StepsAt w (w.alloc (.cells (slots [] Lt N).toArray 22)) w.heap.size Lt N [] [] :=
  ⟨heap_alloc_new w _, fun _ hi => absurd hi (Nat.not_lt_zero _), fun _ _ _ hj => absurd hj (Nat.not_lt_zero _), fun _ hi => absurd hi (Nat.not_lt_zero _), rfl, alloc_below w _, Nat.le_refl _⟩

/-- Whole rows. -/
theorem StepsAt.rows {w wr : World} {G Lt N : Nat} {gs : List Nat} {R : List (List Int)} (h : StepsAt w wr G Lt N gs R) (hl : gs.length = N) (hN : N ≤ 9223372036854775807) (hLt : Lt ≤ 9223372036854775807) : RowsF wr (.slice (some ⟨G, 0, none⟩) N N) N Lt (fun i j => (R[i]!)[j]!) := by
  refine ⟨_, N, rfl, Nat.le_refl _, hN, fun _ => ⟨G, 0, rfl, h.topLt, fun i hi => ⟨_, Lt, by rw [Nat.zero_add]; exact h.slot (by omega), Nat.le_refl _, hLt, fun _ => ⟨_, 0, rfl, h.lt (by omega), fun j hj => by rw [Nat.zero_add]; exact h.cell (by omega) hj⟩⟩⟩⟩
end Go.Proofs.YtgcpdgcacdofcaaDoor
