/- Rows of numbers of the call's own, and rows of such rows. -/
import Derived.Test.YtgcpdgcacdofcaaDoorC2
import Derived.Deep.AppendLies
namespace Go.Proofs.YtgcpdgcacdofcaaDoor
open Go.RowKit

theorem below_step {w w1 w2 : World} (h : Below w.heap.size w w1) (k : Below w1.heap.size w1 w2) : Below w.heap.size w w2 := h.trans (k.mono h.size)
theorem alloc_below (w : World) (o : Obj) : Below w.heap.size w (w.alloc o) := (Below.refl _ _).alloc (Nat.le_refl _) _
theorem alloc_heap (w : World) (o : Obj) : (w.alloc o).heap = w.heap.push o := rfl
theorem alloc_size (w : World) (o : Obj) : (w.alloc o).heap.size = w.heap.size + 1 := by rw [alloc_heap, Array.size_push]

def ints (xs : List Int) : List Value := xs.map (.int .i64 ·)
theorem ints_length (xs : List Int) : (ints xs).length = xs.length := List.length_map ..
theorem ints_append (xs ys : List Int) : ints (xs ++ ys) = ints xs ++ ints ys := List.map_append ..
theorem ints_one (xs : List Int) : ∀ u ∈ ints xs, u.oneCell' = true := by
  intro u hu
  obtain ⟨x, _, rfl⟩ := List.mem_map.1 hu
  rfl
theorem ints_get {xs : List Int} {j : Nat} (h : j < xs.length) : (ints xs)[j]? = some (.int .i64 xs[j]!) := by simp [ints, h]

theorem Tryd.infoI : (Tryd.prog.info? 3).map (fun i => (i.zero, i.size, i.bytes)) = some (some (.int .i64 0), 1, 8) := by kernel_rfl
theorem Tryd.infoIs : (Tryd.prog.info? 22).map (fun i => (i.zero, i.size, i.bytes)) = some (some (.slice none 0 0), 1, 24) := by kernel_rfl
theorem info_parts {P : Program} {t : TypeId} {z : Option Value} {s b : Nat} (h : (P.info? t).map (fun i => (i.zero, i.size, i.bytes)) = some (z, s, b)) : ∃ i, P.info? t = some i ∧ i.zero = z ∧ i.size = s ∧ i.bytes = b := by
  cases hi : P.info? t with
  | none => rw [hi] at h; cases h
  | some i =>
    rw [hi] at h
    simp only [Option.map_some, Option.some.injEq, Prod.mk.injEq] at h
    exact ⟨i, rfl, h.1, h.2.1, h.2.2⟩

theorem owns_kept {w w' : World} {B : Nat} {e : TypeId} {s : Nat} {v : Value} {n : Nat} {xs : List Value} (h : w.ownsRow B e s v n xs) (hk : ∀ k o, v.ownBlock = some k → w.heap[k]? = some o → w'.heap[k]? = some o) : w'.ownsRow B e s v n xs := by
  refine ⟨h.1, ?_⟩
  rcases h.2 with h | ⟨g, cap, cur, hv, hb, hg, h1, h2, h3, h4⟩
  · exact Or.inl h
  · exact Or.inr ⟨g, cap, cur, hv, hb, hk g _ (by rw [hv]; rfl) hg, h1, h2, h3, h4⟩

theorem owns_below {w w' : World} {B : Nat} {e : TypeId} {s : Nat} {v : Value} {n : Nat} {xs : List Value} (h : w.ownsRow B e s v n xs) (hb : Below w.heap.size w w') : w'.ownsRow B e s v n xs :=
  owns_kept h fun k o _ ho => by rw [hb.block k (Array.getElem?_eq_some_iff.1 ho).1]; exact ho

theorem owns_base {w : World} {B B' : Nat} {e : TypeId} {s : Nat} {v : Value} {n : Nat} {xs : List Value} (h : w.ownsRow B e s v n xs) (hb : B' ≤ B) : w.ownsRow B' e s v n xs := by
  refine ⟨h.1, ?_⟩
  rcases h.2 with h | ⟨g, cap, cur, hv, hg, h1⟩
  · exact Or.inl h
  · exact Or.inr ⟨g, cap, cur, hv, Nat.le_trans hb hg, h1⟩

/-- Two rows of the call's own whose elements have not the same type lie in two blocks. -/
theorem owns_apart {w : World} {B B' : Nat} {e e' : TypeId} {s s' : Nat} {v v' : Value} {n n' : Nat} {xs xs' : List Value} (h : w.ownsRow B e s v n xs) (h' : w.ownsRow B' e' s' v' n' xs') (hne : e ≠ e') : ∀ k, v.ownBlock = some k → v'.ownBlock ≠ some k := by
  intro k hk hk'
  rcases h.2 with ⟨rfl, _⟩ | ⟨g, cap, cur, rfl, _, hg, _⟩
  · cases hk
  · rcases h'.2 with ⟨rfl, _⟩ | ⟨g', cap', cur', rfl, _, hg', _⟩
    · cases hk'
    · obtain rfl : g = k := by simpa [Value.ownBlock] using hk
      obtain rfl : g' = g := by simpa [Value.ownBlock] using hk'
      rw [hg] at hg'
      injection hg' with e1
      injection e1 with _ e2
      exact hne e2

theorem owns_grown {w w' : World} {B B' : Nat} {e e' : TypeId} {s s' : Nat} {v v' : Value} {n n' : Nat} {xs xs' : List Value} (h : w.ownsRow B e s v n xs) (h' : w.ownsRow B' e' s' v' n' xs') (hne : e ≠ e') (hg : w.grownBy w' v'.ownBlock) : w'.ownsRow B e s v n xs :=
  owns_kept h fun k o hk ho => by rw [hg.block k (Array.getElem?_eq_some_iff.1 ho).1 (fun e => owns_apart h h' hne k hk e.symm)]; exact ho

/-- An owned row is a row. -/
theorem irow_of_owns {w : World} {B : Nat} {v : Value} {xs : List Int} (h : w.ownsRow B 3 1 v xs.length (ints xs)) : ∃ a c, v = .slice a xs.length c ∧ IRow w a xs.length c (fun j => xs[j]!) ∧ (0 < xs.length → ∃ g, a = some ⟨g, 0, none⟩ ∧ B ≤ g) := by
  rcases h.2 with ⟨rfl, h0⟩ | ⟨g, cap, cur, rfl, hb, hg, h1, h2, h3, h4⟩
  · exact ⟨none, 0, by rw [h0], ⟨by omega, by decide, fun h => by omega⟩, fun h => by omega⟩
  · refine ⟨_, cap, rfl, ⟨h1, by unfold maxLen at h2; exact h2, fun _ => ⟨g, 0, rfl, (Array.getElem?_eq_some_iff.1 hg).1, fun j hj => ?_⟩⟩, fun _ => ⟨g, rfl, hb⟩⟩
    have e1 : (ints xs)[j]? = cur[j]? := by
      rw [← h4, List.getElem?_take_of_lt (by omega)]
      simp
    simp only [World.cell?, hg, Nat.zero_add]
    rw [← e1]
    exact ints_get hj

/-- Rows of ints: N of them, L numbers each. -/
def RowsF (w : World) (v : Value) (N L : Nat) (R : Nat → Nat → Int) : Prop :=
  ∃ (a : Option Addr) (c : Nat), v = .slice a N c ∧ N ≤ c ∧ c ≤ 9223372036854775807 ∧ (0 < N → ∃ b o, a = some ⟨b, o, none⟩ ∧ b < w.heap.size ∧ ∀ i, i < N → ∃ ai ci, w.cell? ⟨b, o + i, none⟩ = some (.slice ai L ci) ∧ IRow w ai L ci (R i))

theorem RowsF.below {w w' : World} {v : Value} {N L : Nat} {R : Nat → Nat → Int} (h : RowsF w v N L R) (hb : Below w.heap.size w w') : RowsF w' v N L R := by
  obtain ⟨a, c, e, h1, h2, h3⟩ := h
  refine ⟨a, c, e, h1, h2, fun hp => ?_⟩
  obtain ⟨b, o, e, hlt, hc⟩ := h3 hp
  refine ⟨b, o, e, Nat.lt_of_lt_of_le hlt hb.size, fun i hi => ?_⟩
  obtain ⟨ai, ci, hcell, hr⟩ := hc i hi
  exact ⟨ai, ci, by rw [hb.cell (p := ⟨b, o + i, none⟩) hlt]; exact hcell, hr.below hb⟩

/-- Rows of the call's own: the row of rows, and each one. -/
structure OwnRows (w : World) (B : Nat) (v : Value) (L : Nat) (ys : List (Value × List Int)) : Prop where
  top : w.ownsRow B 22 1 v ys.length (ys.map (·.1))
  row : ∀ i, i < ys.length → w.ownsRow B 3 1 (ys[i]!).1 (ys[i]!).2.length (ints (ys[i]!).2) ∧ (ys[i]!).2.length = L

theorem OwnRows.below {w w' : World} {B : Nat} {v : Value} {L : Nat} {ys : List (Value × List Int)} (h : OwnRows w B v L ys) (hb : Below w.heap.size w w') : OwnRows w' B v L ys :=
  ⟨owns_below h.top hb, fun i hi => ⟨owns_below (h.row i hi).1 hb, (h.row i hi).2⟩⟩

theorem OwnRows.push {w w' : World} {B g cap : Nat} {v : Value} {L : Nat} {ys : List (Value × List Int)} {y : Value} {xs : List Int} (h : OwnRows w B v L ys) (hy : w.ownsRow B 3 1 y xs.length (ints xs)) (hl : xs.length = L)
    (own : w'.ownsRow B 22 1 (.slice (some ⟨g, 0, none⟩) (ys.length + 1) cap) (ys.length + 1) (ys.map (·.1) ++ [y])) (hg : w.grownBy w' v.ownBlock) : OwnRows w' B (.slice (some ⟨g, 0, none⟩) (ys.length + 1) cap) L (ys ++ [(y, xs)]) := by
  have hne : 3 ≠ 22 := by decide
  refine ⟨by rw [List.length_append, List.map_append]; exact own, fun i hi => ?_⟩
  rw [List.length_append, List.length_singleton] at hi
  rcases Nat.lt_or_ge i ys.length with h' | h'
  · have e : (ys ++ [(y, xs)])[i]! = ys[i]! := by simp [h', List.getElem?_append_left h']
    rw [e]
    exact ⟨owns_grown (h.row i h').1 h.top hne hg, (h.row i h').2⟩
  · obtain rfl : i = ys.length := by omega
    have e : (ys ++ [(y, xs)])[ys.length]! = (y, xs) := by simp
    rw [e]
    exact ⟨owns_grown hy h.top hne hg, hl⟩

theorem OwnRows.rows {w : World} {B : Nat} {v : Value} {L : Nat} {ys : List (Value × List Int)} (h : OwnRows w B v L ys) : RowsF w v ys.length L (fun i j => ((ys[i]!).2)[j]!) := by
  rcases h.top.2 with ⟨rfl, h0⟩ | ⟨g, cap, cur, rfl, hb, hg, h1, h2, h3, h4⟩
  · exact ⟨none, 0, by rw [h0], by omega, by decide, fun h => by omega⟩
  · refine ⟨_, cap, rfl, h1, by unfold maxLen at h2; exact h2, fun _ => ⟨g, 0, rfl, (Array.getElem?_eq_some_iff.1 hg).1, fun i hi => ?_⟩⟩
    have e1 : (ys.map (·.1))[i]? = cur[i]? := by
      rw [← h4, List.getElem?_take_of_lt (by omega)]
      simp
    obtain ⟨hr, hl⟩ := h.row i hi
    obtain ⟨ai, ci, ev, hir, _⟩ := irow_of_owns hr
    rw [hl] at ev hir
    refine ⟨ai, ci, ?_, hir⟩
    simp only [World.cell?, hg, Nat.zero_add]
    rw [← e1, ← ev]
    simp [hi]
end Go.Proofs.YtgcpdgcacdofcaaDoor
