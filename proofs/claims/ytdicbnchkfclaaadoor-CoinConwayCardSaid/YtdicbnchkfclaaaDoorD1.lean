/- The coin's rows and steps, beside the fractions. -/
import Derived.Test.YtdicbnchkfclaaaDoorD0
import Derived.Test.YtdicbnchkfclaaaDoorX3
import Derived.Test.YtdicbnchkfclaaaDoorX2
import Derived.Deep.AppendLies
import Derived.Laws.CopyOwn
import Derived.Laws.MakeOwn
import Derived.Sort.Row
namespace Go.Proofs.YtdicbnchkfclaaaDoor
open Go.RowKit Go.Sort Go.Shelf

def ints (xs : List Int) : List Value := xs.map (.int .i64 ·)
theorem ints_length (xs : List Int) : (ints xs).length = xs.length := List.length_map ..
theorem ints_append (xs ys : List Int) : ints (xs ++ ys) = ints xs ++ ints ys := List.map_append ..
theorem ints_one (xs : List Int) : ∀ u ∈ ints xs, u.oneCell' = true := by
  intro u hu
  obtain ⟨x, _, rfl⟩ := List.mem_map.1 hu
  rfl
theorem ints_get {xs : List Int} {j : Nat} (h : j < xs.length) : (ints xs)[j]? = some (.int .i64 xs[j]!) := by simp [ints, h]

theorem Tryd.infoI : (Tryd.prog.info? 3).map (fun i => (i.zero, i.size, i.bytes)) = some (some (.int .i64 0), 1, 8) := by kernel_rfl
theorem Tryd.infoIs : (Tryd.prog.info? 60).map (fun i => (i.zero, i.size, i.bytes)) = some (some (.slice none 0 0), 1, 24) := by kernel_rfl
theorem owns_keptC {w w' : World} {B : Nat} {e : TypeId} {s : Nat} {v : Value} {n : Nat} {xs : List Value} (h : w.ownsRow B e s v n xs) (hk : ∀ k o, v.ownBlock = some k → w.heap[k]? = some o → w'.heap[k]? = some o) : w'.ownsRow B e s v n xs := by
  refine ⟨h.1, ?_⟩
  rcases h.2 with h | ⟨g, cap, cur, hv, hb, hg, h1, h2, h3, h4⟩
  · exact Or.inl h
  · exact Or.inr ⟨g, cap, cur, hv, hb, hk g _ (by rw [hv]; rfl) hg, h1, h2, h3, h4⟩

theorem owns_below {w w' : World} {B : Nat} {e : TypeId} {s : Nat} {v : Value} {n : Nat} {xs : List Value} (h : w.ownsRow B e s v n xs) (hb : Below w.heap.size w w') : w'.ownsRow B e s v n xs :=
  owns_keptC h fun k o _ ho => by rw [hb.block k (Array.getElem?_eq_some_iff.1 ho).1]; exact ho

theorem owns_base {w : World} {B B' : Nat} {e : TypeId} {s : Nat} {v : Value} {n : Nat} {xs : List Value} (h : w.ownsRow B e s v n xs) (hb : B' ≤ B) : w.ownsRow B' e s v n xs := by
  refine ⟨h.1, ?_⟩
  rcases h.2 with h | ⟨g, cap, cur, hv, hg, h1⟩
  · exact Or.inl h
  · exact Or.inr ⟨g, cap, cur, hv, Nat.le_trans hb hg, h1⟩

/-- Two rows of the call's own whose elements have not the same type lie in two blocks. -/
theorem owns_apart {w : World} {B B' : Nat} {e e' : TypeId} {s s' : Nat} {v v' : Value} {n n' : Nat} {xs xs' : List Value} (h : w.ownsRow B e s v n xs) (h' : w.ownsRow B' e' s' v' n' xs') (hne : e ≠ e') : ∀ k, v.ownBlock = some k → v'.ownBlock ≠ some k := by
  intro k hk hk'
  rcases h.2 with ⟨rfl, _⟩ | ⟨g, cap, cur, rfl, _, hg, _⟩
  · cases hk
  · rcases h'.2 with ⟨rfl, _⟩ | ⟨g', cap', cur', rfl, _, hg', _⟩
    · cases hk'
    · obtain rfl : g = k := by simpa [Value.ownBlock] using hk
      obtain rfl : g' = g := by simpa [Value.ownBlock] using hk'
      rw [hg] at hg'
      injection hg' with e1
      injection e1 with _ e2
      exact hne e2

theorem owns_grown {w w' : World} {B B' : Nat} {e e' : TypeId} {s s' : Nat} {v v' : Value} {n n' : Nat} {xs xs' : List Value} (h : w.ownsRow B e s v n xs) (h' : w.ownsRow B' e' s' v' n' xs') (hne : e ≠ e') (hg : w.grownBy w' v'.ownBlock) : w'.ownsRow B e s v n xs :=
  owns_keptC h fun k o hk ho => by rw [hg.block k (Array.getElem?_eq_some_iff.1 ho).1 (fun e => owns_apart h h' hne k hk e.symm)]; exact ho

/-- An owned row is a row. -/
theorem irow_of_owns {w : World} {B : Nat} {v : Value} {xs : List Int} (h : w.ownsRow B 3 1 v xs.length (ints xs)) : ∃ a c, v = .slice a xs.length c ∧ IRow w a xs.length c (fun j => xs[j]!) ∧ (0 < xs.length → ∃ g, a = some ⟨g, 0, none⟩ ∧ B ≤ g) := by
  rcases h.2 with ⟨rfl, h0⟩ | ⟨g, cap, cur, rfl, hb, hg, h1, h2, h3, h4⟩
  · exact ⟨none, 0, by rw [h0], ⟨by omega, by decide, fun h => by omega⟩, fun h => by omega⟩
  · refine ⟨_, cap, rfl, ⟨h1, by unfold maxLen at h2; exact h2, fun _ => ⟨g, 0, rfl, (Array.getElem?_eq_some_iff.1 hg).1, fun j hj => ?_⟩⟩, fun _ => ⟨g, rfl, hb⟩⟩
    have e1 : (ints xs)[j]? = cur[j]? := by
      rw [← h4, List.getElem?_take_of_lt (by omega)]
      simp
    simp only [World.cell?, hg, Nat.zero_add]
    rw [← e1]
    exact ints_get hj

/-- Rows of ints: N of them, L numbers each. -/
def RowsF (w : World) (v : Value) (N L : Nat) (R : Nat → Nat → Int) : Prop :=
  ∃ (a : Option Addr) (c : Nat), v = .slice a N c ∧ N ≤ c ∧ c ≤ 9223372036854775807 ∧ (0 < N → ∃ b o, a = some ⟨b, o, none⟩ ∧ b < w.heap.size ∧ ∀ i, i < N → ∃ ai ci, w.cell? ⟨b, o + i, none⟩ = some (.slice ai L ci) ∧ IRow w ai L ci (R i))

theorem RowsF.below {w w' : World} {v : Value} {N L : Nat} {R : Nat → Nat → Int} (h : RowsF w v N L R) (hb : Below w.heap.size w w') : RowsF w' v N L R := by
  obtain ⟨a, c, e, h1, h2, h3⟩ := h
  refine ⟨a, c, e, h1, h2, fun hp => ?_⟩
  obtain ⟨b, o, e, hlt, hc⟩ := h3 hp
  refine ⟨b, o, e, Nat.lt_of_lt_of_le hlt hb.size, fun i hi => ?_⟩
  obtain ⟨ai, ci, hcell, hr⟩ := hc i hi
  exact ⟨ai, ci, by rw [hb.cell (p := ⟨b, o + i, none⟩) hlt]; exact hcell, hr.below hb⟩

/-- Rows of the call's own: the row of rows, and each one. -/
structure OwnRows (w : World) (B : Nat) (v : Value) (L : Nat) (ys : List (Value × List Int)) : Prop where
  top : w.ownsRow B 60 1 v ys.length (ys.map (·.1))
  row : ∀ i, i < ys.length → w.ownsRow B 3 1 (ys[i]!).1 (ys[i]!).2.length (ints (ys[i]!).2) ∧ (ys[i]!).2.length = L

theorem OwnRows.below {w w' : World} {B : Nat} {v : Value} {L : Nat} {ys : List (Value × List Int)} (h : OwnRows w B v L ys) (hb : Below w.heap.size w w') : OwnRows w' B v L ys :=
  ⟨owns_below h.top hb, fun i hi => ⟨owns_below (h.row i hi).1 hb, (h.row i hi).2⟩⟩

theorem OwnRows.push {w w' : World} {B g cap : Nat} {v : Value} {L : Nat} {ys : List (Value × List Int)} {y : Value} {xs : List Int} (h : OwnRows w B v L ys) (hy : w.ownsRow B 3 1 y xs.length (ints xs)) (hl : xs.length = L)
    (own : w'.ownsRow B 60 1 (.slice (some ⟨g, 0, none⟩) (ys.length + 1) cap) (ys.length + 1) (ys.map (·.1) ++ [y])) (hg : w.grownBy w' v.ownBlock) : OwnRows w' B (.slice (some ⟨g, 0, none⟩) (ys.length + 1) cap) L (ys ++ [(y, xs)]) := by
  have hne : 3 ≠ 60 := by decide
  refine ⟨by rw [List.length_append, List.map_append]; exact own, fun i hi => ?_⟩
  rw [List.length_append, List.length_singleton] at hi
  rcases Nat.lt_or_ge i ys.length with h' | h'
  · have e : (ys ++ [(y, xs)])[i]! = ys[i]! := by simp [h', List.getElem?_append_left h']
    rw [e]
    exact ⟨owns_grown (h.row i h').1 h.top hne hg, (h.row i h').2⟩
  · obtain rfl : i = ys.length := by omega
    have e : (ys ++ [(y, xs)])[ys.length]! = (y, xs) := by simp
    rw [e]
    exact ⟨owns_grown hy h.top hne hg, hl⟩

theorem OwnRows.rows {w : World} {B : Nat} {v : Value} {L : Nat} {ys : List (Value × List Int)} (h : OwnRows w B v L ys) : RowsF w v ys.length L (fun i j => ((ys[i]!).2)[j]!) := by
  rcases h.top.2 with ⟨rfl, h0⟩ | ⟨g, cap, cur, rfl, hb, hg, h1, h2, h3, h4⟩
  · exact ⟨none, 0, by rw [h0], by omega, by decide, fun h => by omega⟩
  · refine ⟨_, cap, rfl, h1, by unfold maxLen at h2; exact h2, fun _ => ⟨g, 0, rfl, (Array.getElem?_eq_some_iff.1 hg).1, fun i hi => ?_⟩⟩
    have e1 : (ys.map (·.1))[i]? = cur[i]? := by
      rw [← h4, List.getElem?_take_of_lt (by omega)]
      simp
    obtain ⟨hr, hl⟩ := h.row i hi
    obtain ⟨ai, ci, ev, hir, _⟩ := irow_of_owns hr
    rw [hl] at ev hir
    refine ⟨ai, ci, ?_, hir⟩
    simp only [World.cell?, hg, Nat.zero_add]
    rw [← e1, ← ev]
    simp [hi]
/-- What stands behind n letters of the word and k. -/
def StandsAt (g : Nat → Int) (M n : Nat) (k x : Int) : Prop := ∃ y : Nat, x = (y : Int) ∧ Kmp.Top (fun j => Kmp.Ds g j n k) (min M (n + 1)) y

def textOf (g : Nat → Int) (n : Nat) (k : Int) : List Int := (List.range n).map g ++ [k]
theorem textOf_length (g : Nat → Int) (n : Nat) (k : Int) : (textOf g n k).length = n + 1 := by simp [textOf]
theorem textOf_lt {g : Nat → Int} {n : Nat} {k : Int} {i : Nat} (h : i < n) : (textOf g n k)[i]! = g i := by simp [textOf, List.getElem?_append_left, h]
theorem textOf_at {g : Nat → Int} {n : Nat} {k : Int} : (textOf g n k)[n]! = k := by simp [textOf]

theorem standsAt_short {g : Nat → Int} {M n x : Nat} {k : Int} (hn : n < M) (h : Kmp.Top (EndsIn (n + 1) (fun j => (textOf g n k)[j]!) g) (min M (n + 1)) x) : StandsAt g M n k (x : Int) := by
  refine ⟨x, rfl, h.congr fun j hj => ?_⟩
  rw [Kmp.ds_text (fun i => (textOf g n k)[i]!) (fun i hi => textOf_lt hi) textOf_at (by omega)]
  rfl

theorem standsAt_whole {g : Nat → Int} {M x : Nat} {k : Int} (h : Kmp.Top (EndsIn M (fun j => (textOf g M k)[1 + j]!) g) (min M M) x) : StandsAt g M M k (x : Int) := by
  have e : min M (M + 1) = min M M := by omega
  refine ⟨x, rfl, ?_⟩
  rw [e]
  refine h.congr fun j hj => ?_
  rw [Kmp.ds_text (fun i => (textOf g M k)[i]!) (fun i hi => textOf_lt hi) textOf_at (by omega)]
  unfold EndsIn
  constructor
  · intro hh i hi
    have := hh i hi
    rw [show M + 1 - j + i = 1 + (M - j + i) by omega]
    exact this
  · intro hh i hi
    have := hh i hi
    rw [show M + 1 - j + i = 1 + (M - j + i) by omega] at this
    exact this

theorem word_cells {w : World} {b o M c : Nat} {g : Nat → Int} (h : IRow w (some ⟨b, o, none⟩) M c g) {n : Nat} (hn : n ≤ M) (h0 : 0 < M) : ∀ j u, (ints ((List.range n).map g))[j]? = some u → w.cell? ((⟨b, o, none⟩ : Addr).add j) = some u := by
  intro j u hu
  obtain ⟨h1, h2, h3⟩ := h
  obtain ⟨b', o', e, hlt, hc⟩ := h3 h0
  obtain ⟨rfl, rfl, _⟩ := by simpa using e
  have hj : j < n := by
    have := (List.getElem?_eq_some_iff.1 hu).1
    simpa [ints] using this
  have hcj := hc j (by omega)
  simp [ints, hj] at hu
  rw [← hu]
  unfold Addr.add
  by_cases hj0 : j = 0
  · subst hj0; first | (simp; done) | (simpa using hcj)
  · first | (simp [hj0]; done) | (simpa [hj0] using hcj)

theorem new_one (w : World) (x : Int) (T : TypeId) : ∀ j u, (ints [x])[j]? = some u → (w.alloc (.cells #[.int .i64 x] T)).cell? ((⟨w.heap.size, 0, none⟩ : Addr).add j) = some u := by
  intro j u hu
  have hj : j < 1 := by
    have := (List.getElem?_eq_some_iff.1 hu).1
    simpa [ints] using this
  obtain rfl : j = 0 := by omega
  simp [ints] at hu
  subst hu
  simp [Addr.add]

theorem one_val {y : Value} (h : y.oneCell' = true) : ∀ u ∈ [y], u.oneCell' = true := by
  intro u hu
  rw [List.mem_singleton.1 hu]
  exact h

theorem new_val (w : World) (y : Value) (T : TypeId) : ∀ j u, ([y] : List Value)[j]? = some u → (w.alloc (.cells #[y] T)).cell? ((⟨w.heap.size, 0, none⟩ : Addr).add j) = some u := by
  intro j u hu
  have hj : j < 1 := by simpa using (List.getElem?_eq_some_iff.1 hu).1
  obtain rfl : j = 0 := by omega
  simp at hu
  subst hu
  simp [Addr.add]

theorem text_prep {wr w1 : World} {v1 : Value} {n : Nat} {g : Nat → Int} {k : Int} (own2 : w1.ownsRow wr.heap.size 3 1 v1 (0 + n) ([] ++ ints ((List.range n).map g))) (grow1 : (wr.alloc (.cells #[] 3)).grownBy w1 (some wr.heap.size)) :
    (w1.alloc (.cells #[.int .i64 k] 3)).ownsRow wr.heap.size 3 1 v1 n (ints ((List.range n).map g)) ∧ Below wr.heap.size wr (w1.alloc (.cells #[.int .i64 k] 3)) ∧ wr.heap.size ≤ (w1.alloc (.cells #[.int .i64 k] 3)).heap.size := by
  have b1 : Below wr.heap.size wr w1 := (alloc_below wr _).grown grow1 (by rw [alloc_size]; omega) (fun k hk => by injection hk with hk; omega)
  have b2 := below_step b1 (alloc_below w1 (.cells #[.int .i64 k] 3))
  refine ⟨?_, b2, b2.size⟩
  rw [Nat.zero_add, List.nil_append] at own2
  exact owns_below own2 (alloc_below _ _)

theorem text_made {wr w1 w3 : World} {v1 : Value} {n g2 cap2 : Nat} {g : Nat → Int} {k : Int} (own2 : w1.ownsRow wr.heap.size 3 1 v1 n (ints ((List.range n).map g))) (b1 : Below wr.heap.size wr w1) (grow2 : w1.grownBy w3 v1.ownBlock)
    (own3 : w3.ownsRow wr.heap.size 3 1 (.slice (some ⟨g2, 0, none⟩) (n + 1) cap2) (n + 1) (ints ((List.range n).map g) ++ ints [k])) :
    IRow w3 (some ⟨g2, 0, none⟩) (n + 1) cap2 (fun j => (textOf g n k)[j]!) ∧ Below wr.heap.size wr w3 := by
  refine ⟨?_, b1.grown grow2 b1.size (fun k hk => (own2.lt k hk).1)⟩
  have e : ints ((List.range n).map g) ++ ints [k] = ints (textOf g n k) := by rw [← ints_append]; rfl
  have el : n + 1 = (textOf g n k).length := (textOf_length g n k).symm
  rw [e, el] at own3
  obtain ⟨a, c, ev, hr, _⟩ := irow_of_owns own3
  injection ev with e1 e2 e3
  rw [← e1, ← e3, ← el] at hr
  exact hr

theorem row_pushed {W0 wr w4 w5 : World} {u : Value} {xs : List Int} {x : Int} {g5 cap5 : Nat} (b0 : Below W0.heap.size W0 wr) (b4 : Below wr.heap.size wr w4) (own : wr.ownsRow W0.heap.size 3 1 u xs.length (ints xs))
    (grow : (w4.alloc (.cells #[.int .i64 x] 3)).grownBy w5 u.ownBlock) (own5 : w5.ownsRow W0.heap.size 3 1 (.slice (some ⟨g5, 0, none⟩) (xs.length + 1) cap5) (xs.length + 1) (ints xs ++ ints [x])) :
    w5.ownsRow W0.heap.size 3 1 (.slice (some ⟨g5, 0, none⟩) (xs.length + 1) cap5) (xs ++ [x]).length (ints (xs ++ [x])) ∧ Below W0.heap.size W0 w5 := by
  have b5 : Below W0.heap.size W0 (w4.alloc (.cells #[.int .i64 x] 3)) := below_step (below_step b0 b4) (alloc_below _ _)
  refine ⟨by rw [List.length_append, ints_append]; exact own5, b5.grown grow b5.size (fun k hk => (own.lt k hk).1)⟩

theorem stands_pushed {g : Nat → Int} {M n : Nat} {xs : List Int} {x : Int} (h : ∀ j, j < xs.length → StandsAt g M n (j : Int) xs[j]!) (hx : StandsAt g M n (xs.length : Int) x) : ∀ j, j < xs.length + 1 → StandsAt g M n (j : Int) (xs ++ [x])[j]! := by
  intro j hj
  rcases Nat.lt_or_ge j xs.length with h' | h'
  · have e : (xs ++ [x])[j]! = xs[j]! := by simp [h', List.getElem?_append_left h']
    rw [e]; exact h j h'
  · obtain rfl : j = xs.length := by omega
    have e : (xs ++ [x])[xs.length]! = x := by simp
    rw [e]; exact hx

theorem rows_pushed {g : Nat → Int} {M n L : Nat} {ys : List (Value × List Int)} {y : Value} {xs : List Int} (hl : ys.length = n) (h : ∀ i k, i < n → k < L → StandsAt g M i (k : Int) ((ys[i]!).2[k]!)) (hx : ∀ j, j < L → StandsAt g M n (j : Int) xs[j]!) :
    ∀ i k, i < n + 1 → k < L → StandsAt g M i (k : Int) (((ys ++ [(y, xs)])[i]!).2[k]!) := by
  intro i k hi hk
  subst hl
  rcases Nat.lt_or_ge i ys.length with h' | h'
  · have e : (ys ++ [(y, xs)])[i]! = ys[i]! := by simp [h', List.getElem?_append_left h']
    rw [e]; exact h i k h' hk
  · obtain rfl : i = ys.length := by omega
    have e : (ys ++ [(y, xs)])[ys.length]! = (y, xs) := by simp
    rw [e]; exact hx k hk

/-- The row of rows: the first ones, and nil for what isn't laid yet. -/
def slots (gs : List Nat) (Lt N : Nat) : List Value := gs.map (fun g => .slice (some ⟨g, 0, none⟩) Lt Lt) ++ List.replicate (N - gs.length) (.slice none 0 0)
theorem slots_length {gs : List Nat} {Lt N : Nat} (h : gs.length ≤ N) : (slots gs Lt N).length = N := by simp [slots]; omega
theorem slots_get {gs : List Nat} {Lt N i : Nat} (h : i < gs.length) : (slots gs Lt N)[i]? = some (.slice (some ⟨gs[i]!, 0, none⟩) Lt Lt) := by
  unfold slots
  rw [List.getElem?_append_left (by simpa using h)]
  simp [h]
theorem slots_set {gs : List Nat} {Lt N g : Nat} (h : gs.length < N) : (slots gs Lt N).set gs.length (.slice (some ⟨g, 0, none⟩) Lt Lt) = slots (gs ++ [g]) Lt N := by
  unfold slots
  rw [List.set_append_right _ _ (by simp)]
  simp only [List.length_map, Nat.sub_self, List.map_append, List.map_cons, List.map_nil, List.length_append, List.length_cons, List.length_nil, List.append_assoc]
  congr 1
  obtain ⟨k, hk⟩ : ∃ k, N - gs.length = k + 1 := ⟨N - gs.length - 1, by omega⟩
  have hk' : N - (gs.length + (0 + 1)) = k := by omega
  rw [hk, hk', List.replicate_succ]
  rfl

structure StepsAt (w wr : World) (G Lt N : Nat) (gs : List Nat) (R : List (List Int)) : Prop where
  top : wr.heap[G]? = some (.cells (slots gs Lt N).toArray 60)
  row : ∀ i, i < gs.length → wr.heap[gs[i]!]? = some (.cells (ints R[i]!).toArray 3) ∧ (R[i]!).length = Lt
  apart : ∀ i j, i < j → j < gs.length → gs[i]! ≠ gs[j]!
  old : ∀ i, i < gs.length → w.heap.size ≤ gs[i]!
  len : R.length = gs.length
  bl : Below w.heap.size w wr
  gl : w.heap.size ≤ G

theorem StepsAt.lt {w wr : World} {G Lt N : Nat} {gs : List Nat} {R : List (List Int)} (h : StepsAt w wr G Lt N gs R) {i : Nat} (hi : i < gs.length) : gs[i]! < wr.heap.size := (Array.getElem?_eq_some_iff.1 (h.row i hi).1).1
theorem StepsAt.topLt {w wr : World} {G Lt N : Nat} {gs : List Nat} {R : List (List Int)} (h : StepsAt w wr G Lt N gs R) : G < wr.heap.size := (Array.getElem?_eq_some_iff.1 h.top).1
theorem StepsAt.ne {w wr : World} {G Lt N : Nat} {gs : List Nat} {R : List (List Int)} (h : StepsAt w wr G Lt N gs R) {i : Nat} (hi : i < gs.length) : gs[i]! ≠ G := by
  intro e
  have h1 := (h.row i hi).1
  rw [e, h.top] at h1
  injection h1 with h2
  injection h2 with _ h3
  exact absurd h3 (by decide)

theorem StepsAt.keep {w wr w' : World} {G Lt N : Nat} {gs : List Nat} {R : List (List Int)} (h : StepsAt w wr G Lt N gs R) (hb : Below wr.heap.size wr w') : StepsAt w w' G Lt N gs R :=
  ⟨by rw [hb.block _ h.topLt]; exact h.top, fun i hi => ⟨by rw [hb.block _ (h.lt hi)]; exact (h.row i hi).1, (h.row i hi).2⟩, h.apart, h.old, h.len, below_step h.bl hb, h.gl⟩

/-- The cells that are read. -/
theorem StepsAt.slot {w wr : World} {G Lt N : Nat} {gs : List Nat} {R : List (List Int)} (h : StepsAt w wr G Lt N gs R) {i : Nat} (hi : i < gs.length) : wr.cell? ⟨G, i, none⟩ = some (.slice (some ⟨gs[i]!, 0, none⟩) Lt Lt) := by
  simp only [World.cell?, h.top]
  have := slots_get (Lt := Lt) (N := N) hi
  simpa using this
theorem StepsAt.free {w wr : World} {G Lt N : Nat} {gs : List Nat} {R : List (List Int)} (h : StepsAt w wr G Lt N gs R) (i : Nat) : wr.frozen? ⟨G, i, none⟩ = false := by simp [World.frozen?, h.top]
theorem StepsAt.cell {w wr : World} {G Lt N : Nat} {gs : List Nat} {R : List (List Int)} (h : StepsAt w wr G Lt N gs R) {i j : Nat} (hi : i < gs.length) (hj : j < Lt) : wr.cell? ⟨gs[i]!, j, none⟩ = some (.int .i64 (R[i]!)[j]!) := by
  obtain ⟨h1, h2⟩ := h.row i hi
  simp only [World.cell?, h1]
  have := ints_get (xs := R[i]!) (j := j) (by omega)
  simpa using this
theorem StepsAt.freeRow {w wr : World} {G Lt N : Nat} {gs : List Nat} {R : List (List Int)} (h : StepsAt w wr G Lt N gs R) {i : Nat} (hi : i < gs.length) (j : Nat) : wr.frozen? ⟨gs[i]!, j, none⟩ = false := by
  simp only [World.frozen?]
  rw [(h.row i hi).1]
  simp

/-- A row is laid and put into its slot. -/
theorem StepsAt.add {w wr : World} {G Lt N : Nat} {gs : List Nat} {R : List (List Int)} (h : StepsAt w wr G Lt N gs R) (hn : gs.length < N) :
    StepsAt w ((wr.alloc (.cells (ints (List.replicate Lt 0)).toArray 3)).setCell ⟨G, gs.length, none⟩ (.slice (some ⟨wr.heap.size, 0, none⟩) Lt Lt)) G Lt N (gs ++ [wr.heap.size]) (R ++ [List.replicate Lt 0]) := by
  have k := h.keep (alloc_below wr (.cells (ints (List.replicate Lt 0)).toArray 3))
  have hG := h.topLt
  have hl := h.len
  refine ⟨?_, fun i hi => ?_, fun i j hij hj => ?_, fun i hi => ?_, by simp [hl], k.bl.setCell h.gl _, h.gl⟩
  · rw [setCell_eq]
    simp only [mapBlock, Array.getElem?_modify, k.top, if_true, Option.map_some, onCells]
    rw [← slots_set hn]
    simp
  · rw [List.length_append, List.length_singleton] at hi
    rcases Nat.lt_or_ge i gs.length with h' | h'
    · have e1 : (gs ++ [wr.heap.size])[i]! = gs[i]! := by simp [h', List.getElem?_append_left h']
      have e2 : (R ++ [List.replicate Lt 0])[i]! = R[i]! := by simp [List.getElem?_append_left (show i < R.length by omega)]
      rw [e1, e2, Below.heap_setCell _ _ _ _ (h.ne h')]
      exact k.row i h'
    · obtain rfl : i = gs.length := by omega
      have e1 : (gs ++ [wr.heap.size])[gs.length]! = wr.heap.size := by simp
      have e2 : (R ++ [List.replicate Lt 0])[gs.length]! = List.replicate Lt 0 := by rw [← hl]; simp
      rw [e1, e2, Below.heap_setCell _ _ _ _ (show wr.heap.size ≠ G by omega)]
      exact ⟨heap_alloc_new wr _, by simp⟩
  · rw [List.length_append, List.length_singleton] at hj
    have e1 : (gs ++ [wr.heap.size])[i]! = gs[i]! := by simp [List.getElem?_append_left (show i < gs.length by omega), show i < gs.length by omega]
    rcases Nat.lt_or_ge j gs.length with h' | h'
    · have e2 : (gs ++ [wr.heap.size])[j]! = gs[j]! := by simp [h', List.getElem?_append_left h']
      rw [e1, e2]; exact h.apart i j hij h'
    · obtain rfl : j = gs.length := by omega
      have e2 : (gs ++ [wr.heap.size])[gs.length]! = wr.heap.size := by simp
      rw [e1, e2]
      have := h.lt hij
      omega
  · rw [List.length_append, List.length_singleton] at hi
    rcases Nat.lt_or_ge i gs.length with h' | h'
    · have e1 : (gs ++ [wr.heap.size])[i]! = gs[i]! := by simp [h', List.getElem?_append_left h']
      rw [e1]; exact h.old i h'
    · obtain rfl : i = gs.length := by omega
      have e1 : (gs ++ [wr.heap.size])[gs.length]! = wr.heap.size := by simp
      rw [e1]; exact h.bl.size

/-- What one row holds is changed. -/
theorem StepsAt.turn {w wr w' : World} {G Lt N : Nat} {gs : List Nat} {R : List (List Int)} (h : StepsAt w wr G Lt N gs R) {i : Nat} (hi : i < gs.length) (xs : List Int) (hx : xs.length = Lt) (hrow : w'.heap[gs[i]!]? = some (.cells (ints xs).toArray 3))
    (hother : ∀ k, k ≠ gs[i]! → w'.heap[k]? = wr.heap[k]?) (hb : Below w.heap.size w w') : StepsAt w w' G Lt N gs (R.set i xs) := by
  have hl := h.len
  refine ⟨by rw [hother _ (fun e => h.ne hi e.symm)]; exact h.top, fun j hj => ?_, h.apart, h.old, by rw [List.length_set]; exact hl, hb, h.gl⟩
  by_cases e : i = j
  · subst e
    have e2 : (R.set i xs)[i]! = xs := by simp [show i < R.length by omega]
    rw [e2]; exact ⟨hrow, hx⟩
  · have e2 : (R.set i xs)[j]! = R[j]! := by simp [e]
    have hne : gs[j]! ≠ gs[i]! := by
      rcases Nat.lt_or_ge i j with h' | h'
      · exact (h.apart i j h' hj).symm
      · exact h.apart j i (by omega) hi
    rw [e2, hother _ hne]
    exact h.row j hj

theorem StepsAt.set {w wr : World} {G Lt N : Nat} {gs : List Nat} {R : List (List Int)} (h : StepsAt w wr G Lt N gs R) {i j : Nat} (hi : i < gs.length) (x : Int) :
    StepsAt w (wr.setCell ⟨gs[i]!, j, none⟩ (.int .i64 x)) G Lt N gs (R.set i ((R[i]!).set j x)) := by
  refine h.turn hi _ (by rw [List.length_set]; exact (h.row i hi).2) ?_ (fun k hk => Below.heap_setCell _ _ _ _ hk) (h.bl.setCell (h.old i hi) _)
  rw [setCell_eq]
  simp only [mapBlock, Array.getElem?_modify, (h.row i hi).1, if_true, Option.map_some, onCells]
  simp [ints, List.map_set]

theorem setRow_same {w : World} {g : Nat} {cs cs' : Array Value} {T : TypeId} (h : w.heap[g]? = some (.cells cs T)) : (w.setRow g cs').heap[g]? = some (.cells cs' T) := by
  simp [World.setRow, Array.getElem?_modify, h]
theorem setRow_other {w : World} {g k : Nat} {cs' : Array Value} (h : k ≠ g) : (w.setRow g cs').heap[k]? = w.heap[k]? := by
  simp [World.setRow, Array.getElem?_modify, Ne.symm h]
theorem setRow_size {w : World} {g : Nat} {cs' : Array Value} : (w.setRow g cs').heap.size = w.heap.size := by
  simp [World.setRow]

theorem Tryd.sizeI : (Tryd.prog.info? 3).map (·.size) = some 1 := by kernel_rfl

/-- copy(rows[i], rows[s]). -/
theorem StepsAt.copied {w wr : World} {G Lt N : Nat} {gs : List Nat} {R : List (List Int)} (h : StepsAt w wr G Lt N gs R) {i s : Nat} (hi : i < gs.length) (hs : s < gs.length) :
    ∃ W, (Builtin.copy_ #[60, 60] 3 #[.slice (some ⟨gs[i]!, 0, none⟩) Lt Lt, .slice (some ⟨gs[s]!, 0, none⟩) Lt Lt]).run Tryd.prog wr = .ok (.int .i64 (Lt : Int)) W ∧ StepsAt w W G Lt N gs (R.set i R[s]!) := by
  obtain ⟨r1, r2⟩ := h.row i hi
  obtain ⟨s1, s2⟩ := h.row s hs
  have hr := run_copy_row (P := Tryd.prog) wr 60 60 3 3 gs[i]! 0 Lt Lt ⟨gs[s]!, 0, none⟩ Lt Lt (ints R[i]!).toArray 3 (ints R[s]!) Tryd.underlying60 Tryd.sizeI r1
    (by rw [ints_length, s2]; exact (Nat.min_self _).symm)
    (fun j v hv => by
      have hj : j < Lt := by
        have := (List.getElem?_eq_some_iff.1 hv).1
        rw [ints_length, s2] at this; exact this
      rw [ints_get (by omega)] at hv
      have hc := h.cell hs hj
      rw [← hv]
      by_cases hj0 : j = 0
      · subst hj0; simpa [Addr.add] using hc
      · simpa [Addr.add, hj0] using hc)
    (by rw [ints_length, s2, List.size_toArray, ints_length, r2]; omega) (ints_one _)
  have e : ((ints R[i]!).toArray.toList.take 0 ++ ints R[s]! ++ (ints R[i]!).toArray.toList.drop (0 + (ints R[s]!).length)).toArray = (ints R[s]!).toArray := by
    rw [List.take_zero, List.nil_append, ints_length, s2, List.drop_eq_nil_of_le (by show (ints R[i]!).length ≤ _; rw [ints_length, r2]; omega), List.append_nil]
  rw [e, ints_length, s2] at hr
  refine ⟨_, hr, h.turn hi _ s2 ?_ (fun k hk => ?_) ?_⟩
  · exact setRow_same r1
  · exact setRow_other hk
  · refine ⟨h.bl.os, h.bl.tape, h.bl.output, by rw [setRow_size]; exact h.bl.size, fun k hk => ?_⟩
    have := h.old i hi
    rw [setRow_other (by omega)]
    exact h.bl.block k hk

theorem make_ints (k : Nat) (h1 : k ≤ 1099511627776) (w : World) :
    (Instr.makeSlice 60 (.int .i64 (k : Int)) (.int .i64 (k : Int))).run Tryd.prog w = .ok (.slice (some ⟨w.heap.size, 0, none⟩) k k) (w.alloc (.cells (ints (List.replicate k 0)).toArray 3)) := by
  obtain ⟨i, hi, hz0, hz1, hz2⟩ := info_parts Tryd.infoI
  have e : madeCells (Value.int .i64 0).cells ((k : Int).toNat * i.size) = (ints (List.replicate k 0)).toArray := by
    rw [hz1]
    apply Array.ext
    · simp [madeCells, ints]
    · intro j h1 h2
      simp [madeCells, ints, Value.cells, Nat.mod_one]
  rw [run_make w 60 3 i (.int .i64 0) Tryd.underlying60 hi hz0 .i64 .i64 k k (by omega) (Int.le_refl _) (by rw [hz2]; omega) (by omega), e]
  simp

theorem make_slots (k : Nat) (Lt : Nat) (h1 : k ≤ 1099511627776) (w : World) :
    (Instr.makeSlice 90 (.int .i64 (k : Int)) (.int .i64 (k : Int))).run Tryd.prog w = .ok (.slice (some ⟨w.heap.size, 0, none⟩) k k) (w.alloc (.cells (slots [] Lt k).toArray 60)) := by
  obtain ⟨i, hi, hz0, hz1, hz2⟩ := info_parts Tryd.infoIs
  have e : madeCells (Value.slice none 0 0).cells ((k : Int).toNat * i.size) = (slots [] Lt k).toArray := by
    rw [hz1]
    apply Array.ext
    · simp [madeCells, slots]
    · intro j h1 h2
      simp [madeCells, slots, Value.cells, Nat.mod_one]
  rw [run_make w 90 60 i (.slice none 0 0) Tryd.underlying90 hi hz0 .i64 .i64 k k (by omega) (Int.le_refl _) (by rw [hz2]; omega) (by omega), e]
  simp

theorem StepsAt.start (w : World) (Lt N : Nat) : StepsAt w (w.alloc (.cells (slots [] Lt N).toArray 60)) w.heap.size Lt N [] [] :=
  ⟨heap_alloc_new w _, fun _ hi => absurd hi (Nat.not_lt_zero _), fun _ _ _ hj => absurd hj (Nat.not_lt_zero _), fun _ hi => absurd hi (Nat.not_lt_zero _), rfl, alloc_below w _, Nat.le_refl _⟩

/-- Whole rows. -/
theorem StepsAt.rows {w wr : World} {G Lt N : Nat} {gs : List Nat} {R : List (List Int)} (h : StepsAt w wr G Lt N gs R) (hl : gs.length = N) (hN : N ≤ 9223372036854775807) (hLt : Lt ≤ 9223372036854775807) : RowsF wr (.slice (some ⟨G, 0, none⟩) N N) N Lt (fun i j => (R[i]!)[j]!) := by
  refine ⟨_, N, rfl, Nat.le_refl _, hN, fun _ => ⟨G, 0, rfl, h.topLt, fun i hi => ⟨_, Lt, by rw [Nat.zero_add]; exact h.slot (by omega), Nat.le_refl _, hLt, fun _ => ⟨_, 0, rfl, h.lt (by omega), fun j hj => by rw [Nat.zero_add]; exact h.cell (by omega) hj⟩⟩⟩⟩
/-- What steps returns. -/
def StepsSays (g : Nat → Int) (M Lt : Nat) (w : World) (e : Ending) (w' : World) : Prop := ∃ (G : Nat) (gs : List Nat) (R : List (List Int)), e = .returned (.slice (some ⟨G, 0, none⟩) (M + 1) (M + 1)) ∧ StepsAt w w' G Lt (M + 1) gs R ∧ gs.length = M + 1 ∧ (∀ n k, n ≤ M → k < Lt → StandsAt g M n (k : Int) (R[n]!)[k]!)

/-- The next row, letter by letter. -/
theorem stands_next {g : Nat → Int} {M k s : Nat} {l x : Int} (hk : 0 < k) (hkM : k ≤ M) (hs : Kmp.Top (fun n => Kmp.Bd g n k) (k - 1) s) (hx : StandsAt g M s l x) : ∃ y : Nat, x = (y : Int) ∧ Kmp.Top (fun j => Kmp.Ds g j k l) k y := by
  obtain ⟨y, rfl, ht⟩ := hx
  have h1 := hs.2.1
  rw [show min M (s + 1) = s + 1 by omega] at ht
  exact ⟨y, rfl, Kmp.top_short hk hs ht⟩
theorem stands_off {g : Nat → Int} {M k s : Nat} {l x : Int} (hk : 0 < k) (hkM : k < M) (hs : Kmp.Top (fun n => Kmp.Bd g n k) (k - 1) s) (hx : StandsAt g M s l x) (hl : g k ≠ l) : StandsAt g M k l x := by
  obtain ⟨y, e, ht⟩ := stands_next hk (by omega) hs hx
  refine ⟨y, e, ?_⟩
  rw [show min M (k + 1) = k + 1 by omega]
  exact Kmp.top_off hl ht
theorem stands_on {g : Nat → Int} {M k : Nat} (hkM : k < M) : StandsAt g M k (g k) ((k : Int) + 1) := by
  refine ⟨k + 1, by omega, ?_⟩
  rw [show min M (k + 1) = k + 1 by omega]
  exact Kmp.top_on
theorem stands_last {g : Nat → Int} {M s : Nat} {l x : Int} (hM : 0 < M) (hs : Kmp.Top (fun n => Kmp.Bd g n M) (M - 1) s) (hx : StandsAt g M s l x) : StandsAt g M M l x := by
  obtain ⟨y, e, ht⟩ := stands_next hM (Nat.le_refl _) hs hx
  refine ⟨y, e, ?_⟩
  rw [show min M (M + 1) = M by omega]
  exact ht
theorem shorter_next {g : Nat → Int} {M k s : Nat} {x : Int} (hk : 0 < k) (hkM : k < M) (hs : Kmp.Top (fun n => Kmp.Bd g n k) (k - 1) s) (hx : StandsAt g M s (g k) x) : ∃ y : Nat, x = (y : Int) ∧ Kmp.Top (fun n => Kmp.Bd g n (k + 1)) (k + 1 - 1) y := by
  obtain ⟨y, e, ht⟩ := stands_next hk (by omega) hs hx
  exact ⟨y, e, Kmp.top_next ht⟩
theorem stands_first {g : Nat → Int} {M : Nat} (hM : 0 < M) {Lt l : Nat} (hl : l < Lt) {j : Nat} (hj : g 0 = (j : Int)) (hjL : j < Lt) : StandsAt g M 0 (l : Int) (((List.replicate Lt (0 : Int)).set j 1)[l]!) := by
  by_cases e : j = l
  · subst e
    have e1 : ((List.replicate Lt (0 : Int)).set j 1)[j]! = 1 := by simp [hjL]
    rw [e1, ← hj]
    exact stands_on hM
  · have e1 : ((List.replicate Lt (0 : Int)).set j 1)[l]! = 0 := by simp [e, hl]
    rw [e1]
    refine ⟨0, rfl, ?_⟩
    rw [show min M (0 + 1) = 0 + 1 by omega]
    exact Kmp.top_zero (by omega)

theorem StepsAt.lay {w wr : World} {G Lt N k : Nat} {gs : List Nat} {R : List (List Int)} (h : StepsAt w wr G Lt N gs R) (hk : gs.length = k) (hn : k < N) (hL : Lt ≤ 1099511627776) :
    ∃ g1 W1, (Instr.makeSlice 60 (.int .i64 (Lt : Int)) (.int .i64 (Lt : Int))).run Tryd.prog wr = .ok (.slice (some ⟨g1, 0, none⟩) Lt Lt) W1 ∧ W1.cell? ⟨G, k, none⟩ = some (.slice none 0 0) ∧ W1.frozen? ⟨G, k, none⟩ = false ∧
      StepsAt w (W1.setCell ⟨G, k, none⟩ (.slice (some ⟨g1, 0, none⟩) Lt Lt)) G Lt N (gs ++ [g1]) (R ++ [List.replicate Lt 0]) := by
  subst hk
  have kk := h.keep (alloc_below wr (.cells (ints (List.replicate Lt 0)).toArray 3))
  refine ⟨_, _, make_ints Lt hL wr, ?_, kk.free _, h.add hn⟩
  simp only [World.cell?, kk.top]
  have e : (slots gs Lt N)[gs.length]? = some (.slice none 0 0) := by
    unfold slots
    obtain ⟨m, hm⟩ : ∃ m, N - gs.length = m + 1 := ⟨N - gs.length - 1, by omega⟩
    rw [List.getElem?_append_right (by simp), List.length_map, Nat.sub_self, hm, List.replicate_succ]
    rfl
  simpa using e

structure LoopAt (w wr : World) (G Lt M k s : Nat) (g : Nat → Int) (gs : List Nat) (R : List (List Int)) : Prop where
  at_ : StepsAt w wr G Lt (M + 1) gs R
  len : gs.length = k
  pos : 0 < k
  short : k ≤ M → Kmp.Top (fun n => Kmp.Bd g n k) (k - 1) s
  rows : ∀ i l, i < k → l < Lt → StandsAt g M i (l : Int) ((R[i]!)[l]!)

theorem drew_below (w : World) : Below w.heap.size w w.drew := (Below.refl _ _).drew

theorem set_last {α : Type} (R : List α) (z x : α) (k : Nat) (hk : R.length = k) : (R ++ [z]).set k x = R ++ [x] := by
  subst hk
  rw [List.set_append_right _ _ (Nat.le_refl _), Nat.sub_self]
  rfl
theorem at_last {α : Type} [Inhabited α] (R : List α) (z : α) (k : Nat) (hk : R.length = k) : (R ++ [z])[k]! = z := by subst hk; simp
theorem at_first {α : Type} [Inhabited α] (R : List α) (z : α) (s : Nat) (hs : s < R.length) : (R ++ [z])[s]! = R[s]! := by simp [hs, List.getElem?_append_left hs]

theorem set_at {α : Type} [Inhabited α] (l : List α) (j : Nat) (x : α) (h : j < l.length) : (l.set j x)[j]! = x := by simp [h]
theorem set_off {α : Type} [Inhabited α] (l : List α) (j k : Nat) (x : α) (h : j ≠ k) : (l.set j x)[k]! = l[k]! := by simp [h]

/-- A round: a row is laid, and filled by the shorter one's. -/
theorem LoopAt.lay {w wr : World} {G Lt M k s : Nat} {g : Nat → Int} {gs : List Nat} {R : List (List Int)} (h : LoopAt w wr G Lt M k s g gs R) (hk : k ≤ M) (hL : Lt ≤ 1099511627776) :
    ∃ g1 W1, (Instr.makeSlice 60 (.int .i64 (Lt : Int)) (.int .i64 (Lt : Int))).run Tryd.prog wr = .ok (.slice (some ⟨g1, 0, none⟩) Lt Lt) W1 ∧ W1.cell? ⟨G, k, none⟩ = some (.slice none 0 0) ∧ W1.frozen? ⟨G, k, none⟩ = false ∧
      ∃ W2, W1.setCell ⟨G, k, none⟩ (.slice (some ⟨g1, 0, none⟩) Lt Lt) = W2 ∧ W2.cell? ⟨G, k, none⟩ = some (.slice (some ⟨g1, 0, none⟩) Lt Lt) ∧ W2.cell? ⟨G, s, none⟩ = some (.slice (some ⟨gs[s]!, 0, none⟩) Lt Lt) ∧
      ∃ W3, (Builtin.copy_ #[60, 60] 3 #[.slice (some ⟨g1, 0, none⟩) Lt Lt, .slice (some ⟨gs[s]!, 0, none⟩) Lt Lt]).run Tryd.prog W2.drew = .ok (.int .i64 (Lt : Int)) W3 ∧ StepsAt w W3 G Lt (M + 1) (gs ++ [g1]) (R ++ [R[s]!]) := by
  have hs := (h.short hk).2.1
  have hp := h.pos
  have hl := h.at_.len
  obtain ⟨g1, W1, mk, cN, fN, S1⟩ := h.at_.lay h.len (by omega) hL
  have hgl : (gs ++ [g1]).length = k + 1 := by rw [List.length_append, h.len]; rfl
  have q1 : (gs ++ [g1])[k]! = g1 := at_last _ _ _ h.len
  have q2 : (gs ++ [g1])[s]! = gs[s]! := at_first _ _ _ (by rw [h.len]; omega)
  have c1 := S1.slot (i := k) (by omega)
  have c2 := S1.slot (i := s) (by omega)
  rw [q1] at c1
  rw [q2] at c2
  obtain ⟨W3, cp, S3⟩ := (S1.keep (drew_below _)).copied (i := k) (s := s) (by omega) (by omega)
  rw [q1, q2] at cp
  rw [at_first _ _ _ (show s < R.length by rw [hl, h.len]; omega), set_last _ _ _ _ (by rw [hl, h.len])] at S3
  exact ⟨g1, W1, mk, cN, fN, _, rfl, c1, c2, W3, cp, S3⟩

/-- The last row. -/
theorem LoopAt.last {w W3 : World} {G Lt M s g1 : Nat} {g : Nat → Int} {gs : List Nat} {R : List (List Int)} (hlen : gs.length = M) (hM : 0 < M) (hrl : R.length = gs.length) (hs : Kmp.Top (fun n => Kmp.Bd g n M) (M - 1) s) (hrows : ∀ i l, i < M → l < Lt → StandsAt g M i (l : Int) ((R[i]!)[l]!)) (h3 : StepsAt w W3 G Lt (M + 1) (gs ++ [g1]) (R ++ [R[s]!])) :
    LoopAt w W3 G Lt M (M + 1) s g (gs ++ [g1]) (R ++ [R[s]!]) := by
  have := hs.2.1
  refine ⟨h3, by rw [List.length_append, hlen]; rfl, by omega, fun h => by omega, fun i l hi hl => ?_⟩
  rcases Nat.lt_or_ge i M with h' | h'
  · rw [at_first _ _ _ (by omega)]; exact hrows i l h' hl
  · obtain rfl : i = M := by omega
    rw [at_last _ _ _ (by omega)]
    exact stands_last hM hs (hrows s l (by omega) hl)

/-- A row in the middle. -/
theorem LoopAt.next {w W3 : World} {G Lt M k s g1 j y : Nat} {g : Nat → Int} {gs : List Nat} {R : List (List Int)} (hlen : gs.length = k) (hk : 0 < k) (hkM : k < M) (hrl : R.length = gs.length) (hs : Kmp.Top (fun n => Kmp.Bd g n k) (k - 1) s) (hrows : ∀ i l, i < k → l < Lt → StandsAt g M i (l : Int) ((R[i]!)[l]!))
    (hj : g k = (j : Int)) (hjL : j < Lt) (hy : (R[s]!)[j]! = (y : Int)) (h3 : StepsAt w W3 G Lt (M + 1) (gs ++ [g1]) (R ++ [R[s]!])) :
    LoopAt w (W3.setCell ⟨g1, j, none⟩ (.int .i64 ((k : Int) + 1))) G Lt M (k + 1) y g (gs ++ [g1]) (R ++ [(R[s]!).set j ((k : Int) + 1)]) := by
  have h1 := hs.2.1
  have hgl : (gs ++ [g1]).length = k + 1 := by rw [List.length_append, hlen]; rfl
  have S := h3.set (i := k) (j := j) (by omega) ((k : Int) + 1)
  rw [at_last _ _ _ hlen, at_last _ _ _ (by omega), set_last _ _ _ _ (by omega)] at S
  have hxs := hrows s j (by omega) hjL
  rw [← hj] at hxs
  obtain ⟨y', e', ht⟩ := shorter_next hk hkM hs hxs
  obtain rfl : y' = y := by omega
  refine ⟨S, hgl, by omega, fun _ => ht, fun i l hi hl => ?_⟩
  rcases Nat.lt_or_ge i k with h' | h'
  · rw [at_first _ _ _ (by omega)]; exact hrows i l h' hl
  · obtain rfl : i = k := by omega
    rw [at_last _ _ _ (by omega)]
    have hlr : (R[s]!).length = Lt := by
      have := (h3.row s (by omega)).2
      rwa [at_first _ _ _ (by omega)] at this
    by_cases e : j = l
    · subst e
      have e2 : ((R[s]!).set j ((i : Int) + 1))[j]! = (i : Int) + 1 := set_at _ _ _ (by omega)
      rw [e2, ← hj]
      exact stands_on hkM
    · have e2 : ((R[s]!).set j ((i : Int) + 1))[l]! = (R[s]!)[l]! := set_off _ _ _ _ e
      rw [e2]
      exact stands_off hk hkM hs (hrows s l (by omega) hl) (by omega)

theorem LoopAt.keep {w wr w' : World} {G Lt M k s : Nat} {g : Nat → Int} {gs : List Nat} {R : List (List Int)} (h : LoopAt w wr G Lt M k s g gs R) (hb : Below wr.heap.size wr w') : LoopAt w w' G Lt M k s g gs R :=
  ⟨h.at_.keep hb, h.len, h.pos, h.short, h.rows⟩

theorem LoopAt.first {w W : World} {G Lt M g1 j : Nat} {g : Nat → Int} (hM : 1 ≤ M) (hj : g 0 = (j : Int)) (hjL : j < Lt) (h : StepsAt w W G Lt (M + 1) ([] ++ [g1]) (([] ++ [List.replicate Lt (0 : Int)] : List (List Int)).set 0 ((([] ++ [List.replicate Lt (0 : Int)] : List (List Int))[0]!).set j 1))) : LoopAt w W G Lt M 1 0 g [g1] [(List.replicate Lt 0).set j 1] := by
  refine ⟨h, rfl, Nat.one_pos, fun _ => Kmp.top_first g, fun i l hi hl => ?_⟩
  obtain rfl : i = 0 := by omega
  exact stands_first hM hl hj hjL

set_option maxHeartbeats 4000000 in
set_option maxRecDepth 100000 in
theorem steps_any (a : Option Addr) (c M Lt : Nat) (g : Nat → Int) (w : World) (ha : IRow w a M c g) (hM : 1 ≤ M) (hM2 : M ≤ 20) (hL1 : 1 ≤ Lt) (hL2 : Lt ≤ 101) (hg : ∀ i, i < M → 0 ≤ g i ∧ g i < (Lt : Int)) :
    Calls Tryd.prog 61 #[.int .i64 (Lt : Int), .slice a M c] w (StepsSays g M Lt w) := by
  have HA := hide ha
  have HG := hide hg
  obtain ⟨h1, h2, h3⟩ := ha
  obtain ⟨b, o, rfl, hbl, hc⟩ := h3 (by omega)
  obtain ⟨j0, hj0⟩ : ∃ j : Nat, g 0 = (j : Int) := ⟨(g 0).toNat, by have := hg 0 (by omega); omega⟩
  have hj0L : j0 < Lt := by have := hg 0 (by omega); omega
  have mk1 := make_slots (M + 1) Lt (by omega) w
  have eM : ((M + 1 : Nat) : Int) = (M : Int) + 1 := by omega
  rw [eM] at mk1
  have S0 := StepsAt.start w Lt (M + 1)
  obtain ⟨W0, hW0⟩ : ∃ W, w.alloc (.cells (slots [] Lt (M + 1)).toArray 60) = W := ⟨_, rfl⟩
  obtain ⟨G, hG⟩ : ∃ G, w.heap.size = G := ⟨_, rfl⟩
  rw [hW0] at mk1 S0
  rw [hG] at mk1
  have S0' : StepsAt w W0 G Lt (M + 1) [] [] := by rw [← hG]; exact S0
  obtain ⟨g1, W1, mk2, cN, fN, S1⟩ := S0'.lay (k := 0) rfl (by omega) (by omega)
  obtain ⟨W2, hW2⟩ : ∃ W, W1.setCell ⟨G, 0, none⟩ (.slice (some ⟨g1, 0, none⟩) Lt Lt) = W := ⟨_, rfl⟩
  rw [hW2] at S1
  have d0 : W2.cell? ⟨G, 0, none⟩ = some (.slice (some ⟨g1, 0, none⟩) Lt Lt) := S1.slot (i := 0) (by simp)
  have d1 := S1.cell (i := 0) (j := j0) (by simp) hj0L
  have d2 := S1.freeRow (i := 0) (by simp) j0
  have S2 := S1.set (i := 0) (j := j0) (by simp) 1
  have d3 : W2.cell? ⟨b, o, none⟩ = some (.int .i64 (j0 : Int)) := by
    rw [S1.bl.cell (p := ⟨b, o, none⟩) hbl]
    have := hc 0 (by omega)
    rw [hj0] at this
    exact this
  have e1 : ([] ++ [g1] : List Nat)[0]! = g1 := rfl
  rw [e1] at d1 d2 S2
  obtain ⟨x0, d1⟩ : ∃ x, W2.cell? ⟨g1, j0, none⟩ = some x := ⟨_, d1⟩
  have HC := hide hc
  have HS2 := hide S2
  have HBL := hide hbl
  have hjI : (j0 : Int) < (Lt : Int) := by omega
  have HJ0 := hide hj0
  clear h3 hc hg S0 S0' S1 S2 eM hW0 hG e1 hj0 hbl
  go_enter Tryd.func61, Tryd.ntmps61
  go_wp2_with fail
  clear mk1 mk2 cN fN hW2
  go_region
  have L0 := (LoopAt.first hM (unhide HJ0) hj0L (unhide HS2)).keep (drew_below _)
  have HL0 := hide L0
  clear d0 d1 d2 d3 HS2 L0 hjI
  go_wp2_with fail
  go_loopw [6, 7] (fun vs vk wr => ∃ (k s : Nat) (gs : List Nat) (R : List (List Int)), vk = .int .i64 (k : Int) ∧ vs = .int .i64 (s : Int) ∧ k ≤ M + 1 ∧ LoopAt w wr G Lt M k s g gs R) (fun _ vk _ => M + 1 - (intOf vk).toNat)
  case atStart => exact ⟨1, 0, _, _, rfl, rfl, by omega, unhide HL0⟩
  case round =>
    clear HL0
    obtain ⟨k, s, gs, R, rfl, rfl, hk, T⟩ := hrel
    by_cases hkM : k ≤ M
    · have hs := T.short hkM
      have hs1 := hs.2.1
      have hp := T.pos
      have hgl := T.len
      have hrl := T.at_.len
      have hrows := T.rows
      obtain ⟨g2, W1', mk, cN', fN', W2', hW2', c1, c2, W3, cp, S3⟩ := T.lay hkM (by omega)
      obtain ⟨gS, hgS⟩ : ∃ x, gs[s]! = x := ⟨_, rfl⟩
      rw [hgS] at c2 cp
      have HT := hide T
      have HS := hide hs
      have HROWS := hide hrows
      have HGL := hide hgl
      have HRL := hide hrl
      have i1 : (k : Int) ≤ (M : Int) := by omega
      have i2 : (s : Int) < (M : Int) + 1 := by omega
      have i3 : (k : Int) < (M : Int) + 1 := by omega
      by_cases hkl : k < M
      · obtain ⟨j, hj⟩ : ∃ j : Nat, g k = (j : Int) := ⟨(g k).toNat, by have := unhide HG k hkl; omega⟩
        have hjL : j < Lt := by have := unhide HG k hkl; omega
        obtain ⟨y, hy, _⟩ := hrows s j (by omega) hjL
        have FIN := LoopAt.next hgl hp hkl hrl hs hrows hj hjL hy S3
        have q1 : (gs ++ [g2])[k]! = g2 := at_last _ _ _ hgl
        have q2 : (gs ++ [g2])[s]! = gS := by rw [at_first _ _ _ (by omega)]; exact hgS
        have gl2 : (gs ++ [g2]).length = k + 1 := by rw [List.length_append, hgl]; rfl
        have e1 := S3.slot (i := k) (by omega)
        have e2 := S3.slot (i := s) (by omega)
        have e3 := S3.cell (i := s) (j := j) (by omega) hjL
        have e4 := S3.cell (i := k) (j := j) (by omega) hjL
        have e5 := S3.freeRow (i := k) (by omega) j
        rw [q1] at e1 e4 e5
        rw [q2] at e2 e3
        rw [at_first _ _ _ (by omega), hy] at e3
        obtain ⟨x4, e4⟩ : ∃ x, W3.cell? ⟨g2, j, none⟩ = some x := ⟨_, e4⟩
        have e6 : W3.cell? ⟨b, o + k, none⟩ = some (.int .i64 (j : Int)) := by
          rw [S3.bl.cell (p := ⟨b, o + k, none⟩) (unhide HBL), ← hj]
          exact unhide HC k hkl
        have i4 : (k : Int) < (M : Int) := by omega
        have i5 : (j : Int) < (Lt : Int) := by omega
        have HFIN := hide FIN
        clear T hs hrows hgl hrl S3 hgS FIN q1 q2 gl2 hy hj
        go_wp2_with fail
        clear mk cN' fN' hW2'
        go_region
        clear cp c1 c2
        go_wp2_with fail
        go_region
        go_wp2_with fail
        go_region
        go_wp2_with fail
        exact ⟨⟨k + 1, y, _, _, by go_num, rfl, by omega, ((unhide HFIN).keep (drew_below _)).keep (drew_below _)⟩, by simp [intOf]; omega⟩
      · obtain rfl : k = M := by omega
        have FIN := hide (LoopAt.last hgl (by omega) hrl hs hrows S3)
        have i4 : ¬ (k : Int) < (k : Int) := by omega
        clear T hs hrows hgl hrl S3 hgS
        go_wp2_with fail
        clear mk cN' fN' hW2'
        go_region
        clear cp c1 c2
        go_wp2_with fail
        exact ⟨⟨k + 1, s, _, _, by go_num, rfl, by omega, unhide FIN⟩, by simp [intOf]⟩
    · obtain rfl : k = M + 1 := by omega
      have hl' : ¬ ((M + 1 : Nat) : Int) ≤ (M : Int) := by omega
      have HT := hide T
      clear T
      go_wp2_with fail
      exact bodyPost_ret (v := .slice (some ⟨G, 0, none⟩) (M + 1) (M + 1)) (by simp [results, Tryd.results61, go_sem]) rfl ⟨_, _, _, rfl, (unhide HT).at_, (unhide HT).len, fun n k hn hk => (unhide HT).rows n k (by omega) hk⟩
end Go.Proofs.YtdicbnchkfclaaaDoor
