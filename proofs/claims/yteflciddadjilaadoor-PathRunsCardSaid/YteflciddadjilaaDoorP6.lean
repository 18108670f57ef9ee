/- Pieces: a row of the call's own that grows, or whose last one does. -/
import Derived.Test.YteflciddadjilaaDoorP5
namespace Go.Proofs.YteflciddadjilaaDoor
open Go.RowKit Go.Sort Sim

def pcells (ps : List T3) : List Value := ps.flatMap T3.cells
theorem pcells_length (ps : List T3) : (pcells ps).length = ps.length * 3 := by
  induction ps with
  | nil => rfl
  | cons t ts ih => simp only [pcells, List.flatMap_cons, List.length_append, List.length_cons] at *; simp only [T3.cells, List.length_cons, List.length_nil]; omega
theorem pcells_append (ps qs : List T3) : pcells (ps ++ qs) = pcells ps ++ pcells qs := by simp [pcells]
theorem pcells_one (t : T3) : pcells [t] = t.cells := by simp [pcells]
theorem pcells_get (ts : List T3) (j k : Nat) (hj : j < ts.length) (hk : k < 3) : (pcells ts)[j * 3 + k]? = (ts[j]!).cells[k]? := by
  induction ts generalizing j with
  | nil => simp at hj
  | cons t ts ih =>
    have e : pcells (t :: ts) = t.cells ++ pcells ts := by simp [pcells]
    have hl : t.cells.length = 3 := rfl
    rw [e]
    cases j with
    | zero => rw [List.getElem?_append_left (by omega)]; simp
    | succ j =>
      rw [List.getElem?_append_right (by omega), hl, show (j + 1) * 3 + k - 3 = j * 3 + k by omega, ih j (by simpa using hj)]
      simp
theorem cells_one (t : T3) : ∀ u ∈ t.cells, u.oneCell' = true := by
  intro u hu
  simp only [T3.cells, List.mem_cons, List.not_mem_nil, or_false] at hu
  rcases hu with rfl | rfl | rfl <;> rfl

/-- A piece more. -/
def joinT (ps : List T3) (p : T3) : List T3 :=
  match ps.getLast? with
  | some l => if l.1 = p.1 ∧ l.2.2 = p.2.1 then ps.dropLast ++ [(l.1, l.2.1, p.2.2)] else ps ++ [p]
  | none => ps ++ [p]
theorem joinT_nil (p : T3) : joinT [] p = [p] := rfl
theorem joinT_last (ps : List T3) (l p : T3) : joinT (ps ++ [l]) p = if l.1 = p.1 ∧ l.2.2 = p.2.1 then ps ++ [(l.1, l.2.1, p.2.2)] else ps ++ [l] ++ [p] := by
  simp [joinT]
theorem snocT (ps : List T3) : ps = [] ∨ ∃ qs l, ps = qs ++ [l] := by
  rcases List.eq_nil_or_concat ps with h | ⟨qs, l, h⟩
  · exact Or.inl h
  · exact Or.inr ⟨qs, l, by simpa using h⟩
theorem joinT_length (ps : List T3) (p : T3) : (joinT ps p).length ≤ ps.length + 1 := by
  rcases snocT ps with rfl | ⟨qs, l, rfl⟩
  · simp [joinT_nil]
  · rw [joinT_last]; split <;> simp

/-- A row of pieces of the call's own. -/
def OwnP (w : World) (B : Nat) (v : Value) (ps : List T3) : Prop := w.ownsRow B 46 3 v ps.length (pcells ps)
theorem OwnP.keep {w w' : World} {B : Nat} {v : Value} {ps : List T3} (h : OwnP w B v ps) (hb : Below w.heap.size w w') : OwnP w' B v ps := by
  refine ⟨h.1, ?_⟩
  rcases h.2 with h | ⟨g, cap, cur, hv, hg, hh, h1⟩
  · exact Or.inl h
  · exact Or.inr ⟨g, cap, cur, hv, hg, by rw [hb.block g (Array.getElem?_eq_some_iff.1 hh).1]; exact hh, h1⟩
theorem OwnP.start (w : World) (B : Nat) : OwnP w B (.slice none 0 0) [] := World.ownsRow_nil _ _ _ _
theorem OwnP.form {w : World} {B : Nat} {v : Value} {ps : List T3} (h : OwnP w B v ps) (hp : 0 < ps.length) : ∃ g cap, v = .slice (some ⟨g, 0, none⟩) ps.length cap ∧ ps.length ≤ cap ∧ cap ≤ 9223372036854775807 ∧ B ≤ g ∧ g < w.heap.size ∧ (∀ j, w.frozen? ⟨g, j, none⟩ = false) ∧
    (∀ j, j < ps.length → w.cell? ⟨g, j * 3, none⟩ = some (.int .i64 (ps[j]!).1) ∧ w.cell? ⟨g, j * 3 + 1, none⟩ = some (.int .i64 (ps[j]!).2.1) ∧ w.cell? ⟨g, j * 3 + 2, none⟩ = some (.int .i64 (ps[j]!).2.2)) := by
  obtain ⟨h1, ⟨rfl, h2⟩ | ⟨g, cap, cur, rfl, hb, hh, hc1, hc2, hs, ht⟩⟩ := h
  · omega
  · refine ⟨g, cap, rfl, hc1, by unfold maxLen at hc2; exact hc2, hb, (Array.getElem?_eq_some_iff.1 hh).1, fun j => by simp [World.frozen?, hh], fun j hj => ?_⟩
    have cellk : ∀ k, k < 3 → w.cell? ⟨g, j * 3 + k, none⟩ = (ps[j]!).cells[k]? := fun k hk => by
      simp only [World.cell?, hh]
      have e : (cur.toList.take (ps.length * 3))[j * 3 + k]? = (pcells ps)[j * 3 + k]? := by rw [ht]
      rw [List.getElem?_take_of_lt (by omega), pcells_get ps j k (by omega) hk] at e
      simpa using e
    exact ⟨cellk 0 (by decide), cellk 1 (by decide), cellk 2 (by decide)⟩
theorem OwnP.trow {w : World} {B : Nat} {v : Value} {ps : List T3} (h : OwnP w B v ps) : ∃ a c, v = .slice a ps.length c ∧ TRow w a ps.length c (fun j => ps[j]!) := by
  by_cases hp : 0 < ps.length
  · obtain ⟨g, cap, rfl, h1, h2, _, hlt, _, hc⟩ := h.form hp
    exact ⟨_, _, rfl, h1, h2, fun _ => ⟨g, 0, rfl, hlt, fun j hj => by have := hc j hj; simpa using this⟩⟩
  · rcases h.2 with ⟨rfl, h2⟩ | ⟨g, cap, cur, rfl, hb, hh, hc1, hc2, hs, ht⟩
    · exact ⟨none, 0, by rw [h2], by omega, by decide, fun h => absurd h hp⟩
    · exact ⟨_, _, rfl, hc1, by unfold maxLen at hc2; exact hc2, fun h => absurd h hp⟩

theorem OwnP.last {w : World} {B g cap : Nat} {ps : List T3} {l : T3} {z : Int} (h : OwnP w B (.slice (some ⟨g, 0, none⟩) (ps ++ [l]).length cap) (ps ++ [l])) :
    OwnP (w.setCell ⟨g, ps.length * 3 + 2, none⟩ (.int .i64 z)) B (.slice (some ⟨g, 0, none⟩) (ps ++ [l]).length cap) (ps ++ [(l.1, l.2.1, z)]) := by
  obtain ⟨h1, ⟨e, _⟩ | ⟨g', cap', cur, e, hb, hh, hc1, hc2, hs, ht⟩⟩ := h
  · cases e
  · injection e with e1 e2 e3
    obtain rfl : g = g' := by injection e1 with e1; injection e1
    subst e3
    have hl1 : (ps ++ [l]).length = ps.length + 1 := by simp
    have hl2 : (ps ++ [(l.1, l.2.1, z)]).length = ps.length + 1 := by simp
    refine ⟨pcells_length _, Or.inr ⟨g, cap, cur.setIfInBounds (ps.length * 3 + 2) (.int .i64 z), by rw [hl1, hl2], hb, ?_, by rw [hl2]; omega, hc2, by simpa using hs, ?_⟩⟩
    · rw [setCell_eq]
      simp only [mapBlock, Array.getElem?_modify, hh, if_true, Option.map_some, onCells]
    · rw [Array.toList_setIfInBounds, List.take_set, hl2, ← hl1, ht, pcells_append, pcells_append, pcells_one, pcells_one, List.set_append_right _ _ (by rw [pcells_length]; omega), pcells_length, show ps.length * 3 + 2 - ps.length * 3 = 2 by omega]
      rfl

theorem grown_alloc (w : World) (o : Obj) (row : Option Nat) : w.grownBy (w.alloc o) row :=
  ⟨rfl, rfl, rfl, by rw [alloc_size]; omega, fun k hk _ => (alloc_below w o).block k hk⟩
theorem grown_trans {w w1 w2 : World} {row : Option Nat} (h : w.grownBy w1 row) (k : w1.grownBy w2 row) : w.grownBy w2 row :=
  ⟨by rw [k.os, h.os], by rw [k.tape, h.tape], by rw [k.output, h.output], Nat.le_trans h.size k.size, fun i hi hr => by rw [k.block i (Nat.lt_of_lt_of_le hi h.size) hr]; exact h.block i hi hr⟩
theorem grown_drewN (w : World) (n : Nat) (row : Option Nat) : w.grownBy (w.drewN n) row := ⟨rfl, rfl, rfl, Nat.le_refl _, fun _ _ _ => rfl⟩
theorem grown_set (w : World) (g i : Nat) (u : Value) : w.grownBy (w.setCell ⟨g, i, none⟩ u) (some g) :=
  ⟨(((Below.refl 0 w).setCell (Nat.zero_le g) u)).os, (((Below.refl 0 w).setCell (Nat.zero_le g) u)).tape, (((Below.refl 0 w).setCell (Nat.zero_le g) u)).output, (((Below.refl 0 w).setCell (Nat.zero_le g) u)).size, fun k _ hr => Below.heap_setCell _ _ _ _ (fun e => hr (by rw [e]))⟩

theorem news_three (w : World) (t : T3) (T : TypeId) : ∀ j u, t.cells[j]? = some u → (w.alloc (.cells #[.int .i64 t.1, .int .i64 t.2.1, .int .i64 t.2.2] T)).cell? ((⟨w.heap.size, 0, none⟩ : Addr).add j) = some u :=
  World.news_of_block (cs := #[.int .i64 t.1, .int .i64 t.2.1, .int .i64 t.2.2]) (t := T) (fr := (0, 0)) (heap_alloc_new w _)
theorem Tryd.infoP : (Tryd.prog.info? 46).map (fun i => (i.zero, i.size, i.bytes)) = some (some (.agg #[.int .i64 0, .int .i64 0, .int .i64 0]), 3, 24) := by kernel_rfl

set_option maxHeartbeats 4000000 in
set_option maxRecDepth 100000 in
theorem joined_any (B : Nat) (v : Value) (ps : List T3) (x y z : Int) (w : World) (h : OwnP w B v ps) (hl : ps.length ≤ 1000000000000) (hB : B ≤ w.heap.size) :
    Calls Tryd.prog 24 #[v, .agg #[.int .i64 x, .int .i64 y, .int .i64 z]] w fun e w' => ∃ v', e = .returned v' ∧ OwnP w' B v' (joinT ps (x, y, z)) ∧ w.grownBy w' v.ownBlock := by
  obtain ⟨ti, hi, hz0, hz1, hz2⟩ := info_parts Tryd.infoP
  have ⟨q0, q1, q2⟩ := box3 (w := w) (x := .int .i64 x) (y := .int .i64 y) (z := .int .i64 z) (T := 46) (Below.refl _ _)
  have HI := hide hi
  have HZ := hide hz0
  clear hi hz0
  rcases snocT ps with rfl | ⟨qs, l, rfl⟩
  · obtain ⟨a, c, rfl, hT1, hT2, _⟩ := h.trow
    have H := hide h
    clear h
    go_enter Tryd.func24, Tryd.ntmps24
    go_wp2_with fail
    go_quiet (fail)
    have H2 := hide (((unhide H).keep (alloc_below w (.cells #[.int .i64 x, .int .i64 y, .int .i64 z] 46))).keep (below_step (below_drewN _ nq) (alloc_below ((w.alloc (.cells #[.int .i64 x, .int .i64 y, .int .i64 z] 46)).drewN nq) (.cells #[.int .i64 x, .int .i64 y, .int .i64 z] 46))))
    have HB2 : Hid (B ≤ (((w.alloc (.cells #[.int .i64 x, .int .i64 y, .int .i64 z] 46)).drewN nq).alloc (.cells #[.int .i64 x, .int .i64 y, .int .i64 z] 46)).heap.size) := Nat.le_trans hB (below_step (alloc_below _ _) (below_step (below_drewN _ nq) (alloc_below _ _))).size
    have HG2 : Hid (w.grownBy (((w.alloc (.cells #[.int .i64 x, .int .i64 y, .int .i64 z] 46)).drewN nq).alloc (.cells #[.int .i64 x, .int .i64 y, .int .i64 z] 46)) (Value.slice a 0 c).ownBlock) := grown_trans (grown_trans (grown_alloc _ _ _) (grown_drewN _ _ _)) (grown_alloc _ _ _)
    obtain ⟨W2, hW2⟩ : ∃ W, (w.alloc (.cells #[.int .i64 x, .int .i64 y, .int .i64 z] 46)).drewN nq = W := ⟨_, rfl⟩
    rw [hW2] at H2 HB2 HG2
    unfold OwnP at H2
    have b0 : W2.cell? ⟨w.heap.size, 0, none⟩ = some (.int .i64 x) := by rw [← hW2]; exact q0
    have b1 : W2.cell? ⟨w.heap.size, 1, none⟩ = some (.int .i64 y) := by rw [← hW2]; exact q1
    have b2 : W2.cell? ⟨w.heap.size, 2, none⟩ = some (.int .i64 z) := by rw [← hW2]; exact q2
    try rw [hW2]
    go_wp2_with (at_builtin; go_loud (refine wpList_append_lies _ rfl _ _ _ rfl B 46 ti (.agg #[.int .i64 0, .int .i64 0, .int .i64 0]) 3 24 Tryd.underlying40 (unhide HI) (unhide HZ) hz1 hz2 rfl (by decide) _ 0 (pcells ([] : List T3)) rfl (unhide H2) ⟨W2.heap.size, 0, none⟩ 1 1 (T3.cells (x, y, z)) rfl rfl (news_three W2 (x, y, z) _) (cells_one _) (by decide) (by unfold maxLen; omega) (by omega) (unhide HB2) (W2.heap.size + 1) (alloc_size _ _) ?_; intro g2 cap2 w4 own4 grow4 hat4 hlt4))
    have FIN : Hid (OwnP w4 B (.slice (some ⟨g2, 0, none⟩) (0 + 1) cap2) (joinT ([] : List T3) (x, y, z))) := by
      rw [joinT_nil]
      unfold OwnP
      rw [pcells_one]
      exact own4
    have FG := hide (grown_trans (unhide HG2) grow4)
    clear own4 grow4
    go_wp2
    go_ret
    exact ⟨_, rfl, unhide FIN, unhide FG⟩
  · obtain ⟨g, cap, rfl, h1, h2, hBg, hlt, hfr, hc⟩ := h.form (by simp)
    have hc' := hc qs.length (by simp)
    have el : (qs ++ [l])[qs.length]! = l := by simp
    rw [el] at hc'
    obtain ⟨k0, k1, k2⟩ := hc'
    have hlen : (qs ++ [l]).length = qs.length + 1 := by simp
    have hB2 := (alloc_below w (.cells #[.int .i64 x, .int .i64 y, .int .i64 z] 46))
    rw [← hB2.cell (p := ⟨g, qs.length * 3, none⟩) hlt] at k0
    rw [← hB2.cell (p := ⟨g, qs.length * 3 + 1, none⟩) hlt] at k1
    rw [← hB2.cell (p := ⟨g, qs.length * 3 + 2, none⟩) hlt] at k2
    have kf : (w.alloc (.cells #[.int .i64 x, .int .i64 y, .int .i64 z] 46)).frozen? ⟨g, qs.length * 3 + 2, none⟩ = false := by rw [World.frozen?_of_block (w := w) (hB2.block g hlt)]; exact hfr _
    obtain ⟨lx, ly, lz⟩ := l
    simp only at k0 k1 k2
    have OL : Hid (∀ nq, OwnP (((w.alloc (.cells #[.int .i64 x, .int .i64 y, .int .i64 z] 46)).drewN nq).setCell ⟨g, qs.length * 3 + 2, none⟩ (.int .i64 z)) B (.slice (some ⟨g, 0, none⟩) (qs ++ [(lx, ly, lz)]).length cap) (qs ++ [(lx, ly, z)])) := fun nq => ((h.keep hB2).keep (below_drewN _ nq)).last (z := z)
    have H := hide h
    rw [hlen] at H h1 hl OL ⊢
    have hw1 : IntKind.i64.wrap (((qs.length : Int) + 1) - 1) = (qs.length : Int) := by rw [IntKind.wrap_i64]; omega
    have hw2 : IntKind.i64.wrap (qs.length : Int) = (qs.length : Int) := by rw [IntKind.wrap_i64]; omega
    clear h hc el hB2 hfr
    obtain ⟨m, hm⟩ : ∃ m, qs.length = m := ⟨_, rfl⟩
    rw [hm] at H h1 hl OL k0 k1 k2 kf hw1 hw2 ⊢
    have HM := hide hm
    clear hm
    have e3 : (m : Int) < (m : Int) + 1 := by omega
    by_cases e1 : lx = x
    · by_cases e2 : lz = y
      · subst e1 e2
        have hj : joinT (qs ++ [(lx, ly, lz)]) (lx, lz, z) = qs ++ [(lx, ly, z)] := by rw [joinT_last, if_pos ⟨rfl, rfl⟩]
        rw [hj]
        go_enter Tryd.func24, Tryd.ntmps24
        go_wp2_with fail
        go_quiet (fail)
        go_wp2
        go_ret
        exact ⟨_, rfl, unhide OL nq, grown_trans (grown_trans (grown_alloc _ _ _) (grown_drewN _ nq _)) (grown_set _ _ _ _)⟩
      · have hj : joinT (qs ++ [(lx, ly, lz)]) (x, y, z) = qs ++ [(lx, ly, lz)] ++ [(x, y, z)] := by rw [joinT_last, if_neg fun c => e2 c.2]
        go_enter Tryd.func24, Tryd.ntmps24
        go_wp2_with fail
        go_quiet (fail)
        have H2 := hide (((unhide H).keep (alloc_below w (.cells #[.int .i64 x, .int .i64 y, .int .i64 z] 46))).keep (below_step (below_drewN _ nq) (alloc_below ((w.alloc (.cells #[.int .i64 x, .int .i64 y, .int .i64 z] 46)).drewN nq) (.cells #[.int .i64 x, .int .i64 y, .int .i64 z] 46))))
        have HB2 : Hid (B ≤ (((w.alloc (.cells #[.int .i64 x, .int .i64 y, .int .i64 z] 46)).drewN nq).alloc (.cells #[.int .i64 x, .int .i64 y, .int .i64 z] 46)).heap.size) := Nat.le_trans hB (below_step (alloc_below _ _) (below_step (below_drewN _ nq) (alloc_below _ _))).size
        have HG2 : Hid (w.grownBy (((w.alloc (.cells #[.int .i64 x, .int .i64 y, .int .i64 z] 46)).drewN nq).alloc (.cells #[.int .i64 x, .int .i64 y, .int .i64 z] 46)) (Value.slice (some ⟨g, 0, none⟩) (m + 1) cap).ownBlock) := grown_trans (grown_trans (grown_alloc _ _ _) (grown_drewN _ _ _)) (grown_alloc _ _ _)
        obtain ⟨W2, hW2⟩ : ∃ W, (w.alloc (.cells #[.int .i64 x, .int .i64 y, .int .i64 z] 46)).drewN nq = W := ⟨_, rfl⟩
        rw [hW2] at H2 HB2 HG2
        unfold OwnP at H2
        rw [show (qs ++ [(lx, ly, lz)]).length = m + 1 by rw [← unhide HM]; simp] at H2
        have b0 : W2.cell? ⟨w.heap.size, 0, none⟩ = some (.int .i64 x) := by rw [← hW2]; exact q0
        have b1 : W2.cell? ⟨w.heap.size, 1, none⟩ = some (.int .i64 y) := by rw [← hW2]; exact q1
        have b2 : W2.cell? ⟨w.heap.size, 2, none⟩ = some (.int .i64 z) := by rw [← hW2]; exact q2
        try rw [hW2]
        go_wp2_with (at_builtin; go_loud (refine wpList_append_lies _ rfl _ _ _ rfl B 46 ti (.agg #[.int .i64 0, .int .i64 0, .int .i64 0]) 3 24 Tryd.underlying40 (unhide HI) (unhide HZ) hz1 hz2 rfl (by decide) _ (m + 1) (pcells (qs ++ [(lx, ly, lz)])) rfl (unhide H2) ⟨W2.heap.size, 0, none⟩ 1 1 (T3.cells (x, y, z)) rfl rfl (news_three W2 (x, y, z) _) (cells_one _) (by decide) (by unfold maxLen; omega) (by omega) (unhide HB2) (W2.heap.size + 1) (alloc_size _ _) ?_; intro g2 cap2 w4 own4 grow4 hat4 hlt4))
        have FIN : Hid (OwnP w4 B (.slice (some ⟨g2, 0, none⟩) ((m + 1) + 1) cap2) (joinT (qs ++ [(lx, ly, lz)]) (x, y, z))) := by
          rw [hj]
          unfold OwnP
          rw [show (qs ++ [(lx, ly, lz)] ++ [(x, y, z)]).length = m + 1 + 1 by rw [← unhide HM]; simp]
          rw [pcells_append, pcells_one]
          exact own4
        have FG := hide (grown_trans (unhide HG2) grow4)
        clear own4 grow4
        go_wp2
        go_ret
        exact ⟨_, rfl, unhide FIN, unhide FG⟩
    · have hj : joinT (qs ++ [(lx, ly, lz)]) (x, y, z) = qs ++ [(lx, ly, lz)] ++ [(x, y, z)] := by rw [joinT_last, if_neg fun c => e1 c.1]
      go_enter Tryd.func24, Tryd.ntmps24
      go_wp2_with fail
      go_quiet (fail)
      have H2 := hide (((unhide H).keep (alloc_below w (.cells #[.int .i64 x, .int .i64 y, .int .i64 z] 46))).keep (below_step (below_drewN _ nq) (alloc_below ((w.alloc (.cells #[.int .i64 x, .int .i64 y, .int .i64 z] 46)).drewN nq) (.cells #[.int .i64 x, .int .i64 y, .int .i64 z] 46))))
      have HB2 : Hid (B ≤ (((w.alloc (.cells #[.int .i64 x, .int .i64 y, .int .i64 z] 46)).drewN nq).alloc (.cells #[.int .i64 x, .int .i64 y, .int .i64 z] 46)).heap.size) := Nat.le_trans hB (below_step (alloc_below _ _) (below_step (below_drewN _ nq) (alloc_below _ _))).size
      have HG2 : Hid (w.grownBy (((w.alloc (.cells #[.int .i64 x, .int .i64 y, .int .i64 z] 46)).drewN nq).alloc (.cells #[.int .i64 x, .int .i64 y, .int .i64 z] 46)) (Value.slice (some ⟨g, 0, none⟩) (m + 1) cap).ownBlock) := grown_trans (grown_trans (grown_alloc _ _ _) (grown_drewN _ _ _)) (grown_alloc _ _ _)
      obtain ⟨W2, hW2⟩ : ∃ W, (w.alloc (.cells #[.int .i64 x, .int .i64 y, .int .i64 z] 46)).drewN nq = W := ⟨_, rfl⟩
      rw [hW2] at H2 HB2 HG2
      unfold OwnP at H2
      rw [show (qs ++ [(lx, ly, lz)]).length = m + 1 by rw [← unhide HM]; simp] at H2
      have b0 : W2.cell? ⟨w.heap.size, 0, none⟩ = some (.int .i64 x) := by rw [← hW2]; exact q0
      have b1 : W2.cell? ⟨w.heap.size, 1, none⟩ = some (.int .i64 y) := by rw [← hW2]; exact q1
      have b2 : W2.cell? ⟨w.heap.size, 2, none⟩ = some (.int .i64 z) := by rw [← hW2]; exact q2
      try rw [hW2]
      go_wp2_with (at_builtin; go_loud (refine wpList_append_lies _ rfl _ _ _ rfl B 46 ti (.agg #[.int .i64 0, .int .i64 0, .int .i64 0]) 3 24 Tryd.underlying40 (unhide HI) (unhide HZ) hz1 hz2 rfl (by decide) _ (m + 1) (pcells (qs ++ [(lx, ly, lz)])) rfl (unhide H2) ⟨W2.heap.size, 0, none⟩ 1 1 (T3.cells (x, y, z)) rfl rfl (news_three W2 (x, y, z) _) (cells_one _) (by decide) (by unfold maxLen; omega) (by omega) (unhide HB2) (W2.heap.size + 1) (alloc_size _ _) ?_; intro g2 cap2 w4 own4 grow4 hat4 hlt4))
      have FIN : Hid (OwnP w4 B (.slice (some ⟨g2, 0, none⟩) ((m + 1) + 1) cap2) (joinT (qs ++ [(lx, ly, lz)]) (x, y, z))) := by
        rw [hj]
        unfold OwnP
        rw [show (qs ++ [(lx, ly, lz)] ++ [(x, y, z)]).length = m + 1 + 1 by rw [← unhide HM]; simp]
        rw [pcells_append, pcells_one]
        exact own4
      have FG := hide (grown_trans (unhide HG2) grow4)
      clear own4 grow4
      go_wp2
      go_ret
      exact ⟨_, rfl, unhide FIN, unhide FG⟩
end Go.Proofs.YteflciddadjilaaDoor
