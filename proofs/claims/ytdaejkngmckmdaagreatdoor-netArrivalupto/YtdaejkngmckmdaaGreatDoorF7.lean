/- Of how much bulk what came in is; rows of rows of pairs, rows of ints that came in. -/
import Derived.Test.YtdaejkngmckmdaaGreatDoorF1
import Derived.Test.YtdaejkngmckmdaaGreatDoorN12
namespace Go.Proofs.YtdaejkngmckmdaaGreatDoor
open Go.ChangeShapes Go.WideShapes Go.ChangeAt Go.RowKit Go.Joins

theorem bulk_pos {H : Type} (d : DataW H) : 1 ≤ Rows.uptoBulk d := by
  cases d with
  | lit l => cases l <;> simp [Rows.uptoBulk]
  | nil => simp [Rows.uptoBulk]
  | ptr d => simp [Rows.uptoBulk]
  | slice elems spare => simp [Rows.uptoBulk]
  | agg parts => simp [Rows.uptoBulk]
  | iface t d => simp [Rows.uptoBulk]
  | map entries => simp [Rows.uptoBulk]
  | held h => simp [Rows.uptoBulk]
theorem bulk_all {H : Type} (l : List (DataW H)) : l.length ≤ Rows.uptoBulkAll l ∧ ∀ d ∈ l, Rows.uptoBulk d ≤ Rows.uptoBulkAll l := by
  induction l with
  | nil => exact ⟨Nat.zero_le _, fun d h => by cases h⟩
  | cons x r ih =>
    have e : Rows.uptoBulkAll (x :: r) = Rows.uptoBulk x + Rows.uptoBulkAll r := by simp only [Rows.uptoBulkAll]
    have := bulk_pos x
    have h1 := ih.1
    refine ⟨by rw [e, List.length_cons]; omega, fun d h => ?_⟩
    rw [e]
    rcases List.mem_cons.1 h with rfl | h
    · omega
    · have := ih.2 d h; omega
theorem bulk_row {H : Type} (l r : List (DataW H)) : l.length ≤ Rows.uptoBulk (.slice l r) ∧ ∀ d ∈ l, Rows.uptoBulk d ≤ Rows.uptoBulk (.slice l r) := by
  have e : Rows.uptoBulk (.slice l r) = Rows.uptoBulkAll l + Rows.uptoBulkAll r + 1 := by simp only [Rows.uptoBulk]
  have h := bulk_all l
  have h1 := h.1
  refine ⟨by rw [e]; omega, fun d hd => ?_⟩
  have := h.2 d hd
  rw [e]; omega
theorem bulk_bound {H : Type} {l : List (DataW H)} (h : Rows.uptoSmall H l = true) {d : DataW H} (hd : d ∈ l) : Rows.uptoBulk d ≤ 1048576 := by
  have a : Rows.uptoBulkAll l ≤ 1048576 := of_decide_eq_true h
  have b := (bulk_all l).2 d hd
  omega

set_option maxRecDepth 100000 in
/-- A row of pairs that came in, and its bulk. -/
theorem pairs_bulk {H : Type} {enc : TypeId × Value → H} {W : World} {fuel : Nat} {v : Value} {x : DataW H × List MemPlace} (hf : DataW.trod enc Tryz.prog W 0 (fun _ => true) true fuel 22 [v] = some x) : ∃ (l : Sl) (ps : List (Int × Int)), v = l.val ∧ PairsAre W l.val ps ∧ ps.length ≤ Rows.uptoBulk x.1 := by
  rcases Deep.open_slice_pairs Tryz.underlying22 Tryz.underlying56 Tryz.cellsQ rfl rfl Tryz.cellsI Tryz.cellsI hf with ⟨hcs, hx⟩ | ⟨a, len', cap', m, n, V0, V1, D0, D1, P0, P1, hcs, hb, hl, hm, hmm, hx, hall⟩
  · have e : v = .slice none 0 0 := by simpa using hcs
    exact ⟨(none, 0, 0), [], e, ⟨none, 0, rfl, Nat.le_refl _, by decide, fun j hj => absurd hj (Nat.not_lt_zero _), fun h => absurd h (Nat.lt_irrefl _)⟩, Nat.zero_le _⟩
  · have e : v = .slice (some a) len' cap' := by simpa using hcs
    simp only [if_true] at hmm
    have each : ∀ i, i < len' → ∃ q : Int × Int, W.cell? (a.add (i * 2)) = some (.int .i64 q.1) ∧ W.cell? (a.add (i * 2 + 1)) = some (.int .i64 q.2) ∧ I64 q.1 ∧ I64 q.2 := fun i hi => by
      obtain ⟨k0, k1, t0, t1⟩ := hall i (by omega)
      obtain ⟨x, e0, ex, wx⟩ := DataW.trod_int Tryz.underlying3 t0
      obtain ⟨y, e1, ey, wy⟩ := DataW.trod_int Tryz.underlying3 t1
      simp at e0 e1
      rw [e0] at k0
      rw [e1] at k1
      exact ⟨(x, y), k0, k1, bounds_i64 wx, bounds_i64 wy⟩
    obtain ⟨F, hF⟩ := Deep.choose_lt each
    refine ⟨(some a, len', cap'), (List.range len').map F, e, ⟨some a, cap', by simp [Sl.val], by simpa using hl, by unfold maxLen at hm; exact hm, fun j hj => ?_, fun hp => ?_⟩, ?_⟩
    · have hj' : j < len' := by simpa using hj
      have e : ((List.range len').map F)[j]! = F j := by simp [hj']
      rw [e]
      exact ⟨(hF j hj').2.2.1, (hF j hj').2.2.2⟩
    · have hp' : 0 < len' := by simpa using hp
      obtain ⟨b, off, spot⟩ := a
      have hspot : spot = none := by simpa [Addr.add] using World.cell?_spot (hF 0 hp').1
      subst hspot
      refine ⟨b, off, rfl, World.block_lt_of_cell? W _ (hF 0 hp').1, fun j hj => ?_⟩
      have hj' : j < len' := by simpa using hj
      have e : ((List.range len').map F)[j]! = F j := by simp [hj']
      rw [e]
      have k0 := (hF j hj').1
      have k1 := (hF j hj').2.1
      rw [Go.WideShapes.add_plain] at k0 k1
      exact ⟨k0, k1⟩
    · rw [hx]
      have := (bulk_row ((List.range len').map fun i => DataW.agg [D0 i, D1 i]) ((List.range (m - len')).map fun j => .agg [D0 (len' + j), D1 (len' + j)])).1
      simpa using this

theorem Tryz.cellsLQ : Tryz.prog.cellsOf 22 = 1 := by kernel_rfl

set_option maxRecDepth 100000 in
/-- A row of rows of pairs that came in, and its bulk. -/
theorem prows_of_arg {H : Type} {enc : TypeId × Value → H} {W : World} {base : Nat} {v : Value} {d : DataW H} {p : List MemPlace} (hval : Value.okWide Tryz.prog W .any base 23 v) (h : DataW.Trod enc Tryz.prog W 0 (fun _ => true) true 23 v d p) : ∃ pss, PRowsAre W v pss ∧ pss.length ≤ Rows.uptoBulk d ∧ ∀ j, j < pss.length → (pss[j]!).length ≤ Rows.uptoBulk d := by
  obtain ⟨a0, len, cap, rfl⟩ := okWide_slice Tryz.underlying23 hval
  obtain ⟨fuel, hf⟩ := h
  rcases Deep.open_slice Tryz.underlying23 hf with ⟨hcs, hx⟩ | ⟨a, len', cap', m, n, D, Pl, hcs, hb, hl, hm, hmm, hx, hall⟩
  · have e : Value.slice a0 len cap = .slice none 0 0 := by simpa [Value.cells] using hcs
    injection e with e1 e2 e3
    subst e1 e2 e3
    exact ⟨[], ⟨none, 0, rfl, Nat.le_refl _, by decide, fun h => absurd h (Nat.lt_irrefl _)⟩, Nat.zero_le _, fun j hj => absurd hj (Nat.not_lt_zero _)⟩
  · have e : Value.slice a0 len cap = .slice (some a) len' cap' := by simpa [Value.cells] using hcs
    injection e with e1 e2 e3
    subst e1 e2 e3
    simp only [if_true] at hmm
    have hd : d = .slice ((List.range len).map D) ((List.range (m - len)).map fun j => D (len + j)) := (Prod.mk.inj hx).1
    have each : ∀ i, i < len → ∃ q : List (Int × Int) × Sl, W.cell? (a.add i) = some q.2.val ∧ PairsAre W q.2.val q.1 ∧ q.1.length ≤ Rows.uptoBulk d := fun i hi => by
      obtain ⟨cs', h1, h2⟩ := hall i (by omega)
      rw [Tryz.cellsLQ] at h1
      obtain ⟨_, hlen, hcell⟩ := World.cells?_some h1
      match cs', hlen with
      | [v0], _ =>
        obtain ⟨l, qs, e2, hl2, hq⟩ := pairs_bulk h2
        have e0 := hcell 0 (by omega)
        rw [Go.Deep.add_add] at e0
        refine ⟨(qs, l), ?_, hl2, ?_⟩
        · rw [← e2]; simpa using e0
        · have b := (bulk_row ((List.range len).map D) ((List.range (m - len)).map fun j => D (len + j))).2 (D i) (List.mem_map.2 ⟨i, List.mem_range.2 hi, rfl⟩)
          rw [hd]
          exact Nat.le_trans hq b
    obtain ⟨F, hF⟩ := Deep.choose_lt each
    refine ⟨(List.range len).map (fun i => (F i).1), ⟨some a, cap, by simp, by simpa using hl, by unfold maxLen at hm; exact hm, fun hp => ?_⟩, ?_, fun j hj => ?_⟩
    · have hp' : 0 < len := by simpa using hp
      obtain ⟨b, off, spot⟩ := a
      have hspot : spot = none := by simpa [Addr.add] using World.cell?_spot (hF 0 hp').1
      subst hspot
      refine ⟨b, off, rfl, World.block_lt_of_cell? W _ (hF 0 hp').1, fun j hj => ?_⟩
      have hj' : j < len := by simpa using hj
      have e : ((List.range len).map (fun i => (F i).1))[j]! = (F j).1 := by simp [hj']
      rw [e]
      have k0 := (hF j hj').1
      rw [Go.WideShapes.add_plain] at k0
      exact ⟨(F j).2, k0, (hF j hj').2.1⟩
    · have b := (bulk_row ((List.range len).map D) ((List.range (m - len)).map fun j => D (len + j))).1
      rw [hd]
      simpa using b
    · have hj' : j < len := by simpa using hj
      have e : ((List.range len).map (fun i => (F i).1))[j]! = (F j).1 := by simp [hj']
      rw [e]
      exact (hF j hj').2.2

set_option maxRecDepth 100000 in
/-- A row of ints that came in. -/
theorem irow_of_arg {H : Type} {enc : TypeId × Value → H} {W : World} {base : Nat} {v : Value} {d : DataW H} {p : List MemPlace} (hval : Value.okWide Tryz.prog W .any base 24 v) (h : DataW.Trod enc Tryz.prog W 0 (fun _ => true) true 24 v d p) : ∃ a n c f, v = .slice a n c ∧ IRow W a n c f := by
  obtain ⟨a0, len, cap, rfl⟩ := okWide_slice Tryz.underlying24 hval
  obtain ⟨fuel, hf⟩ := h
  rcases open_ints Tryz.underlying24 Tryz.underlying3 Tryz.cellsI hf with ⟨hcs, hx⟩ | ⟨a, len', cap', zs, hcs, hb, hl, hm, hz, hx, hcell, hwz⟩
  · have e : Value.slice a0 len cap = .slice none 0 0 := by simpa [Value.cells] using hcs
    exact ⟨a0, len, cap, fun _ => 0, rfl, by injection e with e1 e2 e3; omega, by injection e with e1 e2 e3; omega, fun h => by injection e with e1 e2 e3; omega⟩
  · have e : Value.slice a0 len cap = .slice (some a) len' cap' := by simpa [Value.cells] using hcs
    injection e with e1 e2 e3
    subst e1 e2 e3
    simp only [if_true] at hz
    refine ⟨_, len, cap, fun j => zs.getD j 0, rfl, hl, by unfold maxLen at hm; exact hm, fun hp => ?_⟩
    obtain ⟨b, off, rfl, hc⟩ := ints_at hcell (by omega)
    refine ⟨b, off, rfl, ?_, fun j hj => hc j (by omega)⟩
    exact World.block_lt_of_cell? W ⟨b, off + 0, none⟩ (hc 0 (by omega))
end Go.Proofs.YtdaejkngmckmdaaGreatDoor
