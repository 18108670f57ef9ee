/- Of how much bulk what came in is; plain hidden states, a row of numbers that came in. -/
import Derived.Test.YtfnbjenneodcdaaGreatDoorF1
import Derived.Test.YtfnbjenneodcdaaGreatDoorLA
import Derived.Deep.Grids
namespace Go.Proofs.YtfnbjenneodcdaaGreatDoor
open Go.ChangeShapes Go.WideShapes Go.ChangeAt Go.RowKit Go.Joins

theorem bulk_pos {H : Type} (d : DataW H) : 1 ≤ Rows.uptoBulk d := by
  cases d with
  | lit l => cases l <;> simp [Rows.uptoBulk]
  | nil => simp [Rows.uptoBulk]
  | ptr d => simp [Rows.uptoBulk]
  | slice elems spare => simp [Rows.uptoBulk]
  | agg parts => simp [Rows.uptoBulk]
  | iface t d => simp [Rows.uptoBulk]
  | map entries => simp [Rows.uptoBulk]
  | held h => simp [Rows.uptoBulk]
theorem bulk_all {H : Type} (l : List (DataW H)) : l.length ≤ Rows.uptoBulkAll l ∧ ∀ d ∈ l, Rows.uptoBulk d ≤ Rows.uptoBulkAll l := by
  induction l with
  | nil => exact ⟨Nat.zero_le _, fun d h => by cases h⟩
  | cons x r ih =>
    have e : Rows.uptoBulkAll (x :: r) = Rows.uptoBulk x + Rows.uptoBulkAll r := by simp only [Rows.uptoBulkAll]
    have := bulk_pos x
    have h1 := ih.1
    refine ⟨by rw [e, List.length_cons]; omega, fun d h => ?_⟩
    rw [e]
    rcases List.mem_cons.1 h with rfl | h
    · omega
    · have := ih.2 d h; omega
theorem bulk_row {H : Type} (l r : List (DataW H)) : l.length ≤ Rows.uptoBulk (.slice l r) ∧ ∀ d ∈ l, Rows.uptoBulk d ≤ Rows.uptoBulk (.slice l r) := by
  have e : Rows.uptoBulk (.slice l r) = Rows.uptoBulkAll l + Rows.uptoBulkAll r + 1 := by simp only [Rows.uptoBulk]
  have h := bulk_all l
  have h1 := h.1
  refine ⟨by rw [e]; omega, fun d hd => ?_⟩
  have := h.2 d hd
  rw [e]; omega
theorem bulk_bound {H : Type} {l : List (DataW H)} (h : Rows.uptoSmall H l = true) {d : DataW H} (hd : d ∈ l) : Rows.uptoBulk d ≤ 1048576 := by
  have a : Rows.uptoBulkAll l ≤ 1048576 := of_decide_eq_true h
  have b := (bulk_all l).2 d hd
  omega

set_option maxRecDepth 100000 in
/-- A row of pairs that came in, and its bulk. -/
theorem pairs_bulk {H : Type} {enc : TypeId × Value → H} {W : World} {fuel : Nat} {v : Value} {x : DataW H × List MemPlace} (hf : DataW.trod enc Tryz.prog W 0 (fun _ => true) true fuel 46 [v] = some x) : ∃ (l : Sl) (ps : List (Int × Int)), v = l.val ∧ PairsAre W l.val ps ∧ ps.length ≤ Rows.uptoBulk x.1 := by
  rcases Deep.open_slice_pairs Tryz.underlying46 Tryz.underlying69 Tryz.cellsQ rfl rfl Tryz.cellsI Tryz.cellsI hf with ⟨hcs, hx⟩ | ⟨a, len', cap', m, n, V0, V1, D0, D1, P0, P1, hcs, hb, hl, hm, hmm, hx, hall⟩
  · have e : v = .slice none 0 0 := by simpa using hcs
    exact ⟨(none, 0, 0), [], e, ⟨none, 0, rfl, Nat.le_refl _, by decide, fun j hj => absurd hj (Nat.not_lt_zero _), fun h => absurd h (Nat.lt_irrefl _)⟩, Nat.zero_le _⟩
  · have e : v = .slice (some a) len' cap' := by simpa using hcs
    simp only [if_true] at hmm
    have each : ∀ i, i < len' → ∃ q : Int × Int, W.cell? (a.add (i * 2)) = some (.int .i64 q.1) ∧ W.cell? (a.add (i * 2 + 1)) = some (.int .i64 q.2) ∧ I64 q.1 ∧ I64 q.2 := fun i hi => by
      obtain ⟨k0, k1, t0, t1⟩ := hall i (by omega)
      obtain ⟨x, e0, ex, wx⟩ := DataW.trod_int Tryz.underlying3 t0
      obtain ⟨y, e1, ey, wy⟩ := DataW.trod_int Tryz.underlying3 t1
      simp at e0 e1
      rw [e0] at k0
      rw [e1] at k1
      exact ⟨(x, y), k0, k1, bounds_i64 wx, bounds_i64 wy⟩
    obtain ⟨F, hF⟩ := Deep.choose_lt each
    refine ⟨(some a, len', cap'), (List.range len').map F, e, ⟨some a, cap', by simp [Sl.val], by simpa using hl, by unfold maxLen at hm; exact hm, fun j hj => ?_, fun hp => ?_⟩, ?_⟩
    · have hj' : j < len' := by simpa using hj
      have e : ((List.range len').map F)[j]! = F j := by simp [hj']
      rw [e]
      exact ⟨(hF j hj').2.2.1, (hF j hj').2.2.2⟩
    · have hp' : 0 < len' := by simpa using hp
      obtain ⟨b, off, spot⟩ := a
      have hspot : spot = none := by simpa [Addr.add] using World.cell?_spot (hF 0 hp').1
      subst hspot
      refine ⟨b, off, rfl, World.block_lt_of_cell? W _ (hF 0 hp').1, fun j hj => ?_⟩
      have hj' : j < len' := by simpa using hj
      have e : ((List.range len').map F)[j]! = F j := by simp [hj']
      rw [e]
      have k0 := (hF j hj').1
      have k1 := (hF j hj').2.1
      rw [Go.WideShapes.add_plain] at k0 k1
      exact ⟨k0, k1⟩
    · rw [hx]
      have := (bulk_row ((List.range len').map fun i => DataW.agg [D0 i, D1 i]) ((List.range (m - len')).map fun j => .agg [D0 (len' + j), D1 (len' + j)])).1
      simpa using this

theorem bulk_agg {H : Type} (l : List (DataW H)) {d : DataW H} (hd : d ∈ l) : Rows.uptoBulk d ≤ Rows.uptoBulk (.agg l) := by
  have e : Rows.uptoBulk (.agg l) = Rows.uptoBulkAll l + 1 := by simp only [Rows.uptoBulk]
  have := (bulk_all l).2 d hd
  rw [e]; omega
theorem Tryz.cellsLQ : Tryz.prog.cellsOf 46 = 1 := by kernel_rfl
theorem Tryz.cellsLLQ : Tryz.prog.cellsOf 47 = 1 := by kernel_rfl
theorem Tryz.cellsPH : Tryz.prog.cellsOf 49 = 3 := by kernel_rfl
theorem Tryz.cellsB : Tryz.prog.cellsOf 4 = 1 := by kernel_rfl
set_option maxRecDepth 100000 in
/-- Two numbers that came in. -/
theorem two_ints {H : Type} {enc : TypeId × Value → H} {W : World} {fuel : Nat} {v0 v1 : Value} {x : DataW H × List MemPlace} (h : DataW.trod enc Tryz.prog W 0 (fun _ => true) true fuel 69 [v0, v1] = some x) : ∃ a b : Int, v0 = .int .i64 a ∧ v1 = .int .i64 b ∧ I64 a ∧ I64 b := by
  obtain ⟨xs, k, hk, hxy, _, hxl, hf⟩ := DataW.trod_struct Tryz.underlying69 h
  match xs, hxl with
  | [z0, z1], _ =>
    have q0 := hf 0 _ rfl
    have q1 := hf 1 _ rfl
    simp [Tryz.cellsI] at q0 q1
    obtain ⟨a, e0, _, wx⟩ := DataW.trod_int Tryz.underlying3 q0
    obtain ⟨b, e1, _, wy⟩ := DataW.trod_int Tryz.underlying3 q1
    simp at e0 e1
    exact ⟨a, b, e0, e1, bounds_i64 wx, bounds_i64 wy⟩


set_option maxRecDepth 100000 in
/-- A row of rows of pairs that came in, and its bulk. -/
theorem prows_bulk {H : Type} {enc : TypeId × Value → H} {W : World} {fuel : Nat} {v : Value} {x : DataW H × List MemPlace} (hf : DataW.trod enc Tryz.prog W 0 (fun _ => true) true fuel 47 [v] = some x) : ∃ (l : Sl) (pss : List (List (Int × Int))), v = l.val ∧ PRowsAre W l.val pss ∧ pss.length ≤ Rows.uptoBulk x.1 ∧ ∀ j, j < pss.length → (pss[j]!).length ≤ Rows.uptoBulk x.1 := by
  rcases Deep.open_slice Tryz.underlying47 hf with ⟨hcs, hx⟩ | ⟨a, len', cap', m, n, D, Pl, hcs, hb, hl, hm, hmm, hx, hall⟩
  · have e : v = .slice none 0 0 := by simpa using hcs
    exact ⟨(none, 0, 0), [], e, ⟨none, 0, rfl, Nat.le_refl _, by decide, fun h => absurd h (Nat.lt_irrefl _)⟩, Nat.zero_le _, fun j hj => absurd hj (Nat.not_lt_zero _)⟩
  · have e : v = .slice (some a) len' cap' := by simpa using hcs
    simp only [if_true] at hmm
    have hd : x.1 = .slice ((List.range len').map D) ((List.range (m - len')).map fun j => D (len' + j)) := by rw [hx]
    have each : ∀ i, i < len' → ∃ q : List (Int × Int) × Sl, W.cell? (a.add i) = some q.2.val ∧ PairsAre W q.2.val q.1 ∧ q.1.length ≤ Rows.uptoBulk x.1 := fun i hi => by
      obtain ⟨cs', h1, h2⟩ := hall i (by omega)
      rw [Tryz.cellsLQ] at h1
      obtain ⟨_, hlen, hcell⟩ := World.cells?_some h1
      match cs', hlen with
      | [v0], _ =>
        obtain ⟨l, qs, rfl, hl2, hq⟩ := pairs_bulk h2
        have e0 := hcell 0 (by omega)
        rw [Go.Deep.add_add] at e0
        have b2 := (bulk_row ((List.range len').map D) ((List.range (m - len')).map fun j => D (len' + j))).2 (D i) (List.mem_map.2 ⟨i, List.mem_range.2 hi, rfl⟩)
        refine ⟨(qs, l), by simpa using e0, hl2, ?_⟩
        rw [hd]; exact Nat.le_trans hq b2
    obtain ⟨F, hF⟩ := Deep.choose_lt each
    have get : ∀ j, j < len' → ((List.range len').map (fun i => (F i).1))[j]! = (F j).1 := fun j hj => by simp [hj]
    refine ⟨(some a, len', cap'), (List.range len').map (fun i => (F i).1), e, ⟨some a, cap', by simp [Sl.val], by simpa using hl, by unfold maxLen at hm; exact hm, fun hp => ?_⟩, ?_, fun j hj => ?_⟩
    · have hp' : 0 < len' := by simpa using hp
      obtain ⟨b, off, spot⟩ := a
      have hspot : spot = none := by simpa [Addr.add] using World.cell?_spot (hF 0 hp').1
      subst hspot
      refine ⟨b, off, rfl, World.block_lt_of_cell? W _ (hF 0 hp').1, fun j hj => ?_⟩
      have hj' : j < len' := by simpa using hj
      rw [get j hj']
      have k0 := (hF j hj').1
      rw [Go.WideShapes.add_plain] at k0
      exact ⟨(F j).2, k0, (hF j hj').2.1⟩
    · have b := (bulk_row ((List.range len').map D) ((List.range (m - len')).map fun j => D (len' + j))).1
      rw [hd]
      simpa using b
    · have hj' : j < len' := by simpa using hj
      rw [get j hj']
      exact (hF j hj').2.2

set_option maxRecDepth 100000 in
/-- Plain hidden states that came in, and their bulk. -/
theorem hidden_of_arg {H : Type} {enc : TypeId × Value → H} {W : World} {base : Nat} {v : Value} {d : DataW H} {p : List MemPlace} (hval : Value.okWide Tryz.prog W .any base 49 v) (h : DataW.Trod enc Tryz.prog W 0 (fun _ => true) true 49 v d p) : ∃ ps pp pg, PHmIs W v ps pp pg ∧ (pp.length ≤ Rows.uptoBulk d ∧ ∀ i, i < pp.length → (pp[i]!).length ≤ Rows.uptoBulk d) ∧ (pg.length ≤ Rows.uptoBulk d ∧ ∀ i, i < pg.length → (pg[i]!).length ≤ Rows.uptoBulk d) ∧ ps.length ≤ Rows.uptoBulk d := by
  obtain ⟨cs, rfl, hsz⟩ := okWide_struct Tryz.underlying49 hval
  rw [Tryz.cellsPH] at hsz
  obtain ⟨fuel, hf⟩ := h
  obtain ⟨c0, c1, c2, rfl⟩ : ∃ a b c, cs = #[a, b, c] := by
    match cs, hsz with
    | ⟨[a, b, c]⟩, _ => exact ⟨a, b, c, rfl⟩
  obtain ⟨xs, k, hk, hxy, _, hxl, hfs⟩ := DataW.trod_struct Tryz.underlying49 hf
  match xs, hxl with
  | [y0, y1, y2], _ =>
    have g0 := hfs 0 _ rfl
    have g1 := hfs 1 _ rfl
    have g2 := hfs 2 _ rfl
    simp [Value.cells, Tryz.cellsLQ, Tryz.cellsLLQ] at g0 g1 g2
    obtain ⟨m, ps, rfl, hm, h3⟩ := pairs_bulk g0
    obtain ⟨l, pp, rfl, hl, h1, h2⟩ := prows_bulk g1
    obtain ⟨l', pg, rfl, hl', h1', h2'⟩ := prows_bulk g2
    have hd : d = .agg [y0.1, y1.1, y2.1] := (Prod.mk.inj hxy).1
    have b0 := bulk_agg [y0.1, y1.1, y2.1] (d := y0.1) (by simp)
    have b1 := bulk_agg [y0.1, y1.1, y2.1] (d := y1.1) (by simp)
    have b2 := bulk_agg [y0.1, y1.1, y2.1] (d := y2.1) (by simp)
    rw [← hd] at b0 b1 b2
    exact ⟨ps, pp, pg, ⟨m, l, l', rfl, hm, hl, hl'⟩, ⟨Nat.le_trans h1 b1, fun i hi => Nat.le_trans (h2 i hi) b1⟩, ⟨Nat.le_trans h1' b2, fun i hi => Nat.le_trans (h2' i hi) b2⟩, Nat.le_trans h3 b0⟩

set_option maxRecDepth 100000 in
/-- A row of ints that came in. -/
theorem nrow_of_arg {H : Type} {enc : TypeId × Value → H} {W : World} {base : Nat} {v : Value} {d : DataW H} {p : List MemPlace} (hval : Value.okWide Tryz.prog W .any base 36 v) (h : DataW.Trod enc Tryz.prog W 0 (fun _ => true) true 36 v d p) : ∃ n f, NRow W v n f := by
  obtain ⟨a0, len, cap, rfl⟩ := okWide_slice Tryz.underlying36 hval
  obtain ⟨fuel, hf⟩ := h
  rcases open_ints Tryz.underlying36 Tryz.underlying3 Tryz.cellsI hf with ⟨hcs, hx⟩ | ⟨a, len', cap', zs, hcs, hb, hl, hm, hz, hx, hcell, hwz⟩
  · have e : Value.slice a0 len cap = .slice none 0 0 := by simpa [Value.cells] using hcs
    refine ⟨len, fun _ => 0, a0, cap, rfl, by injection e with e1 e2 e3; omega, by injection e with e1 e2 e3; omega, fun h => by injection e with e1 e2 e3; omega⟩
  · have e : Value.slice a0 len cap = .slice (some a) len' cap' := by simpa [Value.cells] using hcs
    injection e with e1 e2 e3
    subst e1 e2 e3
    simp only [if_true] at hz
    refine ⟨len, fun j => zs.getD j 0, _, cap, rfl, hl, by unfold maxLen at hm; exact hm, fun hp => ?_⟩
    obtain ⟨b, off, rfl, hc⟩ := ints_at hcell (by omega)
    refine ⟨b, off, rfl, ?_, fun j hj => hc j (by omega)⟩
    exact World.block_lt_of_cell? W ⟨b, off + 0, none⟩ (hc 0 (by omega))
end Go.Proofs.YtfnbjenneodcdaaGreatDoor
