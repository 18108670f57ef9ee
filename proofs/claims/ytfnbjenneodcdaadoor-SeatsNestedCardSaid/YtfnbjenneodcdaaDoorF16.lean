/- Plain fares that came in: one, and a row of them. -/
import Derived.Test.YtfnbjenneodcdaaDoorF1
import Derived.Test.YtfnbjenneodcdaaDoorSE2
namespace Go.Proofs.YtfnbjenneodcdaaDoor
open Go.ChangeShapes Go.WideShapes Go.ChangeAt Go.RowKit Go.Joins

set_option maxRecDepth 100000 in
/-- A row of pairs that came in. -/
theorem pairs_of_trod {H : Type} {enc : TypeId × Value → H} {W : World} {fuel : Nat} {v : Value} {x : DataW H × List MemPlace} (hf : DataW.trod enc Tryd.prog W 0 (fun _ => true) true fuel 61 [v] = some x) : ∃ (l : Sl) (ps : List (Int × Int)), v = l.val ∧ PairsAre W l.val ps := by
  rcases Deep.open_slice_pairs Tryd.underlying61 Tryd.underlying48 Tryd.cellsQ rfl rfl Tryd.cellsI Tryd.cellsI hf with ⟨hcs, hx⟩ | ⟨a, len', cap', m, n, V0, V1, D0, D1, P0, P1, hcs, hb, hl, hm, hmm, hx, hall⟩
  · have e : v = .slice none 0 0 := by simpa using hcs
    exact ⟨(none, 0, 0), [], e, none, 0, rfl, Nat.le_refl _, by decide, fun j hj => absurd hj (Nat.not_lt_zero _), fun h => absurd h (Nat.lt_irrefl _)⟩
  · have e : v = .slice (some a) len' cap' := by simpa using hcs
    simp only [if_true] at hmm
    have each : ∀ i, i < len' → ∃ q : Int × Int, W.cell? (a.add (i * 2)) = some (.int .i64 q.1) ∧ W.cell? (a.add (i * 2 + 1)) = some (.int .i64 q.2) ∧ I64 q.1 ∧ I64 q.2 := fun i hi => by
      obtain ⟨k0, k1, t0, t1⟩ := hall i (by omega)
      obtain ⟨x, e0, ex, wx⟩ := DataW.trod_int Tryd.underlying3 t0
      obtain ⟨y, e1, ey, wy⟩ := DataW.trod_int Tryd.underlying3 t1
      simp at e0 e1
      rw [e0] at k0
      rw [e1] at k1
      exact ⟨(x, y), k0, k1, bounds_i64 wx, bounds_i64 wy⟩
    obtain ⟨F, hF⟩ := Deep.choose_lt each
    refine ⟨(some a, len', cap'), (List.range len').map F, e, some a, cap', by simp [Sl.val], by simpa using hl, by unfold maxLen at hm; exact hm, fun j hj => ?_, fun hp => ?_⟩
    · have hj' : j < len' := by simpa using hj
      have e : ((List.range len').map F)[j]! = F j := by simp [hj']
      rw [e]
      exact ⟨(hF j hj').2.2.1, (hF j hj').2.2.2⟩
    · have hp' : 0 < len' := by simpa using hp
      obtain ⟨b, off, spot⟩ := a
      have hspot : spot = none := by simpa [Addr.add] using World.cell?_spot (hF 0 hp').1
      subst hspot
      refine ⟨b, off, rfl, World.block_lt_of_cell? W _ (hF 0 hp').1, fun j hj => ?_⟩
      have hj' : j < len' := by simpa using hj
      have e : ((List.range len').map F)[j]! = F j := by simp [hj']
      rw [e]
      have k0 := (hF j hj').1
      have k1 := (hF j hj').2.1
      rw [Go.WideShapes.add_plain] at k0 k1
      exact ⟨k0, k1⟩
set_option maxRecDepth 100000 in
/-- A row of ints that came in. -/
theorem nrow_of_arg {H : Type} {enc : TypeId × Value → H} {W : World} {base : Nat} {v : Value} {d : DataW H} {p : List MemPlace} (hval : Value.okWide Tryd.prog W .any base 23 v) (h : DataW.Trod enc Tryd.prog W 0 (fun _ => true) true 23 v d p) : ∃ n f, NRow W v n f := by
  obtain ⟨a0, len, cap, rfl⟩ := okWide_slice Tryd.underlying23 hval
  obtain ⟨fuel, hf⟩ := h
  rcases open_ints Tryd.underlying23 Tryd.underlying3 Tryd.cellsI hf with ⟨hcs, hx⟩ | ⟨a, len', cap', zs, hcs, hb, hl, hm, hz, hx, hcell, hwz⟩
  · have e : Value.slice a0 len cap = .slice none 0 0 := by simpa [Value.cells] using hcs
    refine ⟨len, fun _ => 0, a0, cap, rfl, by injection e with e1 e2 e3; omega, by injection e with e1 e2 e3; omega, fun h => by injection e with e1 e2 e3; omega⟩
  · have e : Value.slice a0 len cap = .slice (some a) len' cap' := by simpa [Value.cells] using hcs
    injection e with e1 e2 e3
    subst e1 e2 e3
    simp only [if_true] at hz
    refine ⟨len, fun j => zs.getD j 0, _, cap, rfl, hl, by unfold maxLen at hm; exact hm, fun hp => ?_⟩
    obtain ⟨b, off, rfl, hc⟩ := ints_at hcell (by omega)
    refine ⟨b, off, rfl, ?_, fun j hj => hc j (by omega)⟩
    exact World.block_lt_of_cell? W ⟨b, off + 0, none⟩ (hc 0 (by omega))

theorem Tryd.cellsPF : Tryd.prog.cellsOf 67 = 2 := by kernel_rfl
theorem Tryd.cellsLQ : Tryd.prog.cellsOf 61 = 1 := by kernel_rfl

set_option maxRecDepth 100000 in
/-- A row of plain fares that came in. -/
theorem fares_of_arg {H : Type} {enc : TypeId × Value → H} {W : World} {base : Nat} {v : Value} {d : DataW H} {p : List MemPlace} (hval : Value.okWide Tryd.prog W .any base 22 v) (h : DataW.Trod enc Tryd.prog W 0 (fun _ => true) true 22 v d p) : ∃ ps, PFaresAre W v ps := by
  obtain ⟨a0, len, cap, rfl⟩ := okWide_slice Tryd.underlying22 hval
  obtain ⟨fuel, hf⟩ := h
  rcases Deep.open_slice_pairs Tryd.underlying22 Tryd.underlying67 Tryd.cellsPF rfl rfl Tryd.cellsI Tryd.cellsLQ hf with ⟨hcs, hx⟩ | ⟨a, len', cap', m, n, V0, V1, D0, D1, P0, P1, hcs, hb, hl, hm, hmm, hx, hall⟩
  · have e : Value.slice a0 len cap = .slice none 0 0 := by simpa [Value.cells] using hcs
    injection e with e1 e2 e3
    subst e1 e2 e3
    exact ⟨[], none, 0, rfl, Nat.le_refl _, by decide, fun j hj => absurd hj (Nat.not_lt_zero _), fun h => absurd h (Nat.lt_irrefl _)⟩
  · have e : Value.slice a0 len cap = .slice (some a) len' cap' := by simpa [Value.cells] using hcs
    injection e with e1 e2 e3
    subst e1 e2 e3
    simp only [if_true] at hmm
    have each : ∀ i, i < len → ∃ q : (Int × List (Int × Int)) × Sl, W.cell? (a.add (i * 2)) = some (.int .i64 q.1.1) ∧ W.cell? (a.add (i * 2 + 1)) = some q.2.val ∧ I64 q.1.1 ∧ PairsAre W q.2.val q.1.2 := fun i hi => by
      obtain ⟨k0, k1, t0, t1⟩ := hall i (by omega)
      obtain ⟨x, e0, ex, wx⟩ := DataW.trod_int Tryd.underlying3 t0
      obtain ⟨l, qs, e1, hl2⟩ := pairs_of_trod t1
      simp at e0
      rw [e0] at k0
      rw [e1] at k1
      exact ⟨((x, qs), l), k0, k1, bounds_i64 wx, hl2⟩
    obtain ⟨F, hF⟩ := Deep.choose_lt each
    refine ⟨(List.range len).map (fun i => (F i).1), some a, cap, by simp, by simpa using hl, by unfold maxLen at hm; exact hm, fun j hj => ?_, fun hp => ?_⟩
    · have hj' : j < len := by simpa using hj
      have e : ((List.range len).map (fun i => (F i).1))[j]! = (F j).1 := by simp [hj']
      rw [e]
      exact (hF j hj').2.2.1
    · have hp' : 0 < len := by simpa using hp
      obtain ⟨b, off, spot⟩ := a
      have hspot : spot = none := by simpa [Addr.add] using World.cell?_spot (hF 0 hp').1
      subst hspot
      refine ⟨b, off, rfl, World.block_lt_of_cell? W _ (hF 0 hp').1, fun j hj => ?_⟩
      have hj' : j < len := by simpa using hj
      have e : ((List.range len).map (fun i => (F i).1))[j]! = (F j).1 := by simp [hj']
      rw [e]
      have k0 := (hF j hj').1
      have k1 := (hF j hj').2.1
      rw [Go.WideShapes.add_plain] at k0 k1
      exact ⟨(F j).2, ⟨k0, k1⟩, (hF j hj').2.2.2⟩
set_option maxRecDepth 100000 in
/-- A plain fare that came in. -/
theorem fare_of_arg {H : Type} {enc : TypeId × Value → H} {W : World} {base : Nat} {v : Value} {d : DataW H} {p : List MemPlace} (hval : Value.okWide Tryd.prog W .any base 67 v) (h : DataW.Trod enc Tryd.prog W 0 (fun _ => true) true 67 v d p) : ∃ (x : Int) (l : Sl) (ps : List (Int × Int)), v = .agg #[.int .i64 x, l.val] ∧ I64 x ∧ PairsAre W l.val ps := by
  obtain ⟨c0, c1, y0, y1, m, rfl, rfl, rfl, hy0, hy1⟩ := open_agg2 Tryd.underlying67 (by kernel_rfl) (by kernel_rfl) hval h
  obtain ⟨x, e0, rfl, wx⟩ := DataW.trod_int Tryd.underlying3 hy0
  obtain ⟨l, ps, e1, hl⟩ := pairs_of_trod hy1
  simp at e0
  subst e0 e1
  exact ⟨x, l, ps, rfl, bounds_i64 wx, hl⟩
end Go.Proofs.YtfnbjenneodcdaaDoor
