/- A plain fare that came in (no tables laid). -/
import Derived.Test.YtfnbjenneodcdaaF0
import Derived.Test.YtfnbjenneodcdaaSE2
import Derived.Deep.SlicePairs
namespace Go.Proofs.Ytfnbjenneodcdaa
open Go.ChangeShapes Go.WideShapes Go.ChangeAt Go.RowKit Go.Joins

theorem Try.cellsQ : Try.prog.cellsOf 69 = 2 := by kernel_rfl
theorem Try.cellsI : Try.prog.cellsOf 3 = 1 := by kernel_rfl
set_option maxRecDepth 100000 in
/-- A row of pairs that came in. -/
theorem pairs_of_trod {H : Type} {enc : TypeId × Value → H} {W : World} {fuel : Nat} {v : Value} {x : DataW H × List MemPlace} (hf : DataW.trod enc Try.prog W 0 (fun _ => true) true fuel 22 [v] = some x) : ∃ (l : Sl) (ps : List (Int × Int)), v = l.val ∧ PairsAre W l.val ps := by
  rcases Deep.open_slice_pairs Try.underlying22 Try.underlying69 Try.cellsQ rfl rfl Try.cellsI Try.cellsI hf with ⟨hcs, hx⟩ | ⟨a, len', cap', m, n, V0, V1, D0, D1, P0, P1, hcs, hb, hl, hm, hmm, hx, hall⟩
  · have e : v = .slice none 0 0 := by simpa using hcs
    exact ⟨(none, 0, 0), [], e, none, 0, rfl, Nat.le_refl _, by decide, fun j hj => absurd hj (Nat.not_lt_zero _), fun h => absurd h (Nat.lt_irrefl _)⟩
  · have e : v = .slice (some a) len' cap' := by simpa using hcs
    simp only [if_true] at hmm
    have each : ∀ i, i < len' → ∃ q : Int × Int, W.cell? (a.add (i * 2)) = some (.int .i64 q.1) ∧ W.cell? (a.add (i * 2 + 1)) = some (.int .i64 q.2) ∧ I64 q.1 ∧ I64 q.2 := fun i hi => by
      obtain ⟨k0, k1, t0, t1⟩ := hall i (by omega)
      obtain ⟨x, e0, ex, wx⟩ := DataW.trod_int Try.underlying3 t0
      obtain ⟨y, e1, ey, wy⟩ := DataW.trod_int Try.underlying3 t1
      simp at e0 e1
      rw [e0] at k0
      rw [e1] at k1
      exact ⟨(x, y), k0, k1, bounds_i64 wx, bounds_i64 wy⟩
    obtain ⟨F, hF⟩ := Deep.choose_lt each
    refine ⟨(some a, len', cap'), (List.range len').map F, e, some a, cap', by simp [Sl.val], by simpa using hl, by unfold maxLen at hm; exact hm, fun j hj => ?_, fun hp => ?_⟩
    · have hj' : j < len' := by simpa using hj
      have e : ((List.range len').map F)[j]! = F j := by simp [hj']
      rw [e]
      exact ⟨(hF j hj').2.2.1, (hF j hj').2.2.2⟩
    · have hp' : 0 < len' := by simpa using hp
      obtain ⟨b, off, spot⟩ := a
      have hspot : spot = none := by simpa [Addr.add] using World.cell?_spot (hF 0 hp').1
      subst hspot
      refine ⟨b, off, rfl, World.block_lt_of_cell? W _ (hF 0 hp').1, fun j hj => ?_⟩
      have hj' : j < len' := by simpa using hj
      have e : ((List.range len').map F)[j]! = F j := by simp [hj']
      rw [e]
      have k0 := (hF j hj').1
      have k1 := (hF j hj').2.1
      rw [Go.WideShapes.add_plain] at k0 k1
      exact ⟨k0, k1⟩
theorem Try.cellsPF : Try.prog.cellsOf 24 = 2 := by kernel_rfl
theorem Try.cellsLQ : Try.prog.cellsOf 22 = 1 := by kernel_rfl
set_option maxRecDepth 100000 in
/-- A plain fare that came in. -/
theorem fare_of_arg {H : Type} {enc : TypeId × Value → H} {W : World} {base : Nat} {v : Value} {d : DataW H} {p : List MemPlace} (hval : Value.okWide Try.prog W .any base 24 v) (h : DataW.Trod enc Try.prog W 0 (fun _ => true) true 24 v d p) : ∃ (x : Int) (l : Sl) (ps : List (Int × Int)), v = .agg #[.int .i64 x, l.val] ∧ I64 x ∧ PairsAre W l.val ps := by
  obtain ⟨c0, c1, y0, y1, m, rfl, rfl, rfl, hy0, hy1⟩ := open_agg2 Try.underlying24 (by kernel_rfl) (by kernel_rfl) hval h
  obtain ⟨x, e0, rfl, wx⟩ := DataW.trod_int Try.underlying3 hy0
  obtain ⟨l, ps, e1, hl⟩ := pairs_of_trod hy1
  simp at e0
  subst e0 e1
  exact ⟨x, l, ps, rfl, bounds_i64 wx, hl⟩
end Go.Proofs.Ytfnbjenneodcdaa
