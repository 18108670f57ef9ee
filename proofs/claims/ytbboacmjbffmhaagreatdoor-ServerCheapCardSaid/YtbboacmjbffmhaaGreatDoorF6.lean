/- A row of plain classes (a pair and a row of pairs each) that came in. -/
import Derived.Test.YtbboacmjbffmhaaGreatDoorF1
import Derived.Test.YtbboacmjbffmhaaGreatDoorS9
namespace Go.Proofs.YtbboacmjbffmhaaGreatDoor
open Go.ChangeShapes Go.WideShapes Go.ChangeAt Go.RowKit Go.Joins

set_option maxRecDepth 100000 in
/-- A row of pairs that came in. -/
theorem pairs_of_trod {H : Type} {enc : TypeId × Value → H} {W : World} {fuel : Nat} {v : Value} {x : DataW H × List MemPlace} (hf : DataW.trod enc Tryz.prog W 0 (fun _ => true) true fuel 23 [v] = some x) : ∃ (l : Sl) (ps : List (Int × Int)), v = l.val ∧ PairsAre W l.val ps := by
  rcases Deep.open_slice_pairs Tryz.underlying23 Tryz.underlying25 Tryz.cellsQ rfl rfl Tryz.cellsI Tryz.cellsI hf with ⟨hcs, hx⟩ | ⟨a, len', cap', m, n, V0, V1, D0, D1, P0, P1, hcs, hb, hl, hm, hmm, hx, hall⟩
  · have e : v = .slice none 0 0 := by simpa using hcs
    exact ⟨(none, 0, 0), [], e, none, 0, rfl, Nat.le_refl _, by decide, fun j hj => absurd hj (Nat.not_lt_zero _), fun h => absurd h (Nat.lt_irrefl _)⟩
  · have e : v = .slice (some a) len' cap' := by simpa using hcs
    simp only [if_true] at hmm
    have each : ∀ i, i < len' → ∃ q : Int × Int, W.cell? (a.add (i * 2)) = some (.int .i64 q.1) ∧ W.cell? (a.add (i * 2 + 1)) = some (.int .i64 q.2) ∧ I64 q.1 ∧ I64 q.2 := fun i hi => by
      obtain ⟨k0, k1, t0, t1⟩ := hall i (by omega)
      obtain ⟨x, e0, ex, wx⟩ := DataW.trod_int Tryz.underlying3 t0
      obtain ⟨y, e1, ey, wy⟩ := DataW.trod_int Tryz.underlying3 t1
      simp at e0 e1
      rw [e0] at k0
      rw [e1] at k1
      exact ⟨(x, y), k0, k1, bounds_i64 wx, bounds_i64 wy⟩
    obtain ⟨F, hF⟩ := Deep.choose_lt each
    refine ⟨(some a, len', cap'), (List.range len').map F, e, some a, cap', by simp [Sl.val], by simpa using hl, by unfold maxLen at hm; exact hm, fun j hj => ?_, fun hp => ?_⟩
    · have hj' : j < len' := by simpa using hj
      have e : ((List.range len').map F)[j]! = F j := by simp [hj']
      rw [e]
      exact ⟨(hF j hj').2.2.1, (hF j hj').2.2.2⟩
    · have hp' : 0 < len' := by simpa using hp
      obtain ⟨b, off, spot⟩ := a
      have hspot : spot = none := by simpa [Addr.add] using World.cell?_spot (hF 0 hp').1
      subst hspot
      refine ⟨b, off, rfl, World.block_lt_of_cell? W _ (hF 0 hp').1, fun j hj => ?_⟩
      have hj' : j < len' := by simpa using hj
      have e : ((List.range len').map F)[j]! = F j := by simp [hj']
      rw [e]
      have k0 := (hF j hj').1
      have k1 := (hF j hj').2.1
      rw [Go.WideShapes.add_plain] at k0 k1
      exact ⟨k0, k1⟩
section
variable {H : Type} {enc : TypeId × Value → H} {P : Program} {w : World} {base : Nat} {spare : Nat → Bool} {held : Bool}
theorem open_slice_cls {t e q : TypeId} {f0 f1 g0 g1 : Field} {fuel : Nat} {cs : List Value} {x : DataW H × List MemPlace} (ht : P.underlying t = some (.slice e)) (he : P.underlying e = some (.struct #[f0, f1])) (tq : f0.type = q) (hq : P.underlying q = some (.struct #[g0, g1]))
    (ce : P.cellsOf e = 3) (cq : P.cellsOf q = 2) (o0 : f0.offset = 0) (o1 : f1.offset = 2) (p0 : g0.offset = 0) (p1 : g1.offset = 1) (c1 : P.cellsOf f1.type = 1) (d0 : P.cellsOf g0.type = 1) (d1 : P.cellsOf g1.type = 1)
    (h : DataW.trod enc P w base spare held fuel t cs = some x) :
    cs = [.slice none 0 0] ∨ ∃ (a : Addr) (len cap m n : Nat), cs = [.slice (some a) len cap] ∧ len ≤ cap ∧ cap ≤ maxLen ∧ m = (if spare a.block then cap else len) ∧
      ∀ i, i < m → ∃ V0 V1 V2 D0 D1 D2 n', w.cell? (a.add (i * 3)) = some V0 ∧ w.cell? (a.add (i * 3 + 1)) = some V1 ∧ w.cell? (a.add (i * 3 + 2)) = some V2 ∧
        DataW.trod enc P w base spare held n' g0.type [V0] = some D0 ∧ DataW.trod enc P w base spare held n' g1.type [V1] = some D1 ∧ DataW.trod enc P w base spare held n f1.type [V2] = some D2 := by
  rcases Deep.open_slice ht h with h0 | ⟨a, len, cap, m, n, D, Pl, rfl, hb, hl, hm, hmm, rfl, hx⟩
  · exact Or.inl h0.1
  refine Or.inr ⟨a, len, cap, m, n - 1, rfl, hl, hm, hmm, fun i hi => ?_⟩
  obtain ⟨cs', h1, h2⟩ := hx i hi
  rw [ce] at h1
  obtain ⟨_, hlen, hcell⟩ := World.cells?_some h1
  obtain ⟨xs, k, hk, hxy, _, hxl, hf⟩ := DataW.trod_struct he h2
  have hk' : k = n - 1 := by omega
  subst hk'
  match xs, hxl, cs', hlen with
  | [y0, y1], _, [v0, v1, v2], _ =>
    have g0' := hf 0 f0 rfl
    have g1' := hf 1 f1 rfl
    rw [tq] at g0'
    simp [o0, o1, cq, c1] at g0' g1'
    obtain ⟨xs2, k2, hk2, hxy2, _, hxl2, hf2⟩ := DataW.trod_struct hq g0'
    match xs2, hxl2 with
    | [z0, z1], _ =>
      have q0 := hf2 0 g0 rfl
      have q1 := hf2 1 g1 rfl
      simp [p0, p1, d0, d1] at q0 q1
      have e0 := hcell 0 (by omega)
      have e1 := hcell 1 (by omega)
      have e2 := hcell 2 (by omega)
      rw [Go.Deep.add_add] at e0 e1 e2
      exact ⟨v0, v1, v2, z0, z1, y1, k2, by simpa using e0, by simpa using e1, by simpa using e2, q0, q1, g1'⟩
end

theorem Tryz.cellsPC : Tryz.prog.cellsOf 27 = 3 := by kernel_rfl
theorem Tryz.cellsLQ : Tryz.prog.cellsOf 23 = 1 := by kernel_rfl

set_option maxRecDepth 100000 in
/-- A row of plain classes that came in. -/
theorem cls_of_arg {H : Type} {enc : TypeId × Value → H} {W : World} {base : Nat} {v : Value} {d : DataW H} {p : List MemPlace} (hval : Value.okWide Tryz.prog W .any base 22 v) (h : DataW.Trod enc Tryz.prog W 0 (fun _ => true) true 22 v d p) : ∃ ps, ClsAre W v ps := by
  obtain ⟨a0, len, cap, rfl⟩ := okWide_slice Tryz.underlying22 hval
  obtain ⟨fuel, hf⟩ := h
  rcases open_slice_cls Tryz.underlying22 Tryz.underlying27 rfl Tryz.underlying25 Tryz.cellsPC Tryz.cellsQ rfl rfl rfl rfl Tryz.cellsLQ Tryz.cellsI Tryz.cellsI hf with hcs | ⟨a, len', cap', m, n, hcs, hl, hm, hmm, hall⟩
  · have e : Value.slice a0 len cap = .slice none 0 0 := by simpa [Value.cells] using hcs
    injection e with e1 e2 e3
    subst e1 e2 e3
    exact ⟨[], none, 0, rfl, Nat.le_refl _, by decide, fun j hj => absurd hj (Nat.not_lt_zero _), fun h => absurd h (Nat.lt_irrefl _)⟩
  · have e : Value.slice a0 len cap = .slice (some a) len' cap' := by simpa [Value.cells] using hcs
    injection e with e1 e2 e3
    subst e1 e2 e3
    simp only [if_true] at hmm
    have each : ∀ i, i < len → ∃ q : ((Int × Int) × List (Int × Int)) × Sl, W.cell? (a.add (i * 3)) = some (.int .i64 q.1.1.1) ∧ W.cell? (a.add (i * 3 + 1)) = some (.int .i64 q.1.1.2) ∧ W.cell? (a.add (i * 3 + 2)) = some q.2.val ∧ I64 q.1.1.1 ∧ I64 q.1.1.2 ∧ PairsAre W q.2.val q.1.2 := fun i hi => by
      obtain ⟨V0, V1, V2, D0, D1, D2, n', k0, k1, k2, t0, t1, t2⟩ := hall i (by omega)
      obtain ⟨x, e0, ex, wx⟩ := DataW.trod_int Tryz.underlying3 t0
      obtain ⟨y, e1, ey, wy⟩ := DataW.trod_int Tryz.underlying3 t1
      obtain ⟨l, qs, e2, hl2⟩ := pairs_of_trod t2
      simp at e0 e1
      rw [e0] at k0
      rw [e1] at k1
      rw [e2] at k2
      exact ⟨(((x, y), qs), l), k0, k1, k2, bounds_i64 wx, bounds_i64 wy, hl2⟩
    obtain ⟨F, hF⟩ := Deep.choose_lt each
    refine ⟨(List.range len).map (fun i => (F i).1), some a, cap, by simp, by simpa using hl, by unfold maxLen at hm; exact hm, fun j hj => ?_, fun hp => ?_⟩
    · have hj' : j < len := by simpa using hj
      have e : ((List.range len).map (fun i => (F i).1))[j]! = (F j).1 := by simp [hj']
      rw [e]
      exact ⟨(hF j hj').2.2.2.1, (hF j hj').2.2.2.2.1⟩
    · have hp' : 0 < len := by simpa using hp
      obtain ⟨b, off, spot⟩ := a
      have hspot : spot = none := by simpa [Addr.add] using World.cell?_spot (hF 0 hp').1
      subst hspot
      refine ⟨b, off, rfl, World.block_lt_of_cell? W _ (hF 0 hp').1, fun j hj => ?_⟩
      have hj' : j < len := by simpa using hj
      have e : ((List.range len).map (fun i => (F i).1))[j]! = (F j).1 := by simp [hj']
      rw [e]
      have k0 := (hF j hj').1
      have k1 := (hF j hj').2.1
      have k2 := (hF j hj').2.2.1
      rw [Go.WideShapes.add_plain] at k0 k1 k2
      exact ⟨(F j).2, ⟨k0, k1, k2⟩, (hF j hj').2.2.2.2.2⟩
end Go.Proofs.YtbboacmjbffmhaaGreatDoor
