/- Gates that came in. -/
import Derived.Test.YtpopcfclpemlaaaDoorF1
import Derived.Test.YtpopcfclpemlaaaDoorRKA
namespace Go.Proofs.YtpopcfclpemlaaaDoor
open Go.ChangeShapes Go.WideShapes Go.ChangeAt Go.RowKit Go.Joins

set_option maxRecDepth 100000 in
/-- A row of ints that came in. -/
theorem irow_of_trod {H : Type} {enc : TypeId × Value → H} {W : World} {fuel : Nat} {v : Value} {x : DataW H × List MemPlace} (hf : DataW.trod enc Tryd.prog W 0 (fun _ => true) true fuel 45 [v] = some x) : ∃ a n c f, v = .slice a n c ∧ IRow W a n c f := by
  rcases open_ints Tryd.underlying45 Tryd.underlying3 Tryd.cellsI hf with ⟨hcs, hx⟩ | ⟨a, len', cap', zs, hcs, hb, hl, hm, hz, hx, hcell, hwz⟩
  · have e : v = .slice none 0 0 := by simpa using hcs
    exact ⟨none, 0, 0, fun _ => 0, e, Nat.le_refl _, by decide, fun h => absurd h (Nat.lt_irrefl _)⟩
  · have e : v = .slice (some a) len' cap' := by simpa using hcs
    simp only [if_true] at hz
    refine ⟨some a, len', cap', fun j => zs.getD j 0, e, hl, by unfold maxLen at hm; exact hm, fun hp => ?_⟩
    obtain ⟨b, off, rfl, hc⟩ := ints_at hcell (by omega)
    refine ⟨b, off, rfl, ?_, fun j hj => hc j (by omega)⟩
    exact World.block_lt_of_cell? W ⟨b, off + 0, none⟩ (hc 0 (by omega))
section
variable {H : Type} {enc : TypeId × Value → H} {P : Program} {w : World} {base : Nat} {spare : Nat → Bool} {held : Bool}
theorem open_slice_gate {t e : TypeId} {f0 f1 : Field} {fuel : Nat} {cs : List Value} {x : DataW H × List MemPlace} (ht : P.underlying t = some (.slice e)) (he : P.underlying e = some (.struct #[f0, f1]))
    (ce : P.cellsOf e = 2) (o0 : f0.offset = 0) (o1 : f1.offset = 1) (c0 : P.cellsOf f0.type = 1) (c1 : P.cellsOf f1.type = 1)
    (h : DataW.trod enc P w base spare held fuel t cs = some x) :
    cs = [.slice none 0 0] ∨ ∃ (a : Addr) (len cap m n : Nat), cs = [.slice (some a) len cap] ∧ len ≤ cap ∧ cap ≤ maxLen ∧ m = (if spare a.block then cap else len) ∧
      ∀ i, i < m → ∃ V0 V1 D0 D1, w.cell? (a.add (i * 2)) = some V0 ∧ w.cell? (a.add (i * 2 + 1)) = some V1 ∧
        DataW.trod enc P w base spare held n f0.type [V0] = some D0 ∧ DataW.trod enc P w base spare held n f1.type [V1] = some D1 := by
  rcases Deep.open_slice ht h with h0 | ⟨a, len, cap, m, n, D, Pl, rfl, hb, hl, hm, hmm, rfl, hx⟩
  · exact Or.inl h0.1
  refine Or.inr ⟨a, len, cap, m, n - 1, rfl, hl, hm, hmm, fun i hi => ?_⟩
  obtain ⟨cs', h1, h2⟩ := hx i hi
  rw [ce] at h1
  obtain ⟨_, hlen, hcell⟩ := World.cells?_some h1
  obtain ⟨xs, k, hk, hxy, _, hxl, hf⟩ := DataW.trod_struct he h2
  have hk' : k = n - 1 := by omega
  subst hk'
  match xs, hxl, cs', hlen with
  | [y0, y1], _, [v0, v1], _ =>
    have g0' := hf 0 f0 rfl
    have g1' := hf 1 f1 rfl
    simp [o0, o1, c0, c1] at g0' g1'
    have e0 := hcell 0 (by omega)
    have e1 := hcell 1 (by omega)
    rw [Go.Deep.add_add] at e0 e1
    exact ⟨v0, v1, y0, y1, by simpa using e0, by simpa using e1, g0', g1'⟩
end
theorem Tryd.cellsGt : Tryd.prog.cellsOf 58 = 2 := by kernel_rfl
theorem Tryd.cellsLI : Tryd.prog.cellsOf 45 = 1 := by kernel_rfl

set_option maxRecDepth 100000 in
/-- Gates that came in. -/
theorem gates_of_arg {H : Type} {enc : TypeId × Value → H} {W : World} {base : Nat} {v : Value} {d : DataW H} {p : List MemPlace} (hval : Value.okWide Tryd.prog W .any base 22 v) (h : DataW.Trod enc Tryd.prog W 0 (fun _ => true) true 22 v d p) : ∃ a N c g H, v = .slice a N c ∧ GRow W a N c g H ∧ ∀ i, i < N → I64 (g.L i) := by
  obtain ⟨a0, len, cap, rfl⟩ := okWide_slice Tryd.underlying22 hval
  obtain ⟨fuel, hf⟩ := h
  rcases open_slice_gate Tryd.underlying22 Tryd.underlying58 Tryd.cellsGt rfl rfl Tryd.cellsI Tryd.cellsLI hf with hcs | ⟨a, len', cap', m, n, hcs, hl, hm, hmm, hall⟩
  · have e : Value.slice a0 len cap = .slice none 0 0 := by simpa [Value.cells] using hcs
    injection e with e1 e2 e3
    subst e1 e2 e3
    exact ⟨none, 0, 0, ⟨fun _ => 0, fun _ => 0, fun _ _ => 0⟩, fun _ => (none, 0), rfl, ⟨Nat.le_refl _, by decide, fun i hi => absurd hi (Nat.not_lt_zero _), fun h => absurd h (Nat.lt_irrefl _)⟩, fun i hi => absurd hi (Nat.not_lt_zero _)⟩
  · have e : Value.slice a0 len cap = .slice (some a) len' cap' := by simpa [Value.cells] using hcs
    injection e with e1 e2 e3
    subst e1 e2 e3
    simp only [if_true] at hmm
    have each : ∀ i, i < len → ∃ q : (Int × Nat × (Nat → Int)) × (Option Addr × Nat), W.cell? (a.add (i * 2)) = some (.int .i64 q.1.1) ∧ W.cell? (a.add (i * 2 + 1)) = some (.slice q.2.1 q.1.2.1 q.2.2) ∧ I64 q.1.1 ∧ IRow W q.2.1 q.1.2.1 q.2.2 q.1.2.2 := fun i hi => by
      obtain ⟨V0, V1, D0, D1, k0, k1, t0, t1⟩ := hall i (by omega)
      obtain ⟨x, e0, ex, wx⟩ := DataW.trod_int Tryd.underlying3 t0
      obtain ⟨ra, rn, rc, rf, e1, hr⟩ := irow_of_trod t1
      simp at e0
      rw [e0] at k0
      rw [e1] at k1
      exact ⟨((x, rn, rf), (ra, rc)), k0, k1, bounds_i64 wx, hr⟩
    obtain ⟨F, hF⟩ := Deep.choose_lt each
    refine ⟨some a, len, cap, ⟨fun i => (F i).1.1, fun i => (F i).1.2.1, fun i => (F i).1.2.2⟩, fun i => (F i).2, rfl, ⟨hl, by unfold maxLen at hm; exact hm, fun i hi => (hF i hi).2.2.2, fun hp => ?_⟩, fun i hi => (hF i hi).2.2.1⟩
    obtain ⟨b, off, spot⟩ := a
    have hspot : spot = none := by simpa [Addr.add] using World.cell?_spot (hF 0 hp).1
    subst hspot
    refine ⟨b, off, rfl, World.block_lt_of_cell? W _ (hF 0 hp).1, fun j hj => ?_⟩
    have k0 := (hF j hj).1
    have k1 := (hF j hj).2.1
    rw [Go.WideShapes.add_plain] at k0 k1
    exact ⟨k0, k1⟩
end Go.Proofs.YtpopcfclpemlaaaDoor
