/- Rows of rows of ints that came in. -/
import Derived.Test.YtcmddkekidgkoaaDoorTT1
import Derived.Test.YtcmddkekidgkoaaDoorFT1
import Derived.Test.YtcmddkekidgkoaaDoorRows
namespace Go.Proofs.YtcmddkekidgkoaaDoor
open Go.ChangeShapes Go.WideShapes Go.ChangeAt Go.RowKit Go.Joins

theorem bulk_pos {H : Type} (d : DataW H) : 1 ≤ Rows.uptoBulk d := by
  cases d with
  | lit l => cases l <;> simp [Rows.uptoBulk]
  | nil => simp [Rows.uptoBulk]
  | ptr d => simp [Rows.uptoBulk]
  | slice elems spare => simp [Rows.uptoBulk]
  | agg parts => simp [Rows.uptoBulk]
  | iface t d => simp [Rows.uptoBulk]
  | map entries => simp [Rows.uptoBulk]
  | held h => simp [Rows.uptoBulk]
theorem bulk_all {H : Type} (l : List (DataW H)) : l.length ≤ Rows.uptoBulkAll l ∧ ∀ d ∈ l, Rows.uptoBulk d ≤ Rows.uptoBulkAll l := by
  induction l with
  | nil => exact ⟨Nat.zero_le _, fun d h => by cases h⟩
  | cons x r ih =>
    have e : Rows.uptoBulkAll (x :: r) = Rows.uptoBulk x + Rows.uptoBulkAll r := by simp only [Rows.uptoBulkAll]
    have := bulk_pos x
    have h1 := ih.1
    refine ⟨by rw [e, List.length_cons]; omega, fun d h => ?_⟩
    rw [e]
    rcases List.mem_cons.1 h with rfl | h
    · omega
    · have := ih.2 d h; omega
theorem bulk_row {H : Type} (l r : List (DataW H)) : l.length ≤ Rows.uptoBulk (.slice l r) ∧ ∀ d ∈ l, Rows.uptoBulk d ≤ Rows.uptoBulk (.slice l r) := by
  have e : Rows.uptoBulk (.slice l r) = Rows.uptoBulkAll l + Rows.uptoBulkAll r + 1 := by simp only [Rows.uptoBulk]
  have h := bulk_all l
  have h1 := h.1
  refine ⟨by rw [e]; omega, fun d hd => ?_⟩
  have := h.2 d hd
  rw [e]; omega
set_option maxRecDepth 100000 in
/-- A row of ints that came in, and its bulk. -/
theorem ints_bulk {H : Type} {enc : TypeId × Value → H} {W : World} {fuel : Nat} {v : Value} {x : DataW H × List MemPlace} (hf : DataW.trod enc Tryd.prog W 0 (fun _ => true) true fuel 31 [v] = some x) : ∃ (l : Option Addr × Nat × Nat) (r : Nat → Int), v = .slice l.1 l.2.1 l.2.2 ∧ IRow W l.1 l.2.1 l.2.2 r ∧ l.2.1 ≤ Rows.uptoBulk x.1 := by
  rcases open_ints Tryd.underlying31 Tryd.underlying3 Tryd.cellsI hf with ⟨hcs, hx⟩ | ⟨a, len', cap', zs, hcs, hb, hl, hm, hz, hx, hcell, hwz⟩
  · have e : v = .slice none 0 0 := by simpa using hcs
    exact ⟨(none, 0, 0), fun _ => 0, e, ⟨Nat.le_refl _, by decide, fun h => absurd h (Nat.lt_irrefl _)⟩, Nat.zero_le _⟩
  · have e : v = .slice (some a) len' cap' := by simpa using hcs
    simp only [if_true] at hz
    refine ⟨(some a, len', cap'), fun j => zs.getD j 0, e, ⟨hl, by unfold maxLen at hm; exact hm, fun hp => ?_⟩, ?_⟩
    · obtain ⟨b, off, ha, hc⟩ := ints_at hcell (by have hp' : 0 < len' := hp; omega)
      refine ⟨b, off, by rw [ha], ?_, fun j hj => hc j (by have hj' : j < len' := hj; omega)⟩
      exact World.block_lt_of_cell? W ⟨b, off + 0, none⟩ (hc 0 (by have hp' : 0 < len' := hp; omega))
    · rw [hx]
      have h1 := (bulk_row (lits (H := H) .i64 (zs.take len')) (lits .i64 (zs.drop len'))).1
      have h2 : (lits (H := H) .i64 (zs.take len')).length = len' := by unfold lits; simp; omega
      rw [h2] at h1
      exact h1
theorem Tryd.cellsLI : Tryd.prog.cellsOf 31 = 1 := by kernel_rfl
set_option maxRecDepth 100000 in
/-- A row of rows of ints that came in, and its bulk. -/
theorem irows_of_arg {H : Type} {enc : TypeId × Value → H} {W : World} {base : Nat} {v : Value} {d : DataW H} {p : List MemPlace} (hval : Value.okWide Tryd.prog W .any base 52 v) (h : DataW.Trod enc Tryd.prog W 0 (fun _ => true) true 52 v d p) : ∃ a n c L R, v = .slice a n c ∧ RRow W a n c L R ∧ n ≤ Rows.uptoBulk d ∧ ∀ i, lnH L i ≤ Rows.uptoBulk d := by
  obtain ⟨a0, len, cap, rfl⟩ := okWide_slice Tryd.underlying52 hval
  obtain ⟨fuel, hf⟩ := h
  rcases Deep.open_slice Tryd.underlying52 hf with ⟨hcs, hx⟩ | ⟨a, len', cap', m, n, D, Pl, hcs, hb, hl, hm, hmm, hx, hall⟩
  · have e : Value.slice a0 len cap = .slice none 0 0 := by simpa [Value.cells] using hcs
    injection e with e1 e2 e3
    subst e1 e2 e3
    exact ⟨none, 0, 0, fun _ => (none, 0, 0), fun _ _ => 0, rfl, ⟨Nat.le_refl _, by decide, fun i hi => absurd hi (Nat.not_lt_zero _), fun h => absurd h (Nat.lt_irrefl _)⟩, Nat.zero_le _, fun i => Nat.zero_le _⟩
  · have e : Value.slice a0 len cap = .slice (some a) len' cap' := by simpa [Value.cells] using hcs
    injection e with e1 e2 e3
    subst e1 e2 e3
    simp only [if_true] at hmm
    have hd : d = .slice ((List.range len).map D) ((List.range (m - len)).map fun j => D (len + j)) := (Prod.mk.inj hx).1
    have each : ∀ i, i < len → ∃ q : (Option Addr × Nat × Nat) × (Nat → Int), W.cell? (a.add i) = some (.slice q.1.1 q.1.2.1 q.1.2.2) ∧ IRow W q.1.1 q.1.2.1 q.1.2.2 q.2 ∧ q.1.2.1 ≤ Rows.uptoBulk d := fun i hi => by
      obtain ⟨cs', h1, h2⟩ := hall i (by omega)
      rw [Tryd.cellsLI] at h1
      obtain ⟨_, hlen, hcell⟩ := World.cells?_some h1
      match cs', hlen with
      | [v0], _ =>
        obtain ⟨l, r, e2, hl2, hq⟩ := ints_bulk h2
        have e0 := hcell 0 (by omega)
        rw [Go.Deep.add_add] at e0
        refine ⟨(l, r), ?_, hl2, ?_⟩
        · rw [← e2]; simpa using e0
        · have b := (bulk_row ((List.range len).map D) ((List.range (m - len)).map fun j => D (len + j))).2 (D i) (List.mem_map.2 ⟨i, List.mem_range.2 hi, rfl⟩)
          rw [hd]
          exact Nat.le_trans hq b
    obtain ⟨F, hF⟩ := Deep.choose_lt each
    have hin : ∀ i, i < len → (fun i => if i < len then (F i).1 else (none, 0, 0)) i = (F i).1 := fun i hi => by simp [hi]
    refine ⟨some a, len, cap, fun i => if i < len then (F i).1 else (none, 0, 0), fun i => (F i).2, rfl, ⟨by simpa using hl, by unfold maxLen at hm; exact hm, fun i hi => ?_, fun hp => ?_⟩, ?_, fun i => ?_⟩
    · rw [hin i hi]
      exact (hF i hi).2.1
    · obtain ⟨b, off, spot⟩ := a
      have hspot : spot = none := by simpa [Addr.add] using World.cell?_spot (hF 0 hp).1
      subst hspot
      refine ⟨b, off, rfl, World.block_lt_of_cell? W _ (hF 0 hp).1, fun j hj => ?_⟩
      rw [hin j hj]
      have k0 := (hF j hj).1
      rw [Go.WideShapes.add_plain] at k0
      exact k0
    · have b := (bulk_row ((List.range len).map D) ((List.range (m - len)).map fun j => D (len + j))).1
      rw [hd]
      simpa using b
    · unfold lnH
      by_cases hi : i < len
      · rw [hin i hi]; exact (hF i hi).2.2
      · simp [hi]
end Go.Proofs.YtcmddkekidgkoaaDoor
