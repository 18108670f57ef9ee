/- Jobs and pieces as the document's own: rows made by append. -/
import Derived.Test.YteflciddadjilaaDoorP11
import Derived.Deep.RegionLaw
namespace Go.Proofs.YteflciddadjilaaDoor
open Go.RowKit Go.Sort Sim

/-- A row of threes of the call's own, of a type. -/
def OwnT (T : TypeId) (w : World) (B : Nat) (v : Value) (ps : List T3) : Prop := w.ownsRow B T 3 v ps.length (pcells ps)
theorem OwnT.keep {T : TypeId} {w w' : World} {B : Nat} {v : Value} {ps : List T3} (h : OwnT T w B v ps) (hb : Below w.heap.size w w') : OwnT T w' B v ps := by
  refine ⟨h.1, ?_⟩
  rcases h.2 with h | ⟨g, cap, cur, hv, hg, hh, h1⟩
  · exact Or.inl h
  · exact Or.inr ⟨g, cap, cur, hv, hg, by rw [hb.block g (Array.getElem?_eq_some_iff.1 hh).1]; exact hh, h1⟩
theorem OwnT.start (T : TypeId) (w : World) (B : Nat) : OwnT T w B (.slice none 0 0) [] := World.ownsRow_nil _ _ _ _
theorem OwnT.trow {T : TypeId} {w : World} {B : Nat} {v : Value} {ps : List T3} (h : OwnT T w B v ps) : ∃ a c, v = .slice a ps.length c ∧ TRow w a ps.length c (fun j => ps[j]!) := by
  obtain ⟨h1, ⟨rfl, h2⟩ | ⟨g, cap, cur, rfl, hb, hh, hc1, hc2, hs, ht⟩⟩ := h
  · exact ⟨none, 0, by rw [h2], by omega, by decide, fun h => by omega⟩
  · refine ⟨_, _, rfl, hc1, by unfold maxLen at hc2; exact hc2, fun _ => ⟨g, 0, rfl, (Array.getElem?_eq_some_iff.1 hh).1, fun j hj => ?_⟩⟩
    have cellk : ∀ k, k < 3 → w.cell? ⟨g, 0 + j * 3 + k, none⟩ = (ps[j]!).cells[k]? := fun k hk => by
      simp only [World.cell?, hh, Nat.zero_add]
      have e : (cur.toList.take (ps.length * 3))[j * 3 + k]? = (pcells ps)[j * 3 + k]? := by rw [ht]
      rw [List.getElem?_take_of_lt (by omega), pcells_get ps j k (by omega) hk] at e
      simpa using e
    exact ⟨cellk 0 (by decide), cellk 1 (by decide), cellk 2 (by decide)⟩
theorem OwnT.row {T : TypeId} {w : World} {B : Nat} {v : Value} {ps : List T3} (h : OwnT T w B v ps) : ∀ k, v.ownBlock = some k → B ≤ k := by
  intro k hk
  obtain ⟨h1, ⟨rfl, h2⟩ | ⟨g, cap, cur, rfl, hb, _⟩⟩ := h
  · cases hk
  · obtain rfl : g = k := Option.some.inj hk
    exact hb

/-- The first k of a row. -/
def firsts (f : Nat → T3) (k : Nat) : List T3 := (List.range k).map f
theorem firsts_length (f : Nat → T3) (k : Nat) : (firsts f k).length = k := by simp [firsts]
theorem firsts_succ (f : Nat → T3) (k : Nat) : firsts f (k + 1) = firsts f k ++ [f k] := by unfold firsts; rw [List.range_succ, List.map_append]; rfl
theorem firsts_get (f : Nat → T3) {k i : Nat} (h : i < k) : (firsts f k)[i]! = f i := by simp [firsts, h]

theorem Tryd.infoJr : (Tryd.prog.info? 50).map (fun i => (i.zero, i.size, i.bytes)) = some (some (.agg #[.int .i64 0, .int .i64 0, .int .i64 0]), 3, 24) := by kernel_rfl
theorem Tryd.infoPr : (Tryd.prog.info? 47).map (fun i => (i.zero, i.size, i.bytes)) = some (some (.agg #[.int .i64 0, .int .i64 0, .int .i64 0]), 3, 24) := by kernel_rfl

theorem trow_congr {w : World} {a : Option Addr} {n c : Nat} {f g : Nat → T3} (h : TRow w a n c f) (e : ∀ j, j < n → f j = g j) : TRow w a n c g := by
  obtain ⟨h1, h2, h3⟩ := h
  refine ⟨h1, h2, fun hn => ?_⟩
  obtain ⟨b, o, ea, hlt, hc⟩ := h3 hn
  exact ⟨b, o, ea, hlt, fun j hj => by rw [← e j hj]; exact hc j hj⟩

set_option maxHeartbeats 4000000 in
set_option maxRecDepth 100000 in
theorem jobs_any (a : Option Addr) (n c : Nat) (f : Nat → T3) (w : World) (ha : TRow w a n c f) (hn : n ≤ 1000) :
    Calls Tryd.prog 6 #[.slice a n c] w fun e w' => ∃ a' c', e = .returned (.slice a' n c') ∧ TRow w' a' n c' f ∧ Below w.heap.size w w' := by
  obtain ⟨ti, hi, hz0, hz1, hz2⟩ := info_parts Tryd.infoJr
  have HI := hide hi
  have HZ := hide hz0
  have HA := hide ha
  clear hi hz0 ha
  go_enter Tryd.func6, Tryd.ntmps6
  go_wp2_with fail
  go_loopw [3, 4] (fun vo vi wr => ∃ i : Nat, vi = .int .i64 (i : Int) ∧ i ≤ n ∧ OwnT 50 wr w.heap.size vo (firsts f i) ∧ Below w.heap.size w wr) (fun _ vi _ => n - (intOf vi).toNat)
  case atStart => exact ⟨0, rfl, Nat.zero_le _, OwnT.start _ _ _, Below.refl _ _⟩
  case round =>
    obtain ⟨i, rfl, hi, hO, hb⟩ := hrel
    by_cases hlt : i < n
    · obtain ⟨b, o, rfl, hbl, hc3⟩ := ((unhide HA).below hb).2.2 (by omega)
      have ⟨q0, q1, q2⟩ := hc3 i hlt
      obtain ⟨⟨x, y, z⟩, hf⟩ : ∃ t, f i = t := ⟨_, rfl⟩
      rw [hf] at q0 q1 q2
      simp only at q0 q1 q2
      have e1 : (i : Int) < (n : Int) := by omega
      have HO := hide hO
      have HB := hide hb
      have HS : Hid (firsts f (i + 1) = firsts f i ++ [(x, y, z)]) := by show _ = _; rw [firsts_succ, hf]
      have HL := hide (firsts_length f i)
      clear hc3 hO hb hf
      go_wp2_with fail
      go_region_law ((refine step_append_lies _ rfl (.tmp 11) (.tmp 28) 23 rfl w.heap.size 50 ti (.agg #[.int .i64 0, .int .i64 0, .int .i64 0]) 3 24 Tryd.underlying23 (unhide HI) (unhide HZ) hz1 hz2 rfl (by decide) u3 (firsts f i).length (pcells (firsts f i)) (by simp [Act.eval]) ((unhide HO).keep (below_step (drew_below _) (alloc_below _ _))) ⟨wr.heap.size, 0, none⟩ 1 1 (T3.cells (x, y, z)) (by simp [Act.eval]) rfl (news_three _ (x, y, z) _) (cells_one _) (by decide) (by rw [unhide HL]; unfold maxLen; omega) (by rw [unhide HL]; omega) (Nat.le_trans (unhide HB).size (below_step (drew_below wr) (alloc_below _ _)).size) _ rfl ?_; intro g2 cap2 w4 own4 grow4 hat4 hlt4))
      all_goals
        have FIN : Hid (OwnT 50 w4 w.heap.size (.slice (some ⟨g2, 0, none⟩) ((firsts f i).length + 1) cap2) (firsts f (i + 1))) := by
          show OwnT _ _ _ _ _
          rw [unhide HS]
          unfold OwnT
          rw [pcells_append, pcells_one, List.length_append]
          exact own4
        have FB : Hid (Below w.heap.size w w4) := by
          refine Below.grown (below_step (unhide HB) ?_) grow4 ?_ (unhide HO).row
          · exact below_step (drew_below _) (alloc_below _ _)
          · exact Nat.le_trans (unhide HB).size (below_step (drew_below wr) (alloc_below _ _)).size
        clear own4 grow4 hat4
        go_wp2
        exact ⟨⟨i + 1, by go_num, hlt, unhide FIN, unhide FB⟩, by simp [intOf]; omega⟩
    · obtain rfl : i = n := by omega
      have e1 : ¬ (i : Int) < (i : Int) := by omega
      obtain ⟨a', c', rfl, ht⟩ := hO.trow
      rw [firsts_length] at ht ⊢
      have FT : Hid (TRow wr a' i c' f) := trow_congr ht (fun j hj => firsts_get f hj)
      clear hO ht
      go_wp2
      go_ret
      exact ⟨a', c', rfl, unhide FT, hb⟩
end Go.Proofs.YteflciddadjilaaDoor
