/- Twos as the document holds them; its Johnson; ShopJohnson. -/
import Derived.Test.YtepgdlgifempeaaDoorZ1
import Derived.Test.YtepgdlgifempeaaDoorY4
namespace Go.Proofs.YtepgdlgifempeaaDoor
open Go.RowKit Go.Sort Stb

def dval (t : T2) : List Value := [.int .i64 t.1, .int .i64 t.2]
def dcells (ps : List T2) : List Value := ps.flatMap dval
theorem dcells_append (ps qs : List T2) : dcells (ps ++ qs) = dcells ps ++ dcells qs := by simp [dcells]
theorem dcells_one (t : T2) : dcells [t] = dval t := by simp [dcells]
theorem dcells_get (ts : List T2) (t : T2) (j k : Nat) (hj : ts[j]? = some t) (hk : k < 2) : (dcells ts)[j * 2 + k]? = (dval t)[k]? := by
  induction ts generalizing j with
  | nil => simp at hj
  | cons t' ts ih =>
    have e : dcells (t' :: ts) = dval t' ++ dcells ts := by simp [dcells]
    have hl : (dval t').length = 2 := rfl
    rw [e]
    cases j with
    | zero =>
      have ht : t' = t := by simpa using hj
      rw [List.getElem?_append_left (by omega), ht]; simp
    | succ j =>
      rw [List.getElem?_append_right (by omega), hl, show (j + 1) * 2 + k - 2 = j * 2 + k by omega, ih j (by simpa using hj)]
theorem dval_one (t : T2) : ∀ u ∈ dval t, u.oneCell' = true := by
  intro u hu
  simp only [dval, List.mem_cons, List.not_mem_nil, or_false] at hu
  rcases hu with rfl | rfl <;> rfl
theorem news_two2 (w : World) (t : T2) (T : TypeId) : ∀ j u, (dval t)[j]? = some u → (w.alloc (.cells #[.int .i64 t.1, .int .i64 t.2] T)).cell? ((⟨w.heap.size, 0, none⟩ : Addr).add j) = some u :=
  World.news_of_block (cs := #[.int .i64 t.1, .int .i64 t.2]) (t := T) (fr := (0, 0)) (heap_alloc_new w _)
/-- A row of twos of the call's own. -/
def OwnD (w : World) (B : Nat) (v : Value) (ps : List T2) : Prop := w.ownsRow B 60 2 v ps.length (dcells ps)
theorem OwnD.keep {w w' : World} {B : Nat} {v : Value} {ps : List T2} (h : OwnD w B v ps) (hb : Below w.heap.size w w') : OwnD w' B v ps := by
  refine ⟨h.1, ?_⟩
  rcases h.2 with h | ⟨g, cap, cur, hv, hg, hh, h1⟩
  · exact Or.inl h
  · exact Or.inr ⟨g, cap, cur, hv, hg, by rw [hb.block g (Array.getElem?_eq_some_iff.1 hh).1]; exact hh, h1⟩
theorem OwnD.start (w : World) (B : Nat) : OwnD w B (.slice none 0 0) [] := World.ownsRow_nil _ _ _ _
theorem OwnD.drow {w : World} {B : Nat} {v : Value} {n : Nat} {f : Nat → T2} (h : OwnD w B v ((List.range n).map f)) : ∃ a c, v = .slice a n c ∧ DRow w a n c f := by
  obtain ⟨h1, ⟨rfl, h2⟩ | ⟨g, cap, cur, rfl, hb, hh, hc1, hc2, hs, ht⟩⟩ := h
  · rw [List.length_map, List.length_range] at h2
    exact ⟨none, 0, by rw [h2], by omega, by decide, fun h => by omega⟩
  · rw [List.length_map, List.length_range] at hc1 ht ⊢
    refine ⟨_, _, rfl, hc1, by unfold maxLen at hc2; exact hc2, fun _ => ⟨g, 0, rfl, (Array.getElem?_eq_some_iff.1 hh).1, fun j hj => ?_⟩⟩
    have cellk : ∀ k, k < 2 → w.cell? ⟨g, 0 + j * 2 + k, none⟩ = (dval (f j))[k]? := fun k hk => by
      simp only [World.cell?, hh, Nat.zero_add]
      have e : (cur.toList.take (n * 2))[j * 2 + k]? = (dcells ((List.range n).map f))[j * 2 + k]? := by rw [ht]
      rw [List.getElem?_take_of_lt (by omega), dcells_get _ (f j) j k (by simp [hj]) hk] at e
      simpa using e
    exact ⟨cellk 0 (by decide), cellk 1 (by decide)⟩
theorem OwnD.row {w : World} {B : Nat} {v : Value} {ps : List T2} (h : OwnD w B v ps) : ∀ k, v.ownBlock = some k → B ≤ k := by
  intro k hk
  obtain ⟨h1, ⟨rfl, h2⟩ | ⟨g, cap, cur, rfl, hb, _⟩⟩ := h
  · cases hk
  · obtain rfl : g = k := Option.some.inj hk
    exact hb
theorem Tryd.infoDr : (Tryd.prog.info? 60).map (fun i => (i.zero, i.size, i.bytes)) = some (some (.agg #[.int .i64 0, .int .i64 0]), 2, 16) := by kernel_rfl

set_option maxHeartbeats 8000000 in
set_option maxRecDepth 100000 in
set_option linter.unusedSimpArgs false in
theorem twos_any (a : Option Addr) (n c : Nat) (f : Nat → T2) (w : World) (ha : DRow w a n c f) (hn : n ≤ 1000) :
    Calls Tryd.prog 9 #[.slice a n c] w fun e w' => ∃ a' c', e = .returned (.slice a' n c') ∧ DRow w' a' n c' f ∧ Below w.heap.size w w' := by
  obtain ⟨ti, hi, hz0, hz1, hz2⟩ := info_parts Tryd.infoDr
  have HI := hide hi
  have HZ := hide hz0
  have HA := hide ha
  clear hi hz0 ha
  go_enter Tryd.func9, Tryd.ntmps9
  go_wp2_with fail
  go_loopw [3, 4] (fun vo vi wr => ∃ i : Nat, vi = .int .i64 (i : Int) ∧ i ≤ n ∧ OwnD wr w.heap.size vo ((List.range i).map f) ∧ Below w.heap.size w wr) (fun _ vi _ => n - (intOf vi).toNat)
  case atStart => exact ⟨0, rfl, Nat.zero_le _, OwnD.start _ _, Below.refl _ _⟩
  case round =>
    obtain ⟨i, rfl, hi, hO, hb⟩ := hrel
    by_cases hlt : i < n
    · obtain ⟨b, o, rfl, hbl, hc3⟩ := ((unhide HA).below hb).2.2 (by omega)
      have ⟨q0, q1⟩ := hc3 i hlt
      obtain ⟨⟨x, y⟩, hf⟩ : ∃ t, f i = t := ⟨_, rfl⟩
      rw [hf] at q0 q1
      simp only at q0 q1
      have e1 : (i : Int) < (n : Int) := by omega
      have HO := hide hO
      have HB := hide hb
      have HS : Hid ((List.range (i + 1)).map f = (List.range i).map f ++ [(x, y)]) := by show _ = _; rw [List.range_succ, List.map_append, ← hf]; rfl
      have HL : Hid (((List.range i).map f).length = i) := by show _ = _; simp
      obtain ⟨P, hP⟩ : ∃ P, (List.range i).map f = P := ⟨_, rfl⟩
      rw [hP] at HO HS HL
      clear hc3 hO hb hf hP
      go_wp2_with fail
      go_region_law ((refine step_append_lies _ rfl (.tmp 11) (.tmp 23) 24 rfl w.heap.size 60 ti (.agg #[.int .i64 0, .int .i64 0]) 2 16 Tryd.underlying24 (unhide HI) (unhide HZ) hz1 hz2 rfl (by decide) u3 P.length (dcells P) (by simp [Act.eval]) ((unhide HO).keep (below_step (drew_below _) (alloc_below _ _))) ⟨wr.heap.size, 0, none⟩ 1 1 (dval (x, y)) (by simp [Act.eval]) rfl (news_two2 _ (x, y) _) (dval_one _) (by decide) (by rw [unhide HL]; unfold maxLen; omega) (by rw [unhide HL]; omega) (Nat.le_trans (unhide HB).size (below_step (drew_below wr) (alloc_below _ _)).size) _ rfl ?_; intro g2 cap2 w4 own4 grow4 hat4 hlt4))
      all_goals
        have FIN : Hid (OwnD w4 w.heap.size (.slice (some ⟨g2, 0, none⟩) (P.length + 1) cap2) ((List.range (i + 1)).map f)) := by
          show OwnD _ _ _ _
          rw [unhide HS]
          unfold OwnD
          rw [dcells_append, dcells_one, List.length_append]
          exact own4
        have FB : Hid (Below w.heap.size w w4) := by
          refine Below.grown (below_step (unhide HB) ?_) grow4 ?_ (unhide HO).row
          · exact below_step (drew_below _) (alloc_below _ _)
          · exact Nat.le_trans (unhide HB).size (below_step (drew_below wr) (alloc_below _ _)).size
        clear own4 grow4 hat4
        go_wp2
        exact ⟨⟨i + 1, by go_num, hlt, unhide FIN, unhide FB⟩, by simp [intOf]; omega⟩
    · obtain rfl : i = n := by omega
      have e1 : ¬ (i : Int) < (i : Int) := by omega
      obtain ⟨a', c', rfl, ht⟩ := hO.drow
      have FT := hide ht
      clear hO ht
      go_wp2
      go_ret
      exact ⟨a', c', rfl, unhide FT, hb⟩

set_option maxHeartbeats 8000000 in
set_option maxRecDepth 100000 in
set_option linter.unusedSimpArgs false in
theorem rtwos_any (a : Option Addr) (n c : Nat) (f : Nat → T2) (w : World) (ha : DRow w a n c f) :
    Calls Tryd.prog 10 #[.slice a n c] w fun e w' => e = .returned (.int .i64 (dcode n f)) ∧ Below w.heap.size w w' := by
  obtain ⟨h1, h2, h3⟩ := ha
  have H3 := hide h3
  clear h3
  by_cases hn : 60 < n
  · have hv : dcode n f = 4 := by unfold dcode; rw [if_pos hn]
    rw [hv]
    have hn' : (60 : Int) < (n : Int) := by omega
    go_enter Tryd.func10, Tryd.ntmps10
    go_wp2
    go_ret
    exact ⟨rfl, Below.refl _ _⟩
  have hn' : ¬ (60 : Int) < (n : Int) := by omega
  have HN := hide hn
  obtain ⟨V, hV⟩ : ∃ v, dcode n f = v := ⟨_, rfl⟩
  have HV := hide hV
  rw [hV]
  clear hV
  go_enter Tryd.func10, Tryd.ntmps10
  go_wp2
  go_loopw [10] (fun vi wr => ∃ m : Nat, vi = .int .i64 (m : Int) ∧ m ≤ n ∧ (∀ j, j < m → dbad (f j) = false) ∧ Below w.heap.size w wr) (fun vi _ => n - (intOf vi).toNat)
  case atStart => exact ⟨0, rfl, Nat.zero_le _, fun j hj => absurd hj (Nat.not_lt_zero _), Below.refl _ _⟩
  case round =>
    obtain ⟨m, rfl, hm, hj, hb⟩ := hrel
    by_cases hlt : m < n
    · obtain ⟨b, o, rfl, hbl, hc⟩ := unhide H3 (by omega)
      have ⟨k0, k1⟩ := hc m hlt
      rw [← hb.cell (p := ⟨b, o + m * 2, none⟩) hbl] at k0
      rw [← hb.cell (p := ⟨b, o + m * 2 + 1, none⟩) hbl] at k1
      obtain ⟨⟨x, y⟩, hf⟩ : ∃ t, f m = t := ⟨_, rfl⟩
      rw [hf] at k0 k1
      simp only at k0 k1
      have e2 : (0 : Int) ≤ (m : Int) := by omega
      have e3 : (m : Int) < (n : Int) := by omega
      have HJ := hide hj
      have HF := hide hf
      have ⟨q0, q1⟩ := box2 (w := wr) (x := .int .i64 x) (y := .int .i64 y) (T := 60) (Below.refl _ _)
      have HFIN := hide (below_step hb (alloc_below wr (.cells #[.int .i64 x, .int .i64 y] 60)))
      obtain ⟨W1, hW1⟩ : ∃ W, wr.alloc (.cells #[.int .i64 x, .int .i64 y] 60) = W := ⟨_, rfl⟩
      rw [hW1] at q0 q1 HFIN
      clear hc H3 hb hj hf
      by_cases g0 : x < 0
      · obtain rfl : V = 2 := by have := dcode_bad (f := f) (unhide HN) hlt (by unfold dbad; rw [unhide HF]; exact decide_eq_true (by simp only; omega)); have h2 := unhide HV; omega
        go_wp2
        go_ret
        exact ⟨rfl, unhide HFIN⟩
      by_cases g1 : 1000000000 < x
      · obtain rfl : V = 2 := by have := dcode_bad (f := f) (unhide HN) hlt (by unfold dbad; rw [unhide HF]; exact decide_eq_true (by simp only; omega)); have h2 := unhide HV; omega
        go_wp2
        go_ret
        exact ⟨rfl, unhide HFIN⟩
      by_cases g2 : y < 0
      · obtain rfl : V = 2 := by have := dcode_bad (f := f) (unhide HN) hlt (by unfold dbad; rw [unhide HF]; exact decide_eq_true (by simp only; omega)); have h2 := unhide HV; omega
        go_wp2
        go_ret
        exact ⟨rfl, unhide HFIN⟩
      by_cases g3 : 1000000000 < y
      · obtain rfl : V = 2 := by have := dcode_bad (f := f) (unhide HN) hlt (by unfold dbad; rw [unhide HF]; exact decide_eq_true (by simp only; omega)); have h2 := unhide HV; omega
        go_wp2
        go_ret
        exact ⟨rfl, unhide HFIN⟩
      have HG : Hid (dbad (f m) = false) := by unfold dbad; rw [unhide HF]; exact decide_eq_false (by simp only; omega)
      go_wp2
      refine ⟨⟨m + 1, by go_num, hlt, fun j hj => ?_, unhide HFIN⟩, by simp [intOf]; omega⟩
      by_cases hjm : j = m
      · rw [hjm]; exact unhide HG
      · exact unhide HJ j (by omega)
    · obtain rfl : m = n := by omega
      obtain rfl : V = 0 := by have := dcode_good (unhide HN) hj; have h2 := unhide HV; omega
      clear hj
      have e3 : ¬ (m : Int) < (m : Int) := by omega
      go_wp2
      go_ret
      exact ⟨rfl, hb⟩

end Go.Proofs.YtepgdlgifempeaaDoor
