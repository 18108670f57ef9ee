/- Machines into a pool and out of it. -/
import Derived.Test.YtepgdlgifempeaaDoorY12
namespace Go.Proofs.YtepgdlgifempeaaDoor
open Go.RowKit Go.Sort Stb Shp Hp

def mcells (L : Nat → Int) (f : Nat → Nat) (n : Nat) : List Value := (List.range n).flatMap (fun i => [.int .i64 (L (f i)), .int .i64 (f i : Int)])
theorem mcells_succ (L : Nat → Int) (f : Nat → Nat) (n : Nat) : mcells L f (n + 1) = mcells L f n ++ [.int .i64 (L (f n)), .int .i64 (f n : Int)] := by
  unfold mcells; rw [List.range_succ, List.flatMap_append]; simp
theorem mcells_length (L : Nat → Int) (f : Nat → Nat) : ∀ n, (mcells L f n).length = n * 2
  | 0 => rfl
  | n + 1 => by rw [mcells_succ, List.length_append, mcells_length L f n]; simp; omega
theorem mcells_get (L : Nat → Int) (f : Nat → Nat) : ∀ n i, i < n → (mcells L f n)[i * 2]? = some (.int .i64 (L (f i))) ∧ (mcells L f n)[i * 2 + 1]? = some (.int .i64 (f i : Int))
  | n + 1, i, h => by
    have hl := mcells_length L f n
    rw [mcells_succ]
    by_cases c : i = n
    · subst c
      rw [List.getElem?_append_right (by omega), List.getElem?_append_right (by omega), hl, show i * 2 - i * 2 = 0 by omega, show i * 2 + 1 - i * 2 = 1 by omega]
      exact ⟨rfl, rfl⟩
    · rw [List.getElem?_append_left (by omega), List.getElem?_append_left (by omega)]
      exact mcells_get L f n i (by omega)
theorem mcells_put (L : Nat → Int) (f : Nat → Nat) (n k : Nat) : mcells L (puf f n k) (n + 1) = mcells L f n ++ [.int .i64 (L k), .int .i64 (k : Int)] := by
  rw [mcells_succ]
  have e : ∀ m, m ≤ n → mcells L (puf f n k) m = mcells L f m := fun m => by
    induction m with
    | zero => intro _; rfl
    | succ m ih =>
      intro hm
      rw [mcells_succ, mcells_succ, ih (by omega), show puf f n k m = f m by unfold puf; rw [if_neg (by omega)]]
  rw [e n (Nat.le_refl _), show puf f n k n = k by unfold puf; rw [if_pos rfl]]
theorem PoolR.owns {w : World} {g n cap B : Nat} {L : Nat → Int} {f : Nat → Nat} (h : PoolR w g n cap L f) (hB : B ≤ g) : w.ownsRow B 77 2 (.slice (some ⟨g, 0, none⟩) n cap) n (mcells L f n) := by
  obtain ⟨cur, h1, h2, h3, h4, h5⟩ := h
  refine ⟨mcells_length L f n, Or.inr ⟨g, cap, cur, rfl, hB, h1, h3, h4, h2, ?_⟩⟩
  have hl := mcells_length L f n
  apply List.ext_getElem?
  intro j
  by_cases hj : j < n * 2
  · rw [List.getElem?_take_of_lt hj]
    obtain ⟨i, e⟩ : ∃ i, j = i * 2 ∨ j = i * 2 + 1 := ⟨j / 2, by omega⟩
    have hi : i < n := by omega
    have g1 := mcells_get L f n i hi
    have g2 := h5 i hi
    rcases e with e | e
    · rw [e, g1.1]; simpa using g2.1
    · rw [e, g1.2]; simpa using g2.2
  · rw [List.getElem?_eq_none (by rw [List.length_take]; omega), List.getElem?_eq_none (by omega)]
theorem poolR_of {w : World} {g n cap B : Nat} {L : Nat → Int} {f : Nat → Nat} (h : w.ownsRow B 77 2 (.slice (some ⟨g, 0, none⟩) n cap) n (mcells L f n)) : PoolR w g n cap L f ∧ B ≤ g := by
  obtain ⟨h1, ⟨e, _⟩ | ⟨g', cap', cur, e, hb, hh, hc1, hc2, hs, ht⟩⟩ := h
  · cases e
  · injection e with e1 e2 e3
    obtain rfl : g = g' := by injection e1 with e1; injection e1
    subst e3
    refine ⟨⟨cur, hh, hs, hc1, hc2, fun i hi => ?_⟩, hb⟩
    have key : ∀ j, j < n * 2 → cur[j]? = (mcells L f n)[j]? := fun j hj => by
      have e : (cur.toList.take (n * 2))[j]? = (mcells L f n)[j]? := by rw [ht]
      rw [List.getElem?_take_of_lt hj] at e
      simpa using e
    rw [key _ (by omega), key _ (by omega)]
    exact mcells_get L f n i hi
theorem Tryd.infoM : (Tryd.prog.info? 77).map (fun i => (i.zero, i.size, i.bytes)) = some (some (.agg #[.int .i64 0, .int .i64 0]), 2, 16) := by kernel_rfl
theorem news_two (w : World) (x y : Value) (T : TypeId) : ∀ j u, [x, y][j]? = some u → (w.alloc (.cells #[x, y] T)).cell? ((⟨w.heap.size, 0, none⟩ : Addr).add j) = some u :=
  World.news_of_block (cs := #[x, y]) (t := T) (fr := (0, 0)) (heap_alloc_new w _)
theorem two_one (x y : Int) : ∀ u ∈ [Value.int .i64 x, .int .i64 y], u.oneCell' = true := by
  intro u hu
  simp only [List.mem_cons, List.not_mem_nil, or_false] at hu
  rcases hu with rfl | rfl <;> rfl
theorem ta_mac (x y : Int) (w : World) : (Instr.typeAssert (.iface 77 (.agg #[.int .i64 x, .int .i64 y])) 20 77 false).run Tryd.prog w = .ok (.agg #[.int .i64 x, .int .i64 y]) w := by kernel_rfl
/-- A machine as a value of any type. -/
def macV (L : Nat → Int) (k : Nat) : Value := .iface 77 (.agg #[.int .i64 (L k), .int .i64 (k : Int)])
def PushPost (S : Nat → Prop) (w0 : World) (pp n : Nat) (L : Nat → Int) (f : Nat → Nat) (k : Nat) (w' : World) : Prop := ∃ g' cap', HP S w0 w' pp g' (n + 1) cap' L (puf f n k)
set_option maxHeartbeats 8000000 in
set_option maxRecDepth 100000 in
set_option linter.unusedSimpArgs false in
theorem mpush_any (pp g n cap : Nat) (L : Nat → Int) (f : Nat → Nat) (k : Nat) (S : Nat → Prop) (w0 w : World) (h : HP S w0 w pp g n cap L f) (hn : n ≤ 100) :
    Calls Tryd.prog 91 #[.pointer (some ⟨pp, 0, none⟩), macV L k] w fun e w' => e = .returned (.tuple #[]) ∧ PushPost S w0 pp n L f k w' := by
  obtain ⟨ti, hi, hz0, hz1, hz2⟩ := info_parts Tryd.infoM
  have HI := hide hi
  have HZ := hide hz0
  have HH := hide h
  have HCC : Hid (∀ W, Below w.heap.size w W → (fun w' : World => w'.cell? ⟨pp, 0, none⟩ = some (.slice (some ⟨g, 0, none⟩) n cap)) W) := fun W hW => (h.box.keep hW).c0
  obtain ⟨v, hv⟩ : ∃ v, L k = v := ⟨_, rfl⟩
  have HV := hide hv
  rw [show macV L k = .iface 77 (.agg #[.int .i64 v, .int .i64 (k : Int)]) by unfold macV; rw [hv]]
  have hcap := h.row.caps
  have hta := ta_mac v (k : Int)
  clear h hi hz0 hv
  go_enter Tryd.func91, Tryd.ntmps91
  go_wp2_with fail
  refine wp_region_till (fun w' : World => w'.cell? ⟨pp, 0, none⟩ = some (.slice (some ⟨g, 0, none⟩) n cap)) 9 (by kernel_rfl) ?_
  have bd0 : Below w.heap.size w w.drew := (Below.refl _ _).drew
  obtain ⟨WD, hWD⟩ : ∃ W, w.drew = W := ⟨_, rfl⟩
  rw [hWD] at bd0 ⊢
  have hC0 : (fun w' : World => w'.cell? ⟨pp, 0, none⟩ = some (.slice (some ⟨g, 0, none⟩) n cap)) WD := unhide HCC _ bd0
  refine wpTill_pure (i := 0) (v := ?_) rfl (by kernel_rfl) (by kernel_rfl) (by kernel_rfl) (by kernel_rfl) (fun _ _ _ h => h) (Or.inl ⟨by rfl, ?_⟩) (fun _ => hC0) ?_
  rotate_left
  · intro w hSw; clear hSw; go_simp; (try with_reducible rfl)
  (try simp only [List.getElem_toArray, List.getElem_cons_succ, List.getElem_cons_zero])
  (try simp only [Act.put, List.setIfInBounds_toArray, List.set_cons_zero, List.set_cons_succ])
  refine wpTill_pure (i := 1) (v := ?_) rfl (by kernel_rfl) (by kernel_rfl) (by kernel_rfl) (by kernel_rfl) (fun _ _ _ h => h) (Or.inl ⟨by rfl, ?_⟩) (fun _ => hC0) ?_
  rotate_left
  · intro w hSw; clear hSw; go_simp; (try with_reducible rfl)
  (try simp only [List.getElem_toArray, List.getElem_cons_succ, List.getElem_cons_zero])
  (try simp only [Act.put, List.setIfInBounds_toArray, List.set_cons_zero, List.set_cons_succ])
  refine wpTill_pure (i := 2) (v := ?_) rfl (by kernel_rfl) (by kernel_rfl) (by kernel_rfl) (by kernel_rfl) (fun _ _ _ h => h) (Or.inl ⟨by rfl, ?_⟩) (fun _ => hC0) ?_
  rotate_left
  · intro w hSw; clear hSw; go_simp; (try with_reducible rfl)
  (try simp only [List.getElem_toArray, List.getElem_cons_succ, List.getElem_cons_zero])
  (try simp only [Act.put, List.setIfInBounds_toArray, List.set_cons_zero, List.set_cons_succ])
  refine wpTill_take (i := 3) (v := ?_) rfl (by kernel_rfl) (by kernel_rfl) (by kernel_rfl) (by kernel_rfl) (by kernel_rfl) (by kernel_rfl) (fun _ _ _ h => h) (Or.inl ⟨by rfl, ?_⟩) hC0 ?_
  rotate_left
  · intro w hSw; (try dsimp only at hSw); obtain z0 := hSw; go_simp; (try with_reducible rfl)
  (try simp only [List.getElem_toArray, List.getElem_cons_succ, List.getElem_cons_zero])
  (try simp only [Act.put, List.setIfInBounds_toArray, List.set_cons_zero, List.set_cons_succ])
  refine wpTill_pure (i := 4) (v := ?_) rfl (by kernel_rfl) (by kernel_rfl) (by kernel_rfl) (by kernel_rfl) (fun _ _ _ h => h) (Or.inl ⟨by rfl, ?_⟩) (fun _ => hC0) ?_
  rotate_left
  · intro w hSw; clear hSw; go_simp; (try with_reducible rfl)
  (try simp only [List.getElem_toArray, List.getElem_cons_succ, List.getElem_cons_zero])
  (try simp only [Act.put, List.setIfInBounds_toArray, List.set_cons_zero, List.set_cons_succ])
  refine wpTill_pure (i := 5) (v := ?_) rfl (by kernel_rfl) (by kernel_rfl) (by kernel_rfl) (by kernel_rfl) (fun _ _ _ h => h) (Or.inl ⟨by rfl, ?_⟩) (fun _ => hC0) ?_
  rotate_left
  · intro w hSw; clear hSw; go_simp; (try with_reducible rfl)
  (try simp only [List.getElem_toArray, List.getElem_cons_succ, List.getElem_cons_zero])
  (try simp only [Act.put, List.setIfInBounds_toArray, List.set_cons_zero, List.set_cons_succ])
  have ba := alloc_below WD (.cells #[.int .i64 v, .int .i64 (k : Int)] 77)
  have h1 := (unhide HH).keep (below_step bd0 ba)
  have own1 := h1.row.owns (Nat.zero_le g)
  have nw := news_two WD (.int .i64 v) (.int .i64 (k : Int)) 77
  have sz := alloc_size WD (.cells #[.int .i64 v, .int .i64 (k : Int)] 77)
  obtain ⟨V1, hV1⟩ : ∃ V, WD.alloc (.cells #[.int .i64 v, .int .i64 (k : Int)] 77) = V := ⟨_, rfl⟩
  obtain ⟨gn, hgn⟩ : ∃ x, WD.heap.size = x := ⟨_, rfl⟩
  rw [hV1] at h1 own1 nw sz ba
  rw [hgn] at nw sz
  have hC1 : (fun w' : World => w'.cell? ⟨pp, 0, none⟩ = some (.slice (some ⟨g, 0, none⟩) n cap)) V1 := h1.box.c0
  refine wpTill_one (k := 6) (by kernel_rfl) rfl (fun K hK => ?_)
  (try simp only [List.getElem_toArray, List.getElem_cons_succ, List.getElem_cons_zero])
  go_simp
  (try rw [hV1])
  (try rw [hgn])
  refine hK.out _ _ (fun _ => hC1) ?_
  clear hK K
  (try simp only [Act.put, List.setIfInBounds_toArray, List.set_cons_zero, List.set_cons_succ])
  refine wpTill_one (k := 7) (by kernel_rfl) rfl (fun K hK => ?_)
  refine step_append_lies _ rfl _ _ _ rfl 0 77 ti (.agg #[.int .i64 0, .int .i64 0]) 2 16 Tryd.underlying89 (unhide HI) (unhide HZ) hz1 hz2 rfl (by decide) (.slice (some ⟨g, 0, none⟩) n cap) n (mcells L f n) rfl own1 ⟨gn, 0, none⟩ 1 1 [.int .i64 v, .int .i64 (k : Int)] rfl rfl nw (two_one _ _) (by decide) (by unfold maxLen; omega) (by omega) (Nat.zero_le _) (gn + 1) sz ?_
  intro g5 cap5 w5 own5 grow5 hat5 hlt5
  have hne : pp ≠ g := h1.ge.2.2
  have hbx : Box1 89 w5 pp (.slice (some ⟨g, 0, none⟩) n cap) := by
    unfold Box1
    rw [grow5.block pp h1.box.lt (by simp [Value.ownBlock]; omega)]
    exact h1.box
  have hC5 : (fun w' : World => w'.cell? ⟨pp, 0, none⟩ = some (.slice (some ⟨g, 0, none⟩) n cap)) w5 := hbx.c0
  have hb5 : Fr S w0 w5 := h1.bl.grown grow5 h1.ge.2.1
  rw [← unhide HV, ← mcells_put] at own5
  have hp5 := poolR_of own5
  have hS5 : ¬ S g5 := by
    rcases hat5 with e | e
    · have : g = g5 := by simpa [Value.ownBlock] using e
      rw [← this]; exact h1.ge.2.1
    · intro hs
      have := h1.old _ hs
      have := h1.bl.size
      omega
  have hne5 : pp ≠ g5 := by
    rcases hat5 with e | e
    · have : g = g5 := by simpa [Value.ownBlock] using e
      rw [← this]; exact hne
    · have := h1.box.lt; omega
  refine hK.out _ _ (fun _ => hC5) ?_
  clear hK K
  (try simp only [Act.put, List.setIfInBounds_toArray, List.set_cons_zero, List.set_cons_succ])
  have y0 := hbx.c0
  have l0 := hbx.free 0
  have hb6 := hbx.set (.slice (some ⟨g5, 0, none⟩) (n + 1) cap5)
  have hr6 : PoolR (w5.setCell ⟨pp, 0, none⟩ (.slice (some ⟨g5, 0, none⟩) (n + 1) cap5)) g5 (n + 1) cap5 L (puf f n k) := hp5.1.other (Below.heap_setCell _ _ _ _ (Ne.symm hne5))
  have hl6 := hb5.set h1.ge.1 0 (.slice (some ⟨g5, 0, none⟩) (n + 1) cap5)
  obtain ⟨w6, hw6⟩ : ∃ V, w5.setCell ⟨pp, 0, none⟩ (.slice (some ⟨g5, 0, none⟩) (n + 1) cap5) = V := ⟨_, rfl⟩
  rw [hw6] at hb6 hr6 hl6
  have HFIN : Hid (PushPost S w0 pp n L f k w6) := ⟨g5, cap5, hb6, hr6, hl6, ⟨h1.ge.1, hS5, hne5⟩, h1.old⟩
  clear own5 grow5 hat5 hlt5 hbx hb5 hp5 hb6 hr6 hl6 h1 own1 nw sz ba hV1 hgn hne hne5 hS5
  refine wpTill_one (k := 8) (by kernel_rfl) rfl (fun K hK => ?_)
  (try simp only [List.getElem_toArray, List.getElem_cons_succ, List.getElem_cons_zero])
  go_simp
  refine hK.out _ _ (fun _ => hC5) ?_
  clear hK K
  (try simp only [Act.put, List.setIfInBounds_toArray, List.set_cons_zero, List.set_cons_succ])
  refine wpTill_one (k := 9) (by kernel_rfl) rfl (fun K hK => ?_)
  (try simp only [List.getElem_toArray, List.getElem_cons_succ, List.getElem_cons_zero])
  go_simp
  refine hK.out _ _ (fun h => absurd (h.symm.trans (by kernel_rfl)) Bool.false_ne_true) ?_
  clear hK K
  (try simp only [Act.put, List.setIfInBounds_toArray, List.set_cons_zero, List.set_cons_succ])
  refine wpTill_done (by kernel_rfl) ?_ _
  clear HCC
  (try clear hC0)
  (try go_wp2)
  exact bodyPost_end (v := .tuple #[]) (by simp [results, Tryd.results91, go_sem]) rfl ⟨rfl, unhide HFIN⟩

set_option maxHeartbeats 8000000 in
set_option maxRecDepth 100000 in
set_option linter.unusedSimpArgs false in
theorem mpop_any (pp g n cap : Nat) (L : Nat → Int) (f : Nat → Nat) (S : Nat → Prop) (w0 w : World) (h : HP S w0 w pp g (n + 1) cap L f) (hn : n ≤ 100) :
    Calls Tryd.prog 90 #[.pointer (some ⟨pp, 0, none⟩)] w fun e w' => e = .returned (macV L (f n)) ∧ HP S w0 w' pp g n cap L f := by
  have hcap := h.row.caps
  have c0 := h.box.c0
  have l0 := h.box.free 0
  have ⟨k0, k1⟩ := h.row.cells (j := n) (by omega)
  unfold macV
  obtain ⟨k, hk⟩ : ∃ k, f n = k := ⟨_, rfl⟩
  rw [hk] at k0 k1 ⊢
  obtain ⟨v, hv⟩ : ∃ v, L k = v := ⟨_, rfl⟩
  rw [hv] at k0 ⊢
  have ba := alloc_below w (.cells #[.int .i64 v, .int .i64 (k : Int)] 77)
  have X0 : Box2 77 (w.alloc (.cells #[.int .i64 v, .int .i64 (k : Int)] 77)) w.heap.size (.int .i64 v) (.int .i64 (k : Int)) := box2_last rfl rfl
  have h1 := h.keep ba
  obtain ⟨V1, hV1⟩ : ∃ V, w.alloc (.cells #[.int .i64 v, .int .i64 (k : Int)] 77) = V := ⟨_, rfl⟩
  obtain ⟨B, hB⟩ : ∃ b, w.heap.size = b := ⟨_, rfl⟩
  rw [hV1] at X0 h1
  rw [hB] at X0
  have hBp : B ≠ pp := by have := h.box.lt; omega
  have c1 := h1.box.c0
  have l1 := h1.box.free 0
  have hb2 := h1.box.set (.slice (some ⟨g, 0, none⟩) n cap)
  have hr2 : PoolR (V1.setCell ⟨pp, 0, none⟩ (.slice (some ⟨g, 0, none⟩) n cap)) g n cap L f := (h1.row.less (Nat.le_succ n)).other (Below.heap_setCell _ _ _ _ (Ne.symm h.ge.2.2))
  have hl2 := h1.bl.set h.ge.1 0 (.slice (some ⟨g, 0, none⟩) n cap)
  have X2 := X0.apart (j := 0) (x := .slice (some ⟨g, 0, none⟩) n cap) hBp
  obtain ⟨V2, hV2⟩ : ∃ V, V1.setCell ⟨pp, 0, none⟩ (.slice (some ⟨g, 0, none⟩) n cap) = V := ⟨_, rfl⟩
  rw [hV2] at hb2 hr2 hl2 X2
  have q0 := X2.c0
  have q1 := X2.c1
  have HFIN : Hid (HP S w0 V2 pp g n cap L f) := ⟨hb2, hr2, hl2, h.ge, h.old⟩
  have e1 : IntKind.i64.wrap (((n + 1 : Nat) : Int) - 1) = (n : Int) := by rw [IntKind.wrap_i64]; omega
  have e1' : IntKind.i64.wrap ((n : Int) + 1 - 1) = (n : Int) := by rw [IntKind.wrap_i64]; omega
  obtain ⟨n1, hn1⟩ : ∃ x, n + 1 = x := ⟨_, rfl⟩
  rw [hn1] at c0 c1 hcap
  have e2 : IntKind.i64.wrap ((n1 : Int) - 1) = (n : Int) := by rw [IntKind.wrap_i64]; omega
  have e3 : (0 : Int) ≤ (n : Int) := by omega
  have e4 : (n : Int) < (n1 : Int) := by omega
  have e5 : (n : Int) ≤ (cap : Int) := by omega
  clear h h1 X0 X2 hb2 hr2 hl2 hk hv ba hn1 e1 e1' hBp
  go_enter Tryd.func90, Tryd.ntmps90
  go_wp2_with fail
  (try go_wp2)
  (try go_ret)
  exact ⟨rfl, unhide HFIN⟩

set_option maxHeartbeats 8000000 in
set_option maxRecDepth 100000 in
set_option linter.unusedSimpArgs false in
theorem hpush_any (pp g n cap : Nat) (L : Nat → Int) (f : Nat → Nat) (k : Nat) (S : Nat → Prop) (w0 w : World) (h : HP S w0 w pp g n cap L f) (hn : n < 100) (hh : Heap (les L) f n) :
    Calls Tryd.prog 42 #[.iface 74 (.pointer (some ⟨pp, 0, none⟩)), macV L k] w fun e w' => e = .returned (.tuple #[]) ∧ ∃ g' cap', HeapPost S w0 pp g' (n + 1) (n + 1) cap' L (puf f n k) w' := by
  have mP := meth_push pp w
  have HP1 := hide (mpush_any pp g n cap L f k S w0 w h (by omega))
  have HHH : Hid (Up (les L) (puf f n k) (n + 1) n) := up_start (fun c hc hcn => by
    have h1 := par_lt hc
    rw [show puf f n k c = f c by unfold puf; rw [if_neg (by omega)], show puf f n k (par c) = f (par c) by unfold puf; rw [if_neg (by omega)]]
    exact hh c hc hcn)
  unfold macV at HP1 ⊢
  clear h hh
  go_enter Tryd.func42, Tryd.ntmps42
  go_wp2_with fail
  refine (unhide HP1).mono ?_
  rintro e w1 ⟨rfl, g', cap', h1⟩
  have mL := meth_len h1.box.c0
  have HLn := hide (plen_any g' (n + 1) cap' w1)
  have HU := hide (up_any pp g' (n + 1) cap' L (puf f n k) n S w0 w1 h1 (by omega) (by omega) (unhide HHH))
  clear h1 HP1 mP HHH
  go_wp2_with fail
  refine (unhide HLn).mono ?_
  rintro e w2 ⟨rfl, rfl⟩
  have e1 : IntKind.i64.wrap (((n + 1 : Nat) : Int) - 1) = (n : Int) := by rw [IntKind.wrap_i64]; omega
  have e1' : IntKind.i64.wrap ((n : Int) + 1 - 1) = (n : Int) := by rw [IntKind.wrap_i64]; omega
  clear HLn mL
  go_wp2_with fail
  refine (unhide HU).mono ?_
  rintro e w3 ⟨rfl, hpost⟩
  have HPO := hide hpost
  clear hpost HU
  go_wp2
  exact bodyPost_end (v := .tuple #[]) (by simp [results, Tryd.results42, go_sem]) rfl ⟨rfl, g', cap', unhide HPO⟩

set_option maxHeartbeats 8000000 in
set_option maxRecDepth 100000 in
set_option linter.unusedSimpArgs false in
theorem hpop_any (pp g n cap : Nat) (L : Nat → Int) (f : Nat → Nat) (S : Nat → Prop) (w0 w : World) (h : HP S w0 w pp g (n + 1) cap L f) (hn : n < 100) (hh : Heap (les L) f (n + 1)) :
    Calls Tryd.prog 41 #[.iface 74 (.pointer (some ⟨pp, 0, none⟩))] w fun e w' => e = .returned (macV L (f 0)) ∧ ∃ f', HP S w0 w' pp g n cap L f' ∧ Heap (les L) f' n ∧ Re 0 n (Stb.swp f 0 n) f' := by
  unfold macV
  have mL := meth_len h.box.c0
  have mS := meth_swap h.box.c0
  have HLn := hide (plen_any g (n + 1) cap w)
  have HS := hide (pswap_any pp g (n + 1) cap L f 0 n S w0 w h (by omega) (by omega))
  have HDN := hide (down_start hh)
  have e1 : IntKind.i64.wrap (((n + 1 : Nat) : Int) - 1) = (n : Int) := by rw [IntKind.wrap_i64]; omega
  have e1' : IntKind.i64.wrap ((n : Int) + 1 - 1) = (n : Int) := by rw [IntKind.wrap_i64]; omega
  clear h hh
  go_enter Tryd.func41, Tryd.ntmps41
  go_wp2_with fail
  refine (unhide HLn).mono ?_
  rintro e w1 ⟨rfl, rfl⟩
  clear HLn mL
  go_wp2_with fail
  refine (unhide HS).mono ?_
  rintro e w2 ⟨rfl, h2⟩
  have HD := hide (down_any pp g (n + 1) n cap L (Stb.swp f 0 n) S w0 w2 h2 (by omega) (by omega) (unhide HDN))
  clear h2 HS mS HDN
  go_wp2_with fail
  refine (unhide HD).mono ?_
  rintro e w3 ⟨⟨b, rfl⟩, f', h3, hheap, hre⟩
  have mP := meth_pop pp w3
  have HP3 := hide (mpop_any pp g n cap L f' S w0 w3 h3 (by omega))
  have e2 : f' n = f 0 := by
    rw [hre.out n (by omega)]
    by_cases c : n = 0
    · subst c; rw [swp_a]
    · rw [swp_b _ (by omega)]
  rw [e2] at HP3
  have HF : Hid (Heap (les L) f' n ∧ Re 0 n (Stb.swp f 0 n) f') := ⟨hheap, hre⟩
  unfold macV at HP3
  clear h3 hheap hre HD e2
  go_wp2_with fail
  refine (unhide HP3).mono ?_
  rintro e w4 ⟨rfl, h4⟩
  have HH4 := hide h4
  clear h4 HP3 mP
  go_wp2
  go_ret
  exact ⟨rfl, f', unhide HH4, (unhide HF).1, (unhide HF).2⟩

end Go.Proofs.YtepgdlgifempeaaDoor
