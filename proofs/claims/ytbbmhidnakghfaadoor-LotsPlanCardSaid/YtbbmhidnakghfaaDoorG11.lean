/- The document's LotsPlan: all ways to part periods into runs. -/
import Derived.Test.YtbbmhidnakghfaaDoorG8
import Derived.Test.YtbbmhidnakghfaaDoorF10
import Derived.Laws.EntriesVeiled
namespace Go.Proofs.YtbbmhidnakghfaaDoor
open Go.RowKit Go.Sort

def wkF (g gor gb gp gw : Nat) : Value := .func (.func 18) #[] #[.pointer (some ⟨g, 0, none⟩), .pointer (some ⟨gor, 0, none⟩), .pointer (some ⟨gb, 0, none⟩), .pointer (some ⟨gp, 0, none⟩), .pointer (some ⟨gw, 0, none⟩)]
/-- A row that is read, behind block gw. -/
def PRow (gw : Nat) (W : World) (pa : Option Addr) (n : Nat) (f : Nat → Int) : Prop := 0 < n → ∃ b, pa = some ⟨b, 0, none⟩ ∧ gw < b ∧ b < W.heap.size ∧ ∀ j, j < n → W.cell? ⟨b, j, none⟩ = some (.int .i64 (f j))
theorem PRow.keep {gw : Nat} {W W' : World} {pa : Option Addr} {n : Nat} {f : Nat → Int} (h : PRow gw W pa n f) (hb : Below W.heap.size W W') : PRow gw W' pa n f := fun hn => by
  obtain ⟨b, e, h1, h2, h3⟩ := h hn
  exact ⟨b, e, h1, Nat.lt_of_lt_of_le h2 hb.size, fun j hj => by rw [hb.cell (p := ⟨b, j, none⟩) h2]; exact h3 j hj⟩
theorem cell_apart {W : World} {b j p i : Nat} {v : Value} (h : b ≠ p) : (W.setCell ⟨p, i, none⟩ v).cell? ⟨b, j, none⟩ = W.cell? ⟨b, j, none⟩ := by
  simp only [World.cell?]
  rw [Below.heap_setCell _ _ _ _ h]
theorem PRow.set {gw : Nat} {W : World} {pa : Option Addr} {n : Nat} {f : Nat → Int} (h : PRow gw W pa n f) {p i : Nat} {v : Value} (hp : p ≤ gw) : PRow gw (W.setCell ⟨p, i, none⟩ v) pa n f := fun hn => by
  obtain ⟨b, e, h1, h2, h3⟩ := h hn
  refine ⟨b, e, h1, ?_, fun j hj => by rw [cell_apart (by omega)]; exact h3 j hj⟩
  have := World.block_lt_of_cell? (W.setCell ⟨p, i, none⟩ v) ⟨b, 0, none⟩ (by rw [cell_apart (by omega)]; exact h3 0 hn)
  exact this
structure WSt (w W : World) (g gb gp GO gor gw n : Nat) (x y z : Value) (q : Nat → Int) (s : Int × (Nat → Int)) : Prop where
  bl : Below w.heap.size w W
  box : W.heap[g]? = some (.cells #[x, y, z] 25)
  orb : W.heap[gor]? = some (.cells #[.slice (some ⟨GO, 0, none⟩) n n] 22)
  ord : OwnI W GO n q
  bst : W.heap[gb]? = some (.cells #[.int .i64 s.1] 3)
  wlk : W.heap[gw]? = some (.cells #[wkF g gor gb gp gw] 50)
  pln : ∃ pa pn pc, W.heap[gp]? = some (.cells #[.slice pa pn pc] 22) ∧ pn ≤ pc ∧ pc ≤ 9223372036854775807 ∧ (0 ≤ s.1 → pn = n ∧ PRow gw W pa n s.2)
structure WOrd (w : World) (g gb gp GO gor gw n : Nat) : Prop where
  o1 : w.heap.size ≤ g
  o2 : g < gb
  o3 : gb < gp
  o4 : gp < GO
  o5 : GO < gor
  o6 : gor < gw
theorem WSt.keep {w W W' : World} {g gb gp GO gor gw n : Nat} {x y z : Value} {q : Nat → Int} {s : Int × (Nat → Int)} (h : WSt w W g gb gp GO gor gw n x y z q s) (hb : Below W.heap.size W W') : WSt w W' g gb gp GO gor gw n x y z q s := by
  refine ⟨below_step h.bl hb, blk_keep h.box hb, blk_keep h.orb hb, h.ord.keep hb, blk_keep h.bst hb, blk_keep h.wlk hb, ?_⟩
  obtain ⟨pa, pn, pc, h1, h2, h3, h4⟩ := h.pln
  exact ⟨pa, pn, pc, blk_keep h1 hb, h2, h3, fun hs => ⟨(h4 hs).1, (h4 hs).2.keep hb⟩⟩
theorem WSt.setO {w W : World} {g gb gp GO gor gw n : Nat} {x y z : Value} {q q' : Nat → Int} {s : Int × (Nat → Int)} (h : WSt w W g gb gp GO gor gw n x y z q s) (o : WOrd w g gb gp GO gor gw n) (j : Nat) (v : Int) (hq : ∀ i, i < n → updI q j v i = q' i) :
    WSt w (W.setCell ⟨GO, j, none⟩ (.int .i64 v)) g gb gp GO gor gw n x y z q' s := by
  obtain ⟨o1, o2, o3, o4, o5, o6⟩ := o
  refine ⟨h.bl.setCell (p := ⟨GO, j, none⟩) (by show w.heap.size ≤ GO; omega) _, blk_apart h.box (by omega), blk_apart h.orb (by omega), (h.ord.set j v).congr hq, blk_apart h.bst (by omega), blk_apart h.wlk (by omega), ?_⟩
  obtain ⟨pa, pn, pc, h1, h2, h3, h4⟩ := h.pln
  exact ⟨pa, pn, pc, blk_apart h1 (by omega), h2, h3, fun hs => ⟨(h4 hs).1, (h4 hs).2.set (by omega)⟩⟩
theorem set_one {W : World} {g : Nat} {x v : Value} {T : TypeId} (h : W.heap[g]? = some (.cells #[x] T)) : (W.setCell ⟨g, 0, none⟩ v).heap[g]? = some (.cells #[v] T) := by
  rw [setCell_eq]
  simp only [mapBlock, Array.getElem?_modify, h, if_true, Option.map_some, onCells]
  rfl
theorem WSt.setS {w W : World} {g gb gp GO gor gw n : Nat} {x y z : Value} {q : Nat → Int} {s : Int × (Nat → Int)} (h : WSt w W g gb gp GO gor gw n x y z q s) (o : WOrd w g gb gp GO gor gw n) {c : Int} {f : Nat → Int} {pa : Option Addr} {pc : Nat} (hpc : n ≤ pc) (hpc2 : pc ≤ 9223372036854775807) (hf : PRow gw W pa n f) :
    WSt w ((W.setCell ⟨gb, 0, none⟩ (.int .i64 c)).setCell ⟨gp, 0, none⟩ (.slice pa n pc)) g gb gp GO gor gw n x y z q (c, f) := by
  obtain ⟨o1, o2, o3, o4, o5, o6⟩ := o
  obtain ⟨_, _, _, h1, _⟩ := h.pln
  exact ⟨(h.bl.setCell (p := ⟨gb, 0, none⟩) (by show w.heap.size ≤ gb; omega) _).setCell (p := ⟨gp, 0, none⟩) (by show w.heap.size ≤ gp; omega) _, blk_apart (blk_apart h.box (by omega)) (by omega), blk_apart (blk_apart h.orb (by omega)) (by omega),
    (h.ord.apart (by omega)).apart (by omega), blk_apart (set_one h.bst) (by omega), blk_apart (blk_apart h.wlk (by omega)) (by omega), pa, n, pc, set_one (blk_apart h1 (by omega)), hpc, hpc2, fun _ => ⟨rfl, (hf.set (by omega)).set (by omega)⟩⟩
theorem cell1 {w : World} {g : Nat} {x : Value} {T : TypeId} (h : w.heap[g]? = some (.cells #[x] T)) : w.cell? ⟨g, 0, none⟩ = some x ∧ w.frozen? ⟨g, 0, none⟩ = false := by simp [World.cell?, World.frozen?, h]
theorem news_cells {w : World} {G n : Nat} {q : Nat → Int} (h : OwnI w G n q) : ∀ j u, (lrow q n)[j]? = some u → w.cell? ((⟨G, 0, none⟩ : Addr).add j) = some u := fun j u hu => by
  have hj : j < n := by
    have h := (List.getElem?_eq_some_iff.1 hu).1
    rw [lrow_length] at h
    exact h
  rw [lrow_get _ hj] at hu
  rw [Go.WideShapes.add_plain, Nat.zero_add, h.cell hj]
  exact hu
theorem lrow_one (q : Nat → Int) (n : Nat) : ∀ u ∈ lrow q n, u.oneCell' = true := fun u hu => by
  unfold lrow at hu
  obtain ⟨j, _, rfl⟩ := List.mem_map.1 hu
  rfl
theorem app_none {P : Program} (w : World) (t ty e : TypeId) (i : TypeInfo) (ht : P.underlying t = some (.slice e)) (hi : P.info? e = some i) (b : Addr) (a : Option Addr) (n cap c : Nat) (hle : n ≤ cap) :
    (Builtin.append_ #[t, t] ty #[.slice (some b) n cap, .slice a 0 c]).run P w = .ok (.slice (some b) n cap) w := by
  cases a <;> simp [Builtin.append_, run_underlying ht, Builtin.lenOf, Builtin.firstCells, sizeOf, typeInfo, hi, hle, storeCells, loadCells, loadCellsFrom]
theorem wpList_append_none {P : Program} (w : World) {ops : Array Oper} {rest : List Oper} {o : Oper} {a : Act} {Q : Exit → Act → World → Prop} (hgd : o.guard = none) (s x : Operand) (t : TypeId)
    (ho : o.op = .call { callee := .builtin .append, args := #[s, x], argTypes := #[t, t] }) (e : TypeId) (i : TypeInfo) (ht : P.underlying t = some (.slice e)) (hi : P.info? e = some i)
    (b : Addr) (n cap : Nat) (hle : n ≤ cap) (hs : a.eval s = .slice (some b) n cap) (ad : Option Addr) (c : Nat) (hx : a.eval x = .slice ad 0 c)
    (h : wpList P ops Q rest (a.put o.dst (.slice (some b) n cap)) w) : wpList P ops Q (o :: rest) a w := by
  refine wpList_plain hgd fun K hK => ?_
  have hr := app_none (P := P) w t o.type e i ht hi b ad n cap c hle
  unfold Oper.wp execOp
  simp only [ho, resolve, invoke, builtin, Sem.run_bind, Sem.run_pure, Result.andThen_ok, List.map_toArray, List.map_cons, List.map_nil, hs, hx, hr]
  exact hK _ _ h

def WPost (w : World) (g gb gp GO gor gw n : Nat) (x y z : Value) (q : Nat → Int) (s : Int × (Nat → Int)) (e : Ending) (W : World) : Prop := e = .returned (.tuple #[]) ∧ WSt w W g gb gp GO gor gw n x y z q s

set_option maxHeartbeats 16000000 in
set_option maxRecDepth 100000 in
/-- Where no period is left: the plan is looked at. -/
theorem walk0_any (wa : Option Addr) (wd : Nat) (oa : Option Addr) (od : Nat) (ka : Option Addr) (kd : Nat) (fW fO fK : Nat → Int) (g gb gp GO gor gw n : Nat) (q : Nat → Int) (s : Int × (Nat → Int)) (c : Int) (w W : World) (hw : IRow w wa n wd fW) (ho : IRow w oa n od fO) (hk : IRow w ka n kd fK) (hcode : ncode n n n fW fO fK = 0) (o : WOrd w g gb gp GO gor gw n)
    (hS : WSt w W g gb gp GO gor gw n (.slice wa n wd) (.slice oa n od) (.slice ka n kd) q s) (hT : Lot.Tl (ndOf n fW fO fK) q 0 c) :
    Calls Tryd.prog 18 #[.int .i64 0, .pointer (some ⟨g, 0, none⟩), .pointer (some ⟨gor, 0, none⟩), .pointer (some ⟨gb, 0, none⟩), .pointer (some ⟨gp, 0, none⟩), .pointer (some ⟨gw, 0, none⟩)] W (WPost w g gb gp GO gor gw n (.slice wa n wd) (.slice oa n od) (.slice ka n kd) q (if s.1 < 0 ∨ c < s.1 then (c, q) else s)) := by
  obtain ⟨s1, s2⟩ := s
  obtain ⟨SS, hSS⟩ : ∃ x, (if s1 < 0 ∨ c < s1 then (c, q) else (s1, s2)) = x := ⟨_, rfl⟩
  have HSS := hide hSS
  simp only
  rw [hSS]
  clear hSS
  have h50 : n ≤ 50 := (ncode_zero hcode).2.2.few
  have hkc : kcode n n n fW fO fK n q = 0 ∧ kcost n n n fW fO fK n q = c := by
    obtain ⟨t1, t2, t3⟩ := hT.done
    have e1 : kcode n n n fW fO fK n q = 0 := by rw [kcode_is hcode]; exact ccode_good t2 (by rw [t1]; omega)
    exact ⟨e1, by rw [kcost_good e1]; exact t3⟩
  have C1 := hide (rcost_any wa n wd oa n od ka n kd fW fO fK (some ⟨GO, 0, none⟩) n n q W (hw.below hS.bl) (ho.below hS.bl) (hk.below hS.bl) (hS.ord.irow (by omega)) (by omega))
  rw [hkc.1, hkc.2] at C1
  obtain ⟨c0, c1, c2⟩ := cells3 hS.box
  have c3 := (cell1 hS.orb).1
  have HS := hide hS
  have HO := hide o
  clear hw ho hk hT hS o hkc hcode
  go_enter Tryd.func18, Tryd.ntmps18
  go_wp2_with fail
  refine (unhide C1).mono ?_
  rintro e_ w2 ⟨rfl, hb⟩
  have hS2 := (unhide HS).keep hb
  have c4 := (cell1 hS2.bst).1
  have c5 := (cell1 hS2.bst).2
  have c6 := (cell1 hS2.orb).1
  have HS2 := hide hS2
  have HWB := hide (blk_lt hS2.wlk)
  have HOR := hide hS2.ord
  clear hb C1 hS2 c0 c1 c2 c3 HS
  simp only at c4
  by_cases hc : s1 < 0 ∨ c < s1
  case neg =>
    obtain rfl : (s1, s2) = SS := by rw [← unhide HSS, if_neg hc]
    have g1 : ¬ s1 < 0 := fun h => hc (Or.inl h)
    have g2 : ¬ c < s1 := fun h => hc (Or.inr h)
    clear hc
    go_wp2
    exact bodyPost_ret (v := .tuple #[]) (by simp [results, Tryd.results18, go_sem]) rfl ⟨rfl, unhide HS2⟩
  obtain rfl : (c, q) = SS := by rw [← unhide HSS, if_pos hc]
  obtain ⟨ti, hti, hz0, hz1, hz2⟩ := info_parts Tryd.infoI
  have HI := hide hti
  have HZ := hide hz0
  have own1 : (w2.alloc (.cells #[] 3)).ownsRow w2.heap.size 3 1 (.slice (some ⟨w2.heap.size, 0, none⟩) 0 0) 0 [] := World.ownsRow_made w2 #[] 0 (Nat.le_refl _) (by unfold maxLen; decide) rfl
  have HOWN1 := hide own1
  have hb1 : Below w2.heap.size w2 (w2.alloc (.cells #[] 3)) := alloc_below _ _
  have HB1 := hide hb1
  have HS3 := hide ((unhide HS2).keep hb1)
  have c7 := (cell1 (unhide HS3).orb).1
  have HNW := hide (news_cells (unhide HS3).ord)
  have hbs : w2.heap.size ≤ (w2.alloc (.cells #[] 3)).heap.size := by rw [alloc_size]; omega
  have HBS := hide hbs
  clear hti hz0 own1 hb1 hbs
  rcases Nat.eq_zero_or_pos n with hn0 | hn0
  · subst hn0
    obtain ⟨pa, pn, pc, hp1, _⟩ := (unhide HS3).pln
    have c4' := (cell1 (unhide HS3).bst).1
    have c5' := (cell1 (unhide HS3).bst).2
    have hne : gp ≠ gb := by have := unhide HO; have := this.o3; omega
    have k2 := (cell1 (blk_apart (v := .int .i64 c) (j := 0) hp1 hne)).1
    have k3 := (cell1 (blk_apart (v := .int .i64 c) (j := 0) hp1 hne)).2
    have HFIN := hide ((unhide HS3).setS (unhide HO) (c := c) (f := q) (pa := some ⟨w2.heap.size, 0, none⟩) (pc := 0) (Nat.le_refl _) (by decide) (fun h => absurd h (Nat.lt_irrefl _)))
    clear hp1
    by_cases g1 : s1 < 0
    · clear hc
      go_wp2_with (at_builtin; go_loud (refine wpList_append_none _ rfl _ _ _ rfl 3 ti Tryd.underlying22 (unhide HI) _ _ _ (Nat.le_refl _) rfl _ _ rfl ?_))
      exact bodyPost_ret (v := .tuple #[]) (by simp [results, Tryd.results18, go_sem]) rfl ⟨rfl, unhide HFIN⟩
    · have g2 : c < s1 := by omega
      clear hc
      go_wp2_with (at_builtin; go_loud (refine wpList_append_none _ rfl _ _ _ rfl 3 ti Tryd.underlying22 (unhide HI) _ _ _ (Nat.le_refl _) rfl _ _ rfl ?_))
      exact bodyPost_ret (v := .tuple #[]) (by simp [results, Tryd.results18, go_sem]) rfl ⟨rfl, unhide HFIN⟩
  have HP0 := hide hn0
  have HL63 : Hid (0 + n ≤ maxLen) := by show _ ≤ _; unfold maxLen; omega
  have HL64 : Hid ((0 + n) * 8 ≤ 140737488355328) := by show _ ≤ _; omega
  have KEY : Hid (∀ g2 cap w5, w5.ownsRow w2.heap.size 3 1 (.slice (some ⟨g2, 0, none⟩) (0 + n) cap) (0 + n) ([] ++ lrow q n) → (w2.alloc (.cells #[] 3)).grownBy w5 (some w2.heap.size) → g2 < w5.heap.size →
      (w5.cell? ⟨gb, 0, none⟩ = some (.int .i64 s1) ∧ w5.frozen? ⟨gb, 0, none⟩ = false ∧ (∃ x, (w5.setCell ⟨gb, 0, none⟩ (.int .i64 c)).cell? ⟨gp, 0, none⟩ = some x) ∧ (w5.setCell ⟨gb, 0, none⟩ (.int .i64 c)).frozen? ⟨gp, 0, none⟩ = false) ∧ n ≤ cap ∧ cap ≤ 9223372036854775807 ∧
      WSt w ((w5.setCell ⟨gb, 0, none⟩ (.int .i64 c)).setCell ⟨gp, 0, none⟩ (.slice (some ⟨g2, 0, none⟩) n cap)) g gb gp GO gor gw n (.slice wa n wd) (.slice oa n od) (.slice ka n kd) q (c, q)) := by
    show ∀ g2 cap w5, _
    intro g2 cap w5 hown hgrow hlt5
    have hb5 : Below w2.heap.size w2 w5 := Below.grown (unhide HB1) hgrow (by rw [alloc_size]; omega) (fun k hk => by cases hk; exact Nat.le_refl _)
    have hS5 := (unhide HS2).keep hb5
    have hrow : n ≤ cap ∧ cap ≤ 9223372036854775807 ∧ w2.heap.size ≤ g2 ∧ ∀ j, j < n → w5.cell? ⟨g2, j, none⟩ = some (.int .i64 (q j)) := by
      rcases hown.2 with ⟨e, _⟩ | ⟨g', cap', cur, e, hb, hh, hc1, hc2, hs, ht⟩
      · injection e with e; cases e
      · injection e with e1 e2 e3
        injection e1 with e1
        injection e1 with e1
        subst e1 e3
        refine ⟨by omega, by unfold maxLen at hc2; exact hc2, hb, fun j hj => ?_⟩
        have h : (cur.toList.take ((0 + n) * 1))[j]? = (lrow q n)[j]? := by rw [ht]; rfl
        rw [List.getElem?_take_of_lt (by omega), lrow_get _ hj] at h
        have h' : cur[j]? = some (.int .i64 (q j)) := by simpa using h
        simp only [World.cell?, hh]
        exact h'
    obtain ⟨pa, pn, pc, hp1, _⟩ := hS5.pln
    have hne : gp ≠ gb := by have := unhide HO; have := this.o3; omega
    refine ⟨⟨(cell1 hS5.bst).1, (cell1 hS5.bst).2, ⟨_, (cell1 (blk_apart (v := .int .i64 c) (j := 0) hp1 hne)).1⟩, (cell1 (blk_apart (v := .int .i64 c) (j := 0) hp1 hne)).2⟩, hrow.1, hrow.2.1, hS5.setS (unhide HO) hrow.1 hrow.2.1 fun _ => ⟨g2, rfl, ?_, hlt5, hrow.2.2.2⟩⟩
    have := unhide HWB
    have := hrow.2.2.1
    omega
  clear hn0
  by_cases g1 : s1 < 0
  · clear hc
    go_wp2_with (at_builtin; go_loud (refine wpList_append_lies _ rfl _ _ _ rfl w2.heap.size 3 ti (.int .i64 0) 1 8 Tryd.underlying22 (unhide HI) (unhide HZ) hz1 hz2 rfl (by decide) _ 0 [] rfl (unhide HOWN1) ⟨GO, 0, none⟩ n n (lrow q n) rfl (by rw [lrow_length, Nat.mul_one]) (unhide HNW) (lrow_one _ _) (unhide HP0) (unhide HL63) (unhide HL64) (unhide HBS) (w2.alloc (.cells #[] 3)).heap.size rfl ?_; intro g2 cap w5 hown hgrow hat hlt5; obtain ⟨⟨k0, k1, ⟨kx, k2⟩, k3⟩, k4, k5, k6⟩ := unhide KEY g2 cap w5 hown hgrow hlt5; have HFIN := hide k6; clear hown hgrow hat k6; (try simp only [Nat.zero_add])))
    exact bodyPost_ret (v := .tuple #[]) (by simp [results, Tryd.results18, go_sem]) rfl ⟨rfl, unhide HFIN⟩
  · have g2 : c < s1 := by omega
    clear hc
    go_wp2_with (at_builtin; go_loud (refine wpList_append_lies _ rfl _ _ _ rfl w2.heap.size 3 ti (.int .i64 0) 1 8 Tryd.underlying22 (unhide HI) (unhide HZ) hz1 hz2 rfl (by decide) _ 0 [] rfl (unhide HOWN1) ⟨GO, 0, none⟩ n n (lrow q n) rfl (by rw [lrow_length, Nat.mul_one]) (unhide HNW) (lrow_one _ _) (unhide HP0) (unhide HL63) (unhide HL64) (unhide HBS) (w2.alloc (.cells #[] 3)).heap.size rfl ?_; intro g2 cap w5 hown hgrow hat hlt5; obtain ⟨⟨k0, k1, ⟨kx, k2⟩, k3⟩, k4, k5, k6⟩ := unhide KEY g2 cap w5 hown hgrow hlt5; have HFIN := hide k6; clear hown hgrow hat k6; (try simp only [Nat.zero_add])))
    exact bodyPost_ret (v := .tuple #[]) (by simp [results, Tryd.results18, go_sem]) rfl ⟨rfl, unhide HFIN⟩
end Go.Proofs.YtbbmhidnakghfaaDoor
