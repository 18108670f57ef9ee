/- Rows of numbers of the call's own; the closure of NetBalances; what it holds. -/
import Derived.Test.YtdaejkngmckmdaaGreatDoorN10
import Derived.Test.YtdaejkngmckmdaaGreatDoorK1
namespace Go.Proofs.YtdaejkngmckmdaaGreatDoor
open Go.RowKit Go.Sort Go.Shelf

/-- The cells of a row of numbers. -/
def lrow (lf : Nat → Int) (n : Nat) : List Value := (List.range n).map fun j => .int .i64 (lf j)
theorem lrow_length (lf : Nat → Int) (n : Nat) : (lrow lf n).length = n := by simp [lrow]
theorem lrow_get (lf : Nat → Int) {n j : Nat} (h : j < n) : (lrow lf n)[j]? = some (.int .i64 (lf j)) := by simp [lrow, h]
def updI (f : Nat → Int) (j : Nat) (v : Int) : Nat → Int := fun i => if i = j then v else f i
theorem lrow_set (lf : Nat → Int) {n j : Nat} (v : Int) : (lrow lf n).set j (.int .i64 v) = lrow (updI lf j v) n := by
  apply List.ext_getElem?
  intro i
  unfold lrow updI
  rw [List.getElem?_set]
  by_cases h : j = i
  · subst h
    by_cases hj : j < n <;> simp [hj]
  · by_cases hi : i < n <;> simp [h, hi, Ne.symm h]
theorem lrow_congr {f g : Nat → Int} {n : Nat} (h : ∀ j, j < n → f j = g j) : lrow f n = lrow g n := by
  unfold lrow
  exact List.map_congr_left fun j hj => by rw [h j (List.mem_range.1 hj)]

/-- Block G is the row. -/
def OwnI (w : World) (G n : Nat) (lf : Nat → Int) : Prop := w.heap[G]? = some (.cells (lrow lf n).toArray 3)
theorem OwnI.lt {w : World} {G n : Nat} {lf : Nat → Int} (h : OwnI w G n lf) : G < w.heap.size := (Array.getElem?_eq_some_iff.1 h).1
theorem OwnI.keep {w w' : World} {G n : Nat} {lf : Nat → Int} (h : OwnI w G n lf) (hb : Below w.heap.size w w') : OwnI w' G n lf := by
  unfold OwnI; rw [hb.block G h.lt]; exact h
theorem OwnI.cell {w : World} {G n : Nat} {lf : Nat → Int} (h : OwnI w G n lf) {j : Nat} (hj : j < n) : w.cell? ⟨G, j, none⟩ = some (.int .i64 (lf j)) := by
  unfold OwnI at h
  simp only [World.cell?, h]
  have := lrow_get lf hj
  simpa using this
theorem OwnI.free {w : World} {G n : Nat} {lf : Nat → Int} (h : OwnI w G n lf) (j : Nat) : w.frozen? ⟨G, j, none⟩ = false := by
  unfold OwnI at h; simp [World.frozen?, h]
theorem OwnI.set {w : World} {G n : Nat} {lf : Nat → Int} (h : OwnI w G n lf) (j : Nat) (v : Int) : OwnI (w.setCell ⟨G, j, none⟩ (.int .i64 v)) G n (updI lf j v) := by
  unfold OwnI at h ⊢
  rw [setCell_eq]
  simp only [mapBlock, Array.getElem?_modify, h, if_true, Option.map_some, onCells]
  rw [← lrow_set]
  simp
theorem OwnI.congr {w : World} {G n : Nat} {f g : Nat → Int} (h : OwnI w G n f) (e : ∀ j, j < n → f j = g j) : OwnI w G n g := by
  unfold OwnI at h ⊢; rw [← lrow_congr e]; exact h

theorem Tryz.infoI : (Tryz.prog.info? 3).map (fun i => (i.zero, i.size, i.bytes)) = some (some (.int .i64 0), 1, 8) := by kernel_rfl
theorem make_ints (k : Nat) (h1 : k ≤ 1099511627776) (w : World) :
    (Instr.makeSlice 24 (.int .i64 (k : Int)) (.int .i64 (k : Int))).run Tryz.prog w = .ok (.slice (some ⟨w.heap.size, 0, none⟩) k k) (w.alloc (.cells (lrow (fun _ => 0) k).toArray 3)) := by
  obtain ⟨i, hi, hz0, hz1, hz2⟩ := info_parts Tryz.infoI
  have e : madeCells (Value.int .i64 0).cells ((k : Int).toNat * i.size) = (lrow (fun _ => 0) k).toArray := by
    rw [hz1]
    apply Array.ext
    · simp [madeCells, lrow]
    · intro j h1 h2
      simp [madeCells, lrow, Value.cells, Nat.mod_one]
  rw [run_make w 24 3 i (.int .i64 0) Tryz.underlying24 hi hz0 .i64 .i64 k k (by omega) (Int.le_refl _) (by rw [hz2]; omega) (by omega), e]
  simp
theorem make_own (w : World) (k : Nat) : OwnI (w.alloc (.cells (lrow (fun _ => 0) k).toArray 3)) w.heap.size k (fun _ => 0) := heap_alloc_new w _
theorem lrow_noWord {lf : Nat → Int} {n : Nat} {T : TypeId} {fr : Nat × Nat} : NoWord (.cells (lrow lf n).toArray T fr) := by
  intro cs T' fr' e j x
  injection e with e
  subst e
  intro hx
  have hx' : (lrow lf n)[j]? = some (.int .u64 x) := by simpa using hx
  unfold lrow at hx'
  rw [List.getElem?_map] at hx'
  cases h : (List.range n)[j]? with
  | none => rw [h] at hx'; cases hx'
  | some k => rw [h] at hx'; cases hx'
theorem OwnI.keptBy {w w' : World} {G n : Nat} {lf : Nat → Int} (h : OwnI w G n lf) (e : w'.heap[G]? = w.heap[G]?) : OwnI w' G n lf := by unfold OwnI; rw [e]; exact h
theorem RatIs.ints {w : World} {g n j : Nat} {x : Int} {lf : Nat → Int} {v : Value} {q : Rat} (h : RatIs w v q) (hg : OwnI w g n lf) : RatIs (w.setCell ⟨g, j, none⟩ (.int .i64 x)) v q :=
  h.other hg lrow_noWord (by simp [World.setCell]) (fun k hk => Below.heap_setCell _ _ _ _ hk)
/-- 3 fractions one behind the other, and a box. -/
structure ThreeJ (q1 q2 q3 : Rat) (w0 : World) (c : Nat) (l : Bool) (w : World) (s1 s2 s3 s4 : Value) : Prop where
  bl : Below w0.heap.size w0 w
  r1 : 1 ≤ c → RatIs w s1 q1
  r2 : 2 ≤ c → RatIs w s2 q2
  r3 : 3 ≤ c → RatIs w s3 q3
  al : l = true → ∃ b, s4 = .pointer (some ⟨b, 0, none⟩) ∧ BoxIs w b zTri 0 ∧ w0.heap.size ≤ b

theorem setCell_same {w : World} {b : Nat} {v : Value} {T : TypeId} (h : w.heap[b]? = some (.cells #[v] T)) : w.setCell ⟨b, 0, none⟩ v = w := by
  rw [setCell_eq_setRow w b 0 #[v] T (0, 0) v h]
  have : (#[v] : Array Value).setIfInBounds 0 v = #[v] := by simp
  rw [this]
  exact setRow_self w b #[v] T (0, 0) h

set_option maxHeartbeats 8000000 in
set_option maxRecDepth 100000 in
set_option linter.unusedSimpArgs false in
theorem pcall_any (bl bn bk gn n c : Nat) (a : Option Addr) (r : Nat → Rat) (p : Nat → Nat) (w : World) (hL : w.heap[bl]? = some (.cells #[.slice a n c] 26)) (hN : w.heap[bn]? = some (.cells #[.slice (some ⟨gn, 0, none⟩) n n] 24)) (hK : w.heap[bk]? = some (.cells #[.bool true] 4))
    (h : LawIs w (.slice a n c) (row r n)) (hp : IntsAt w gn n p) (hn0 : 0 < n) (hn5 : n ≤ 5) (hr0 : ∀ i, i < n → 0 ≤ r i) (hr1 : ∀ i, i < n → r i < 1) (hp6 : ∀ i, p i ≤ 6) (hR : ∀ i, RS (r i) (XB + 1)) :
    Calls Tryz.prog 11 #[.pointer (some ⟨bl, 0, none⟩), .pointer (some ⟨bn, 0, none⟩), .pointer (some ⟨bk, 0, none⟩)] w fun e w' => ∃ v, e = .returned v ∧ RatIs w' v (Net.jk r p n) ∧ Below w.heap.size w w' := by
  have X0 := BoxIs.new (w := w) (t := zTri) (q := 0) (rat_zero _)
  have bA := alloc_below w (.cells #[.bool false, .slice none 0 0, .slice none 0 0] 39)
  have HCH := hide (chance_any _ n gn r p _ (h.below bA) (hp.below bA) hn0 hn5 hr0 hr1 hp6 hR)
  have lL := (Array.getElem?_eq_some_iff.1 hL).1
  have lN := (Array.getElem?_eq_some_iff.1 hN).1
  have lK := (Array.getElem?_eq_some_iff.1 hK).1
  have kL : (w.alloc (.cells #[.bool false, .slice none 0 0, .slice none 0 0] 39)).cell? ⟨bl, 0, none⟩ = some (.slice a n c) := by rw [bA.cell (p := ⟨bl, 0, none⟩) lL]; simp [World.cell?, hL]
  have kN : (w.alloc (.cells #[.bool false, .slice none 0 0, .slice none 0 0] 39)).cell? ⟨bn, 0, none⟩ = some (.slice (some ⟨gn, 0, none⟩) n n) := by rw [bA.cell (p := ⟨bn, 0, none⟩) lN]; simp [World.cell?, hN]
  have HK := hide hK
  have HLK := hide lK
  obtain ⟨W0, hW0⟩ : ∃ W, w.alloc (.cells #[.bool false, .slice none 0 0, .slice none 0 0] 39) = W := ⟨_, rfl⟩
  rw [show w.alloc (.cells #[.bool zTri.s, .slice zTri.a1 zTri.n1 zTri.c1, .slice zTri.a2 zTri.n2 zTri.c2] 39) = W0 from hW0] at X0
  obtain ⟨br, hbr⟩ : ∃ g, w.heap.size = g := ⟨_, rfl⟩
  rw [hW0] at bA HCH kL kN
  rw [hbr] at X0
  have HX0 := hide X0
  have HB0 := hide bA
  have HGR : Hid (w.heap.size ≤ br) := by show _ ≤ _; omega
  clear h hp hr0 hr1 hp6 hR X0 bA hn0 hL hN hK lL lN lK
  go_enter Tryz.func11, Tryz.ntmps11
  go_wp2_with fail
  refine (unhide HCH).mono ?_
  rintro e w1 ⟨v1, rfl, hv1, hb1⟩
  obtain ⟨t1, rfl, ht1⟩ := tri_of hv1
  simp only [Tri.val]
  have Y0 := BoxIs.new ht1
  have b1 := below_step hb1 (alloc_below w1 (.cells #[.bool t1.s, .slice t1.a1 t1.n1 t1.c1, .slice t1.a2 t1.n2 t1.c2] 39))
  have X1 := (unhide HX0).keep b1
  have B1 := below_step (unhide HB0) b1
  have hlt := Nat.lt_of_lt_of_le (unhide HX0).lt hb1.size
  obtain ⟨W1, hW1⟩ : ∃ W, w1.alloc (.cells #[.bool t1.s, .slice t1.a1 t1.n1 t1.c1, .slice t1.a2 t1.n2 t1.c2] 39) = W := ⟨_, rfl⟩
  obtain ⟨bo, hbo⟩ : ∃ g, w1.heap.size = g := ⟨_, rfl⟩
  rw [hW1] at Y0 X1 B1
  rw [hbo] at Y0 hlt
  have HKB : W1.heap[bk]? = some (.cells #[.bool true] 4) := by rw [B1.block _ (unhide HLK)]; exact unhide HK
  have kK : W1.cell? ⟨bk, 0, none⟩ = some (.bool true) := by simp [World.cell?, HKB]
  have fK : W1.frozen? ⟨bk, 0, none⟩ = false := by simp [World.frozen?, HKB]
  have sK := setCell_same HKB
  have ⟨y0, y1, y2⟩ := Y0.cells _ (Below.refl _ _)
  have ⟨l0, l1, l2⟩ := X1.free
  have ⟨x0, x1, x2⟩ := X1.cells _ (Below.refl _ _)
  have FX := X1.set Y0.2
  have FB := ((((B1).setCell (p := ⟨br, 0, none⟩) (unhide HGR) (.bool t1.s)).setCell (p := ⟨br, 1, none⟩) (unhide HGR) (.slice t1.a1 t1.n1 t1.c1)).setCell (p := ⟨br, 2, none⟩) (unhide HGR) (.slice t1.a2 t1.n2 t1.c2))
  obtain ⟨W9, hW9⟩ : ∃ W, ((W1.setCell ⟨br, 0, none⟩ (.bool t1.s)).setCell ⟨br, 1, none⟩ (.slice t1.a1 t1.n1 t1.c1)).setCell ⟨br, 2, none⟩ (.slice t1.a2 t1.n2 t1.c2) = W := ⟨_, rfl⟩
  rw [hW9] at FX FB
  have ⟨z0, z1, z2⟩ := FX.cells _ (Below.refl _ _)
  have HFX := hide FX
  have HFB := hide FB
  clear Y0 X1 B1 FX FB hv1 hb1 b1 ht1 hlt HKB HCH hW0 hbr kL kN HX0 HB0
  go_wp2
  exact bodyPost_ret (v := .agg #[.bool t1.s, .slice t1.a1 t1.n1 t1.c1, .slice t1.a2 t1.n2 t1.c2]) (by simp [results, Tryz.results11, go_sem, z0, z1, z2]) rfl ⟨_, rfl, (unhide HFX).2, unhide HFB⟩

/-- A row's place, read wherever only new memory has come. -/
theorem law_reads {WB : World} {a : Option Addr} {c n : Nat} {qs : List Rat} (h : LawIs WB (.slice a n c) qs) (hp : 0 < qs.length) : ∃ b o, a = some ⟨b, o, none⟩ ∧ ∀ j, j < qs.length → ∃ t : Tri, ∀ W, Below WB.heap.size WB W → (W.cell? ⟨b, o + j * 3, none⟩ = some (.bool t.s) ∧ W.cell? ⟨b, o + j * 3 + 1, none⟩ = some (.slice t.a1 t.n1 t.c1) ∧ W.cell? ⟨b, o + j * 3 + 2, none⟩ = some (.slice t.a2 t.n2 t.c2)) ∧ RatIs W t.val qs[j]! := by
  obtain ⟨a', c', e, h1, h2, h3⟩ := h
  obtain ⟨b, o, ea, hlt, hc⟩ := h3 hp
  injection e with e1 e2 e3
  refine ⟨b, o, by rw [e1]; exact ea, fun j hj => ?_⟩
  obtain ⟨s, a1, a2, n1, c1, n2, c2, k0, k1, k2, r⟩ := hc j hj
  refine ⟨⟨s, a1, a2, n1, c1, n2, c2⟩, fun W hb => ⟨?_, r.below hb⟩⟩
  rw [hb.cell (p := ⟨b, o + j * 3, none⟩) hlt, hb.cell (p := ⟨b, o + j * 3 + 1, none⟩) hlt, hb.cell (p := ⟨b, o + j * 3 + 2, none⟩) hlt]
  exact ⟨k0, k1, k2⟩
/-- The same of a row of rows. -/
theorem rows_reads {WB : World} {a : Option Addr} {c n : Nat} {ks : List (List Rat)} (h : RowsAre WB (.slice a n c) ks) (hp : 0 < ks.length) (hs : ∀ k, k < ks.length → (ks[k]!).length = ks.length) : ∃ b o, a = some ⟨b, o, none⟩ ∧ ∀ k, k < ks.length → ∃ b' o' c', (∀ W, Below WB.heap.size WB W → W.cell? ⟨b, o + k, none⟩ = some (.slice (some ⟨b', o', none⟩) ks.length c') ∧ LawIs W (.slice (some ⟨b', o', none⟩) ks.length c') ks[k]!) ∧
    ∀ j, j < ks.length → ∃ t : Tri, ∀ W, Below WB.heap.size WB W → (W.cell? ⟨b', o' + j * 3, none⟩ = some (.bool t.s) ∧ W.cell? ⟨b', o' + j * 3 + 1, none⟩ = some (.slice t.a1 t.n1 t.c1) ∧ W.cell? ⟨b', o' + j * 3 + 2, none⟩ = some (.slice t.a2 t.n2 t.c2)) ∧ RatIs W t.val (ks[k]!)[j]! := by
  obtain ⟨a', c', e, h1, h2, h3⟩ := h
  obtain ⟨b, o, ea, hlt, hc⟩ := h3 hp
  injection e with e1 e2 e3
  refine ⟨b, o, by rw [e1]; exact ea, fun k hk => ?_⟩
  obtain ⟨l, k0, hl⟩ := hc k hk
  have hln : l.n = ks.length := by rw [law_len hl]; exact hs k hk
  obtain ⟨la, ln, lc⟩ := l
  have hl' : LawIs WB (.slice la ln lc) ks[k]! := hl
  obtain ⟨b', o', ela, rd⟩ := law_reads hl' (by rw [hs k hk]; exact hp)
  subst ela
  have hln' : ln = ks.length := hln
  subst hln'
  refine ⟨b', o', lc, fun W hb => ⟨?_, hl'.below hb⟩, fun j hj => rd j (by rw [hs k hk]; exact hj)⟩
  rw [hb.cell (p := ⟨b, o + k, none⟩) hlt]
  exact k0

/-- What NetBalances holds while it sums up. -/
structure NetS (WB wr : World) (b12 gn b14 b16 b18 b19 b20 n c : Nat) (a : Option Addr) (p : Nat → Nat) (t1 t2 th : Tri) (o q P : Rat) : Prop where
  bl : Below WB.heap.size WB wr
  c12 : wr.heap[b12]? = some (.cells #[.slice a n c] 26)
  cn : OwnI wr gn n (fun j => ((p j : Nat) : Int))
  c14 : wr.heap[b14]? = some (.cells #[.slice (some ⟨gn, 0, none⟩) n n] 24)
  c16 : wr.heap[b16]? = some (.cells #[.bool true] 4)
  x18 : BoxIs wr b18 t1 o
  x19 : BoxIs wr b19 t2 q
  x20 : BoxIs wr b20 th P
  o1 : WB.heap.size ≤ b12
  o2 : b12 < gn
  o3 : gn < b14
  o4 : b14 < b16
  o5 : b16 < b18
  o6 : b18 < b19
  o7 : b19 < b20
section
variable {WB wr : World} {b12 gn b14 b16 b18 b19 b20 n c : Nat} {a : Option Addr} {p : Nat → Nat} {t1 t2 th : Tri} {o q P : Rat}
theorem NetS.keep {w' : World} (h : NetS WB wr b12 gn b14 b16 b18 b19 b20 n c a p t1 t2 th o q P) (hb : Below wr.heap.size wr w') : NetS WB w' b12 gn b14 b16 b18 b19 b20 n c a p t1 t2 th o q P :=
  ⟨below_step h.bl hb, heap_kept h.c12 hb, h.cn.keep hb, heap_kept h.c14 hb, heap_kept h.c16 hb, h.x18.keep hb, h.x19.keep hb, h.x20.keep hb, h.o1, h.o2, h.o3, h.o4, h.o5, h.o6, h.o7⟩
theorem NetS.setOut (h : NetS WB wr b12 gn b14 b16 b18 b19 b20 n c a p t1 t2 th o q P) (t : Tri) (o' : Rat) (hr : RatIs wr t.val o') : NetS WB (((wr.setCell ⟨b18, 0, none⟩ (.bool t.s)).setCell ⟨b18, 1, none⟩ (.slice t.a1 t.n1 t.c1)).setCell ⟨b18, 2, none⟩ (.slice t.a2 t.n2 t.c2)) b12 gn b14 b16 b18 b19 b20 n c a p t t2 th o' q P := by
  have h1 := h.o1; have h2 := h.o2; have h3 := h.o3; have h4 := h.o4; have h5 := h.o5; have h6 := h.o6; have h7 := h.o7
  have far : ∀ g, g ≠ b18 → (((wr.setCell ⟨b18, 0, none⟩ (.bool t.s)).setCell ⟨b18, 1, none⟩ (.slice t.a1 t.n1 t.c1)).setCell ⟨b18, 2, none⟩ (.slice t.a2 t.n2 t.c2)).heap[g]? = wr.heap[g]? := fun g hg => by rw [Below.heap_setCell _ _ _ _ hg, Below.heap_setCell _ _ _ _ hg, Below.heap_setCell _ _ _ _ hg]
  have ge : WB.heap.size ≤ b18 := by omega
  exact ⟨((h.bl.setCell ge _).setCell ge _).setCell ge _, by rw [far _ (by omega)]; exact h.c12, h.cn.keptBy (far _ (by omega)), by rw [far _ (by omega)]; exact h.c14, by rw [far _ (by omega)]; exact h.c16, h.x18.set hr, h.x19.other h.x18 (by omega) _ _ _, h.x20.other h.x18 (by omega) _ _ _, h1, h2, h3, h4, h5, h6, h7⟩
theorem NetS.setInto (h : NetS WB wr b12 gn b14 b16 b18 b19 b20 n c a p t1 t2 th o q P) (t : Tri) (q' : Rat) (hr : RatIs wr t.val q') : NetS WB (((wr.setCell ⟨b19, 0, none⟩ (.bool t.s)).setCell ⟨b19, 1, none⟩ (.slice t.a1 t.n1 t.c1)).setCell ⟨b19, 2, none⟩ (.slice t.a2 t.n2 t.c2)) b12 gn b14 b16 b18 b19 b20 n c a p t1 t th o q' P := by
  have h1 := h.o1; have h2 := h.o2; have h3 := h.o3; have h4 := h.o4; have h5 := h.o5; have h6 := h.o6; have h7 := h.o7
  have far : ∀ g, g ≠ b19 → (((wr.setCell ⟨b19, 0, none⟩ (.bool t.s)).setCell ⟨b19, 1, none⟩ (.slice t.a1 t.n1 t.c1)).setCell ⟨b19, 2, none⟩ (.slice t.a2 t.n2 t.c2)).heap[g]? = wr.heap[g]? := fun g hg => by rw [Below.heap_setCell _ _ _ _ hg, Below.heap_setCell _ _ _ _ hg, Below.heap_setCell _ _ _ _ hg]
  have ge : WB.heap.size ≤ b19 := by omega
  exact ⟨((h.bl.setCell ge _).setCell ge _).setCell ge _, by rw [far _ (by omega)]; exact h.c12, h.cn.keptBy (far _ (by omega)), by rw [far _ (by omega)]; exact h.c14, by rw [far _ (by omega)]; exact h.c16, h.x18.other h.x19 (by omega) _ _ _, h.x19.set hr, h.x20.other h.x19 (by omega) _ _ _, h1, h2, h3, h4, h5, h6, h7⟩
theorem BoxIs.ints {w : World} {g n j b : Nat} {x : Int} {lf : Nat → Int} {t : Tri} {q : Rat} (h : BoxIs w b t q) (hg : OwnI w g n lf) (hne : b ≠ g) : BoxIs (w.setCell ⟨g, j, none⟩ (.int .i64 x)) b t q :=
  ⟨by rw [Below.heap_setCell _ _ _ _ hne]; exact h.1, h.2.ints hg⟩
theorem NetS.setN (h : NetS WB wr b12 gn b14 b16 b18 b19 b20 n c a p t1 t2 th o q P) (j v : Nat) : NetS WB (wr.setCell ⟨gn, j, none⟩ (.int .i64 (v : Int))) b12 gn b14 b16 b18 b19 b20 n c a (Net.one p j v) t1 t2 th o q P := by
  have h1 := h.o1; have h2 := h.o2; have h3 := h.o3; have h4 := h.o4; have h5 := h.o5; have h6 := h.o6; have h7 := h.o7
  have far : ∀ g, g ≠ gn → (wr.setCell ⟨gn, j, none⟩ (.int .i64 (v : Int))).heap[g]? = wr.heap[g]? := fun g hg => Below.heap_setCell _ _ _ _ hg
  have ge : WB.heap.size ≤ gn := by omega
  refine ⟨h.bl.setCell ge _, by rw [far _ (by omega)]; exact h.c12, (h.cn.set j (v : Int)).congr (fun i _ => ?_), by rw [far _ (by omega)]; exact h.c14, by rw [far _ (by omega)]; exact h.c16, h.x18.ints h.cn (by omega), h.x19.ints h.cn (by omega), h.x20.ints h.cn (by omega), h1, h2, h3, h4, h5, h6, h7⟩
  unfold updI Net.one
  by_cases e : i = j
  · rw [if_pos e, if_pos e]
  · rw [if_neg e, if_neg e]
theorem NetS.congr (h : NetS WB wr b12 gn b14 b16 b18 b19 b20 n c a p t1 t2 th o q P) {p' : Nat → Nat} (e : ∀ j, j < n → p j = p' j) : NetS WB wr b12 gn b14 b16 b18 b19 b20 n c a p' t1 t2 th o q P :=
  ⟨h.bl, h.c12, h.cn.congr (fun j hj => by rw [e j hj]), h.c14, h.c16, h.x18, h.x19, h.x20, h.o1, h.o2, h.o3, h.o4, h.o5, h.o6, h.o7⟩
theorem NetS.k14 (h : NetS WB wr b12 gn b14 b16 b18 b19 b20 n c a p t1 t2 th o q P) : wr.cell? ⟨b14, 0, none⟩ = some (.slice (some ⟨gn, 0, none⟩) n n) := by simp [World.cell?, h.c14]
theorem NetS.kn (h : NetS WB wr b12 gn b14 b16 b18 b19 b20 n c a p t1 t2 th o q P) {j : Nat} (hj : j < n) : wr.cell? ⟨gn, j, none⟩ = some (.int .i64 ((p j : Nat) : Int)) ∧ wr.frozen? ⟨gn, j, none⟩ = false := ⟨h.cn.cell hj, h.cn.free j⟩
theorem NetS.call (h : NetS WB wr b12 gn b14 b16 b18 b19 b20 n c a p t1 t2 th o q P) {r : Nat → Rat} (hl : LawIs WB (.slice a n c) (row r n)) (hn0 : 0 < n) (hn5 : n ≤ 5) (hr0 : ∀ i, i < n → 0 ≤ r i) (hr1 : ∀ i, i < n → r i < 1) (hp6 : ∀ i, p i ≤ 6) (hR : ∀ i, RS (r i) (XB + 1)) :
    ∀ W, Below wr.heap.size wr W → Calls Tryz.prog 11 #[.pointer (some ⟨b12, 0, none⟩), .pointer (some ⟨b14, 0, none⟩), .pointer (some ⟨b16, 0, none⟩)] W fun e w' => ∃ v, e = .returned v ∧ RatIs w' v (Net.jk r p n) ∧ Below W.heap.size W w' := fun W hW => by
  have k := h.keep hW
  exact pcall_any b12 b14 b16 gn n c a r p W k.c12 k.c14 k.c16 (hl.below k.bl) ⟨k.cn.lt, fun j hj => k.cn.cell hj⟩ hn0 hn5 hr0 hr1 hp6 hR
end
end Go.Proofs.YtdaejkngmckmdaaGreatDoor
