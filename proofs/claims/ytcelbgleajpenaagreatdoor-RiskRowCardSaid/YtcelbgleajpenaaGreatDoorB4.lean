/- Fractions in boxes of the call's own. -/
import Derived.Test.YtcelbgleajpenaaGreatDoorA16
import Derived.Test.YtcelbgleajpenaaGreatDoorB3
import Derived.Test.YtcelbgleajpenaaGreatDoorA12
import Derived.Test.YtcelbgleajpenaaGreatDoorA7
import Derived.Test.YtcelbgleajpenaaGreatDoorB1
import Derived.Test.YtcelbgleajpenaaGreatDoorA15
namespace Go.Proofs.YtcelbgleajpenaaGreatDoor
open Go.RowKit Go.Sort Go.Shelf

theorem heap_kept {W W' : World} {b : Nat} {o : Obj} (h : W.heap[b]? = some o) (hb : Below W.heap.size W W') : W'.heap[b]? = some o := by
  rw [hb.block _ (Array.getElem?_eq_some_iff.1 h).1]; exact h

theorem alloc_size (w : World) (o : Obj) : (w.alloc o).heap.size = w.heap.size + 1 := by rw [alloc_heap, Array.size_push]

/-- Block b holds the fraction q, written t. -/
def BoxIs (W : World) (b : Nat) (t : Tri) (q : Rat) : Prop := W.heap[b]? = some (.cells #[.bool t.s, .slice t.a1 t.n1 t.c1, .slice t.a2 t.n2 t.c2] 37) ∧ RatIs W t.val q

theorem BoxIs.keep {W W' : World} {b : Nat} {t : Tri} {q : Rat} (h : BoxIs W b t q) (hb : Below W.heap.size W W') : BoxIs W' b t q := ⟨heap_kept h.1 hb, h.2.below hb⟩
theorem BoxIs.new {w : World} {t : Tri} {q : Rat} (h : RatIs w t.val q) : BoxIs (w.alloc (.cells #[.bool t.s, .slice t.a1 t.n1 t.c1, .slice t.a2 t.n2 t.c2] 37)) w.heap.size t q :=
  ⟨heap_alloc_new w _, h.below (alloc_below w _)⟩
/-- The cells, in a world that has grown. -/
theorem BoxIs.cells {W : World} {b : Nat} {t : Tri} {q : Rat} (h : BoxIs W b t q) : ∀ W', Below W.heap.size W W' → W'.cell? ⟨b, 0, none⟩ = some (.bool t.s) ∧ W'.cell? ⟨b, 1, none⟩ = some (.slice t.a1 t.n1 t.c1) ∧ W'.cell? ⟨b, 2, none⟩ = some (.slice t.a2 t.n2 t.c2) := fun W' hb => by
  have ⟨k0, k1, k2, _, _, _⟩ := box_cell (heap_kept h.1 hb)
  exact ⟨k0, k1, k2⟩
theorem BoxIs.free {W : World} {b : Nat} {t : Tri} {q : Rat} (h : BoxIs W b t q) : W.frozen? ⟨b, 0, none⟩ = false ∧ W.frozen? ⟨b, 1, none⟩ = false ∧ W.frozen? ⟨b, 2, none⟩ = false := by
  have ⟨_, _, _, f0, f1, f2⟩ := box_cell h.1
  exact ⟨f0, f1, f2⟩
theorem BoxIs.lt {W : World} {b : Nat} {t : Tri} {q : Rat} (h : BoxIs W b t q) : b < W.heap.size := (Array.getElem?_eq_some_iff.1 h.1).1

theorem RatIs.boxSet {W : World} {b : Nat} {t : Tri} {q : Rat} {v : Value} {q' : Rat} (h : RatIs W v q') (hb : BoxIs W b t q) (x0 x1 x2 : Value) : RatIs (((W.setCell ⟨b, 0, none⟩ x0).setCell ⟨b, 1, none⟩ x1).setCell ⟨b, 2, none⟩ x2) v q' := by
  refine h.other hb.1 (noWord3 _ _ _ _ _ _ _ _ _) (by simp [World.setCell]) (fun k hk => ?_)
  rw [Below.heap_setCell _ _ _ _ hk, Below.heap_setCell _ _ _ _ hk, Below.heap_setCell _ _ _ _ hk]

/-- A fraction is put into the box. -/
theorem BoxIs.set {W : World} {b : Nat} {t t' : Tri} {q q' : Rat} (h : BoxIs W b t q) (hr : RatIs W t'.val q') : BoxIs (((W.setCell ⟨b, 0, none⟩ (.bool t'.s)).setCell ⟨b, 1, none⟩ (.slice t'.a1 t'.n1 t'.c1)).setCell ⟨b, 2, none⟩ (.slice t'.a2 t'.n2 t'.c2)) b t' q' :=
  ⟨box_set h.1, hr.boxSet h _ _ _⟩
theorem BoxIs.other {W : World} {b c : Nat} {t u : Tri} {q r : Rat} (h : BoxIs W b t q) (hc : BoxIs W c u r) (hne : b ≠ c) (x0 x1 x2 : Value) : BoxIs (((W.setCell ⟨c, 0, none⟩ x0).setCell ⟨c, 1, none⟩ x1).setCell ⟨c, 2, none⟩ x2) b t q :=
  ⟨by rw [Below.heap_setCell _ _ _ _ hne, Below.heap_setCell _ _ _ _ hne, Below.heap_setCell _ _ _ _ hne]; exact h.1, h.2.boxSet hc _ _ _⟩

/-- A number's box, and behind it the result's. -/
def intBox (w : World) (p : Int) : World := (w.alloc (.cells #[.int .i64 p] 3)).alloc (.cells #[.bool false, .slice none 0 0, .slice none 0 0] 37)
theorem intBox_parts (w : World) (p : Int) : Below w.heap.size w (intBox w p) ∧ BoxIs (intBox w p) (w.heap.size + 1) zTri 0 ∧ (intBox w p).cell? ⟨w.heap.size, 0, none⟩ = some (.int .i64 p) ∧ w.heap.size < (intBox w p).heap.size := by
  have h1 := BoxIs.new (w := w.alloc (.cells #[.int .i64 p] 3)) (t := zTri) (q := 0) (rat_zero _)
  rw [alloc_size] at h1
  refine ⟨below_step (alloc_below w _) (alloc_below _ _), h1, ?_, ?_⟩
  · unfold intBox
    rw [World.cell?_alloc_lt _ _ ⟨w.heap.size, 0, none⟩ (by rw [alloc_size]; exact Nat.lt_succ_self _)]
    simp
  · unfold intBox
    rw [alloc_size, alloc_size]
    omega

theorem tri_zero : zR = #[.bool false, .slice none 0 0, .slice none 0 0] := rfl
end Go.Proofs.YtcelbgleajpenaaGreatDoor
/- chance.mean, raised; the mean of a power, of what is beyond. -/
namespace Go.Proofs.YtcelbgleajpenaaGreatDoor
open Go.RowKit Go.Sort Go.Shelf

theorem wsum_RS {qs : List Rat} {J : Nat} {F : Nat → Int} (h : ∀ j, j < qs.length → RS qs[j]! J) (hF : ∀ j, j < qs.length → I64 (F j)) (k : Nat) (hk : k ≤ qs.length) : RS (wsum qs F k) (k * (J + 2) + 1) := by
  induction k with
  | zero => exact RS.zero.mono (by omega)
  | succ k ih => exact ((ih (by omega)).add ((h k (by omega)).mul (whole_RS (hF k (by omega))))).mono (by rw [Nat.succ_mul]; omega)

end Go.Proofs.YtcelbgleajpenaaGreatDoor
/- chance.raised, Moment and Over. -/
namespace Go.Proofs.YtcelbgleajpenaaGreatDoor
open Go.RowKit Go.Sort Go.Shelf

theorem pow_le100 {x i : Nat} (hx : x ≤ 100) (hi : i ≤ 4) : x ^ i ≤ 100000000 := by
  have h1 : x ^ i ≤ 100 ^ i := Nat.pow_le_pow_left hx i
  have h2 : 100 ^ i ≤ 100 ^ 4 := Nat.pow_le_pow_right (by decide) hi
  have h3 : (100 : Nat) ^ 4 = 100000000 := by decide
  omega

theorem pow_I64 {x p : Nat} (hx : x ≤ 100) (hp : p ≤ 4) : I64 ((x ^ p : Nat) : Int) := by
  have := pow_le100 hx hp
  exact ⟨by omega, by omega⟩
theorem over_I64 {x n : Nat} (hx : x ≤ 1000) : I64 (over n x) := by unfold over; exact ⟨by omega, by omega⟩

def zAgg : Value := .agg #[.bool false, .slice none 0 0, .slice none 0 0]

theorem errV_zero : errV 0 = .nilIface := rfl
theorem errV_not {k : Int} (h : k ≠ 0) : errV k = .iface 27 (.int .i64 k) := by unfold errV; rw [if_neg h]

end Go.Proofs.YtcelbgleajpenaaGreatDoor
/- Rows of fractions of the call's own that grow, side by side. -/
namespace Go.Proofs.YtcelbgleajpenaaGreatDoor
open Go.RowKit Go.Sort Go.Shelf

/-- append at the operation itself. -/
theorem wp_append_tri {P : Program} (w : World) {o : Oper} {a : Act} {K : Act → World → Prop} {Q : Exit → Act → World → Prop} (s x : Operand) (t : TypeId)
    (ho : o.op = .call { callee := .builtin .append, args := #[s, x], argTypes := #[t, t] })
    (base : Nat) (e : TypeId) (i : TypeInfo) (bytes : Nat) (ht : P.underlying t = some (.slice e)) (hi : P.info? e = some i) (hz : i.zero = some (.agg zR))
    (hsize : i.size = 3) (hby : i.bytes = bytes)
    (v : Value) (n : Nat) (xs : List Value) (hs : a.eval s = v) (hown : w.ownsRow base e 3 v n xs) (hno : ∀ g, v.ownBlock = some g → Wordless w g)
    (ad : Addr) (m c : Nat) (news : List Value) (hx : a.eval x = .slice (some ad) m c) (hl : news.length = m * 3) (hnews : ∀ j u, news[j]? = some u → w.cell? (ad.add j) = some u) (h1 : ∀ u ∈ news, u.oneCell' = true) (h1w : ∀ u ∈ news, Go.Proofs.YtcelbgleajpenaaGreatDoor.notWord u)
    (hm : 0 < m) (h63 : n + m ≤ maxLen) (hbytes : (n + m) * bytes ≤ 140737488355328) (hbase : base ≤ w.heap.size) (H : Nat) (hH : w.heap.size = H)
    (h : ∀ g cap w', w'.ownsRow base e 3 (.slice (some ⟨g, 0, none⟩) (n + m) cap) (n + m) (xs ++ news) → w.grownBy w' v.ownBlock → (v.ownBlock = some g ∨ g = H) → g < w'.heap.size → Wordless w' g → K (a.put o.dst (.slice (some ⟨g, 0, none⟩) (n + m) cap)) w') : o.wp P a w K Q := by
  obtain ⟨g, cap, w', hr, h2, h3, h4, h5⟩ := run_append_lies (P := P) w t o.type base e i _ 3 bytes ht hi hz hsize hby (by decide) (by omega) v n xs hown ad m c news hl hnews h1 hm h63 hbytes hbase H hH
  have h6 := append_wordless ht hi hz hsize hby hown hno hl hnews h1 h1w hm h63 hbytes hr
  unfold Oper.wp execOp
  simp only [ho, resolve, invoke, builtin, Sem.run_bind, Sem.run_pure, Result.andThen_ok, List.map_toArray, List.map_cons, List.map_nil, hs, hx, hr]
  exact h g cap w' h2 h3 h4 h5 h6

/-- A row that grows: its fractions. -/
structure RowAt (wr : World) (B : Nat) (v : Value) (ts : List Tri) (qs : List Rat) : Prop where
  own : wr.ownsRow B 37 3 v ts.length (tcells ts)
  no : ∀ g, v.ownBlock = some g → Wordless wr g
  rat : ∀ j, j < ts.length → RatIs wr (ts[j]!).val qs[j]!
  len : ts.length = qs.length

theorem RowAt.nil (wr : World) (B : Nat) : RowAt wr B (.slice none 0 0) [] [] :=
  ⟨World.ownsRow_nil _ _ _ _, fun _ h => (by cases h), fun _ h => absurd h (Nat.not_lt_zero _), rfl⟩

theorem RowAt.block {wr : World} {B : Nat} {v : Value} {ts : List Tri} {qs : List Rat} (h : RowAt wr B v ts qs) : ∀ g, v.ownBlock = some g → B ≤ g ∧ g < wr.heap.size := ownsR_block h.own

theorem RowAt.keep {wr w' : World} {B : Nat} {v : Value} {ts : List Tri} {qs : List Rat} (h : RowAt wr B v ts qs) (hb : Below wr.heap.size wr w') : RowAt w' B v ts qs :=
  ⟨ownsR_kept h.own (fun k o _ ho => by rw [hb.block k (Array.getElem?_eq_some_iff.1 ho).1]; exact ho), fun g hg => (h.no g hg).below (h.block g hg).2 hb, fun j hj => (h.rat j hj).below hb, h.len⟩

/-- Another block grows or changes that holds no words: the row is as it was. -/
theorem RowAt.far {wr w' : World} {B : Nat} {v : Value} {ts : List Tri} {qs : List Rat} {row : Option Nat} (h : RowAt wr B v ts qs) (hg : wr.grownBy w' row) (hno : ∀ g, row = some g → Wordless wr g) (hne : ∀ g, v.ownBlock = some g → row ≠ some g) : RowAt w' B v ts qs := by
  refine ⟨?_, fun g hb => ?_, fun j hj => (h.rat j hj).far hg hno, h.len⟩
  · rcases h.own.2 with ⟨rfl, h0⟩ | ⟨g, cap, cur, rfl, hb, hgk, h1, h2, h3, h4⟩
    · exact ⟨h.own.1, Or.inl ⟨rfl, h0⟩⟩
    · refine ⟨h.own.1, Or.inr ⟨g, cap, cur, rfl, hb, ?_, h1, h2, h3, h4⟩⟩
      rw [hg.block g (Array.getElem?_eq_some_iff.1 hgk).1 (fun e => hne g rfl e.symm)]
      exact hgk
  · intro i k x hc
    have hlt := (h.block g hb).2
    have e : w'.heap[g]? = wr.heap[g]? := hg.block g hlt (fun e => hne g hb e.symm)
    exact h.no g hb i k x (by rw [← World.cell?_of_block (w := wr) (w' := w') (a := ⟨g, i, none⟩) e]; exact hc)

theorem BoxIs.far {wr w' : World} {b : Nat} {t : Tri} {q : Rat} {row : Option Nat} (h : BoxIs wr b t q) (hg : wr.grownBy w' row) (hno : ∀ g, row = some g → Wordless wr g) (hne : row ≠ some b) : BoxIs w' b t q :=
  ⟨by rw [hg.block b h.lt (fun e => hne e.symm)]; exact h.1, h.2.far hg hno⟩

/-- One more. -/
theorem RowAt.push {wr w' : World} {B g cap : Nat} {v : Value} {ts : List Tri} {qs : List Rat} {t : Tri} {q : Rat} (h : RowAt wr B v ts qs) (ht : RatIs wr t.val q)
    (own : w'.ownsRow B 37 3 (.slice (some ⟨g, 0, none⟩) (ts.length + 1) cap) (ts.length + 1) (tcells ts ++ t.cells)) (hg : wr.grownBy w' v.ownBlock) (hn : Wordless w' g) :
    RowAt w' B (.slice (some ⟨g, 0, none⟩) (ts.length + 1) cap) (ts ++ [t]) (qs ++ [q]) := by
  have hl := h.len
  refine ⟨?_, fun g' e => ?_, fun j hj => ?_, by simp [hl]⟩
  · rw [List.length_append, tcells_append]; exact own
  · have e' : g = g' := by simpa [Value.ownBlock] using e
    rw [← e']; exact hn
  · rw [List.length_append, List.length_singleton] at hj
    rcases Nat.lt_or_ge j ts.length with h' | h'
    · have e1 : (ts ++ [t])[j]! = ts[j]! := by simp [h', List.getElem?_append_left h']
      have e2 : (qs ++ [q])[j]! = qs[j]! := by simp [show j < qs.length by omega, List.getElem?_append_left (show j < qs.length by omega)]
      rw [e1, e2]
      exact (h.rat j h').far hg h.no
    · obtain rfl : j = ts.length := by omega
      have e1 : (ts ++ [t])[ts.length]! = t := by simp
      have e2 : (qs ++ [q])[ts.length]! = q := by rw [hl]; simp
      rw [e1, e2]
      exact ht.far hg h.no

/-- Such a row is a law. -/
theorem RowAt.law {wr : World} {B : Nat} {v : Value} {ts : List Tri} {qs : List Rat} (h : RowAt wr B v ts qs) : LawIs wr v qs := law_of_owns h.own h.len h.rat

/-- The cells of one that is read. -/
theorem RowAt.cells {wr : World} {B g cap : Nat} {ts : List Tri} {qs : List Rat} {n : Nat} (h : RowAt wr B (.slice (some ⟨g, 0, none⟩) n cap) ts qs) {j : Nat} (hj : j < ts.length) :
    ∀ W, Below wr.heap.size wr W → W.cell? ⟨g, j * 3, none⟩ = some (.bool (ts[j]!).s) ∧ W.cell? ⟨g, j * 3 + 1, none⟩ = some (.slice (ts[j]!).a1 (ts[j]!).n1 (ts[j]!).c1) ∧ W.cell? ⟨g, j * 3 + 2, none⟩ = some (.slice (ts[j]!).a2 (ts[j]!).n2 (ts[j]!).c2) := fun W hW => by
  rcases h.own.2 with ⟨e, _⟩ | ⟨g', cap', cur, e, hb, hgk, h1, h2, h3, h4⟩
  · cases e
  · injection e with e1 e2 e3
    injection e1 with e1
    injection e1 with e1
    subst e1
    have hlt := (Array.getElem?_eq_some_iff.1 hgk).1
    have ck : ∀ k, k < 3 → W.cell? ⟨g, j * 3 + k, none⟩ = (ts[j]!).cells[k]? := fun k hk => by
      rw [hW.cell (p := ⟨g, j * 3 + k, none⟩) hlt]
      simp only [World.cell?, hgk]
      have e := tcells_get ts j k hj hk
      rw [← e, ← h4, List.getElem?_take_of_lt (by omega)]
      simp
    exact ⟨ck 0 (by decide), ck 1 (by decide), ck 2 (by decide)⟩
end Go.Proofs.YtcelbgleajpenaaGreatDoor
/- A statement that writes nothing that it reads: what it reads may be taken first: the laws. -/
namespace Go.Proofs.YtcelbgleajpenaaGreatDoor
open Go.RowKit Go.Sort Go.Shelf

section
variable {P : Program} {ops : Array Oper} {Q : Exit → Act → World → Prop} {md : Region.Mode} {C : World → Prop}

/-- Whatever order is picked; C holds behind every operation. -/
def wpHold (P : Program) (md : Region.Mode) (ops : Array Oper) (Q : Exit → Act → World → Prop) (C : World → Prop) : Nat → Array Bool → Act → World → Prop
  | 0, listed, a, w => Region.ready md ops listed = [] ∧ Q .normal a w
  | fuel + 1, listed, a, w => (Region.ready md ops listed = [] → Q .normal a w) ∧
      ∀ i ∈ Region.ready md ops listed, wpOp P ops Q i (fun a' w' => C w' ∧ wpHold P md ops Q C fuel (listed.setIfInBounds i true) a' w') a w

theorem wpAny_of_hold : ∀ (fuel : Nat) (listed : Array Bool) (a : Act) (w : World), wpHold P md ops Q C fuel listed a w → wpAny P md ops Q fuel listed a w
  | 0, _, _, _, h => h
  | fuel + 1, _, _, _, h => ⟨h.1, fun i hi => wpOp_mono (fun a' w' h' => wpAny_of_hold fuel _ a' w' h'.2) (h.2 i hi)⟩

theorem wpHold_first {i : Nat} {oi : Oper} {v : Value} (hi : ops[i]? = some oi) (hsel : ∀ (j : Nat) (o : Oper) cs b, ops[j]? = some o → o.op ≠ .select cs b)
    (hQ : ∀ c a w, Q (.panic c) (a.put oi.dst v) w → Q (.panic c) a w) :
    ∀ (fuel : Nat) (listed : Array Bool) (a : Act) (w : World),
      (∀ j oj, ops[j]? = some oj → j ≠ i → listed.getD j true = false → (∀ e ∈ oj.after, Region.binds md e = true → e.on ≠ i) → oi.apart ops oj = true) →
      i ∈ Region.ready md ops listed → YieldsIf P ops C oi v a → C w →
      wpHold P md ops Q C fuel (listed.setIfInBounds i true) (a.put oi.dst v) w → wpHold P md ops Q C (fuel + 1) listed a w := by
  intro fuel
  induction fuel with
  | zero =>
    intro listed a w _ hr hy hC H
    refine ⟨fun h => (by rw [h] at hr; cases hr), fun j hj => ?_⟩
    rcases Decidable.em (j = i) with rfl | hji
    · exact hy.wpOp hi hC ⟨hC, H⟩
    · have := ready_mono hj hji
      rw [H.1] at this
      cases this
  | succ fuel ih =>
    intro listed a w hfree hr hy hC H
    refine ⟨fun h => (by rw [h] at hr; cases hr), fun j hj => ?_⟩
    rcases Decidable.em (j = i) with rfl | hji
    · exact hy.wpOp hi hC ⟨hC, H⟩
    · have hi0 := (mem_ready.1 hr).1
      have h1 := H.2 j (ready_mono hj hji)
      obtain ⟨hjun, oj, hoj, hall⟩ := mem_ready.1 hj
      have hnot : ∀ e ∈ oj.after, Region.binds md e = true → e.on ≠ i := fun e he hb heq => by
        have h2 := hall e he hb
        rw [heq] at h2
        rcases Nat.lt_or_ge i listed.size with h' | h'
        · simp [h'] at hi0 h2; rw [hi0] at h2; cases h2
        · simp [Array.getElem?_eq_none h'] at h2
      have h2 := wpOp_putIf hoj (hfree j oj hoj hji hjun hnot) (fun cs b => hsel i oi cs b hi) (fun cs b => hsel j oj cs b hoj) hQ hy h1
      refine wpOp_mono (fun a' w' h3 => ?_) h2
      refine ⟨h3.2.1, ih (listed.setIfInBounds j true) a' w' (fun k ok hk hki hun hno => ?_) (ready_mono hr (Ne.symm hji)) h3.1 h3.2.1 ?_⟩
      · refine hfree k ok hk hki ?_ hno
        rcases Decidable.em (j = k) with rfl | hjk
        · exact hjun
        · rw [getD_set_ne true hjk] at hun; exact hun
      · rw [Array.setIfInBounds_comm _ _ hji]
        exact h3.2.2

theorem wpHold_take {i : Nat} {oi : Oper} {v : Value} {fuel : Nat} {listed : Array Bool} {a : Act} {w : World} (hi : ops[i]? = some oi)
    (hs : Region.noSelect ops = true) (hf : Region.free md ops listed i = true) (hr : (Region.ready md ops listed).contains i = true)
    (hQ : ∀ c a w, Q (.panic c) (a.put oi.dst v) w → Q (.panic c) a w) (hy : YieldsIf P ops C oi v a) (hC : C w)
    (h : wpHold P md ops Q C fuel (listed.setIfInBounds i true) (a.put oi.dst v) w) : wpHold P md ops Q C (fuel + 1) listed a w :=
  wpHold_first hi (Region.noSelect_spec hs) hQ fuel listed a w (Region.free_spec hi hf) (by simpa using hr) hy hC h

theorem wpHold_one {k : Nat} {o : Oper} {fuel : Nat} {listed : Array Bool} {a : Act} {w : World} (hr : Region.ready md ops listed = [k]) (ho : ops[k]? = some o)
    (h : ∀ K' : Act → World → Prop, Shut (∀ a w, C w → wpHold P md ops Q C fuel (listed.setIfInBounds k true) a w → K' a w) → if Region.wanted o (yielded ops a.tmps) = true then Oper.wp P o a w K' Q else K' (a.put o.dst undef) w) :
    wpHold P md ops Q C (fuel + 1) listed a w := by
  refine ⟨fun h0 => (by rw [hr] at h0; cases h0), fun i hi => ?_⟩
  rw [hr] at hi
  obtain rfl := List.mem_singleton.1 hi
  exact wpOp_step ho (fun K' hK => h K' (fun a w hS hW => hK a w ⟨hS, hW⟩))

theorem wpHold_done {listed : Array Bool} {a : Act} {w : World} (hr : Region.ready md ops listed = []) (h : Q .normal a w) : ∀ fuel, wpHold P md ops Q C fuel listed a w
  | 0 => ⟨hr, h⟩
  | _ + 1 => ⟨fun _ => h, by rw [hr]; simp⟩

theorem wp_region_hold {id : Nat} {a : Act} {w : World} (C : World → Prop) (hm : P.follows .mixedOrders = true) (h : wpHold P .any ops Q C ops.size (Array.replicate ops.size false) a w.drew) : (Code.region id ops true).wp P Q a w :=
  wp_region_any hm (wpAny_of_hold _ _ _ _ h)
end
end Go.Proofs.YtcelbgleajpenaaGreatDoor
/- Rows of fractions that are filled one by one; a quotient; shares. -/
namespace Go.Proofs.YtcelbgleajpenaaGreatDoor
open Go.RowKit Go.Sort Go.Shelf

/-- The first k of a row of N are said, the others 0. -/
def fill (f : Nat → Rat) (N k : Nat) : List Rat := (List.range N).map fun i => if i < k then f i else 0
theorem fill_length (f : Nat → Rat) (N k : Nat) : (fill f N k).length = N := by simp [fill]
theorem fill_zero (f : Nat → Rat) (N : Nat) : List.replicate N 0 = fill f N 0 := by
  apply List.ext_getElem?
  intro i
  unfold fill
  by_cases h : i < N <;> simp [h]
theorem fill_get {f : Nat → Rat} {N k i : Nat} (h : i < k) (hN : i < N) : (fill f N k)[i]! = f i := by simp [fill, h, hN]
theorem fill_none {f : Nat → Rat} {N k i : Nat} (h : k ≤ i) (hN : i < N) : (fill f N k)[i]! = 0 := by
  have : ¬ i < k := by omega
  simp [fill, this, hN]
theorem fill_set (f : Nat → Rat) (N k : Nat) : (fill f N k).set k (f k) = fill f N (k + 1) := by
  apply List.ext_getElem?
  intro i
  unfold fill
  rw [List.getElem?_set]
  by_cases h : k = i
  · subst h
    by_cases hk : k < N <;> simp [hk]
  · by_cases hi : i < N
    · have e : (i < k + 1) = (i < k) := by apply propext; omega
      simp [h, hi, e]
    · simp [h, hi]
/-- A row that is said wholly. -/
def row (f : Nat → Rat) (N : Nat) : List Rat := fill f N N
theorem row_length (f : Nat → Rat) (N : Nat) : (row f N).length = N := fill_length _ _ _
theorem row_get {f : Nat → Rat} {N i : Nat} (h : i < N) : (row f N)[i]! = f i := fill_get h h
theorem row_eq {qs : List Rat} {f : Nat → Rat} {N : Nat} (hl : qs.length = N) (h : ∀ i, i < N → qs[i]! = f i) : qs = row f N := by
  apply List.ext_getElem?
  intro i
  by_cases hi : i < N
  · have a := h i hi
    rw [← row_get (f := f) hi] at a
    rw [List.getElem!_eq_getElem?_getD, List.getElem!_eq_getElem?_getD] at a
    have h1 : i < qs.length := by omega
    have h2 : i < (row f N).length := by rw [row_length]; exact hi
    rw [List.getElem?_eq_getElem h1, List.getElem?_eq_getElem h2] at a ⊢
    simpa using a
  · rw [List.getElem?_eq_none (by omega), List.getElem?_eq_none (by rw [row_length]; omega)]
theorem row_congr {f g : Nat → Rat} {N : Nat} (h : ∀ i, i < N → f i = g i) : row f N = row g N := row_eq (row_length f N) (fun i hi => by rw [row_get hi, h i hi])
theorem qsum_row (f : Nat → Rat) (N : Nat) : ∀ k, k ≤ N → qsum (row f N) k = Bth.ps f k
  | 0, _ => rfl
  | k + 1, h => by
    show qsum (row f N) k + (row f N)[k]! = Bth.ps f k + f k
    rw [qsum_row f N k (by omega), row_get (by omega)]

theorem make_ratios (k : Int) (h0 : 0 ≤ k) (h1 : k ≤ 1099511627776) (w : World) :
    (Instr.makeSlice 42 (.int .i64 k) (.int .i64 k)).run Tryz.prog w = .ok (.slice (some ⟨w.heap.size, 0, none⟩) k.toNat k.toNat) (w.alloc (.cells (tcells (List.replicate k.toNat zTri)).toArray 37)) := by
  obtain ⟨i, hi, hz0, hz1, hz2⟩ := info_parts Tryz.infoR
  have e : madeCells (Value.agg zR).cells (k.toNat * i.size) = (tcells (List.replicate k.toNat zTri)).toArray := by
    rw [hz1, zcells]
    have hzc : (Value.agg zR).cells = zR := by simp [Value.cells, zR]
    rw [hzc]
    generalize k.toNat * 3 = n
    apply Array.ext
    · simp [madeCells]
    · intro j h1 h2
      simp [madeCells, zR]
  rw [run_make w 42 37 i (.agg zR) Tryz.underlying42 hi hz0 .i64 .i64 k k h0 (Int.le_refl _) (by rw [hz2]; omega) (by omega), e]

theorem BoxIs.rowed {w : World} {b g : Nat} {t : Tri} {q : Rat} {us : List Tri} (h : BoxIs w b t q) (hg : w.heap[g]? = some (.cells (tcells us).toArray 37)) (hne : b ≠ g) (i0 i1 i2 : Nat) (x0 x1 x2 : Value) :
    BoxIs (((w.setCell ⟨g, i0, none⟩ x0).setCell ⟨g, i1, none⟩ x1).setCell ⟨g, i2, none⟩ x2) b t q :=
  ⟨by rw [Below.heap_setCell _ _ _ _ hne, Below.heap_setCell _ _ _ _ hne, Below.heap_setCell _ _ _ _ hne]; exact h.1, h.2.rowed hg _ _ _ _ _ _⟩

/-- A number's share. -/
def shr (qs : List Rat) (s : Rat) (i : Nat) : Rat := qs[i]! / s

end Go.Proofs.YtcelbgleajpenaaGreatDoor
