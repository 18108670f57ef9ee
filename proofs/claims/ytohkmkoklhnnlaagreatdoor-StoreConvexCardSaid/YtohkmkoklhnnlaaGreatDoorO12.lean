/- The rule of a period, by the program: what its loop holds. -/
import Derived.Test.YtohkmkoklhnnlaaGreatDoorO11
import Derived.Test.YtohkmkoklhnnlaaGreatDoorQ1
namespace Go.Proofs.YtohkmkoklhnnlaaGreatDoor
open Go.RowKit Go.Sort Go.Shelf

/-- One block was written, and it holds no words. -/
structure Tch (W W' : World) (g : Nat) : Prop where
  oth : ∀ k, k ≠ g → W'.heap[k]? = W.heap[k]?
  sz : W.heap.size ≤ W'.heap.size
  nw : ∃ o, W.heap[g]? = some o ∧ NoWord o
theorem Tch.rat {W W' : World} {g : Nat} (h : Tch W W' g) {v : Value} {q : Rat} (hr : RatIs W v q) : RatIs W' v q := by
  obtain ⟨o, h1, h2⟩ := h.nw
  exact hr.other h1 h2 h.sz h.oth
theorem Tch.blk {W W' : World} {g k : Nat} (h : Tch W W' g) {o : Obj} (hk : W.heap[k]? = some o) (hne : k ≠ g) : W'.heap[k]? = some o := by rw [h.oth k hne]; exact hk
theorem Tch.box {W W' : World} {g b : Nat} {t : Tri} {q : Rat} (h : Tch W W' g) (hb : BoxIs W b t q) (hne : b ≠ g) : BoxIs W' b t q := ⟨h.blk hb.1 hne, h.rat hb.2⟩
theorem Tch.goal {W W' : World} {g b : Nat} {y : Int} {t : Tri} {q : Rat} (h : Tch W W' g) (hb : GoalAt W b y t q) (hne : b ≠ g) : GoalAt W' b y t q := ⟨h.blk hb.1 hne, h.rat hb.2⟩
theorem GoalAt.tch {W : World} {g : Nat} {y : Int} {t : Tri} {q : Rat} (h : GoalAt W g y t q) (x0 x1 x2 x3 : Value) : Tch W (set4 W g x0 x1 x2 x3) g := ⟨fun _ hk => set4_other hk, Nat.le_of_eq (set4_size W g x0 x1 x2 x3).symm, ⟨_, h.1, noWord4 _ _ _ _ _ _ _ _ _ _⟩⟩
/-- What the loop holds. -/
structure RuS (w wr : World) (gs gb gr gC go gf gB : Nat) (v : Value) (F E L S : Int) (fk : Nat) (bd : Array Value) (tf tb : Tri) (lo hi bi : Int) (bq : Rat) (us : List Tri) (cs : List Rat) : Prop where
  sh : ShopAt wr gs v F E L S
  bh : OneAt wr gb (.func (.func fk) #[] bd) 44
  res : wr.heap[gr]? = some (.cells #[.int .i64 0, .int .i64 0, .slice none 0 0] 36)
  out : wr.heap[go]? = some (.cells #[.int .i64 lo, .int .i64 hi, .slice (some ⟨gC, 0, none⟩) 81 81] 36)
  fx : BoxIs wr gf tf ((F : Int) : Rat)
  be : GoalAt wr gB bi tb bq
  row : SumsAt w wr gC us cs
  len : us.length = 81
structure RuO (w : World) (gs gb gr gC go gf gB : Nat) : Prop where
  o0 : w.heap.size ≤ gs
  o1 : gs < gb
  o2 : gb < gr
  o3 : gr < gC
  o4 : gC < go
  o5 : go < gf
  o6 : gf < gB
section
variable {w wr w' : World} {gs gb gr gC go gf gB : Nat} {v : Value} {F E L S : Int} {fk : Nat} {bd : Array Value} {tf tb : Tri} {lo hi bi : Int} {bq : Rat} {us : List Tri} {cs : List Rat} {g : Nat}
theorem RuS.keep (h : RuS w wr gs gb gr gC go gf gB v F E L S fk bd tf tb lo hi bi bq us cs) (hb : Below wr.heap.size wr w') : RuS w w' gs gb gr gC go gf gB v F E L S fk bd tf tb lo hi bi bq us cs :=
  ⟨h.sh.keep hb, h.bh.keep hb, heap_kept h.res hb, heap_kept h.out hb, h.fx.keep hb, h.be.keep hb, h.row.keep hb, h.len⟩
theorem SumsAt.tch (h : SumsAt w wr gC us cs) (T : Tch wr w' g) (hne : gC ≠ g) (hb : Below w.heap.size w w') : SumsAt w w' gC us cs := ⟨T.blk h.row hne, h.len, fun j hj => T.rat (h.rat j hj), hb, h.gl⟩
theorem RuS.touch (h : RuS w wr gs gb gr gC go gf gB v F E L S fk bd tf tb lo hi bi bq us cs) (T : Tch wr w' g) (hb : Below w.heap.size w w') (n1 : gs ≠ g) (n2 : gb ≠ g) (n3 : gr ≠ g) (n4 : gC ≠ g) (n5 : go ≠ g) (n6 : gf ≠ g) (n7 : gB ≠ g) : RuS w w' gs gb gr gC go gf gB v F E L S fk bd tf tb lo hi bi bq us cs :=
  ⟨T.blk h.sh n1, T.blk h.bh n2, T.blk h.res n3, T.blk h.out n5, T.box h.fx n6, T.goal h.be n7, h.row.tch T n4 hb, h.len⟩
theorem RuS.setB (h : RuS w wr gs gb gr gC go gf gB v F E L S fk bd tf tb lo hi bi bq us cs) (o : RuO w gs gb gr gC go gf gB) {t' : Tri} {y' : Int} {q' : Rat} (hr : RatIs wr t'.val q') :
    RuS w (set4 wr gB (.int .i64 y') (.bool t'.s) (.slice t'.a1 t'.n1 t'.c1) (.slice t'.a2 t'.n2 t'.c2)) gs gb gr gC go gf gB v F E L S fk bd tf t' lo hi y' q' us cs := by
  obtain ⟨o0, o1, o2, o3, o4, o5, o6⟩ := o
  have T := h.be.tch (.int .i64 y') (.bool t'.s) (.slice t'.a1 t'.n1 t'.c1) (.slice t'.a2 t'.n2 t'.c2)
  exact ⟨T.blk h.sh (by omega), T.blk h.bh (by omega), T.blk h.res (by omega), T.blk h.out (by omega), T.box h.fx (by omega), h.be.set hr, h.row.tch T (by omega) (set4_below h.row.bl (by omega)), h.len⟩
theorem row_tch (h : SumsAt w wr gC us cs) (i0 i1 i2 : Nat) (x0 x1 x2 : Value) : Tch wr (((wr.setCell ⟨gC, i0, none⟩ x0).setCell ⟨gC, i1, none⟩ x1).setCell ⟨gC, i2, none⟩ x2) gC :=
  ⟨fun k hk => by rw [Below.heap_setCell _ _ _ _ hk, Below.heap_setCell _ _ _ _ hk, Below.heap_setCell _ _ _ _ hk], by simp [World.setCell], ⟨_, h.row, sums_noWord⟩⟩
theorem RuS.setR (h : RuS w wr gs gb gr gC go gf gB v F E L S fk bd tf tb lo hi bi bq us cs) (o : RuO w gs gb gr gC go gf gB) {j : Nat} (hj : j < 81) {t : Tri} {q : Rat} (hr : RatIs wr t.val q) :
    RuS w (((wr.setCell ⟨gC, j * 3, none⟩ (.bool t.s)).setCell ⟨gC, j * 3 + 1, none⟩ (.slice t.a1 t.n1 t.c1)).setCell ⟨gC, j * 3 + 2, none⟩ (.slice t.a2 t.n2 t.c2)) gs gb gr gC go gf gB v F E L S fk bd tf tb lo hi bi bq (us.set j t) (cs.set j q) := by
  obtain ⟨o0, o1, o2, o3, o4, o5, o6⟩ := o
  have T := row_tch h.row (j * 3) (j * 3 + 1) (j * 3 + 2) (.bool t.s) (.slice t.a1 t.n1 t.c1) (.slice t.a2 t.n2 t.c2)
  exact ⟨T.blk h.sh (by omega), T.blk h.bh (by omega), T.blk h.res (by omega), T.blk h.out (by omega), T.box h.fx (by omega), T.goal h.be (by omega), h.row.set j (by rw [h.len]; exact hj) t q hr, by rw [List.length_set]; exact h.len⟩
theorem noWordR (lo hi : Int) (a : Option Addr) (n c : Nat) (T : TypeId) (fr : Nat × Nat) : NoWord (.cells #[.int .i64 lo, .int .i64 hi, .slice a n c] T fr) := by
  intro cs T' fr' e j x
  injection e with e
  subst e
  rcases j with _ | _ | _ | j <;> simp
theorem out_tch (h : RuS w wr gs gb gr gC go gf gB v F E L S fk bd tf tb lo hi bi bq us cs) (i : Nat) (x : Value) : Tch wr (wr.setCell ⟨go, i, none⟩ x) go := ⟨fun k hk => by rw [Below.heap_setCell _ _ _ _ hk], by simp [World.setCell], ⟨_, h.out, noWordR _ _ _ _ _ _ _⟩⟩
theorem RuS.setO (h : RuS w wr gs gb gr gC go gf gB v F E L S fk bd tf tb lo hi bi bq us cs) (o : RuO w gs gb gr gC go gf gB) {i : Nat} {x : Value} {lo' hi' : Int} (he : (wr.setCell ⟨go, i, none⟩ x).heap[go]? = some (.cells #[.int .i64 lo', .int .i64 hi', .slice (some ⟨gC, 0, none⟩) 81 81] 36)) :
    RuS w (wr.setCell ⟨go, i, none⟩ x) gs gb gr gC go gf gB v F E L S fk bd tf tb lo' hi' bi bq us cs := by
  have T := out_tch h i x
  obtain ⟨o0, o1, o2, o3, o4, o5, o6⟩ := o
  exact ⟨T.blk h.sh (by omega), T.blk h.bh (by omega), T.blk h.res (by omega), he, T.box h.fx (by omega), T.goal h.be (by omega), h.row.tch T (by omega) (h.row.bl.setCell (p := ⟨go, i, none⟩) (by show w.heap.size ≤ go; omega) _), h.len⟩
theorem RuS.outs (h : RuS w wr gs gb gr gC go gf gB v F E L S fk bd tf tb lo hi bi bq us cs) : (wr.cell? ⟨go, 0, none⟩ = some (.int .i64 lo) ∧ wr.cell? ⟨go, 1, none⟩ = some (.int .i64 hi) ∧ wr.cell? ⟨go, 2, none⟩ = some (.slice (some ⟨gC, 0, none⟩) 81 81)) ∧ wr.frozen? ⟨go, 0, none⟩ = false ∧ wr.frozen? ⟨go, 1, none⟩ = false ∧ wr.frozen? ⟨go, 2, none⟩ = false := by
  have h1 := h.out
  simp [World.cell?, World.frozen?, h1]
theorem RuS.setHi (h : RuS w wr gs gb gr gC go gf gB v F E L S fk bd tf tb lo hi bi bq us cs) (o : RuO w gs gb gr gC go gf gB) (x : Int) : RuS w (wr.setCell ⟨go, 1, none⟩ (.int .i64 x)) gs gb gr gC go gf gB v F E L S fk bd tf tb lo x bi bq us cs := h.setO o (by
  have h1 := h.out
  rw [setCell_eq]
  simp only [mapBlock, Array.getElem?_modify, h1, if_true, Option.map_some, onCells]
  rfl)
theorem RuS.setLo (h : RuS w wr gs gb gr gC go gf gB v F E L S fk bd tf tb lo hi bi bq us cs) (o : RuO w gs gb gr gC go gf gB) (x : Int) : RuS w (wr.setCell ⟨go, 0, none⟩ (.int .i64 x)) gs gb gr gC go gf gB v F E L S fk bd tf tb x hi bi bq us cs := h.setO o (by
  have h1 := h.out
  rw [setCell_eq]
  simp only [mapBlock, Array.getElem?_modify, h1, if_true, Option.map_some, onCells]
  rfl)
end
end Go.Proofs.YtohkmkoklhnnlaaGreatDoor
