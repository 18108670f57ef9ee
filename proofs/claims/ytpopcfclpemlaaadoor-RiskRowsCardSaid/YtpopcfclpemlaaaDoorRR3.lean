/- Things of gates that are made: rows of gates that grow. -/
import Derived.Test.YtpopcfclpemlaaaDoorRM1
namespace Go.Proofs.YtpopcfclpemlaaaDoor
open Go.RowKit Go.Sort Go.Shelf

/-- A box that holds a gate. -/
def GBox (w : World) (b : Nat) (L : Int) (v : Value) : Prop := w.heap[b]? = some (.cells #[.int .i64 L, v] 58)
theorem GBox.lt {w : World} {b : Nat} {L : Int} {v : Value} (h : GBox w b L v) : b < w.heap.size := (Array.getElem?_eq_some_iff.1 h).1
theorem GBox.cells {w : World} {b : Nat} {L : Int} {v : Value} (h : GBox w b L v) : w.cell? ⟨b, 0, none⟩ = some (.int .i64 L) ∧ w.cell? ⟨b, 1, none⟩ = some v := by
  unfold GBox at h
  constructor <;> simp [World.cell?, h]
theorem GBox.free {w : World} {b : Nat} {L : Int} {v : Value} (h : GBox w b L v) (j : Nat) : w.frozen? ⟨b, j, none⟩ = false := by
  unfold GBox at h; simp [World.frozen?, h]
theorem GBox.set0 {w : World} {b : Nat} {L : Int} {v : Value} (h : GBox w b L v) (M : Int) : GBox (w.setCell ⟨b, 0, none⟩ (.int .i64 M)) b M v := by
  unfold GBox at h ⊢
  rw [setCell_eq]
  simp only [mapBlock, Array.getElem?_modify, h, if_true, Option.map_some, onCells]
  simp
theorem GBox.set1 {w : World} {b : Nat} {L : Int} {v : Value} (h : GBox w b L v) (u : Value) : GBox (w.setCell ⟨b, 1, none⟩ u) b L u := by
  unfold GBox at h ⊢
  rw [setCell_eq]
  simp only [mapBlock, Array.getElem?_modify, h, if_true, Option.map_some, onCells]
  simp
theorem GBox.block {w w' : World} {b : Nat} {L : Int} {v : Value} (h : GBox w b L v) (e : w'.heap[b]? = w.heap[b]?) : GBox w' b L v := by
  unfold GBox at h ⊢; rw [e]; exact h
theorem GBox.new (w : World) (L : Int) (v : Value) : GBox (w.alloc (.cells #[.int .i64 L, v] 58)) w.heap.size L v := heap_alloc_new w _
/-- A gate's row of names, and how many it asks for. -/
abbrev Gt := Int × Option Addr × Nat × Nat
def gtc (g : Gt) : List Value := [.int .i64 g.1, .slice g.2.1 g.2.2.1 g.2.2.2]
def gcells (gs : List Gt) : List Value := gs.flatMap gtc
theorem gcells_append (gs : List Gt) (g : Gt) : gcells (gs ++ [g]) = gcells gs ++ gtc g := by simp [gcells]
theorem gcells_get (gs : List Gt) (j k : Nat) (hj : j < gs.length) (hk : k < 2) : (gcells gs)[j * 2 + k]? = (gtc (gs[j]!))[k]? := by
  induction gs generalizing j with
  | nil => simp at hj
  | cons t ts ih =>
    have e : gcells (t :: ts) = gtc t ++ gcells ts := by simp [gcells]
    have hl : (gtc t).length = 2 := rfl
    rw [e]
    cases j with
    | zero => rw [List.getElem?_append_left (by omega)]; simp
    | succ j =>
      rw [List.getElem?_append_right (by omega), hl, show (j + 1) * 2 + k - 2 = j * 2 + k by omega, ih j (by simpa using hj)]
      simp
theorem gtc_one (g : Gt) : ∀ u ∈ gtc g, u.oneCell' = true := by
  intro u hu
  simp only [gtc, List.mem_cons, List.not_mem_nil, or_false] at hu
  rcases hu with rfl | rfl <;> rfl
theorem news_gate (w : World) (g : Gt) (T : TypeId) : ∀ j u, (gtc g)[j]? = some u → (w.alloc (.cells #[.int .i64 g.1, .slice g.2.1 g.2.2.1 g.2.2.2] T)).cell? ((⟨w.heap.size, 0, none⟩ : Addr).add j) = some u :=
  World.news_of_block (cs := #[.int .i64 g.1, .slice g.2.1 g.2.2.1 g.2.2.2]) (t := T) (fr := (0, 0)) (heap_alloc_new w _)
def zG : Array Value := #[.int .i64 0, .slice none 0 0]
theorem Tryd.infoG : (Tryd.prog.info? 58).map (fun i => (i.zero, i.size, i.bytes)) = some (some (.agg zG), 2, 32) := by kernel_rfl
theorem own_kind {w : World} {B : Nat} {e : TypeId} {size : Nat} {v : Value} {n : Nat} {xs : List Value} (h : w.ownsRow B e size v n xs) : ∀ g, v.ownBlock = some g → B ≤ g ∧ g < w.heap.size ∧ ∃ c, w.heap[g]? = some (.cells c e) := by
  intro k hk
  obtain ⟨h1, ⟨rfl, _⟩ | ⟨g, cap, cur, rfl, hb, hh, hr⟩⟩ := h
  · cases hk
  · have : g = k := Option.some.inj hk
    subst this
    exact ⟨hb, (Array.getElem?_eq_some_iff.1 hh).1, cur, hh⟩
theorem own_kept {w w' : World} {B : Nat} {e : TypeId} {size : Nat} {v : Value} {n : Nat} {xs : List Value} (h : w.ownsRow B e size v n xs) (hk : ∀ k, v.ownBlock = some k → w'.heap[k]? = w.heap[k]?) : w'.ownsRow B e size v n xs := by
  obtain ⟨h1, h2 | ⟨g, cap, cur, rfl, hb, hh, hr⟩⟩ := h
  · exact ⟨h1, .inl h2⟩
  · exact ⟨h1, .inr ⟨g, cap, cur, rfl, hb, by rw [hk g rfl]; exact hh, hr⟩⟩
/-- A row of names that lies beyond a box, and not where another row grows. -/
def FRow (w : World) (b11 : Nat) (vw : Value) (a : Option Addr) (n c : Nat) (f : Nat → Int) : Prop := IRow w a n c f ∧ 0 < n ∧ ∀ b o, a = some ⟨b, o, none⟩ → b11 < b ∧ vw.ownBlock ≠ some b ∧ ∃ cur, w.heap[b]? = some (.cells cur 3)
theorem FRow.kept {w w' : World} {b11 : Nat} {vw vx : Value} {a : Option Addr} {n c : Nat} {f : Nat → Int} (h : FRow w b11 vw a n c f) (hk : ∀ b, b11 < b → b < w.heap.size → (∃ cur, w.heap[b]? = some (.cells cur 3)) → vw.ownBlock ≠ some b → w'.heap[b]? = w.heap[b]? ∧ vx.ownBlock ≠ some b) (hs : w.heap.size ≤ w'.heap.size) : FRow w' b11 vx a n c f := by
  obtain ⟨⟨h1, h2, h3⟩, hn, h4⟩ := h
  obtain ⟨b, o, rfl, hlt, hc⟩ := h3 hn
  obtain ⟨k1, k2, k3⟩ := h4 b o rfl
  obtain ⟨e1, e2⟩ := hk b k1 hlt k3 k2
  refine ⟨⟨h1, h2, fun _ => ⟨b, o, rfl, Nat.lt_of_lt_of_le hlt hs, fun j hj => ?_⟩⟩, hn, fun b' o' e => ?_⟩
  · have := hc j hj
    simp only [World.cell?] at this ⊢
    rw [e1]; exact this
  · have e3 : b = b' := by injection e with e; injection e
    subst e3
    exact ⟨k1, e2, by rw [e1]; exact k3⟩
/-- A row of gates that grows, and a gate in a box whose row grows. -/
structure GSt (wb wr : World) (b11 : Nat) (vl : Value) (gs : List Gt) (R : Nat → Nat → Int) (vw : Value) (xs : List Int) (L : Int) : Prop where
  bl : Below wb.heap.size wb wr
  hb : wb.heap.size ≤ b11
  gb : GBox wr b11 L vw
  ow : OwnL wr (b11 + 1) vw xs
  ol : wr.ownsRow (b11 + 1) 58 2 vl gs.length (gcells gs)
  rows : ∀ j, j < gs.length → FRow wr b11 vw (gs[j]!).2.1 (gs[j]!).2.2.1 (gs[j]!).2.2.2 (R j)
theorem GSt.keep {wb wr w' : World} {b11 : Nat} {vl vw : Value} {gs : List Gt} {R : Nat → Nat → Int} {xs : List Int} {L : Int} (h : GSt wb wr b11 vl gs R vw xs L) (hb : Below wr.heap.size wr w') : GSt wb w' b11 vl gs R vw xs L :=
  ⟨below_step h.bl hb, h.hb, h.gb.block (hb.block _ h.gb.lt), h.ow.keep hb, own_kept h.ol fun k hk => hb.block k (own_kind h.ol k hk).2.1, fun j hj => (h.rows j hj).kept (fun b _ hl _ hv => ⟨hb.block b hl, hv⟩) hb.size⟩
theorem ty_ne : (3 : TypeId) ≠ 58 := by decide
theorem getg_lt {gs : List Gt} {g : Gt} {j : Nat} (h : j < gs.length) : (gs ++ [g])[j]! = gs[j]! := by
  rw [List.getElem!_eq_getElem?_getD, List.getElem!_eq_getElem?_getD, List.getElem?_append_left h]
theorem getg_eq {gs : List Gt} {g : Gt} : (gs ++ [g])[gs.length]! = g := by
  rw [List.getElem!_eq_getElem?_getD, List.getElem?_append_right (Nat.le_refl _), Nat.sub_self]; rfl
/-- One more gate. -/
theorem GSt.addl {wb wr W w8 : World} {b11 g8 cap8 : Nat} {vl vw : Value} {gs : List Gt} {R : Nat → Nat → Int} {xs : List Int} {L : Int} {g : Gt} {f : Nat → Int} (h : GSt wb wr b11 vl gs R vw xs L) (hW : Below wr.heap.size wr W) (hr : FRow W b11 vw g.2.1 g.2.2.1 g.2.2.2 f)
    (own : w8.ownsRow (b11 + 1) 58 2 (.slice (some ⟨g8, 0, none⟩) (gs.length + 1) cap8) (gs.length + 1) (gcells gs ++ gtc g)) (grow : W.grownBy w8 vl.ownBlock) :
    GSt wb w8 b11 (.slice (some ⟨g8, 0, none⟩) (gs.length + 1) cap8) (gs ++ [g]) (fun j => if j = gs.length then f else R j) vw xs L := by
  have k := h.keep hW
  have hf : ∀ b, b < W.heap.size → (∃ cur, W.heap[b]? = some (.cells cur 3)) → w8.heap[b]? = W.heap[b]? := fun b hb ⟨cur, hc⟩ => grow.block b hb (fun e => by
    obtain ⟨_, _, c, hc'⟩ := own_kind k.ol b e.symm
    rw [hc] at hc'
    injection hc' with e1; injection e1 with _ e2
    exact ty_ne e2)
  refine ⟨?_, h.hb, ?_, ?_, ?_, ?_⟩
  · exact Below.grown k.bl grow k.bl.size (fun b hb => by have := (own_kind k.ol b hb).1; have := h.hb; omega)
  · exact k.gb.block (grow.block _ k.gb.lt (fun e => by have := (own_kind k.ol _ e.symm).1; omega))
  · exact own_kept k.ow fun b hb => by
      obtain ⟨_, h2, c, h3⟩ := own_kind k.ow b hb
      exact hf b h2 ⟨c, h3⟩
  · rw [gcells_append, List.length_append]; exact own
  · intro j hj
    rw [List.length_append] at hj
    rcases Nat.lt_or_ge j gs.length with a | a
    · rw [getg_lt a, if_neg (by omega)]
      exact (k.rows j a).kept (fun b _ hl hc hv => ⟨hf b hl hc, hv⟩) grow.size
    · obtain rfl : j = gs.length := by have : j < gs.length + 1 := hj; omega
      rw [getg_eq, if_pos rfl]
      exact hr.kept (fun b _ hl hc hv => ⟨hf b hl hc, hv⟩) grow.size
/-- One more name of the gate in the box. -/
theorem GSt.addw {wb wr W w8 : World} {b11 g8 cap8 Hn : Nat} {vl vw : Value} {gs : List Gt} {R : Nat → Nat → Int} {xs : List Int} {L x : Int} (h : GSt wb wr b11 vl gs R vw xs L) (hW : Below wr.heap.size wr W)
    (own : w8.ownsRow (b11 + 1) 3 1 (.slice (some ⟨g8, 0, none⟩) (xs.length + 1) cap8) (xs.length + 1) (xs.map (Value.int .i64 ·) ++ [.int .i64 x])) (grow : W.grownBy w8 vw.ownBlock) (hat : vw.ownBlock = some g8 ∨ g8 = Hn) (hH : W.heap.size = Hn) :
    GSt wb (w8.setCell ⟨b11, 1, none⟩ (.slice (some ⟨g8, 0, none⟩) (xs.length + 1) cap8)) b11 vl gs R (.slice (some ⟨g8, 0, none⟩) (xs.length + 1) cap8) (xs ++ [x]) L := by
  have k := h.keep hW
  have hg8 : b11 + 1 ≤ g8 := (own_kind own g8 rfl).1
  have hb8 : w8.heap[b11]? = W.heap[b11]? := grow.block _ k.gb.lt (fun e => by have := (own_kind k.ow _ e.symm).1; omega)
  have hs : ∀ b, b ≠ b11 → (w8.setCell ⟨b11, 1, none⟩ (.slice (some ⟨g8, 0, none⟩) (xs.length + 1) cap8)).heap[b]? = w8.heap[b]? := fun b hb => heap_setCell_other w8 ⟨b11, 1, none⟩ b _ hb
  refine ⟨?_, h.hb, ?_, ?_, ?_, ?_⟩
  · exact (Below.grown k.bl grow k.bl.size (fun b hb => by have := (own_kind k.ow b hb).1; have := h.hb; omega)).setCell (p := ⟨b11, 1, none⟩) h.hb _
  · exact (k.gb.block hb8).set1 _
  · exact own_kept (OwnL.push own) fun b hb => hs b (by have := (own_kind own b hb).1; omega)
  · refine own_kept k.ol fun b hb => ?_
    obtain ⟨h1, h2, c, h3⟩ := own_kind k.ol b hb
    rw [hs b (by omega)]
    exact grow.block b h2 (fun e => by
      obtain ⟨_, _, c', hc'⟩ := own_kind k.ow b e.symm
      rw [h3] at hc'
      injection hc' with e1; injection e1 with _ e2
      exact ty_ne e2.symm)
  · intro j hj
    refine (k.rows j hj).kept (fun b hb hl hc hv => ⟨?_, ?_⟩) (Nat.le_trans grow.size ((Below.refl b11 w8).setCell (p := ⟨b11, 1, none⟩) (Nat.le_refl _) _).size)
    · rw [hs b (by omega)]
      exact grow.block b hl (fun e => hv e.symm)
    · intro e
      have e2 : g8 = b := Option.some.inj e
      rcases hat with e3 | e3
      · rw [e2] at e3; exact hv e3
      · omega
/-- It asks for one more. -/
theorem GSt.asks {wb wr : World} {b11 : Nat} {vl vw : Value} {gs : List Gt} {R : Nat → Nat → Int} {xs : List Int} {L : Int} (h : GSt wb wr b11 vl gs R vw xs L) (M : Int) : GSt wb (wr.setCell ⟨b11, 0, none⟩ (.int .i64 M)) b11 vl gs R vw xs M := by
  have hs : ∀ b, b ≠ b11 → (wr.setCell ⟨b11, 0, none⟩ (.int .i64 M)).heap[b]? = wr.heap[b]? := fun b hb => heap_setCell_other wr ⟨b11, 0, none⟩ b _ hb
  refine ⟨h.bl.setCell (p := ⟨b11, 0, none⟩) h.hb _, h.hb, h.gb.set0 M, own_kept h.ow fun b hb => hs b (by have := (own_kind h.ow b hb).1; omega), own_kept h.ol fun b hb => hs b (by have := (own_kind h.ol b hb).1; omega), fun j hj => (h.rows j hj).kept (fun b hb _ _ hv => ⟨hs b (by omega), hv⟩) ((Below.refl b11 wr).setCell (p := ⟨b11, 0, none⟩) (Nat.le_refl _) _).size⟩
theorem IRow.congr' {w : World} {a : Option Addr} {n c : Nat} {f g : Nat → Int} (h : IRow w a n c f) (e : ∀ j, j < n → f j = g j) : IRow w a n c g := by
  obtain ⟨h1, h2, h3⟩ := h
  refine ⟨h1, h2, fun hn => ?_⟩
  obtain ⟨b, o, e1, hlt, hc⟩ := h3 hn
  exact ⟨b, o, e1, hlt, fun j hj => by rw [← e j hj]; exact hc j hj⟩
/-- Gates that are made are gates. -/
theorem grow_of {w : World} {B g N cap : Nat} {gs : List Gt} {R : Nat → Nat → Int} {G : Rsk.Gs} (own : w.ownsRow B 58 2 (.slice (some ⟨g, 0, none⟩) N cap) N (gcells gs)) (hl : gs.length = N) (rows : ∀ j, j < N → IRow w (gs[j]!).2.1 (gs[j]!).2.2.1 (gs[j]!).2.2.2 (R j))
    (e : ∀ j, j < N → (gs[j]!).1 = G.L j ∧ (gs[j]!).2.2.1 = G.C j ∧ ∀ k, k < (gs[j]!).2.2.1 → R j k = G.R j k) : GRow w (some ⟨g, 0, none⟩) N cap G (fun j => ((gs[j]!).2.1, (gs[j]!).2.2.2)) := by
  obtain ⟨h1, ⟨h2, _⟩ | ⟨g', cap', cur, e1, hb, hh, h3, h4, h5, h6⟩⟩ := own
  · cases h2
  · injection e1 with e2 e3 e4
    injection e2 with e2
    injection e2 with e2
    subst e2 e4
    refine ⟨h3, by unfold maxLen at h4; exact h4, fun i hi => ?_, fun _ => ⟨g, 0, rfl, (Array.getElem?_eq_some_iff.1 hh).1, fun i hi => ?_⟩⟩
    · obtain ⟨-, b, c⟩ := e i hi
      have := (rows i hi).congr' c
      rw [b] at this
      exact this
    · obtain ⟨a, b, -⟩ := e i hi
      have c : ∀ k, k < 2 → cur[i * 2 + k]? = (gtc (gs[i]!))[k]? := fun k hk => by
        rw [← gcells_get gs i k (by omega) hk, ← h6, List.getElem?_take_of_lt (by omega)]
        simp
      have c0 := c 0 (by decide)
      have c1 := c 1 (by decide)
      simp only [World.cell?, hh, Nat.zero_add]
      rw [← a, ← b]
      exact ⟨c0, c1⟩
end Go.Proofs.YtpopcfclpemlaaaDoor
