/- Operations in any order, by states; what Means holds. -/
import Derived.Test.YtdaejkngmckmdaaGreatDoorN16
namespace Go.Proofs.YtdaejkngmckmdaaGreatDoor
open Go.RowKit Go.Sort Go.Shelf

/-- A region walked by states: wherever it isn't at an end, each operation that is ready leads on. -/
theorem walk_any {P : Program} {ops : Array Oper} {Q : Exit → Act → World → Prop} {C : World → Prop} {md : Region.Mode} {S : Type} (mk : S → Array Bool) (fuel : S → Nat) (fin : S → Bool) (next : S → Nat → Option S) (I : S → Act → World → Prop)
    (hne : ∀ s, fin s = false → (Region.ready md ops (mk s)).isEmpty = false)
    (hck : ∀ s, fin s = false → (Region.ready md ops (mk s)).all (fun i => match next s i with | some s' => ((mk s).setIfInBounds i true == mk s') && (fuel s == fuel s' + 1) | none => false) = true)
    (hst : ∀ s i s', next s i = some s' → ∀ a w, I s a w → wpOp P ops Q i (fun a' w' => C w' ∧ I s' a' w') a w)
    (hf : ∀ s, fin s = true → ∀ a w, I s a w → wpHold P md ops Q C (fuel s) (mk s) a w) :
    ∀ n s, fuel s = n → ∀ a w, I s a w → wpHold P md ops Q C n (mk s) a w := by
  have hr : ∀ s, fin s = false → ∀ i ∈ Region.ready md ops (mk s), ∃ s', (mk s).setIfInBounds i true = mk s' ∧ fuel s = fuel s' + 1 ∧ ∀ a w, I s a w → wpOp P ops Q i (fun a' w' => C w' ∧ I s' a' w') a w := fun s e i hi => by
    have hk := List.all_eq_true.1 (hck s e) i hi
    cases en : next s i with
    | none => rw [en] at hk; cases hk
    | some s' =>
      rw [en] at hk
      simp only [Bool.and_eq_true, beq_iff_eq] at hk
      exact ⟨s', hk.1, hk.2, hst s i s' en⟩
  intro n
  induction n with
  | zero =>
    intro s hs a w h
    cases e : fin s with
    | true => rw [← hs]; exact hf s e a w h
    | false =>
      have hn := hne s e
      cases el : Region.ready md ops (mk s) with
      | nil => rw [el] at hn; cases hn
      | cons i r =>
        obtain ⟨s', _, h2, _⟩ := hr s e i (by rw [el]; exact List.mem_cons_self ..)
        omega
  | succ n ih =>
    intro s hs a w h
    cases e : fin s with
    | true => rw [← hs]; exact hf s e a w h
    | false =>
      have hn := hne s e
      refine ⟨fun e' => (by rw [e'] at hn; cases hn), fun i hi => ?_⟩
      obtain ⟨s', h1, h2, h3⟩ := hr s e i hi
      exact wpOp_mono (fun a' w' h' => ⟨h'.1, by rw [h1]; exact ih s' (by omega) a' w' h'.2⟩) (h3 a w h)

theorem noWordM {s : Bool} {a1 a2 a3 a4 : Option Addr} {n1 c1 n2 c2 n3 c3 n4 c4 : Nat} {T : TypeId} : NoWord (.cells #[.bool s, .slice a1 n1 c1, .slice a2 n2 c2, .slice a3 n3 c3, .slice a4 n4 c4] T) := by
  intro cs T' fr' e j x
  injection e with e
  subst e
  intro hx
  match j with
  | 0 => simp at hx
  | 1 => simp at hx
  | 2 => simp at hx
  | 3 => simp at hx
  | 4 => simp at hx
  | j + 5 => simp at hx

/-- A row of the call's own, where another row is written. -/
theorem SumsAt.apart' {w wr : World} {g g2 : Nat} {us us2 : List Tri} {qs : List Rat} {T : TypeId} (h : SumsAt w wr g us qs) (hg : wr.heap[g2]? = some (.cells (tcells us2).toArray T)) (hne : g ≠ g2) (hge : w.heap.size ≤ g2) (i0 i1 i2 : Nat) (x0 x1 x2 : Value) :
    SumsAt w (((wr.setCell ⟨g2, i0, none⟩ x0).setCell ⟨g2, i1, none⟩ x1).setCell ⟨g2, i2, none⟩ x2) g us qs :=
  ⟨by rw [Below.heap_setCell _ _ _ _ hne, Below.heap_setCell _ _ _ _ hne, Below.heap_setCell _ _ _ _ hne]; exact h.row, h.len, fun j hj => (h.rat j hj).rowed hg _ _ _ _ _ _, ((h.bl.setCell hge _).setCell hge _).setCell hge _, h.gl⟩
/-- What Means holds: the times' row, the numbers' row, and the box of all. -/
structure MeanS (w wr : World) (bm gT gN br n : Nat) (ut un : List Tri) (tq nq : List Rat) (t : Tri) (oq : Rat) : Prop where
  T : SumsAt w wr gT ut tq
  N : SumsAt w wr gN un nq
  M : wr.heap[bm]? = some (.cells #[.bool t.s, .slice t.a1 t.n1 t.c1, .slice t.a2 t.n2 t.c2, .slice (some ⟨gT, 0, none⟩) n n, .slice (some ⟨gN, 0, none⟩) n n] 51)
  O : RatIs wr t.val oq
  R : wr.heap[br]? = some (.cells #[.bool false, .slice none 0 0, .slice none 0 0, .slice none 0 0, .slice none 0 0] 51)
  ne : gT ≠ gN
  nb : br ≠ bm
  gm : w.heap.size ≤ bm
  gr : w.heap.size ≤ br
section
variable {w wr : World} {bm gT gN br n : Nat} {ut un : List Tri} {tq nq : List Rat} {t : Tri} {oq : Rat}
theorem mean_ne {b g : Nat} {us : List Tri} {cs : Array Value} (h1 : wr.heap[b]? = some (.cells cs 51)) (h2 : wr.heap[g]? = some (.cells (tcells us).toArray 39)) : b ≠ g := fun e => by
  rw [e, h2] at h1
  injection h1 with h1
  injection h1 with _ h1
  exact absurd h1 (by decide)
theorem MeanS.keep {w' : World} (h : MeanS w wr bm gT gN br n ut un tq nq t oq) (hb : Below wr.heap.size wr w') : MeanS w w' bm gT gN br n ut un tq nq t oq :=
  ⟨h.T.keep hb, h.N.keep hb, heap_kept h.M hb, h.O.below hb, heap_kept h.R hb, h.ne, h.nb, h.gm, h.gr⟩
theorem MeanS.setT (h : MeanS w wr bm gT gN br n ut un tq nq t oq) (j : Nat) (hj : j < ut.length) (u : Tri) (q : Rat) (hr : RatIs wr u.val q) : MeanS w (((wr.setCell ⟨gT, j * 3, none⟩ (.bool u.s)).setCell ⟨gT, j * 3 + 1, none⟩ (.slice u.a1 u.n1 u.c1)).setCell ⟨gT, j * 3 + 2, none⟩ (.slice u.a2 u.n2 u.c2)) bm gT gN br n (ut.set j u) un (tq.set j q) nq t oq := by
  have far : ∀ g, g ≠ gT → (((wr.setCell ⟨gT, j * 3, none⟩ (.bool u.s)).setCell ⟨gT, j * 3 + 1, none⟩ (.slice u.a1 u.n1 u.c1)).setCell ⟨gT, j * 3 + 2, none⟩ (.slice u.a2 u.n2 u.c2)).heap[g]? = wr.heap[g]? := fun g hg => by rw [Below.heap_setCell _ _ _ _ hg, Below.heap_setCell _ _ _ _ hg, Below.heap_setCell _ _ _ _ hg]
  exact ⟨h.T.set j hj u q hr, h.N.apart' h.T.row (Ne.symm h.ne) h.T.gl _ _ _ _ _ _, by rw [far _ (mean_ne h.M h.T.row)]; exact h.M, h.O.rowed h.T.row _ _ _ _ _ _, by rw [far _ (mean_ne h.R h.T.row)]; exact h.R, h.ne, h.nb, h.gm, h.gr⟩
theorem MeanS.setN (h : MeanS w wr bm gT gN br n ut un tq nq t oq) (j : Nat) (hj : j < un.length) (u : Tri) (q : Rat) (hr : RatIs wr u.val q) : MeanS w (((wr.setCell ⟨gN, j * 3, none⟩ (.bool u.s)).setCell ⟨gN, j * 3 + 1, none⟩ (.slice u.a1 u.n1 u.c1)).setCell ⟨gN, j * 3 + 2, none⟩ (.slice u.a2 u.n2 u.c2)) bm gT gN br n ut (un.set j u) tq (nq.set j q) t oq := by
  have far : ∀ g, g ≠ gN → (((wr.setCell ⟨gN, j * 3, none⟩ (.bool u.s)).setCell ⟨gN, j * 3 + 1, none⟩ (.slice u.a1 u.n1 u.c1)).setCell ⟨gN, j * 3 + 2, none⟩ (.slice u.a2 u.n2 u.c2)).heap[g]? = wr.heap[g]? := fun g hg => by rw [Below.heap_setCell _ _ _ _ hg, Below.heap_setCell _ _ _ _ hg, Below.heap_setCell _ _ _ _ hg]
  exact ⟨h.T.apart' h.N.row h.ne h.N.gl _ _ _ _ _ _, h.N.set j hj u q hr, by rw [far _ (mean_ne h.M h.N.row)]; exact h.M, h.O.rowed h.N.row _ _ _ _ _ _, by rw [far _ (mean_ne h.R h.N.row)]; exact h.R, h.ne, h.nb, h.gm, h.gr⟩
theorem MeanS.setO (h : MeanS w wr bm gT gN br n ut un tq nq t oq) (u : Tri) (q : Rat) (hr : RatIs wr u.val q) : MeanS w (((wr.setCell ⟨bm, 0, none⟩ (.bool u.s)).setCell ⟨bm, 1, none⟩ (.slice u.a1 u.n1 u.c1)).setCell ⟨bm, 2, none⟩ (.slice u.a2 u.n2 u.c2)) bm gT gN br n ut un tq nq u q := by
  have far : ∀ g, g ≠ bm → (((wr.setCell ⟨bm, 0, none⟩ (.bool u.s)).setCell ⟨bm, 1, none⟩ (.slice u.a1 u.n1 u.c1)).setCell ⟨bm, 2, none⟩ (.slice u.a2 u.n2 u.c2)).heap[g]? = wr.heap[g]? := fun g hg => by rw [Below.heap_setCell _ _ _ _ hg, Below.heap_setCell _ _ _ _ hg, Below.heap_setCell _ _ _ _ hg]
  have keep : ∀ {v : Value} {q : Rat}, RatIs wr v q → RatIs (((wr.setCell ⟨bm, 0, none⟩ (.bool u.s)).setCell ⟨bm, 1, none⟩ (.slice u.a1 u.n1 u.c1)).setCell ⟨bm, 2, none⟩ (.slice u.a2 u.n2 u.c2)) v q := fun {v q} hq => hq.other h.M noWordM (by simp [World.setCell]) (fun k hk => far k hk)
  have bl := ((h.T.bl.setCell (p := ⟨bm, 0, none⟩) h.gm (.bool u.s)).setCell (p := ⟨bm, 1, none⟩) h.gm (.slice u.a1 u.n1 u.c1)).setCell (p := ⟨bm, 2, none⟩) h.gm (.slice u.a2 u.n2 u.c2)
  refine ⟨⟨by rw [far _ (Ne.symm (mean_ne h.M h.T.row))]; exact h.T.row, h.T.len, fun j hj => keep (h.T.rat j hj), bl, h.T.gl⟩, ⟨by rw [far _ (Ne.symm (mean_ne h.M h.N.row))]; exact h.N.row, h.N.len, fun j hj => keep (h.N.rat j hj), bl, h.N.gl⟩, ?_, keep hr, by rw [far _ h.nb]; exact h.R, h.ne, h.nb, h.gm, h.gr⟩
  have hM := h.M
  rw [setCell_eq, setCell_eq, setCell_eq]
  simp [mapBlock, Array.getElem?_modify, hM, onCells]
theorem MeanS.kM (h : MeanS w wr bm gT gN br n ut un tq nq t oq) : ∀ W, Below wr.heap.size wr W → (W.cell? ⟨bm, 0, none⟩ = some (.bool t.s) ∧ W.cell? ⟨bm, 1, none⟩ = some (.slice t.a1 t.n1 t.c1) ∧ W.cell? ⟨bm, 2, none⟩ = some (.slice t.a2 t.n2 t.c2)) ∧ W.cell? ⟨bm, 3, none⟩ = some (.slice (some ⟨gT, 0, none⟩) n n) ∧ W.cell? ⟨bm, 4, none⟩ = some (.slice (some ⟨gN, 0, none⟩) n n) := fun W hW => by
  have h' := heap_kept h.M hW
  simp [World.cell?, h']
theorem MeanS.fM (h : MeanS w wr bm gT gN br n ut un tq nq t oq) : wr.frozen? ⟨bm, 0, none⟩ = false ∧ wr.frozen? ⟨bm, 1, none⟩ = false ∧ wr.frozen? ⟨bm, 2, none⟩ = false := by
  have h' := h.M
  simp [World.frozen?, h']
end

/-- How many, how long, how often: how great. -/
theorem hh_RS {d : Nat → Rat} {N : Nat} (h : ∀ i, i < N → RS (d i) (XB + 1)) (hN : N ≤ 5) {p i : Nat} (hp : p ≤ N) (hi : i < N) : ∀ n, n ≤ 8 → RS (Net.hh d p i n) (n * 4100000000 + 1)
  | 0, _ => RS.zero
  | n + 1, hn => by
    have XBe : XB = 4000000 := rfl
    exact RS.mono ((h i hi).mul ((bz_small h hN hp (by omega)).add (hh_RS h hN hp hi n (by omega)))) (by omega)
theorem num_RS {d : Nat → Rat} {N : Nat} (h : ∀ i, i < N → RS (d i) (XB + 1)) (hN : N ≤ 5) {p n i : Nat} (hp : p ≤ N) (hn : n ≤ 7) (hz : Net.bz d p n ≠ 0) (hi : i < N) : RS (Net.num d p n i) 35000000000 :=
  ((hh_RS h hN hp hi n (by omega)).div' (bz_small h hN hp hn) (fun x => hz (Rat.num_eq_zero.1 x))).mono (by omega)
theorem tim_RS {d : Nat → Rat} {N : Nat} (h : ∀ i, i < N → RS (d i) (XB + 1)) (hN : N ≤ 5) {p n i : Nat} (hp : p ≤ N) (hn : n ≤ 6) (hz : Net.bz d p n ≠ 0) (hi : i < N) : RS (Net.tim d p n i) 35000000000 :=
  ((hh_RS h hN hp hi (n + 1) (by omega)).div' (bz_small h hN hp (by omega)) (fun x => hz (Rat.num_eq_zero.1 x))).mono (by omega)
theorem oft_RS {d : Nat → Rat} {N : Nat} (h : ∀ i, i < N → RS (d i) (XB + 1)) (hN : N ≤ 5) {p n : Nat} (hp : p ≤ N) (hn : n ≤ 6) (hz : Net.bz d p (n + 1) ≠ 0) : RS (Net.oft d p n) 8000000000 :=
  ((bz_small h hN hp (by omega)).div' (bz_small h hN hp (by omega)) (fun x => hz (Rat.num_eq_zero.1 x))).mono (by omega)
end Go.Proofs.YtdaejkngmckmdaaGreatDoor
