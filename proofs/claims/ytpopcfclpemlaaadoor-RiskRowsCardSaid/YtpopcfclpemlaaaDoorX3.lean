/- Rows of fractions of the call's own that grow, side by side. -/
import Derived.Test.YtpopcfclpemlaaaDoorX1
namespace Go.Proofs.YtpopcfclpemlaaaDoor
open Go.RowKit Go.Sort Go.Shelf

/-- append at the operation itself. -/
theorem wp_append_tri {P : Program} (w : World) {o : Oper} {a : Act} {K : Act → World → Prop} {Q : Exit → Act → World → Prop} (s x : Operand) (t : TypeId)
    (ho : o.op = .call { callee := .builtin .append, args := #[s, x], argTypes := #[t, t] })
    (base : Nat) (e : TypeId) (i : TypeInfo) (bytes : Nat) (ht : P.underlying t = some (.slice e)) (hi : P.info? e = some i) (hz : i.zero = some (.agg zR))
    (hsize : i.size = 3) (hby : i.bytes = bytes)
    (v : Value) (n : Nat) (xs : List Value) (hs : a.eval s = v) (hown : w.ownsRow base e 3 v n xs) (hno : ∀ g, v.ownBlock = some g → Wordless w g)
    (ad : Addr) (m c : Nat) (news : List Value) (hx : a.eval x = .slice (some ad) m c) (hl : news.length = m * 3) (hnews : ∀ j u, news[j]? = some u → w.cell? (ad.add j) = some u) (h1 : ∀ u ∈ news, u.oneCell' = true) (h1w : ∀ u ∈ news, Go.Proofs.YtpopcfclpemlaaaDoor.notWord u)
    (hm : 0 < m) (h63 : n + m ≤ maxLen) (hbytes : (n + m) * bytes ≤ 140737488355328) (hbase : base ≤ w.heap.size) (H : Nat) (hH : w.heap.size = H)
    (h : ∀ g cap w', w'.ownsRow base e 3 (.slice (some ⟨g, 0, none⟩) (n + m) cap) (n + m) (xs ++ news) → w.grownBy w' v.ownBlock → (v.ownBlock = some g ∨ g = H) → g < w'.heap.size → Wordless w' g → K (a.put o.dst (.slice (some ⟨g, 0, none⟩) (n + m) cap)) w') : o.wp P a w K Q := by
  obtain ⟨g, cap, w', hr, h2, h3, h4, h5⟩ := run_append_lies (P := P) w t o.type base e i _ 3 bytes ht hi hz hsize hby (by decide) (by omega) v n xs hown ad m c news hl hnews h1 hm h63 hbytes hbase H hH
  have h6 := append_wordless ht hi hz hsize hby hown hno hl hnews h1 h1w hm h63 hbytes hr
  unfold Oper.wp execOp
  simp only [ho, resolve, invoke, builtin, Sem.run_bind, Sem.run_pure, Result.andThen_ok, List.map_toArray, List.map_cons, List.map_nil, hs, hx, hr]
  exact h g cap w' h2 h3 h4 h5 h6

/-- A row that grows: its fractions. -/
structure RowAt (wr : World) (B : Nat) (v : Value) (ts : List Tri) (qs : List Rat) : Prop where
  own : wr.ownsRow B 31 3 v ts.length (tcells ts)
  no : ∀ g, v.ownBlock = some g → Wordless wr g
  rat : ∀ j, j < ts.length → RatIs wr (ts[j]!).val qs[j]!
  len : ts.length = qs.length

theorem RowAt.nil (wr : World) (B : Nat) : RowAt wr B (.slice none 0 0) [] [] :=
  ⟨World.ownsRow_nil _ _ _ _, fun _ h => (by cases h), fun _ h => absurd h (Nat.not_lt_zero _), rfl⟩

theorem RowAt.block {wr : World} {B : Nat} {v : Value} {ts : List Tri} {qs : List Rat} (h : RowAt wr B v ts qs) : ∀ g, v.ownBlock = some g → B ≤ g ∧ g < wr.heap.size := ownsR_block h.own

theorem RowAt.keep {wr w' : World} {B : Nat} {v : Value} {ts : List Tri} {qs : List Rat} (h : RowAt wr B v ts qs) (hb : Below wr.heap.size wr w') : RowAt w' B v ts qs :=
  ⟨ownsR_kept h.own (fun k o _ ho => by rw [hb.block k (Array.getElem?_eq_some_iff.1 ho).1]; exact ho), fun g hg => (h.no g hg).below (h.block g hg).2 hb, fun j hj => (h.rat j hj).below hb, h.len⟩

/-- Another block grows or changes that holds no words: the row is as it was. -/
theorem RowAt.far {wr w' : World} {B : Nat} {v : Value} {ts : List Tri} {qs : List Rat} {row : Option Nat} (h : RowAt wr B v ts qs) (hg : wr.grownBy w' row) (hno : ∀ g, row = some g → Wordless wr g) (hne : ∀ g, v.ownBlock = some g → row ≠ some g) : RowAt w' B v ts qs := by
  refine ⟨?_, fun g hb => ?_, fun j hj => (h.rat j hj).far hg hno, h.len⟩
  · rcases h.own.2 with ⟨rfl, h0⟩ | ⟨g, cap, cur, rfl, hb, hgk, h1, h2, h3, h4⟩
    · exact ⟨h.own.1, Or.inl ⟨rfl, h0⟩⟩
    · refine ⟨h.own.1, Or.inr ⟨g, cap, cur, rfl, hb, ?_, h1, h2, h3, h4⟩⟩
      rw [hg.block g (Array.getElem?_eq_some_iff.1 hgk).1 (fun e => hne g rfl e.symm)]
      exact hgk
  · intro i k x hc
    have hlt := (h.block g hb).2
    have e : w'.heap[g]? = wr.heap[g]? := hg.block g hlt (fun e => hne g hb e.symm)
    exact h.no g hb i k x (by rw [← World.cell?_of_block (w := wr) (w' := w') (a := ⟨g, i, none⟩) e]; exact hc)

theorem BoxIs.far {wr w' : World} {b : Nat} {t : Tri} {q : Rat} {row : Option Nat} (h : BoxIs wr b t q) (hg : wr.grownBy w' row) (hno : ∀ g, row = some g → Wordless wr g) (hne : row ≠ some b) : BoxIs w' b t q :=
  ⟨by rw [hg.block b h.lt (fun e => hne e.symm)]; exact h.1, h.2.far hg hno⟩

/-- One more. -/
theorem RowAt.push {wr w' : World} {B g cap : Nat} {v : Value} {ts : List Tri} {qs : List Rat} {t : Tri} {q : Rat} (h : RowAt wr B v ts qs) (ht : RatIs wr t.val q)
    (own : w'.ownsRow B 31 3 (.slice (some ⟨g, 0, none⟩) (ts.length + 1) cap) (ts.length + 1) (tcells ts ++ t.cells)) (hg : wr.grownBy w' v.ownBlock) (hn : Wordless w' g) :
    RowAt w' B (.slice (some ⟨g, 0, none⟩) (ts.length + 1) cap) (ts ++ [t]) (qs ++ [q]) := by
  have hl := h.len
  refine ⟨?_, fun g' e => ?_, fun j hj => ?_, by simp [hl]⟩
  · rw [List.length_append, tcells_append]; exact own
  · have e' : g = g' := by simpa [Value.ownBlock] using e
    rw [← e']; exact hn
  · rw [List.length_append, List.length_singleton] at hj
    rcases Nat.lt_or_ge j ts.length with h' | h'
    · have e1 : (ts ++ [t])[j]! = ts[j]! := by simp [h', List.getElem?_append_left h']
      have e2 : (qs ++ [q])[j]! = qs[j]! := by simp [show j < qs.length by omega, List.getElem?_append_left (show j < qs.length by omega)]
      rw [e1, e2]
      exact (h.rat j h').far hg h.no
    · obtain rfl : j = ts.length := by omega
      have e1 : (ts ++ [t])[ts.length]! = t := by simp
      have e2 : (qs ++ [q])[ts.length]! = q := by rw [hl]; simp
      rw [e1, e2]
      exact ht.far hg h.no

/-- Such a row is a law. -/
theorem RowAt.law {wr : World} {B : Nat} {v : Value} {ts : List Tri} {qs : List Rat} (h : RowAt wr B v ts qs) : LawIs wr v qs := law_of_owns h.own h.len h.rat

/-- The cells of one that is read. -/
theorem RowAt.cells {wr : World} {B g cap : Nat} {ts : List Tri} {qs : List Rat} {n : Nat} (h : RowAt wr B (.slice (some ⟨g, 0, none⟩) n cap) ts qs) {j : Nat} (hj : j < ts.length) :
    ∀ W, Below wr.heap.size wr W → W.cell? ⟨g, j * 3, none⟩ = some (.bool (ts[j]!).s) ∧ W.cell? ⟨g, j * 3 + 1, none⟩ = some (.slice (ts[j]!).a1 (ts[j]!).n1 (ts[j]!).c1) ∧ W.cell? ⟨g, j * 3 + 2, none⟩ = some (.slice (ts[j]!).a2 (ts[j]!).n2 (ts[j]!).c2) := fun W hW => by
  rcases h.own.2 with ⟨e, _⟩ | ⟨g', cap', cur, e, hb, hgk, h1, h2, h3, h4⟩
  · cases e
  · injection e with e1 e2 e3
    injection e1 with e1
    injection e1 with e1
    subst e1
    have hlt := (Array.getElem?_eq_some_iff.1 hgk).1
    have ck : ∀ k, k < 3 → W.cell? ⟨g, j * 3 + k, none⟩ = (ts[j]!).cells[k]? := fun k hk => by
      rw [hW.cell (p := ⟨g, j * 3 + k, none⟩) hlt]
      simp only [World.cell?, hgk]
      have e := tcells_get ts j k hj hk
      rw [← e, ← h4, List.getElem?_take_of_lt (by omega)]
      simp
    exact ⟨ck 0 (by decide), ck 1 (by decide), ck 2 (by decide)⟩
end Go.Proofs.YtpopcfclpemlaaaDoor
