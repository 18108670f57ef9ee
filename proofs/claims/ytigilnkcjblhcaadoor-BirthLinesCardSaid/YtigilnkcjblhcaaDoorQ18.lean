/- Kinds appended to a row of the call's own; plain.Kinds. -/
import Derived.Test.YtigilnkcjblhcaaDoorQ17
namespace Go.Proofs.YtigilnkcjblhcaaDoor
open Go.RowKit Go.Sort Go.Shelf

def Unword (w : World) (g : Nat) : Prop := ∀ i x, w.cell? ⟨g, i, none⟩ ≠ some (.int .u64 x)
def notU : Value → Prop | .int .u64 _ => False | _ => True
theorem unword_of {w : World} {g : Nat} {cs : Array Value} {T : TypeId} {fr : Nat × Nat} (h : w.heap[g]? = some (.cells cs T fr)) (hn : ∀ u ∈ cs, Go.Proofs.YtigilnkcjblhcaaDoor.notU u) : Unword w g := by
  intro i x e
  simp only [World.cell?, h] at e
  obtain ⟨_, e⟩ := Array.getElem?_eq_some_iff.1 (show cs[i]? = some _ from e)
  exact hn (.int .u64 x) (e ▸ Array.getElem_mem _)
def zK : Array Value := #[.bool false, .slice none 0 0, .slice none 0 0, .int .i64 0]
theorem zeroK_notU (n : Nat) : ∀ u ∈ Builtin.zeroCells zK n, Go.Proofs.YtigilnkcjblhcaaDoor.notU u := by
  intro u hu
  obtain ⟨i, _, rfl⟩ := Array.mem_map.1 hu
  have : i % zK.size < 4 := Nat.mod_lt _ (by decide)
  generalize i % zK.size = j at *
  match j, this with
  | 0, _ => trivial
  | 1, _ => trivial
  | 2, _ => trivial
  | 3, _ => trivial
theorem Unword.owned {w : World} {g : Nat} {cs : Array Value} {T : TypeId} {fr : Nat × Nat} (h : w.heap[g]? = some (.cells cs T fr)) (hn : Unword w g) : ∀ u ∈ cs, Go.Proofs.YtigilnkcjblhcaaDoor.notU u := by
  intro u hu
  obtain ⟨i, hi, rfl⟩ := Array.mem_iff_getElem.1 hu
  cases e : cs[i] with
  | int k x =>
    cases k with
    | u64 => exact (hn i x (by simp only [World.cell?, h]; rw [Array.getElem?_eq_getElem hi, e]; rfl)).elim
    | _ => trivial
  | _ => trivial

/-- append of some fractions (cells that are no words). -/
theorem append_unword {P : Program} {w w' : World} {t ty e : TypeId} {i : TypeInfo} {bytes base : Nat} (ht : P.underlying t = some (.slice e)) (hi : P.info? e = some i) (hz : i.zero = some (.agg zK)) (hsize : i.size = 4) (hby : i.bytes = bytes)
    {v : Value} {n : Nat} {xs : List Value} (hown : w.ownsRow base e 4 v n xs) (hno : ∀ g, v.ownBlock = some g → Unword w g)
    {ad : Addr} {m c : Nat} {news : List Value} (hl : news.length = m * 4) (hnews : ∀ j u, news[j]? = some u → w.cell? (ad.add j) = some u) (h1 : ∀ u ∈ news, u.oneCell' = true) (h1w : ∀ u ∈ news, Go.Proofs.YtigilnkcjblhcaaDoor.notU u)
    (hm : 0 < m) (h63 : n + m ≤ maxLen) (hbytes : (n + m) * bytes ≤ 140737488355328) {g cap : Nat}
    (hr : (Builtin.append_ #[t, t] ty #[v, .slice (some ad) m c]).run P w = .ok (.slice (some ⟨g, 0, none⟩) (n + m) cap) w') : Unword w' g := by
  have hmx : n + m ≤ 9223372036854775807 := h63
  subst hby
  have hzc : (Value.agg zK).cells = zK := by simp [Value.cells, zK]
  have inj : ∀ {v1 v2 : Value} {w1 w2 : World}, (Result.ok v1 w1 : Result Value) = .ok v2 w2 → v1 = v2 ∧ w1 = w2 := fun h => by cases h; exact ⟨rfl, rfl⟩
  rcases hown.2 with ⟨rfl, rfl⟩ | ⟨g', cap', cur, rfl, hbg, hg, hnc, hcm, hcs, htake⟩
  · have hq := run_append_nil (P := P) w t ty e i _ ht hi hz ad m c news (by rw [hsize]; exact hl) hnews (by omega) (by omega) (by have hb := hbytes; simp only [Nat.zero_add] at hb; omega)
    rw [hq] at hr
    obtain ⟨ev, rfl⟩ := inj hr
    have eg : w.heap.size = g := by injection ev with e1; injection e1 with e1; injection e1
    subst eg
    refine unword_of (heap_alloc_new w.drew _) fun u hu => ?_
    rcases Array.mem_append.1 hu with hu | hu
    · exact h1w u (by simpa using hu)
    · rw [hzc] at hu; exact zeroK_notU _ u hu
  · have hcur := Unword.owned hg (hno g' rfl)
    by_cases hroom : n + m ≤ cap'
    · have hfit : n * i.size + news.length ≤ cur.size := by rw [hl, hcs, hsize, ← Nat.add_mul]; exact Nat.mul_le_mul_right _ hroom
      have hq := run_append_room (P := P) w t ty e i ht hi g' n cap' cur hg ad m c news (by rw [hsize]; exact hl) hnews h1 hroom hfit
      rw [hq] at hr
      obtain ⟨ev, rfl⟩ := inj hr
      have eg : g' = g := by injection ev with e1; injection e1 with e1; injection e1
      subst eg
      refine unword_of (setRow_heap w _ cur _ e _ hg) fun u hu => ?_
      have hu : u ∈ cur.toList.take (n * i.size) ++ news ++ cur.toList.drop (n * i.size + news.length) := by simpa using hu
      rcases List.mem_append.1 hu with hu | hu
      · rcases List.mem_append.1 hu with hu | hu
        · exact hcur u (by simpa using List.mem_of_mem_take hu)
        · exact h1w u hu
      · exact hcur u (by simpa using List.mem_of_mem_drop hu)
    · have holds : ∀ j u, xs[j]? = some u → w.cell? ((⟨g', 0, none⟩ : Addr).add j) = some u := hown.cells (g := g') rfl
      have hq := run_append_grow (P := P) w t ty e i _ ht hi hz ⟨g', 0, none⟩ n cap' xs (by rw [hsize]; exact hown.1) holds ad m c news (by rw [hsize]; exact hl) hnews (by omega) (by omega) (growslice_fits (by omega) hbytes)
      rw [hq] at hr
      obtain ⟨ev, rfl⟩ := inj hr
      have eg : w.heap.size = g := by injection ev with e1; injection e1 with e1; injection e1
      subst eg
      refine unword_of (heap_alloc_new w.drew _) fun u hu => ?_
      rcases Array.mem_append.1 hu with hu | hu
      · rcases Array.mem_append.1 hu with hu | hu
        · refine hcur u ?_
          have hx : u ∈ xs := by simpa using hu
          rw [← htake] at hx
          simpa using List.mem_of_mem_take hx
        · exact h1w u (by simpa using hu)
      · rw [hzc] at hu; exact zeroK_notU _ u hu

theorem wpList_append_kind {P : Program} (w : World) {ops : Array Oper} {rest : List Oper} {o : Oper} {a : Act} {Q : Exit → Act → World → Prop} (hgd : o.guard = none) (s x : Operand) (t : TypeId)
    (ho : o.op = .call { callee := .builtin .append, args := #[s, x], argTypes := #[t, t] })
    (base : Nat) (e : TypeId) (i : TypeInfo) (bytes : Nat) (ht : P.underlying t = some (.slice e)) (hi : P.info? e = some i) (hz : i.zero = some (.agg zK))
    (hsize : i.size = 4) (hby : i.bytes = bytes)
    (v : Value) (n : Nat) (xs : List Value) (hs : a.eval s = v) (hown : w.ownsRow base e 4 v n xs) (hno : ∀ g, v.ownBlock = some g → Unword w g)
    (ad : Addr) (m c : Nat) (news : List Value) (hx : a.eval x = .slice (some ad) m c) (hl : news.length = m * 4) (hnews : ∀ j u, news[j]? = some u → w.cell? (ad.add j) = some u) (h1 : ∀ u ∈ news, u.oneCell' = true) (h1w : ∀ u ∈ news, Go.Proofs.YtigilnkcjblhcaaDoor.notU u)
    (hm : 0 < m) (h63 : n + m ≤ maxLen) (hbytes : (n + m) * bytes ≤ 140737488355328) (hbase : base ≤ w.heap.size) (H : Nat) (hH : w.heap.size = H)
    (h : ∀ g cap w', w'.ownsRow base e 4 (.slice (some ⟨g, 0, none⟩) (n + m) cap) (n + m) (xs ++ news) → w.grownBy w' v.ownBlock → (v.ownBlock = some g ∨ g = H) → g < w'.heap.size → Unword w' g → wpList P ops Q rest (a.put o.dst (.slice (some ⟨g, 0, none⟩) (n + m) cap)) w') : wpList P ops Q (o :: rest) a w := by
  refine wpList_plain hgd fun K hK => ?_
  obtain ⟨g, cap, w', hr, h2, h3, h4, h5⟩ := run_append_lies (P := P) w t o.type base e i _ 4 bytes ht hi hz hsize hby (by decide) (by omega) v n xs hown ad m c news hl hnews h1 hm h63 hbytes hbase H hH
  have h6 := append_unword ht hi hz hsize hby hown hno hl hnews h1 h1w hm h63 hbytes hr
  unfold Oper.wp execOp
  simp only [ho, resolve, invoke, builtin, Sem.run_bind, Sem.run_pure, Result.andThen_ok, List.map_toArray, List.map_cons, List.map_nil, hs, hx, hr]
  exact hK _ _ (h g cap w' h2 h3 h4 h5 h6)

/-- A number, a fraction: kept where no block but one without words changes. -/
theorem RowIs.farU {w w' : World} {a : Option Addr} {n c : Nat} {f : Nat → Int} {row : Option Nat} (h : RowIs w a n c f) (hg : w.grownBy w' row) (hno : ∀ g, row = some g → Unword w g) : RowIs w' a n c f := by
  obtain ⟨h1, h2, h3⟩ := h
  refine ⟨h1, h2, fun hp => ?_⟩
  obtain ⟨b, o, ea, hlt, hc⟩ := h3 hp
  refine ⟨b, o, ea, Nat.lt_of_lt_of_le hlt hg.size, fun j hj => ?_⟩
  rw [hg.cell_far ⟨b, o + j, none⟩ hlt ?_]
  · exact hc j hj
  · intro e
    exact hno b e.symm _ _ (hc j hj)
theorem NatIs.farU {w w' : World} {v : Value} {N : Int} {row : Option Nat} (h : NatIs w v N) (hg : w.grownBy w' row) (hno : ∀ g, row = some g → Unword w g) : NatIs w' v N := by
  obtain ⟨a, n, c, e, hl, hr⟩ := h
  exact ⟨a, n, c, e, hl, hr.farU hg hno⟩
theorem RatIs.farU {w w' : World} {v : Value} {q : Rat} {row : Option Nat} (h : RatIs w v q) (hg : w.grownBy w' row) (hno : ∀ g, row = some g → Unword w g) : RatIs w' v q := by
  obtain ⟨ov, un, e, h1, h2⟩ := h
  exact ⟨ov, un, e, h1.farU hg hno, h2.farU hg hno⟩
theorem Unword.below {w w' : World} {g : Nat} (h : Unword w g) (hlt : g < w.heap.size) (hb : Below w.heap.size w w') : Unword w' g := fun i x e => h i x (by rw [← hb.cell (p := ⟨g, i, none⟩) hlt]; exact e)

/-- A kind's cells. -/
def kc (p : Tri × Int) : List Value := p.1.cells ++ [.int .i64 p.2]
def kcells (ps : List (Tri × Int)) : List Value := ps.flatMap kc
theorem kcells_append (ps : List (Tri × Int)) (p : Tri × Int) : kcells (ps ++ [p]) = kcells ps ++ kc p := by simp [kcells]
theorem kcells_get (ps : List (Tri × Int)) (j k : Nat) (hj : j < ps.length) (hk : k < 4) : (kcells ps)[j * 4 + k]? = (kc (ps[j]!))[k]? := by
  induction ps generalizing j with
  | nil => simp at hj
  | cons t ts ih =>
    have e : kcells (t :: ts) = kc t ++ kcells ts := by simp [kcells]
    have hl : (kc t).length = 4 := rfl
    rw [e]
    cases j with
    | zero => rw [List.getElem?_append_left (by omega)]; simp
    | succ j =>
      rw [List.getElem?_append_right (by omega), hl, show (j + 1) * 4 + k - 4 = j * 4 + k by omega, ih j (by simpa using hj)]
      simp
theorem kc_one (p : Tri × Int) : ∀ u ∈ kc p, u.oneCell' = true := by
  intro u hu
  simp only [kc, Tri.cells, List.cons_append, List.nil_append, List.mem_cons, List.not_mem_nil, or_false] at hu
  rcases hu with rfl | rfl | rfl | rfl <;> rfl
theorem kc_notU (p : Tri × Int) : ∀ u ∈ kc p, notU u := by
  intro u hu
  simp only [kc, Tri.cells, List.cons_append, List.nil_append, List.mem_cons, List.not_mem_nil, or_false] at hu
  rcases hu with rfl | rfl | rfl | rfl <;> trivial
theorem news_kind (w : World) (p : Tri × Int) (T : TypeId) : ∀ j u, (kc p)[j]? = some u → (w.alloc (.cells #[.bool p.1.s, .slice p.1.a1 p.1.n1 p.1.c1, .slice p.1.a2 p.1.n2 p.1.c2, .int .i64 p.2] T)).cell? ((⟨w.heap.size, 0, none⟩ : Addr).add j) = some u :=
  World.news_of_block (cs := #[.bool p.1.s, .slice p.1.a1 p.1.n1 p.1.c1, .slice p.1.a2 p.1.n2 p.1.c2, .int .i64 p.2]) (t := T) (fr := (0, 0)) (heap_alloc_new w _)
/-- Rows of kinds of the call's own. -/
structure KsAt (w wr : World) (v : Value) (ps : List (Tri × Int)) (ks : List (Rat × Int)) : Prop where
  own : wr.ownsRow w.heap.size 56 4 v ps.length (kcells ps)
  no : ∀ g, v.ownBlock = some g → Unword wr g
  rat : ∀ j, j < ps.length → RatIs wr (ps[j]!).1.val (ks[j]!).1 ∧ (ps[j]!).2 = (ks[j]!).2
  bl : Below w.heap.size w wr
theorem ownsK_block {w : World} {B : Nat} {v : Value} {n : Nat} {xs : List Value} (h : w.ownsRow B 56 4 v n xs) : ∀ k, v.ownBlock = some k → B ≤ k ∧ k < w.heap.size := by
  intro k hk
  obtain ⟨h1, ⟨rfl, _⟩ | ⟨g, cap, cur, rfl, hb, hh, hr⟩⟩ := h
  · cases hk
  · have : g = k := Option.some.inj hk
    subst this
    exact ⟨hb, (Array.getElem?_eq_some_iff.1 hh).1⟩
theorem KsAt.keep {w wr w' : World} {v : Value} {ps : List (Tri × Int)} {ks : List (Rat × Int)} (h : KsAt w wr v ps ks) (hb : Below wr.heap.size wr w') : KsAt w w' v ps ks := by
  refine ⟨?_, fun g hg => (h.no g hg).below (ownsK_block h.own g hg).2 hb, fun j hj => ⟨(h.rat j hj).1.below hb, (h.rat j hj).2⟩, below_step h.bl hb⟩
  refine ⟨h.own.1, ?_⟩
  rcases h.own.2 with h2 | ⟨g, cap, cur, hv, hbg, hh, hr⟩
  · exact Or.inl h2
  · exact Or.inr ⟨g, cap, cur, hv, hbg, by rw [hb.block g (Array.getElem?_eq_some_iff.1 hh).1]; exact hh, hr⟩
theorem KsAt.start (w : World) (ks : List (Rat × Int)) : KsAt w w (.slice none 0 0) [] ks :=
  ⟨World.ownsRow_nil _ _ _ _, fun g hg => absurd (show (none : Option Nat) = some g from hg) (by simp), fun j hj => absurd hj (Nat.not_lt_zero _), Below.refl _ _⟩
theorem KsAt.push {w wr w' : World} {g cap : Nat} {v : Value} {ps : List (Tri × Int)} {p : Tri × Int} {ks : List (Rat × Int)} (h : KsAt w wr v ps ks) (hp : RatIs wr p.1.val (ks[ps.length]!).1 ∧ p.2 = (ks[ps.length]!).2)
    (own : w'.ownsRow w.heap.size 56 4 (.slice (some ⟨g, 0, none⟩) (ps.length + 1) cap) (ps.length + 1) (kcells ps ++ kc p)) (hg : wr.grownBy w' v.ownBlock) (hn : Unword w' g) : KsAt w w' (.slice (some ⟨g, 0, none⟩) (ps.length + 1) cap) (ps ++ [p]) ks := by
  refine ⟨by rw [kcells_append, List.length_append]; exact own, fun k hk => ?_, fun j hj => ?_, Below.grown h.bl hg h.bl.size (fun k hk => (ownsK_block h.own k hk).1)⟩
  · have : g = k := Option.some.inj hk
    rw [← this]; exact hn
  · rw [List.length_append] at hj
    by_cases hj2 : j < ps.length
    · have e : (ps ++ [p])[j]! = ps[j]! := by rw [List.getElem!_eq_getElem?_getD, List.getElem!_eq_getElem?_getD, List.getElem?_append_left hj2]
      rw [e]; exact ⟨(h.rat j hj2).1.farU hg h.no, (h.rat j hj2).2⟩
    · have e : j = ps.length := by simp at hj; omega
      subst e
      have e : (ps ++ [p])[ps.length]! = p := by rw [List.getElem!_eq_getElem?_getD, List.getElem?_append_right (Nat.le_refl _), Nat.sub_self]; rfl
      rw [e]; exact ⟨hp.1.farU hg h.no, hp.2⟩
theorem KsAt.kinds {w wr : World} {v : Value} {ps : List (Tri × Int)} {ks : List (Rat × Int)} (h : KsAt w wr v ps ks) (hl : ps.length = ks.length) : KindsAre wr v ks := by
  rcases h.own.2 with ⟨rfl, e⟩ | ⟨g, cap, cur, rfl, hb, hh, hc1, hc2, hs, ht⟩
  · exact ⟨none, 0, by rw [← hl, e], by omega, by decide, fun hp => by omega⟩
  · refine ⟨_, cap, by rw [hl], by omega, by unfold maxLen at hc2; exact hc2, fun _ => ⟨g, 0, rfl, (Array.getElem?_eq_some_iff.1 hh).1, fun j hj => ⟨(ps[j]!).1, ?_, (h.rat j (by omega)).1⟩⟩⟩
    have cellk : ∀ k, k < 4 → wr.cell? ⟨g, 0 + j * 4 + k, none⟩ = (kc (ps[j]!))[k]? := fun k hk => by
      simp only [World.cell?, hh, Nat.zero_add]
      have e : (cur.toList.take (ps.length * 4))[j * 4 + k]? = (kcells ps)[j * 4 + k]? := by rw [ht]
      rw [List.getElem?_take_of_lt (by omega), kcells_get ps j k (by omega) hk] at e
      simpa using e
    refine ⟨cellk 0 (by decide), cellk 1 (by decide), cellk 2 (by decide), ?_⟩
    rw [cellk 3 (by decide), ← (h.rat j (by omega)).2]
    rfl
theorem Tryd.infoK : (Tryd.prog.info? 56).map (fun i => (i.zero, i.size, i.bytes)) = some (some (.agg zK), 4, 64) := by kernel_rfl
end Go.Proofs.YtigilnkcjblhcaaDoor
