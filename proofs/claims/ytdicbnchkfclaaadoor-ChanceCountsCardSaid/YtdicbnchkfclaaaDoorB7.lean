/- Pairs of whole numbers made a row of fractions. -/
import Derived.Test.YtdicbnchkfclaaaDoorB6
import Derived.Test.YtdicbnchkfclaaaDoorB5
namespace Go.Proofs.YtdicbnchkfclaaaDoor
open Go.RowKit Go.Sort Go.Shelf

/-- The fraction of a pair. -/
def pq (p : Int × Int) : Rat := Rat.divInt p.1 (if p.2 = 0 then 1 else p.2)
def pqs (ps : List (Int × Int)) : List Rat := ps.map pq
theorem pqs_length (ps : List (Int × Int)) : (pqs ps).length = ps.length := by simp [pqs]
def I64 (x : Int) : Prop := -9223372036854775808 ≤ x ∧ x ≤ 9223372036854775807

theorem pq_RS {p : Int × Int} (h1 : I64 p.1) (h2 : I64 p.2) : RS (pq p) 1 := by
  obtain ⟨x, y⟩ := p
  unfold pq I64 at *
  have hy : (if y = 0 then 1 else y) ≠ 0 := by split <;> omega
  have hb : (if y = 0 then 1 else y).natAbs ≤ 9223372036854775808 := by split <;> omega
  have e := of_math (x := x) hy
  simp only at *
  rw [← e]
  have m := mkRat_bd (sn (decide (x < 0) != decide ((if y = 0 then 1 else y) < 0)) (x.natAbs : Int)) (if y = 0 then 1 else y).natAbs (by omega)
  rw [sn_abs, Int.natAbs_natCast] at m
  refine ⟨?_, ?_⟩
  · rw [Wd.pw_one]; omega
  · rw [Wd.pw_one]; omega

/-- A row of pairs in memory. -/
def PairsAre (w : World) (v : Value) (ps : List (Int × Int)) : Prop := ∃ (a : Option Addr) (c : Nat), v = .slice a ps.length c ∧ ps.length ≤ c ∧ c ≤ 9223372036854775807 ∧ (∀ j, j < ps.length → I64 (ps[j]!).1 ∧ I64 (ps[j]!).2) ∧
  (0 < ps.length → ∃ b o, a = some ⟨b, o, none⟩ ∧ b < w.heap.size ∧ ∀ j, j < ps.length → w.cell? ⟨b, o + j * 2, none⟩ = some (.int .i64 (ps[j]!).1) ∧ w.cell? ⟨b, o + j * 2 + 1, none⟩ = some (.int .i64 (ps[j]!).2))

theorem PairsAre.below {w w' : World} {v : Value} {ps : List (Int × Int)} (h : PairsAre w v ps) (hb : Below w.heap.size w w') : PairsAre w' v ps := by
  obtain ⟨a, c, e, h1, h2, h4, h3⟩ := h
  refine ⟨a, c, e, h1, h2, h4, fun hp => ?_⟩
  obtain ⟨b, o, ea, hlt, hc⟩ := h3 hp
  refine ⟨b, o, ea, Nat.lt_of_lt_of_le hlt hb.size, fun j hj => ?_⟩
  rw [hb.cell (p := ⟨b, o + j * 2, none⟩) hlt, hb.cell (p := ⟨b, o + j * 2 + 1, none⟩) hlt]
  exact hc j hj

/-- Three cells a fraction. -/
structure Tri where
  s : Bool
  a1 : Option Addr
  a2 : Option Addr
  n1 : Nat
  c1 : Nat
  n2 : Nat
  c2 : Nat
  deriving Inhabited
def Tri.val (t : Tri) : Value := .agg #[.bool t.s, .slice t.a1 t.n1 t.c1, .slice t.a2 t.n2 t.c2]
def Tri.cells (t : Tri) : List Value := [.bool t.s, .slice t.a1 t.n1 t.c1, .slice t.a2 t.n2 t.c2]
def tcells (ts : List Tri) : List Value := ts.flatMap Tri.cells
theorem tcells_length (ts : List Tri) : (tcells ts).length = ts.length * 3 := by
  induction ts with
  | nil => rfl
  | cons t ts ih => simp only [tcells, List.flatMap_cons, List.length_append, List.length_cons] at *; simp only [Tri.cells, List.length_cons, List.length_nil]; omega
theorem tcells_append (ts : List Tri) (t : Tri) : tcells (ts ++ [t]) = tcells ts ++ t.cells := by simp [tcells]
theorem tcells_get (ts : List Tri) (j k : Nat) (hj : j < ts.length) (hk : k < 3) : (tcells ts)[j * 3 + k]? = (ts[j]!).cells[k]? := by
  induction ts generalizing j with
  | nil => simp at hj
  | cons t ts ih =>
    have e : tcells (t :: ts) = t.cells ++ tcells ts := by simp [tcells]
    have hl : t.cells.length = 3 := rfl
    rw [e]
    cases j with
    | zero => rw [List.getElem?_append_left (by omega)]; simp
    | succ j =>
      rw [List.getElem?_append_right (by omega), hl, show (j + 1) * 3 + k - 3 = j * 3 + k by omega, ih j (by simpa using hj)]
      simp

theorem law_of_owns {w : World} {B : Nat} {v : Value} {ts : List Tri} {qs : List Rat} (h : w.ownsRow B 36 3 v ts.length (tcells ts)) (hl : ts.length = qs.length) (hr : ∀ j, j < ts.length → RatIs w (ts[j]!).val qs[j]!) : LawIs w v qs := by
  obtain ⟨h1, ⟨rfl, h2⟩ | ⟨g, cap, cur, rfl, hb, hh, hc1, hc2, hs, ht⟩⟩ := h
  · refine ⟨none, 0, by rw [← hl, h2], by omega, by decide, fun hp => by omega⟩
  · refine ⟨_, cap, by rw [hl], by omega, hc2, fun hp => ⟨g, 0, rfl, (Array.getElem?_eq_some_iff.1 hh).1, fun j hj => ?_⟩⟩
    have cellk : ∀ k, k < 3 → w.cell? ⟨g, 0 + j * 3 + k, none⟩ = (ts[j]!).cells[k]? := fun k hk => by
      simp only [World.cell?, hh, Nat.zero_add]
      have e : (cur.toList.take (ts.length * 3))[j * 3 + k]? = (tcells ts)[j * 3 + k]? := by rw [ht]
      rw [List.getElem?_take_of_lt (by omega), tcells_get ts j k (by omega) hk] at e
      simpa using e
    exact ⟨_, _, _, _, _, _, _, cellk 0 (by decide), cellk 1 (by decide), cellk 2 (by decide), hr j (by omega)⟩
end Go.Proofs.YtdicbnchkfclaaaDoor
/- Fractions appended to a row of the call's own: the spare cells hold no words, so the numbers of the fractions lie elsewhere. -/
namespace Go.Proofs.YtdicbnchkfclaaaDoor
open Go.RowKit Go.Sort Go.Shelf

def Wordless (w : World) (g : Nat) : Prop := ∀ i k x, w.cell? ⟨g, i, none⟩ ≠ some (.int k x)
def notWord : Value → Prop | .int _ _ => False | _ => True
theorem Tri.notWord (t : Tri) : ∀ u ∈ t.cells, notWord u := by
  intro u hu
  simp only [Tri.cells, List.mem_cons, List.not_mem_nil, or_false] at hu
  rcases hu with rfl | rfl | rfl <;> trivial
theorem tcells_notWord (ts : List Tri) : ∀ u ∈ tcells ts, Go.Proofs.YtdicbnchkfclaaaDoor.notWord u := by
  intro u hu
  obtain ⟨t, _, h⟩ := List.mem_flatMap.1 hu
  exact t.notWord u h
theorem wordless_of {w : World} {g : Nat} {cs : Array Value} {T : TypeId} {fr : Nat × Nat} (h : w.heap[g]? = some (.cells cs T fr)) (hn : ∀ u ∈ cs, Go.Proofs.YtdicbnchkfclaaaDoor.notWord u) : Wordless w g := by
  intro i k x e
  simp only [World.cell?, h] at e
  obtain ⟨_, e⟩ := Array.getElem?_eq_some_iff.1 (show cs[i]? = some _ from e)
  exact hn (.int k x) (e ▸ Array.getElem_mem _)
def zR : Array Value := #[.bool false, .slice none 0 0, .slice none 0 0]
theorem zeroCells_notWord (n : Nat) : ∀ u ∈ Builtin.zeroCells zR n, Go.Proofs.YtdicbnchkfclaaaDoor.notWord u := by
  intro u hu
  obtain ⟨i, _, rfl⟩ := Array.mem_map.1 hu
  have : i % zR.size < 3 := Nat.mod_lt _ (by decide)
  generalize i % zR.size = j at *
  match j, this with
  | 0, _ => trivial
  | 1, _ => trivial
  | 2, _ => trivial
theorem Wordless.owned {w : World} {g : Nat} {cs : Array Value} {T : TypeId} {fr : Nat × Nat} (h : w.heap[g]? = some (.cells cs T fr)) (hn : Wordless w g) : ∀ u ∈ cs, Go.Proofs.YtdicbnchkfclaaaDoor.notWord u := by
  intro u hu
  obtain ⟨i, hi, rfl⟩ := Array.mem_iff_getElem.1 hu
  cases e : cs[i] with
  | int k x => exact (hn i k x (by simp only [World.cell?, h]; rw [Array.getElem?_eq_getElem hi, e]; rfl)).elim
  | _ => trivial

/-- append of some fractions (cells that are no words). -/
theorem append_wordless {P : Program} {w w' : World} {t ty e : TypeId} {i : TypeInfo} {bytes base : Nat} (ht : P.underlying t = some (.slice e)) (hi : P.info? e = some i) (hz : i.zero = some (.agg zR)) (hsize : i.size = 3) (hby : i.bytes = bytes)
    {v : Value} {n : Nat} {xs : List Value} (hown : w.ownsRow base e 3 v n xs) (hno : ∀ g, v.ownBlock = some g → Wordless w g)
    {ad : Addr} {m c : Nat} {news : List Value} (hl : news.length = m * 3) (hnews : ∀ j u, news[j]? = some u → w.cell? (ad.add j) = some u) (h1 : ∀ u ∈ news, u.oneCell' = true) (h1w : ∀ u ∈ news, Go.Proofs.YtdicbnchkfclaaaDoor.notWord u)
    (hm : 0 < m) (h63 : n + m ≤ maxLen) (hbytes : (n + m) * bytes ≤ 140737488355328) {g cap : Nat}
    (hr : (Builtin.append_ #[t, t] ty #[v, .slice (some ad) m c]).run P w = .ok (.slice (some ⟨g, 0, none⟩) (n + m) cap) w') : Wordless w' g := by
  have hmx : n + m ≤ 9223372036854775807 := h63
  subst hby
  have hzc : (Value.agg zR).cells = zR := by simp [Value.cells, zR]
  have inj : ∀ {v1 v2 : Value} {w1 w2 : World}, (Result.ok v1 w1 : Result Value) = .ok v2 w2 → v1 = v2 ∧ w1 = w2 := fun h => by cases h; exact ⟨rfl, rfl⟩
  rcases hown.2 with ⟨rfl, rfl⟩ | ⟨g', cap', cur, rfl, hbg, hg, hnc, hcm, hcs, htake⟩
  · have hq := run_append_nil (P := P) w t ty e i _ ht hi hz ad m c news (by rw [hsize]; exact hl) hnews (by omega) (by omega) (by have hb := hbytes; simp only [Nat.zero_add] at hb; omega)
    rw [hq] at hr
    obtain ⟨ev, rfl⟩ := inj hr
    have eg : w.heap.size = g := by injection ev with e1; injection e1 with e1; injection e1
    subst eg
    refine wordless_of (heap_alloc_new w.drew _) fun u hu => ?_
    rcases Array.mem_append.1 hu with hu | hu
    · exact h1w u (by simpa using hu)
    · rw [hzc] at hu; exact zeroCells_notWord _ u hu
  · have hcur := Wordless.owned hg (hno g' rfl)
    by_cases hroom : n + m ≤ cap'
    · have hfit : n * i.size + news.length ≤ cur.size := by rw [hl, hcs, hsize, ← Nat.add_mul]; exact Nat.mul_le_mul_right _ hroom
      have hq := run_append_room (P := P) w t ty e i ht hi g' n cap' cur hg ad m c news (by rw [hsize]; exact hl) hnews h1 hroom hfit
      rw [hq] at hr
      obtain ⟨ev, rfl⟩ := inj hr
      have eg : g' = g := by injection ev with e1; injection e1 with e1; injection e1
      subst eg
      refine wordless_of (setRow_heap w _ cur _ e _ hg) fun u hu => ?_
      have hu : u ∈ cur.toList.take (n * i.size) ++ news ++ cur.toList.drop (n * i.size + news.length) := by simpa using hu
      rcases List.mem_append.1 hu with hu | hu
      · rcases List.mem_append.1 hu with hu | hu
        · exact hcur u (by simpa using List.mem_of_mem_take hu)
        · exact h1w u hu
      · exact hcur u (by simpa using List.mem_of_mem_drop hu)
    · have holds : ∀ j u, xs[j]? = some u → w.cell? ((⟨g', 0, none⟩ : Addr).add j) = some u := hown.cells (g := g') rfl
      have hq := run_append_grow (P := P) w t ty e i _ ht hi hz ⟨g', 0, none⟩ n cap' xs (by rw [hsize]; exact hown.1) holds ad m c news (by rw [hsize]; exact hl) hnews (by omega) (by omega) (growslice_fits (by omega) hbytes)
      rw [hq] at hr
      obtain ⟨ev, rfl⟩ := inj hr
      have eg : w.heap.size = g := by injection ev with e1; injection e1 with e1; injection e1
      subst eg
      refine wordless_of (heap_alloc_new w.drew _) fun u hu => ?_
      rcases Array.mem_append.1 hu with hu | hu
      · rcases Array.mem_append.1 hu with hu | hu
        · refine hcur u ?_
          have hx : u ∈ xs := by simpa using hu
          rw [← htake] at hx
          simpa using List.mem_of_mem_take hx
        · exact h1w u (by simpa using hu)
      · rw [hzc] at hu; exact zeroCells_notWord _ u hu

theorem wpList_append_tri {P : Program} (w : World) {ops : Array Oper} {rest : List Oper} {o : Oper} {a : Act} {Q : Exit → Act → World → Prop} (hgd : o.guard = none) (s x : Operand) (t : TypeId)
    (ho : o.op = .call { callee := .builtin .append, args := #[s, x], argTypes := #[t, t] })
    (base : Nat) (e : TypeId) (i : TypeInfo) (bytes : Nat) (ht : P.underlying t = some (.slice e)) (hi : P.info? e = some i) (hz : i.zero = some (.agg zR))
    (hsize : i.size = 3) (hby : i.bytes = bytes)
    (v : Value) (n : Nat) (xs : List Value) (hs : a.eval s = v) (hown : w.ownsRow base e 3 v n xs) (hno : ∀ g, v.ownBlock = some g → Wordless w g)
    (ad : Addr) (m c : Nat) (news : List Value) (hx : a.eval x = .slice (some ad) m c) (hl : news.length = m * 3) (hnews : ∀ j u, news[j]? = some u → w.cell? (ad.add j) = some u) (h1 : ∀ u ∈ news, u.oneCell' = true) (h1w : ∀ u ∈ news, Go.Proofs.YtdicbnchkfclaaaDoor.notWord u)
    (hm : 0 < m) (h63 : n + m ≤ maxLen) (hbytes : (n + m) * bytes ≤ 140737488355328) (hbase : base ≤ w.heap.size) (H : Nat) (hH : w.heap.size = H)
    (h : ∀ g cap w', w'.ownsRow base e 3 (.slice (some ⟨g, 0, none⟩) (n + m) cap) (n + m) (xs ++ news) → w.grownBy w' v.ownBlock → (v.ownBlock = some g ∨ g = H) → g < w'.heap.size → Wordless w' g → wpList P ops Q rest (a.put o.dst (.slice (some ⟨g, 0, none⟩) (n + m) cap)) w') : wpList P ops Q (o :: rest) a w := by
  refine wpList_plain hgd fun K hK => ?_
  obtain ⟨g, cap, w', hr, h2, h3, h4, h5⟩ := run_append_lies (P := P) w t o.type base e i _ 3 bytes ht hi hz hsize hby (by decide) (by omega) v n xs hown ad m c news hl hnews h1 hm h63 hbytes hbase H hH
  have h6 := append_wordless ht hi hz hsize hby hown hno hl hnews h1 h1w hm h63 hbytes hr
  unfold Oper.wp execOp
  simp only [ho, resolve, invoke, builtin, Sem.run_bind, Sem.run_pure, Result.andThen_ok, List.map_toArray, List.map_cons, List.map_nil, hs, hx, hr]
  exact hK _ _ (h g cap w' h2 h3 h4 h5 h6)

/-- A number, a fraction: kept where no block but one without words changes. -/
theorem RowIs.far {w w' : World} {a : Option Addr} {n c : Nat} {f : Nat → Int} {row : Option Nat} (h : RowIs w a n c f) (hg : w.grownBy w' row) (hno : ∀ g, row = some g → Wordless w g) : RowIs w' a n c f := by
  obtain ⟨h1, h2, h3⟩ := h
  refine ⟨h1, h2, fun hp => ?_⟩
  obtain ⟨b, o, ea, hlt, hc⟩ := h3 hp
  refine ⟨b, o, ea, Nat.lt_of_lt_of_le hlt hg.size, fun j hj => ?_⟩
  rw [hg.cell_far ⟨b, o + j, none⟩ hlt ?_]
  · exact hc j hj
  · intro e
    exact hno b e.symm _ _ _ (hc j hj)
theorem NatIs.far {w w' : World} {v : Value} {N : Int} {row : Option Nat} (h : NatIs w v N) (hg : w.grownBy w' row) (hno : ∀ g, row = some g → Wordless w g) : NatIs w' v N := by
  obtain ⟨a, n, c, e, hl, hr⟩ := h
  exact ⟨a, n, c, e, hl, hr.far hg hno⟩
theorem RatIs.far {w w' : World} {v : Value} {q : Rat} {row : Option Nat} (h : RatIs w v q) (hg : w.grownBy w' row) (hno : ∀ g, row = some g → Wordless w g) : RatIs w' v q := by
  obtain ⟨ov, un, e, h1, h2⟩ := h
  exact ⟨ov, un, e, h1.far hg hno, h2.far hg hno⟩
theorem Wordless.below {w w' : World} {g : Nat} (h : Wordless w g) (hlt : g < w.heap.size) (hb : Below w.heap.size w w') : Wordless w' g := fun i k x e => h i k x (by rw [← hb.cell (p := ⟨g, i, none⟩) hlt]; exact e)
end Go.Proofs.YtdicbnchkfclaaaDoor
