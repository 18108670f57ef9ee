/- Fares in memory; rows of them that grow. -/
import Derived.Test.YtfnbjenneodcdaaT10
import Derived.Test.YtfnbjenneodcdaaM60
namespace Go.Proofs.Ytfnbjenneodcdaa
open Go.RowKit Go.Sort Go.Shelf

def Unword (w : World) (g : Nat) : Prop := ∀ i x, w.cell? ⟨g, i, none⟩ ≠ some (.int .u64 x)
def notU : Value → Prop | .int .u64 _ => False | _ => True
theorem unword_of {w : World} {g : Nat} {cs : Array Value} {T : TypeId} {fr : Nat × Nat} (h : w.heap[g]? = some (.cells cs T fr)) (hn : ∀ u ∈ cs, Go.Proofs.Ytfnbjenneodcdaa.notU u) : Unword w g := by
  intro i x e
  simp only [World.cell?, h] at e
  obtain ⟨_, e⟩ := Array.getElem?_eq_some_iff.1 (show cs[i]? = some _ from e)
  exact hn (.int .u64 x) (e ▸ Array.getElem_mem _)
theorem Unword.owned {w : World} {g : Nat} {cs : Array Value} {T : TypeId} {fr : Nat × Nat} (h : w.heap[g]? = some (.cells cs T fr)) (hn : Unword w g) : ∀ u ∈ cs, Go.Proofs.Ytfnbjenneodcdaa.notU u := by
  intro u hu
  obtain ⟨i, hi, rfl⟩ := Array.mem_iff_getElem.1 hu
  cases e : cs[i] with
  | int k x =>
    cases k with
    | u64 => exact (hn i x (by simp only [World.cell?, h]; rw [Array.getElem?_eq_getElem hi, e]; rfl)).elim
    | _ => trivial
  | _ => trivial
/-- A number, a fraction: kept where no block but one without words changes. -/
theorem RowIs.farU {w w' : World} {a : Option Addr} {n c : Nat} {f : Nat → Int} {row : Option Nat} (h : RowIs w a n c f) (hg : w.grownBy w' row) (hno : ∀ g, row = some g → Unword w g) : RowIs w' a n c f := by
  obtain ⟨h1, h2, h3⟩ := h
  refine ⟨h1, h2, fun hp => ?_⟩
  obtain ⟨b, o, ea, hlt, hc⟩ := h3 hp
  refine ⟨b, o, ea, Nat.lt_of_lt_of_le hlt hg.size, fun j hj => ?_⟩
  rw [hg.cell_far ⟨b, o + j, none⟩ hlt ?_]
  · exact hc j hj
  · intro e
    exact hno b e.symm _ _ (hc j hj)
theorem NatIs.farU {w w' : World} {v : Value} {N : Int} {row : Option Nat} (h : NatIs w v N) (hg : w.grownBy w' row) (hno : ∀ g, row = some g → Unword w g) : NatIs w' v N := by
  obtain ⟨a, n, c, e, hl, hr⟩ := h
  exact ⟨a, n, c, e, hl, hr.farU hg hno⟩
theorem RatIs.farU {w w' : World} {v : Value} {q : Rat} {row : Option Nat} (h : RatIs w v q) (hg : w.grownBy w' row) (hno : ∀ g, row = some g → Unword w g) : RatIs w' v q := by
  obtain ⟨ov, un, e, h1, h2⟩ := h
  exact ⟨ov, un, e, h1.farU hg hno, h2.farU hg hno⟩
theorem Unword.below {w w' : World} {g : Nat} (h : Unword w g) (hlt : g < w.heap.size) (hb : Below w.heap.size w w') : Unword w' g := fun i x e => h i x (by rw [← hb.cell (p := ⟨g, i, none⟩) hlt]; exact e)
theorem LawIs.farU {w w' : World} {l : Sl} {qs : List Rat} {row : Option Nat} (h : LawIs w l.val qs) (hg : w.grownBy w' row) (hno : ∀ g, row = some g → Unword w g) (hne : 0 < l.n → ∀ ad, l.a = some ad → row ≠ some ad.block) : LawIs w' l.val qs := by
  have hl := law_len h
  obtain ⟨a, c, e, h1, h2, h3⟩ := h
  refine ⟨a, c, e, h1, h2, fun hp => ?_⟩
  obtain ⟨b, o, ea, hlt, hc⟩ := h3 hp
  have e1 : l.a = a := by injection e
  have nb := hne (by omega) ⟨b, o, none⟩ (by rw [e1, ea])
  refine ⟨b, o, ea, Nat.lt_of_lt_of_le hlt hg.size, fun j hj => ?_⟩
  obtain ⟨s, a1, a2, n1, c1, n2, c2, k0, k1, k2, r⟩ := hc j hj
  refine ⟨s, a1, a2, n1, c1, n2, c2, ?_, ?_, ?_, r.farU hg hno⟩
  · rw [hg.cell_far ⟨b, o + j * 3, none⟩ hlt (fun e => nb e.symm)]; exact k0
  · rw [hg.cell_far ⟨b, o + j * 3 + 1, none⟩ hlt (fun e => nb e.symm)]; exact k1
  · rw [hg.cell_far ⟨b, o + j * 3 + 2, none⟩ hlt (fun e => nb e.symm)]; exact k2
/-- A fare: a price, and who asks. -/
def FareIs (w : World) (p : Int) (l : Sl) (k : Int × List Rat) : Prop := p = k.1 ∧ LawIs w l.val k.2
theorem FareIs.below {w w' : World} {p : Int} {l : Sl} {k : Int × List Rat} (h : FareIs w p l k) (hb : Below w.heap.size w w') : FareIs w' p l k := ⟨h.1, h.2.below hb⟩
/-- A row of fares. -/
def FaresAre (w : World) (v : Value) (ks : List (Int × List Rat)) : Prop := ∃ (a : Option Addr) (c : Nat), v = .slice a ks.length c ∧ ks.length ≤ c ∧ c ≤ 9223372036854775807 ∧
  (0 < ks.length → ∃ b o, a = some ⟨b, o, none⟩ ∧ b < w.heap.size ∧ ∀ j, j < ks.length → ∃ (p : Int) (l : Sl), (w.cell? ⟨b, o + j * 2, none⟩ = some (.int .i64 p) ∧ w.cell? ⟨b, o + j * 2 + 1, none⟩ = some (.slice l.a l.n l.c)) ∧ FareIs w p l ks[j]!)
theorem FaresAre.below {w w' : World} {v : Value} {ks : List (Int × List Rat)} (h : FaresAre w v ks) (hb : Below w.heap.size w w') : FaresAre w' v ks := by
  obtain ⟨a, c, e, h1, h2, h3⟩ := h
  refine ⟨a, c, e, h1, h2, fun hp => ?_⟩
  obtain ⟨b, o, ea, hlt, hc⟩ := h3 hp
  refine ⟨b, o, ea, Nat.lt_of_lt_of_le hlt hb.size, fun j hj => ?_⟩
  obtain ⟨p, l, ⟨c0, c1⟩, r⟩ := hc j hj
  refine ⟨p, l, ?_, r.below hb⟩
  rw [hb.cell (p := ⟨b, o + j * 2, none⟩) hlt, hb.cell (p := ⟨b, o + j * 2 + 1, none⟩) hlt]
  exact ⟨c0, c1⟩
/-- A fare's box. -/
def FBox (w : World) (b : Nat) (p : Int) (l : Sl) (k : Int × List Rat) : Prop := w.heap[b]? = some (.cells #[.int .i64 p, .slice l.a l.n l.c] 39) ∧ FareIs w p l k
theorem FBox.new {w : World} {p : Int} {l : Sl} {k : Int × List Rat} (h : FareIs w p l k) : FBox (w.alloc (.cells #[.int .i64 p, .slice l.a l.n l.c] 39)) w.heap.size p l k := ⟨heap_alloc_new w _, h.below (alloc_below w _)⟩
theorem FBox.lt {w : World} {b : Nat} {p : Int} {l : Sl} {k : Int × List Rat} (h : FBox w b p l k) : b < w.heap.size := (Array.getElem?_eq_some_iff.1 h.1).1
theorem FBox.keep {w w' : World} {b : Nat} {p : Int} {l : Sl} {k : Int × List Rat} (h : FBox w b p l k) (hb : Below w.heap.size w w') : FBox w' b p l k := ⟨by rw [hb.block _ h.lt]; exact h.1, h.2.below hb⟩
theorem FBox.cells {w : World} {b : Nat} {p : Int} {l : Sl} {k : Int × List Rat} (h : FBox w b p l k) : ∀ W', Below w.heap.size w W' → W'.cell? ⟨b, 0, none⟩ = some (.int .i64 p) ∧ W'.cell? ⟨b, 1, none⟩ = some (.slice l.a l.n l.c) := fun W' hb => by
  have h' := (h.keep hb).1
  simp [World.cell?, h']

def zF : Array Value := #[.int .i64 0, .slice none 0 0]
theorem zeroF_notU (n : Nat) : ∀ u ∈ Builtin.zeroCells zF n, Go.Proofs.Ytfnbjenneodcdaa.notU u := by
  intro u hu
  obtain ⟨i, _, rfl⟩ := Array.mem_map.1 hu
  have : i % zF.size < 2 := Nat.mod_lt _ (by decide)
  generalize i % zF.size = j at *
  match j, this with
  | 0, _ => trivial
  | 1, _ => trivial
/-- append of some fractions (cells that are no words). -/
theorem append_unwordF {P : Program} {w w' : World} {t ty e : TypeId} {i : TypeInfo} {bytes base : Nat} (ht : P.underlying t = some (.slice e)) (hi : P.info? e = some i) (hz : i.zero = some (.agg zF)) (hsize : i.size = 2) (hby : i.bytes = bytes)
    {v : Value} {n : Nat} {xs : List Value} (hown : w.ownsRow base e 2 v n xs) (hno : ∀ g, v.ownBlock = some g → Unword w g)
    {ad : Addr} {m c : Nat} {news : List Value} (hl : news.length = m * 2) (hnews : ∀ j u, news[j]? = some u → w.cell? (ad.add j) = some u) (h1 : ∀ u ∈ news, u.oneCell' = true) (h1w : ∀ u ∈ news, Go.Proofs.Ytfnbjenneodcdaa.notU u)
    (hm : 0 < m) (h63 : n + m ≤ maxLen) (hbytes : (n + m) * bytes ≤ 140737488355328) {g cap : Nat}
    (hr : (Builtin.append_ #[t, t] ty #[v, .slice (some ad) m c]).run P w = .ok (.slice (some ⟨g, 0, none⟩) (n + m) cap) w') : Unword w' g := by
  have hmx : n + m ≤ 9223372036854775807 := h63
  subst hby
  have hzc : (Value.agg zF).cells = zF := by simp [Value.cells, zF]
  have inj : ∀ {v1 v2 : Value} {w1 w2 : World}, (Result.ok v1 w1 : Result Value) = .ok v2 w2 → v1 = v2 ∧ w1 = w2 := fun h => by cases h; exact ⟨rfl, rfl⟩
  rcases hown.2 with ⟨rfl, rfl⟩ | ⟨g', cap', cur, rfl, hbg, hg, hnc, hcm, hcs, htake⟩
  · have hq := run_append_nil (P := P) w t ty e i _ ht hi hz ad m c news (by rw [hsize]; exact hl) hnews (by omega) (by omega) (by have hb := hbytes; simp only [Nat.zero_add] at hb; omega)
    rw [hq] at hr
    obtain ⟨ev, rfl⟩ := inj hr
    have eg : w.heap.size = g := by injection ev with e1; injection e1 with e1; injection e1
    subst eg
    refine unword_of (heap_alloc_new w.drew _) fun u hu => ?_
    rcases Array.mem_append.1 hu with hu | hu
    · exact h1w u (by simpa using hu)
    · rw [hzc] at hu; exact zeroF_notU _ u hu
  · have hcur := Unword.owned hg (hno g' rfl)
    by_cases hroom : n + m ≤ cap'
    · have hfit : n * i.size + news.length ≤ cur.size := by rw [hl, hcs, hsize, ← Nat.add_mul]; exact Nat.mul_le_mul_right _ hroom
      have hq := run_append_room (P := P) w t ty e i ht hi g' n cap' cur hg ad m c news (by rw [hsize]; exact hl) hnews h1 hroom hfit
      rw [hq] at hr
      obtain ⟨ev, rfl⟩ := inj hr
      have eg : g' = g := by injection ev with e1; injection e1 with e1; injection e1
      subst eg
      refine unword_of (setRow_heap w _ cur _ e _ hg) fun u hu => ?_
      have hu : u ∈ cur.toList.take (n * i.size) ++ news ++ cur.toList.drop (n * i.size + news.length) := by simpa using hu
      rcases List.mem_append.1 hu with hu | hu
      · rcases List.mem_append.1 hu with hu | hu
        · exact hcur u (by simpa using List.mem_of_mem_take hu)
        · exact h1w u hu
      · exact hcur u (by simpa using List.mem_of_mem_drop hu)
    · have holds : ∀ j u, xs[j]? = some u → w.cell? ((⟨g', 0, none⟩ : Addr).add j) = some u := hown.cells (g := g') rfl
      have hq := run_append_grow (P := P) w t ty e i _ ht hi hz ⟨g', 0, none⟩ n cap' xs (by rw [hsize]; exact hown.1) holds ad m c news (by rw [hsize]; exact hl) hnews (by omega) (by omega) (growslice_fits (by omega) hbytes)
      rw [hq] at hr
      obtain ⟨ev, rfl⟩ := inj hr
      have eg : w.heap.size = g := by injection ev with e1; injection e1 with e1; injection e1
      subst eg
      refine unword_of (heap_alloc_new w.drew _) fun u hu => ?_
      rcases Array.mem_append.1 hu with hu | hu
      · rcases Array.mem_append.1 hu with hu | hu
        · refine hcur u ?_
          have hx : u ∈ xs := by simpa using hu
          rw [← htake] at hx
          simpa using List.mem_of_mem_take hx
        · exact h1w u (by simpa using hu)
      · rw [hzc] at hu; exact zeroF_notU _ u hu

theorem wpList_append_fare {P : Program} (w : World) {ops : Array Oper} {rest : List Oper} {o : Oper} {a : Act} {Q : Exit → Act → World → Prop} (hgd : o.guard = none) (s x : Operand) (t : TypeId)
    (ho : o.op = .call { callee := .builtin .append, args := #[s, x], argTypes := #[t, t] })
    (base : Nat) (e : TypeId) (i : TypeInfo) (bytes : Nat) (ht : P.underlying t = some (.slice e)) (hi : P.info? e = some i) (hz : i.zero = some (.agg zF))
    (hsize : i.size = 2) (hby : i.bytes = bytes)
    (v : Value) (n : Nat) (xs : List Value) (hs : a.eval s = v) (hown : w.ownsRow base e 2 v n xs) (hno : ∀ g, v.ownBlock = some g → Unword w g)
    (ad : Addr) (m c : Nat) (news : List Value) (hx : a.eval x = .slice (some ad) m c) (hl : news.length = m * 2) (hnews : ∀ j u, news[j]? = some u → w.cell? (ad.add j) = some u) (h1 : ∀ u ∈ news, u.oneCell' = true) (h1w : ∀ u ∈ news, Go.Proofs.Ytfnbjenneodcdaa.notU u)
    (hm : 0 < m) (h63 : n + m ≤ maxLen) (hbytes : (n + m) * bytes ≤ 140737488355328) (hbase : base ≤ w.heap.size) (H : Nat) (hH : w.heap.size = H)
    (h : ∀ g cap w', w'.ownsRow base e 2 (.slice (some ⟨g, 0, none⟩) (n + m) cap) (n + m) (xs ++ news) → w.grownBy w' v.ownBlock → (v.ownBlock = some g ∨ g = H) → g < w'.heap.size → Unword w' g → wpList P ops Q rest (a.put o.dst (.slice (some ⟨g, 0, none⟩) (n + m) cap)) w') : wpList P ops Q (o :: rest) a w := by
  refine wpList_plain hgd fun K hK => ?_
  obtain ⟨g, cap, w', hr, h2, h3, h4, h5⟩ := run_append_lies (P := P) w t o.type base e i _ 2 bytes ht hi hz hsize hby (by decide) (by omega) v n xs hown ad m c news hl hnews h1 hm h63 hbytes hbase H hH
  have h6 := append_unwordF ht hi hz hsize hby hown hno hl hnews h1 h1w hm h63 hbytes hr
  unfold Oper.wp execOp
  simp only [ho, resolve, invoke, builtin, Sem.run_bind, Sem.run_pure, Result.andThen_ok, List.map_toArray, List.map_cons, List.map_nil, hs, hx, hr]
  exact hK _ _ (h g cap w' h2 h3 h4 h5 h6)

theorem step_append_fare {P : Program} (w : World) {ops : Array Oper} {o : Oper} {a : Act} {K : Act → World → Prop} {Q : Exit → Act → World → Prop} {E : Prop} (hgd : o.guard = none) (s x : Operand) (t : TypeId)
    (ho : o.op = .call { callee := .builtin .append, args := #[s, x], argTypes := #[t, t] })
    (base : Nat) (e : TypeId) (i : TypeInfo) (bytes : Nat) (ht : P.underlying t = some (.slice e)) (hi : P.info? e = some i) (hz : i.zero = some (.agg zF))
    (hsize : i.size = 2) (hby : i.bytes = bytes)
    (v : Value) (n : Nat) (xs : List Value) (hs : a.eval s = v) (hown : w.ownsRow base e 2 v n xs) (hno : ∀ g, v.ownBlock = some g → Unword w g)
    (ad : Addr) (m c : Nat) (news : List Value) (hx : a.eval x = .slice (some ad) m c) (hl : news.length = m * 2) (hnews : ∀ j u, news[j]? = some u → w.cell? (ad.add j) = some u) (h1 : ∀ u ∈ news, u.oneCell' = true) (h1w : ∀ u ∈ news, Go.Proofs.Ytfnbjenneodcdaa.notU u)
    (hm : 0 < m) (h63 : n + m ≤ maxLen) (hbytes : (n + m) * bytes ≤ 140737488355328) (hbase : base ≤ w.heap.size) (H : Nat) (hH : w.heap.size = H)
    (h : ∀ g cap w', w'.ownsRow base e 2 (.slice (some ⟨g, 0, none⟩) (n + m) cap) (n + m) (xs ++ news) → w.grownBy w' v.ownBlock → (v.ownBlock = some g ∨ g = H) → g < w'.heap.size → Unword w' g → K (a.put o.dst (.slice (some ⟨g, 0, none⟩) (n + m) cap)) w') :
    if Region.wanted o (yielded ops a.tmps) = true then Oper.wp P o a w K Q else E := by
  have hw : Region.wanted o (yielded ops a.tmps) = true := by simp [Region.wanted, hgd]
  rw [if_pos hw]
  obtain ⟨g, cap, w', hr, h2, h3, h4, h5⟩ := run_append_lies (P := P) w t o.type base e i _ 2 bytes ht hi hz hsize hby (by decide) (by omega) v n xs hown ad m c news hl hnews h1 hm h63 hbytes hbase H hH
  have h6 := append_unwordF ht hi hz hsize hby hown hno hl hnews h1 h1w hm h63 hbytes hr
  unfold Oper.wp execOp
  simp only [ho, resolve, invoke, builtin, Sem.run_bind, Sem.run_pure, Result.andThen_ok, List.map_toArray, List.map_cons, List.map_nil, hs, hx, hr]
  exact h g cap w' h2 h3 h4 h5 h6

/-- A fare's cells. -/
def fc (p : Int × Sl) : List Value := [.int .i64 p.1, p.2.val]
def fcells (ps : List (Int × Sl)) : List Value := ps.flatMap fc
theorem fcells_append (ps : List (Int × Sl)) (p : Int × Sl) : fcells (ps ++ [p]) = fcells ps ++ fc p := by simp [fcells]
theorem fcells_get (ps : List (Int × Sl)) (j k : Nat) (hj : j < ps.length) (hk : k < 2) : (fcells ps)[j * 2 + k]? = (fc (ps[j]!))[k]? := by
  induction ps generalizing j with
  | nil => simp at hj
  | cons t ts ih =>
    have e : fcells (t :: ts) = fc t ++ fcells ts := by simp [fcells]
    have hl : (fc t).length = 2 := rfl
    rw [e]
    cases j with
    | zero => rw [List.getElem?_append_left (by omega)]; simp
    | succ j =>
      rw [List.getElem?_append_right (by omega), hl, show (j + 1) * 2 + k - 2 = j * 2 + k by omega, ih j (by simpa using hj)]
      simp
theorem fc_one (p : Int × Sl) : ∀ u ∈ fc p, u.oneCell' = true := by
  intro u hu
  simp only [fc, Sl.val, List.mem_cons, List.not_mem_nil, or_false] at hu
  rcases hu with rfl | rfl <;> rfl
theorem fc_notU (p : Int × Sl) : ∀ u ∈ fc p, notU u := by
  intro u hu
  simp only [fc, Sl.val, List.mem_cons, List.not_mem_nil, or_false] at hu
  rcases hu with rfl | rfl <;> trivial
theorem news_fare (w : World) (p : Int × Sl) (T : TypeId) : ∀ j u, (fc p)[j]? = some u → (w.alloc (.cells #[.int .i64 p.1, .slice p.2.a p.2.n p.2.c] T)).cell? ((⟨w.heap.size, 0, none⟩ : Addr).add j) = some u :=
  World.news_of_block (cs := #[.int .i64 p.1, .slice p.2.a p.2.n p.2.c]) (t := T) (fr := (0, 0)) (heap_alloc_new w _)
/-- Rows of fares of the call's own. -/
structure FrsAt (w wr : World) (v : Value) (ps : List (Int × Sl)) (ks : List (Int × List Rat)) : Prop where
  own : wr.ownsRow w.heap.size 39 2 v ps.length (fcells ps)
  no : ∀ g, v.ownBlock = some g → Unword wr g
  rat : ∀ j, j < ps.length → FareIs wr (ps[j]!).1 (ps[j]!).2 ks[j]!
  ne : ∀ j, j < ps.length → 0 < (ps[j]!).2.n → ∀ ad, (ps[j]!).2.a = some ad → v.ownBlock ≠ some ad.block
  bl : Below w.heap.size w wr
theorem ownsF_block {w : World} {B : Nat} {v : Value} {n : Nat} {xs : List Value} (h : w.ownsRow B 39 2 v n xs) : ∀ k, v.ownBlock = some k → B ≤ k ∧ k < w.heap.size := by
  intro k hk
  obtain ⟨h1, ⟨rfl, _⟩ | ⟨g, cap, cur, rfl, hb, hh, hr⟩⟩ := h
  · cases hk
  · have : g = k := Option.some.inj hk
    subst this
    exact ⟨hb, (Array.getElem?_eq_some_iff.1 hh).1⟩
theorem FrsAt.keep {w wr w' : World} {v : Value} {ps : List (Int × Sl)} {ks : List (Int × List Rat)} (h : FrsAt w wr v ps ks) (hb : Below wr.heap.size wr w') : FrsAt w w' v ps ks := by
  refine ⟨?_, fun g hg => (h.no g hg).below (ownsF_block h.own g hg).2 hb, fun j hj => (h.rat j hj).below hb, h.ne, below_step h.bl hb⟩
  refine ⟨h.own.1, ?_⟩
  rcases h.own.2 with h2 | ⟨g, cap, cur, hv, hbg, hh, hr⟩
  · exact Or.inl h2
  · exact Or.inr ⟨g, cap, cur, hv, hbg, by rw [hb.block g (Array.getElem?_eq_some_iff.1 hh).1]; exact hh, hr⟩
theorem FrsAt.start (w wr : World) (ks : List (Int × List Rat)) (hb : Below w.heap.size w wr) : FrsAt w wr (.slice none 0 0) [] ks :=
  ⟨World.ownsRow_nil _ _ _ _, fun g hg => absurd (show (none : Option Nat) = some g from hg) (by simp), fun j hj => absurd hj (Nat.not_lt_zero _), fun j hj => absurd hj (Nat.not_lt_zero _), hb⟩
theorem FrsAt.push {w wr w' : World} {g cap : Nat} {v : Value} {ps : List (Int × Sl)} {p : Int × Sl} {ks : List (Int × List Rat)} (h : FrsAt w wr v ps ks) (hp : FareIs wr p.1 p.2 ks[ps.length]!) (hne : 0 < p.2.n → ∀ ad, p.2.a = some ad → v.ownBlock ≠ some ad.block)
    (own : w'.ownsRow w.heap.size 39 2 (.slice (some ⟨g, 0, none⟩) (ps.length + 1) cap) (ps.length + 1) (fcells ps ++ fc p)) (hg : wr.grownBy w' v.ownBlock) (hat : v.ownBlock = some g ∨ g = wr.heap.size) (hn : Unword w' g) : FrsAt w w' (.slice (some ⟨g, 0, none⟩) (ps.length + 1) cap) (ps ++ [p]) ks := by
  have get1 : ∀ j, j < ps.length → (ps ++ [p])[j]! = ps[j]! := fun j hj2 => by rw [List.getElem!_eq_getElem?_getD, List.getElem!_eq_getElem?_getD, List.getElem?_append_left hj2]
  have get2 : (ps ++ [p])[ps.length]! = p := by rw [List.getElem!_eq_getElem?_getD, List.getElem?_append_right (Nat.le_refl _), Nat.sub_self]; rfl
  refine ⟨by rw [fcells_append, List.length_append]; exact own, fun k hk => ?_, fun j hj => ?_, fun j hj => ?_, Below.grown h.bl hg h.bl.size (fun k hk => (ownsF_block h.own k hk).1)⟩
  · have : g = k := Option.some.inj hk
    rw [← this]; exact hn
  · rw [List.length_append] at hj
    by_cases hj2 : j < ps.length
    · rw [get1 j hj2]
      have r := h.rat j hj2
      exact ⟨r.1, r.2.farU hg h.no (fun h0 ad e => h.ne j hj2 h0 ad e)⟩
    · have e : j = ps.length := by simp at hj; omega
      subst e
      rw [get2]; exact ⟨hp.1, hp.2.farU hg h.no (fun h0 ad e => hne h0 ad e)⟩
  · rw [List.length_append] at hj
    show _ → ∀ ad : Addr, _ → some g ≠ some ad.block
    have fresh : ∀ (l : Sl) (k : List Rat), LawIs wr l.val k → 0 < l.n → ∀ ad, l.a = some ad → v.ownBlock ≠ some ad.block → some g ≠ some ad.block := fun l k hl h0 ad e hv => by
      rcases hat with h' | h'
      · rw [← h']; exact hv
      · have := law_lt hl h0 e
        intro e'
        injection e' with e'
        omega
    by_cases hj2 : j < ps.length
    · rw [get1 j hj2]
      exact fun h0 ad e => fresh _ _ (h.rat j hj2).2 h0 ad e (h.ne j hj2 h0 ad e)
    · have e : j = ps.length := by simp at hj; omega
      subst e
      rw [get2]
      exact fun h0 ad e => fresh _ _ hp.2 h0 ad e (hne h0 ad e)
theorem FrsAt.fares {w wr : World} {v : Value} {ps : List (Int × Sl)} {ks : List (Int × List Rat)} (h : FrsAt w wr v ps ks) (hl : ps.length = ks.length) : FaresAre wr v ks := by
  rcases h.own.2 with ⟨rfl, e⟩ | ⟨g, cap, cur, rfl, hb, hh, hc1, hc2, hs, ht⟩
  · exact ⟨none, 0, by rw [← hl, e], by omega, by decide, fun hp => by omega⟩
  · refine ⟨_, cap, by rw [hl], by omega, by unfold maxLen at hc2; exact hc2, fun _ => ⟨g, 0, rfl, (Array.getElem?_eq_some_iff.1 hh).1, fun j hj => ⟨(ps[j]!).1, (ps[j]!).2, ?_, h.rat j (by omega)⟩⟩⟩
    have cellk : ∀ k, k < 2 → wr.cell? ⟨g, 0 + j * 2 + k, none⟩ = (fc (ps[j]!))[k]? := fun k hk => by
      simp only [World.cell?, hh, Nat.zero_add]
      have e : (cur.toList.take (ps.length * 2))[j * 2 + k]? = (fcells ps)[j * 2 + k]? := by rw [ht]
      rw [List.getElem?_take_of_lt (by omega), fcells_get ps j k (by omega) hk] at e
      simpa using e
    exact ⟨cellk 0 (by decide), cellk 1 (by decide)⟩
theorem Try.infoF : (Try.prog.info? 39).map (fun i => (i.zero, i.size, i.bytes)) = some (some (.agg zF), 2, 32) := by kernel_rfl
end Go.Proofs.Ytfnbjenneodcdaa
