/- Acts in memory; rows of them that grow. -/
import Derived.Test.YtaacibgmdeoikaaGreatDoorN1
namespace Go.Proofs.YtaacibgmdeoikaaGreatDoor
open Go.RowKit Go.Sort Go.Shelf

/-- An act: what it brings, and what comes next. -/
def ActIs (w : World) (t : Tri) (l : Sl) (k : Rat × List Rat) : Prop := RatIs w t.val k.1 ∧ LawIs w l.val k.2
theorem ActIs.below {w w' : World} {t : Tri} {l : Sl} {k : Rat × List Rat} (h : ActIs w t l k) (hb : Below w.heap.size w w') : ActIs w' t l k := ⟨h.1.below hb, h.2.below hb⟩
/-- A row of acts. -/
def ActsAre (w : World) (v : Value) (ks : List (Rat × List Rat)) : Prop := ∃ (a : Option Addr) (c : Nat), v = .slice a ks.length c ∧ ks.length ≤ c ∧ c ≤ 9223372036854775807 ∧
  (0 < ks.length → ∃ b o, a = some ⟨b, o, none⟩ ∧ b < w.heap.size ∧ ∀ j, j < ks.length → ∃ (t : Tri) (l : Sl), (w.cell? ⟨b, o + j * 4, none⟩ = some (.bool t.s) ∧ w.cell? ⟨b, o + j * 4 + 1, none⟩ = some (.slice t.a1 t.n1 t.c1) ∧ w.cell? ⟨b, o + j * 4 + 2, none⟩ = some (.slice t.a2 t.n2 t.c2) ∧ w.cell? ⟨b, o + j * 4 + 3, none⟩ = some (.slice l.a l.n l.c)) ∧ ActIs w t l ks[j]!)
theorem ActsAre.below {w w' : World} {v : Value} {ks : List (Rat × List Rat)} (h : ActsAre w v ks) (hb : Below w.heap.size w w') : ActsAre w' v ks := by
  obtain ⟨a, c, e, h1, h2, h3⟩ := h
  refine ⟨a, c, e, h1, h2, fun hp => ?_⟩
  obtain ⟨b, o, ea, hlt, hc⟩ := h3 hp
  refine ⟨b, o, ea, Nat.lt_of_lt_of_le hlt hb.size, fun j hj => ?_⟩
  obtain ⟨t, l, ⟨c0, c1, c2, c3⟩, r⟩ := hc j hj
  refine ⟨t, l, ?_, r.below hb⟩
  rw [hb.cell (p := ⟨b, o + j * 4, none⟩) hlt, hb.cell (p := ⟨b, o + j * 4 + 1, none⟩) hlt, hb.cell (p := ⟨b, o + j * 4 + 2, none⟩) hlt, hb.cell (p := ⟨b, o + j * 4 + 3, none⟩) hlt]
  exact ⟨c0, c1, c2, c3⟩
/-- An act's box. -/
def ABox (w : World) (b : Nat) (t : Tri) (l : Sl) (k : Rat × List Rat) : Prop := w.heap[b]? = some (.cells #[.bool t.s, .slice t.a1 t.n1 t.c1, .slice t.a2 t.n2 t.c2, .slice l.a l.n l.c] 62) ∧ ActIs w t l k
theorem ABox.new {w : World} {t : Tri} {l : Sl} {k : Rat × List Rat} (h : ActIs w t l k) : ABox (w.alloc (.cells #[.bool t.s, .slice t.a1 t.n1 t.c1, .slice t.a2 t.n2 t.c2, .slice l.a l.n l.c] 62)) w.heap.size t l k := ⟨heap_alloc_new w _, h.below (alloc_below w _)⟩
theorem ABox.lt {w : World} {b : Nat} {t : Tri} {l : Sl} {k : Rat × List Rat} (h : ABox w b t l k) : b < w.heap.size := (Array.getElem?_eq_some_iff.1 h.1).1
theorem ABox.keep {w w' : World} {b : Nat} {t : Tri} {l : Sl} {k : Rat × List Rat} (h : ABox w b t l k) (hb : Below w.heap.size w w') : ABox w' b t l k := ⟨by rw [hb.block _ h.lt]; exact h.1, h.2.below hb⟩
theorem ABox.cells {w : World} {b : Nat} {t : Tri} {l : Sl} {k : Rat × List Rat} (h : ABox w b t l k) : ∀ W', Below w.heap.size w W' → W'.cell? ⟨b, 0, none⟩ = some (.bool t.s) ∧ W'.cell? ⟨b, 1, none⟩ = some (.slice t.a1 t.n1 t.c1) ∧ W'.cell? ⟨b, 2, none⟩ = some (.slice t.a2 t.n2 t.c2) ∧ W'.cell? ⟨b, 3, none⟩ = some (.slice l.a l.n l.c) := fun W' hb => by
  have h' := (h.keep hb).1
  simp [World.cell?, h']

def zA : Array Value := #[.bool false, .slice none 0 0, .slice none 0 0, .slice none 0 0]
theorem zeroA_notWord (n : Nat) : ∀ u ∈ Builtin.zeroCells zA n, Go.Proofs.YtaacibgmdeoikaaGreatDoor.notWord u := by
  intro u hu
  obtain ⟨i, _, rfl⟩ := Array.mem_map.1 hu
  have : i % zA.size < 4 := Nat.mod_lt _ (by decide)
  generalize i % zA.size = j at *
  match j, this with
  | 0, _ => trivial
  | 1, _ => trivial
  | 2, _ => trivial
  | 3, _ => trivial
/-- append of some fractions (cells that are no words). -/
theorem append_wordlessA {P : Program} {w w' : World} {t ty e : TypeId} {i : TypeInfo} {bytes base : Nat} (ht : P.underlying t = some (.slice e)) (hi : P.info? e = some i) (hz : i.zero = some (.agg zA)) (hsize : i.size = 4) (hby : i.bytes = bytes)
    {v : Value} {n : Nat} {xs : List Value} (hown : w.ownsRow base e 4 v n xs) (hno : ∀ g, v.ownBlock = some g → Wordless w g)
    {ad : Addr} {m c : Nat} {news : List Value} (hl : news.length = m * 4) (hnews : ∀ j u, news[j]? = some u → w.cell? (ad.add j) = some u) (h1 : ∀ u ∈ news, u.oneCell' = true) (h1w : ∀ u ∈ news, Go.Proofs.YtaacibgmdeoikaaGreatDoor.notWord u)
    (hm : 0 < m) (h63 : n + m ≤ maxLen) (hbytes : (n + m) * bytes ≤ 140737488355328) {g cap : Nat}
    (hr : (Builtin.append_ #[t, t] ty #[v, .slice (some ad) m c]).run P w = .ok (.slice (some ⟨g, 0, none⟩) (n + m) cap) w') : Wordless w' g := by
  have hmx : n + m ≤ 9223372036854775807 := h63
  subst hby
  have hzc : (Value.agg zA).cells = zA := by simp [Value.cells, zA]
  have inj : ∀ {v1 v2 : Value} {w1 w2 : World}, (Result.ok v1 w1 : Result Value) = .ok v2 w2 → v1 = v2 ∧ w1 = w2 := fun h => by cases h; exact ⟨rfl, rfl⟩
  rcases hown.2 with ⟨rfl, rfl⟩ | ⟨g', cap', cur, rfl, hbg, hg, hnc, hcm, hcs, htake⟩
  · have hq := run_append_nil (P := P) w t ty e i _ ht hi hz ad m c news (by rw [hsize]; exact hl) hnews (by omega) (by omega) (by have hb := hbytes; simp only [Nat.zero_add] at hb; omega)
    rw [hq] at hr
    obtain ⟨ev, rfl⟩ := inj hr
    have eg : w.heap.size = g := by injection ev with e1; injection e1 with e1; injection e1
    subst eg
    refine wordless_of (heap_alloc_new w.drew _) fun u hu => ?_
    rcases Array.mem_append.1 hu with hu | hu
    · exact h1w u (by simpa using hu)
    · rw [hzc] at hu; exact zeroA_notWord _ u hu
  · have hcur := Wordless.owned hg (hno g' rfl)
    by_cases hroom : n + m ≤ cap'
    · have hfit : n * i.size + news.length ≤ cur.size := by rw [hl, hcs, hsize, ← Nat.add_mul]; exact Nat.mul_le_mul_right _ hroom
      have hq := run_append_room (P := P) w t ty e i ht hi g' n cap' cur hg ad m c news (by rw [hsize]; exact hl) hnews h1 hroom hfit
      rw [hq] at hr
      obtain ⟨ev, rfl⟩ := inj hr
      have eg : g' = g := by injection ev with e1; injection e1 with e1; injection e1
      subst eg
      refine wordless_of (setRow_heap w _ cur _ e _ hg) fun u hu => ?_
      have hu : u ∈ cur.toList.take (n * i.size) ++ news ++ cur.toList.drop (n * i.size + news.length) := by simpa using hu
      rcases List.mem_append.1 hu with hu | hu
      · rcases List.mem_append.1 hu with hu | hu
        · exact hcur u (by simpa using List.mem_of_mem_take hu)
        · exact h1w u hu
      · exact hcur u (by simpa using List.mem_of_mem_drop hu)
    · have holds : ∀ j u, xs[j]? = some u → w.cell? ((⟨g', 0, none⟩ : Addr).add j) = some u := hown.cells (g := g') rfl
      have hq := run_append_grow (P := P) w t ty e i _ ht hi hz ⟨g', 0, none⟩ n cap' xs (by rw [hsize]; exact hown.1) holds ad m c news (by rw [hsize]; exact hl) hnews (by omega) (by omega) (growslice_fits (by omega) hbytes)
      rw [hq] at hr
      obtain ⟨ev, rfl⟩ := inj hr
      have eg : w.heap.size = g := by injection ev with e1; injection e1 with e1; injection e1
      subst eg
      refine wordless_of (heap_alloc_new w.drew _) fun u hu => ?_
      rcases Array.mem_append.1 hu with hu | hu
      · rcases Array.mem_append.1 hu with hu | hu
        · refine hcur u ?_
          have hx : u ∈ xs := by simpa using hu
          rw [← htake] at hx
          simpa using List.mem_of_mem_take hx
        · exact h1w u (by simpa using hu)
      · rw [hzc] at hu; exact zeroA_notWord _ u hu

theorem wpList_append_act {P : Program} (w : World) {ops : Array Oper} {rest : List Oper} {o : Oper} {a : Act} {Q : Exit → Act → World → Prop} (hgd : o.guard = none) (s x : Operand) (t : TypeId)
    (ho : o.op = .call { callee := .builtin .append, args := #[s, x], argTypes := #[t, t] })
    (base : Nat) (e : TypeId) (i : TypeInfo) (bytes : Nat) (ht : P.underlying t = some (.slice e)) (hi : P.info? e = some i) (hz : i.zero = some (.agg zA))
    (hsize : i.size = 4) (hby : i.bytes = bytes)
    (v : Value) (n : Nat) (xs : List Value) (hs : a.eval s = v) (hown : w.ownsRow base e 4 v n xs) (hno : ∀ g, v.ownBlock = some g → Wordless w g)
    (ad : Addr) (m c : Nat) (news : List Value) (hx : a.eval x = .slice (some ad) m c) (hl : news.length = m * 4) (hnews : ∀ j u, news[j]? = some u → w.cell? (ad.add j) = some u) (h1 : ∀ u ∈ news, u.oneCell' = true) (h1w : ∀ u ∈ news, Go.Proofs.YtaacibgmdeoikaaGreatDoor.notWord u)
    (hm : 0 < m) (h63 : n + m ≤ maxLen) (hbytes : (n + m) * bytes ≤ 140737488355328) (hbase : base ≤ w.heap.size) (H : Nat) (hH : w.heap.size = H)
    (h : ∀ g cap w', w'.ownsRow base e 4 (.slice (some ⟨g, 0, none⟩) (n + m) cap) (n + m) (xs ++ news) → w.grownBy w' v.ownBlock → (v.ownBlock = some g ∨ g = H) → g < w'.heap.size → Wordless w' g → wpList P ops Q rest (a.put o.dst (.slice (some ⟨g, 0, none⟩) (n + m) cap)) w') : wpList P ops Q (o :: rest) a w := by
  refine wpList_plain hgd fun K hK => ?_
  obtain ⟨g, cap, w', hr, h2, h3, h4, h5⟩ := run_append_lies (P := P) w t o.type base e i _ 4 bytes ht hi hz hsize hby (by decide) (by omega) v n xs hown ad m c news hl hnews h1 hm h63 hbytes hbase H hH
  have h6 := append_wordlessA ht hi hz hsize hby hown hno hl hnews h1 h1w hm h63 hbytes hr
  unfold Oper.wp execOp
  simp only [ho, resolve, invoke, builtin, Sem.run_bind, Sem.run_pure, Result.andThen_ok, List.map_toArray, List.map_cons, List.map_nil, hs, hx, hr]
  exact hK _ _ (h g cap w' h2 h3 h4 h5 h6)

theorem step_append_act {P : Program} (w : World) {ops : Array Oper} {o : Oper} {a : Act} {K : Act → World → Prop} {Q : Exit → Act → World → Prop} {E : Prop} (hgd : o.guard = none) (s x : Operand) (t : TypeId)
    (ho : o.op = .call { callee := .builtin .append, args := #[s, x], argTypes := #[t, t] })
    (base : Nat) (e : TypeId) (i : TypeInfo) (bytes : Nat) (ht : P.underlying t = some (.slice e)) (hi : P.info? e = some i) (hz : i.zero = some (.agg zA))
    (hsize : i.size = 4) (hby : i.bytes = bytes)
    (v : Value) (n : Nat) (xs : List Value) (hs : a.eval s = v) (hown : w.ownsRow base e 4 v n xs) (hno : ∀ g, v.ownBlock = some g → Wordless w g)
    (ad : Addr) (m c : Nat) (news : List Value) (hx : a.eval x = .slice (some ad) m c) (hl : news.length = m * 4) (hnews : ∀ j u, news[j]? = some u → w.cell? (ad.add j) = some u) (h1 : ∀ u ∈ news, u.oneCell' = true) (h1w : ∀ u ∈ news, Go.Proofs.YtaacibgmdeoikaaGreatDoor.notWord u)
    (hm : 0 < m) (h63 : n + m ≤ maxLen) (hbytes : (n + m) * bytes ≤ 140737488355328) (hbase : base ≤ w.heap.size) (H : Nat) (hH : w.heap.size = H)
    (h : ∀ g cap w', w'.ownsRow base e 4 (.slice (some ⟨g, 0, none⟩) (n + m) cap) (n + m) (xs ++ news) → w.grownBy w' v.ownBlock → (v.ownBlock = some g ∨ g = H) → g < w'.heap.size → Wordless w' g → K (a.put o.dst (.slice (some ⟨g, 0, none⟩) (n + m) cap)) w') :
    if Region.wanted o (yielded ops a.tmps) = true then Oper.wp P o a w K Q else E := by
  have hw : Region.wanted o (yielded ops a.tmps) = true := by simp [Region.wanted, hgd]
  rw [if_pos hw]
  obtain ⟨g, cap, w', hr, h2, h3, h4, h5⟩ := run_append_lies (P := P) w t o.type base e i _ 4 bytes ht hi hz hsize hby (by decide) (by omega) v n xs hown ad m c news hl hnews h1 hm h63 hbytes hbase H hH
  have h6 := append_wordlessA ht hi hz hsize hby hown hno hl hnews h1 h1w hm h63 hbytes hr
  unfold Oper.wp execOp
  simp only [ho, resolve, invoke, builtin, Sem.run_bind, Sem.run_pure, Result.andThen_ok, List.map_toArray, List.map_cons, List.map_nil, hs, hx, hr]
  exact h g cap w' h2 h3 h4 h5 h6

/-- An act's cells. -/
def acl (p : Tri × Sl) : List Value := p.1.cells ++ [p.2.val]
def acells (ps : List (Tri × Sl)) : List Value := ps.flatMap acl
theorem acells_append (ps : List (Tri × Sl)) (p : Tri × Sl) : acells (ps ++ [p]) = acells ps ++ acl p := by simp [acells]
theorem acells_get (ps : List (Tri × Sl)) (j k : Nat) (hj : j < ps.length) (hk : k < 4) : (acells ps)[j * 4 + k]? = (acl (ps[j]!))[k]? := by
  induction ps generalizing j with
  | nil => simp at hj
  | cons t ts ih =>
    have e : acells (t :: ts) = acl t ++ acells ts := by simp [acells]
    have hl : (acl t).length = 4 := rfl
    rw [e]
    cases j with
    | zero => rw [List.getElem?_append_left (by omega)]; simp
    | succ j =>
      rw [List.getElem?_append_right (by omega), hl, show (j + 1) * 4 + k - 4 = j * 4 + k by omega, ih j (by simpa using hj)]
      simp
theorem ac_one (p : Tri × Sl) : ∀ u ∈ acl p, u.oneCell' = true := by
  intro u hu
  simp only [acl, Sl.val, Tri.cells, List.cons_append, List.nil_append, List.mem_cons, List.not_mem_nil, or_false] at hu
  rcases hu with rfl | rfl | rfl | rfl <;> rfl
theorem ac_notWord (p : Tri × Sl) : ∀ u ∈ acl p, notWord u := by
  intro u hu
  simp only [acl, Sl.val, Tri.cells, List.cons_append, List.nil_append, List.mem_cons, List.not_mem_nil, or_false] at hu
  rcases hu with rfl | rfl | rfl | rfl <;> trivial
theorem news_act (w : World) (p : Tri × Sl) (T : TypeId) : ∀ j u, (acl p)[j]? = some u → (w.alloc (.cells #[.bool p.1.s, .slice p.1.a1 p.1.n1 p.1.c1, .slice p.1.a2 p.1.n2 p.1.c2, .slice p.2.a p.2.n p.2.c] T)).cell? ((⟨w.heap.size, 0, none⟩ : Addr).add j) = some u :=
  World.news_of_block (cs := #[.bool p.1.s, .slice p.1.a1 p.1.n1 p.1.c1, .slice p.1.a2 p.1.n2 p.1.c2, .slice p.2.a p.2.n p.2.c]) (t := T) (fr := (0, 0)) (heap_alloc_new w _)
/-- Rows of acts of the call's own. -/
structure AsAt (w wr : World) (v : Value) (ps : List (Tri × Sl)) (ks : List (Rat × List Rat)) : Prop where
  own : wr.ownsRow w.heap.size 62 4 v ps.length (acells ps)
  no : ∀ g, v.ownBlock = some g → Wordless wr g
  rat : ∀ j, j < ps.length → ActIs wr (ps[j]!).1 (ps[j]!).2 ks[j]!
  ne : ∀ j, j < ps.length → 0 < (ps[j]!).2.n → ∀ ad, (ps[j]!).2.a = some ad → v.ownBlock ≠ some ad.block
  bl : Below w.heap.size w wr
  low : ∀ j, j < ps.length → 0 < (ps[j]!).2.n → ∀ ad, (ps[j]!).2.a = some ad → w.heap.size ≤ ad.block
theorem ownsA_block {w : World} {B : Nat} {v : Value} {n : Nat} {xs : List Value} (h : w.ownsRow B 62 4 v n xs) : ∀ k, v.ownBlock = some k → B ≤ k ∧ k < w.heap.size := by
  intro k hk
  obtain ⟨h1, ⟨rfl, _⟩ | ⟨g, cap, cur, rfl, hb, hh, hr⟩⟩ := h
  · cases hk
  · have : g = k := Option.some.inj hk
    subst this
    exact ⟨hb, (Array.getElem?_eq_some_iff.1 hh).1⟩
theorem AsAt.keep {w wr w' : World} {v : Value} {ps : List (Tri × Sl)} {ks : List (Rat × List Rat)} (h : AsAt w wr v ps ks) (hb : Below wr.heap.size wr w') : AsAt w w' v ps ks := by
  refine ⟨?_, fun g hg => (h.no g hg).below (ownsA_block h.own g hg).2 hb, fun j hj => (h.rat j hj).below hb, h.ne, below_step h.bl hb, h.low⟩
  refine ⟨h.own.1, ?_⟩
  rcases h.own.2 with h2 | ⟨g, cap, cur, hv, hbg, hh, hr⟩
  · exact Or.inl h2
  · exact Or.inr ⟨g, cap, cur, hv, hbg, by rw [hb.block g (Array.getElem?_eq_some_iff.1 hh).1]; exact hh, hr⟩
theorem AsAt.start (w wr : World) (ks : List (Rat × List Rat)) (hb : Below w.heap.size w wr) : AsAt w wr (.slice none 0 0) [] ks :=
  ⟨World.ownsRow_nil _ _ _ _, fun g hg => absurd (show (none : Option Nat) = some g from hg) (by simp), fun j hj => absurd hj (Nat.not_lt_zero _), fun j hj => absurd hj (Nat.not_lt_zero _), hb, fun j hj => absurd hj (Nat.not_lt_zero _)⟩
theorem AsAt.push {w wr w' : World} {g cap : Nat} {v : Value} {ps : List (Tri × Sl)} {p : Tri × Sl} {ks : List (Rat × List Rat)} (h : AsAt w wr v ps ks) (hp : ActIs wr p.1 p.2 ks[ps.length]!) (hne : 0 < p.2.n → ∀ ad, p.2.a = some ad → v.ownBlock ≠ some ad.block) (hlow : 0 < p.2.n → ∀ ad, p.2.a = some ad → w.heap.size ≤ ad.block)
    (own : w'.ownsRow w.heap.size 62 4 (.slice (some ⟨g, 0, none⟩) (ps.length + 1) cap) (ps.length + 1) (acells ps ++ acl p)) (hg : wr.grownBy w' v.ownBlock) (hat : v.ownBlock = some g ∨ g = wr.heap.size) (hn : Wordless w' g) : AsAt w w' (.slice (some ⟨g, 0, none⟩) (ps.length + 1) cap) (ps ++ [p]) ks := by
  have get1 : ∀ j, j < ps.length → (ps ++ [p])[j]! = ps[j]! := fun j hj2 => by rw [List.getElem!_eq_getElem?_getD, List.getElem!_eq_getElem?_getD, List.getElem?_append_left hj2]
  have get2 : (ps ++ [p])[ps.length]! = p := by rw [List.getElem!_eq_getElem?_getD, List.getElem?_append_right (Nat.le_refl _), Nat.sub_self]; rfl
  refine ⟨by rw [acells_append, List.length_append]; exact own, fun k hk => ?_, fun j hj => ?_, fun j hj => ?_, Below.grown h.bl hg h.bl.size (fun k hk => (ownsA_block h.own k hk).1), fun j hj => ?_⟩
  · have : g = k := Option.some.inj hk
    rw [← this]; exact hn
  · rw [List.length_append] at hj
    by_cases hj2 : j < ps.length
    · rw [get1 j hj2]
      have r := h.rat j hj2
      exact ⟨r.1.far hg h.no, r.2.far hg h.no (fun h0 ad e => h.ne j hj2 h0 ad e)⟩
    · have e : j = ps.length := by simp at hj; omega
      subst e
      rw [get2]; exact ⟨hp.1.far hg h.no, hp.2.far hg h.no (fun h0 ad e => hne h0 ad e)⟩
  · rw [List.length_append] at hj
    show _ → ∀ ad : Addr, _ → some g ≠ some ad.block
    have fresh : ∀ (l : Sl) (k : List Rat), LawIs wr l.val k → 0 < l.n → ∀ ad, l.a = some ad → v.ownBlock ≠ some ad.block → some g ≠ some ad.block := fun l k hl h0 ad e hv => by
      rcases hat with h' | h'
      · rw [← h']; exact hv
      · have := law_lt hl h0 e
        intro e'
        injection e' with e'
        omega
    by_cases hj2 : j < ps.length
    · rw [get1 j hj2]
      exact fun h0 ad e => fresh _ _ (h.rat j hj2).2 h0 ad e (h.ne j hj2 h0 ad e)
    · have e : j = ps.length := by simp at hj; omega
      subst e
      rw [get2]
      exact fun h0 ad e => fresh _ _ hp.2 h0 ad e (hne h0 ad e)
  · rw [List.length_append] at hj
    by_cases hj2 : j < ps.length
    · rw [get1 j hj2]; exact h.low j hj2
    · have e : j = ps.length := by simp at hj; omega
      subst e
      rw [get2]; exact hlow
theorem AsAt.acts {w wr : World} {v : Value} {ps : List (Tri × Sl)} {ks : List (Rat × List Rat)} (h : AsAt w wr v ps ks) (hl : ps.length = ks.length) : ActsAre wr v ks := by
  rcases h.own.2 with ⟨rfl, e⟩ | ⟨g, cap, cur, rfl, hb, hh, hc1, hc2, hs, ht⟩
  · exact ⟨none, 0, by rw [← hl, e], by omega, by decide, fun hp => by omega⟩
  · refine ⟨_, cap, by rw [hl], by omega, by unfold maxLen at hc2; exact hc2, fun _ => ⟨g, 0, rfl, (Array.getElem?_eq_some_iff.1 hh).1, fun j hj => ⟨(ps[j]!).1, (ps[j]!).2, ?_, h.rat j (by omega)⟩⟩⟩
    have cellk : ∀ k, k < 4 → wr.cell? ⟨g, 0 + j * 4 + k, none⟩ = (acl (ps[j]!))[k]? := fun k hk => by
      simp only [World.cell?, hh, Nat.zero_add]
      have e : (cur.toList.take (ps.length * 4))[j * 4 + k]? = (acells ps)[j * 4 + k]? := by rw [ht]
      rw [List.getElem?_take_of_lt (by omega), acells_get ps j k (by omega) hk] at e
      simpa using e
    exact ⟨cellk 0 (by decide), cellk 1 (by decide), cellk 2 (by decide), cellk 3 (by decide)⟩
theorem Tryz.infoA : (Tryz.prog.info? 62).map (fun i => (i.zero, i.size, i.bytes)) = some (some (.agg zA), 4, 80) := by kernel_rfl
/-- A row of acts, it and what comes next in blocks from lo to hi. -/
def ActsIn (w : World) (v : Value) (ks : List (Rat × List Rat)) (lo hi : Nat) : Prop := ∃ (a : Option Addr) (c : Nat), v = .slice a ks.length c ∧ ks.length ≤ c ∧ c ≤ 9223372036854775807 ∧ hi ≤ w.heap.size ∧
  (0 < ks.length → ∃ b o, a = some ⟨b, o, none⟩ ∧ (lo ≤ b ∧ b < hi) ∧ ∀ j, j < ks.length → ∃ (t : Tri) (l : Sl), (w.cell? ⟨b, o + j * 4, none⟩ = some (.bool t.s) ∧ w.cell? ⟨b, o + j * 4 + 1, none⟩ = some (.slice t.a1 t.n1 t.c1) ∧ w.cell? ⟨b, o + j * 4 + 2, none⟩ = some (.slice t.a2 t.n2 t.c2) ∧ w.cell? ⟨b, o + j * 4 + 3, none⟩ = some (.slice l.a l.n l.c)) ∧ ActIs w t l ks[j]! ∧ (0 < l.n → ∀ ad, l.a = some ad → lo ≤ ad.block ∧ ad.block < hi))
theorem ActsIn.acts {w : World} {v : Value} {ks : List (Rat × List Rat)} {lo hi : Nat} (h : ActsIn w v ks lo hi) : ActsAre w v ks := by
  obtain ⟨a, c, e, h1, h2, hh, h3⟩ := h
  refine ⟨a, c, e, h1, h2, fun hp => ?_⟩
  obtain ⟨b, o, ea, hlt, hc⟩ := h3 hp
  refine ⟨b, o, ea, by omega, fun j hj => ?_⟩
  obtain ⟨t, l, k, r, _⟩ := hc j hj
  exact ⟨t, l, k, r⟩
theorem ActsIn.below {w w' : World} {v : Value} {ks : List (Rat × List Rat)} {lo hi : Nat} (h : ActsIn w v ks lo hi) (hb : Below w.heap.size w w') : ActsIn w' v ks lo hi := by
  obtain ⟨a, c, e, h1, h2, hh, h3⟩ := h
  refine ⟨a, c, e, h1, h2, Nat.le_trans hh hb.size, fun hp => ?_⟩
  obtain ⟨b, o, ea, hlt, hc⟩ := h3 hp
  have hlt' : b < w.heap.size := by omega
  refine ⟨b, o, ea, hlt, fun j hj => ?_⟩
  obtain ⟨t, l, ⟨c0, c1, c2, c3⟩, r, q⟩ := hc j hj
  refine ⟨t, l, ?_, r.below hb, q⟩
  rw [hb.cell (p := ⟨b, o + j * 4, none⟩) hlt', hb.cell (p := ⟨b, o + j * 4 + 1, none⟩) hlt', hb.cell (p := ⟨b, o + j * 4 + 2, none⟩) hlt', hb.cell (p := ⟨b, o + j * 4 + 3, none⟩) hlt']
  exact ⟨c0, c1, c2, c3⟩
theorem ActsIn.far {w w' : World} {v : Value} {ks : List (Rat × List Rat)} {lo hi : Nat} {row : Option Nat} (h : ActsIn w v ks lo hi) (hg : w.grownBy w' row) (hno : ∀ g, row = some g → Wordless w g) (hne : ∀ g, row = some g → g < lo ∨ hi ≤ g) : ActsIn w' v ks lo hi := by
  obtain ⟨a, c, e, h1, h2, hh, h3⟩ := h
  refine ⟨a, c, e, h1, h2, Nat.le_trans hh hg.size, fun hp => ?_⟩
  obtain ⟨b, o, ea, hlt, hc⟩ := h3 hp
  have hlt' : b < w.heap.size := by omega
  have nb : row ≠ some b := fun x => by have := hne b x; omega
  refine ⟨b, o, ea, hlt, fun j hj => ?_⟩
  obtain ⟨t, l, ⟨c0, c1, c2, c3⟩, r, q⟩ := hc j hj
  refine ⟨t, l, ⟨?_, ?_, ?_, ?_⟩, ⟨r.1.far hg hno, r.2.far hg hno (fun h0 ad e x => ?_)⟩, q⟩
  · rw [hg.cell_far ⟨b, o + j * 4, none⟩ hlt' (fun e => nb e.symm)]; exact c0
  · rw [hg.cell_far ⟨b, o + j * 4 + 1, none⟩ hlt' (fun e => nb e.symm)]; exact c1
  · rw [hg.cell_far ⟨b, o + j * 4 + 2, none⟩ hlt' (fun e => nb e.symm)]; exact c2
  · rw [hg.cell_far ⟨b, o + j * 4 + 3, none⟩ hlt' (fun e => nb e.symm)]; exact c3
  · have a1 := q h0 ad e
    have a2 := hne ad.block x
    omega
theorem AsAt.isIn {w wr : World} {v : Value} {ps : List (Tri × Sl)} {ks : List (Rat × List Rat)} (h : AsAt w wr v ps ks) (hl : ps.length = ks.length) : ActsIn wr v ks w.heap.size wr.heap.size := by
  rcases h.own.2 with ⟨rfl, e⟩ | ⟨g, cap, cur, rfl, hb, hh, hc1, hc2, hs, ht⟩
  · exact ⟨none, 0, by rw [← hl, e], by omega, by decide, Nat.le_refl _, fun hp => by omega⟩
  · refine ⟨_, cap, by rw [hl], by omega, by unfold maxLen at hc2; exact hc2, Nat.le_refl _, fun _ => ⟨g, 0, rfl, ⟨hb, (Array.getElem?_eq_some_iff.1 hh).1⟩, fun j hj => ⟨(ps[j]!).1, (ps[j]!).2, ?_, h.rat j (by omega), fun h0 ad e => ⟨h.low j (by omega) h0 ad e, law_lt (h.rat j (by omega)).2 h0 e⟩⟩⟩⟩
    have cellk : ∀ k, k < 4 → wr.cell? ⟨g, 0 + j * 4 + k, none⟩ = (acl (ps[j]!))[k]? := fun k hk => by
      simp only [World.cell?, hh, Nat.zero_add]
      have e : (cur.toList.take (ps.length * 4))[j * 4 + k]? = (acells ps)[j * 4 + k]? := by rw [ht]
      rw [List.getElem?_take_of_lt (by omega), acells_get ps j k (by omega) hk] at e
      simpa using e
    exact ⟨cellk 0 (by decide), cellk 1 (by decide), cellk 2 (by decide), cellk 3 (by decide)⟩
end Go.Proofs.YtaacibgmdeoikaaGreatDoor
/- Rows of rows of acts in memory; rows of them that grow. -/
namespace Go.Proofs.YtaacibgmdeoikaaGreatDoor
open Go.RowKit Go.Sort Go.Shelf

/-- A row of rows of acts. -/
def StatesAre (w : World) (v : Value) (ks : List (List (Rat × List Rat))) : Prop := ∃ (a : Option Addr) (c : Nat), v = .slice a ks.length c ∧ ks.length ≤ c ∧ c ≤ 9223372036854775807 ∧
  (0 < ks.length → ∃ b o, a = some ⟨b, o, none⟩ ∧ b < w.heap.size ∧ ∀ j, j < ks.length → ∃ l : Sl, w.cell? ⟨b, o + j, none⟩ = some (.slice l.a l.n l.c) ∧ ActsAre w l.val ks[j]!)
theorem StatesAre.below {w w' : World} {v : Value} {ks : List (List (Rat × List Rat))} (h : StatesAre w v ks) (hb : Below w.heap.size w w') : StatesAre w' v ks := by
  obtain ⟨a, c, e, h1, h2, h3⟩ := h
  refine ⟨a, c, e, h1, h2, fun hp => ?_⟩
  obtain ⟨b, o, ea, hlt, hc⟩ := h3 hp
  refine ⟨b, o, ea, Nat.lt_of_lt_of_le hlt hb.size, fun j hj => ?_⟩
  obtain ⟨l, c0, r⟩ := hc j hj
  refine ⟨l, ?_, r.below hb⟩
  rw [hb.cell (p := ⟨b, o + j, none⟩) hlt]
  exact c0
/-- Rows of rows of the call's own. -/
structure SsAt (w wr : World) (v : Value) (ps : List Sl) (ks : List (List (Rat × List Rat))) (lo hi : Nat → Nat) : Prop where
  own : wr.ownsRow w.heap.size 63 1 v ps.length (sv ps)
  no : ∀ g, v.ownBlock = some g → Wordless wr g
  rat : ∀ j, j < ps.length → ActsIn wr (ps[j]!).val ks[j]! (lo j) (hi j)
  ne : ∀ j, j < ps.length → ∀ g, v.ownBlock = some g → g < lo j ∨ hi j ≤ g
  bl : Below w.heap.size w wr
theorem ownsSt_block {w : World} {B : Nat} {v : Value} {n : Nat} {xs : List Value} (h : w.ownsRow B 63 1 v n xs) : ∀ k, v.ownBlock = some k → B ≤ k ∧ k < w.heap.size := by
  intro k hk
  obtain ⟨h1, ⟨rfl, _⟩ | ⟨g, cap, cur, rfl, hb, hh, hr⟩⟩ := h
  · cases hk
  · have : g = k := Option.some.inj hk
    subst this
    exact ⟨hb, (Array.getElem?_eq_some_iff.1 hh).1⟩
theorem SsAt.keep {w wr w' : World} {v : Value} {ps : List Sl} {ks : List (List (Rat × List Rat))} {lo hi : Nat → Nat} (h : SsAt w wr v ps ks lo hi) (hb : Below wr.heap.size wr w') : SsAt w w' v ps ks lo hi := by
  refine ⟨?_, fun g hg => (h.no g hg).below (ownsSt_block h.own g hg).2 hb, fun j hj => (h.rat j hj).below hb, h.ne, below_step h.bl hb⟩
  refine ⟨h.own.1, ?_⟩
  rcases h.own.2 with h2 | ⟨g, cap, cur, hv, hbg, hh, hr⟩
  · exact Or.inl h2
  · exact Or.inr ⟨g, cap, cur, hv, hbg, by rw [hb.block g (Array.getElem?_eq_some_iff.1 hh).1]; exact hh, hr⟩
theorem SsAt.start (w wr : World) (ks : List (List (Rat × List Rat))) (lo hi : Nat → Nat) (hb : Below w.heap.size w wr) : SsAt w wr (.slice none 0 0) [] ks lo hi :=
  ⟨World.ownsRow_nil _ _ _ _, fun g hg => absurd (show (none : Option Nat) = some g from hg) (by simp), fun j hj => absurd hj (Nat.not_lt_zero _), fun j hj => absurd hj (Nat.not_lt_zero _), hb⟩
theorem SsAt.push {w wr w' : World} {g cap : Nat} {v : Value} {ps : List Sl} {p : Sl} {ks : List (List (Rat × List Rat))} {lo hi : Nat → Nat} {x y : Nat} (h : SsAt w wr v ps ks lo hi) (hp : ActsIn wr p.val ks[ps.length]! x y) (hne : ∀ g, v.ownBlock = some g → g < x ∨ y ≤ g)
    (own : w'.ownsRow w.heap.size 63 1 (.slice (some ⟨g, 0, none⟩) (ps.length + 1) cap) (ps.length + 1) (sv ps ++ [p.val])) (hg : wr.grownBy w' v.ownBlock) (hat : v.ownBlock = some g ∨ g = wr.heap.size) (hn : Wordless w' g) : SsAt w w' (.slice (some ⟨g, 0, none⟩) (ps.length + 1) cap) (ps ++ [p]) ks (fun j => if j = ps.length then x else lo j) (fun j => if j = ps.length then y else hi j) := by
  have get1 : ∀ j, j < ps.length → (ps ++ [p])[j]! = ps[j]! := fun j hj2 => by rw [List.getElem!_eq_getElem?_getD, List.getElem!_eq_getElem?_getD, List.getElem?_append_left hj2]
  have get2 : (ps ++ [p])[ps.length]! = p := by rw [List.getElem!_eq_getElem?_getD, List.getElem?_append_right (Nat.le_refl _), Nat.sub_self]; rfl
  refine ⟨by rw [sv_append, List.length_append]; exact own, fun k hk => ?_, fun j hj => ?_, fun j hj => ?_, Below.grown h.bl hg h.bl.size (fun k hk => (ownsSt_block h.own k hk).1)⟩
  · have : g = k := Option.some.inj hk
    rw [← this]; exact hn
  · rw [List.length_append] at hj
    by_cases hj2 : j < ps.length
    · have hne2 : ¬ j = ps.length := by omega
      simp only [if_neg hne2]
      rw [get1 j hj2]
      exact (h.rat j hj2).far hg h.no (h.ne j hj2)
    · have e : j = ps.length := by simp at hj; omega
      subst e
      simp only [if_true]
      rw [get2]; exact hp.far hg h.no hne
  · rw [List.length_append] at hj
    show ∀ k : Nat, some g = some k → _
    intro k hk
    obtain rfl := Option.some.inj hk
    have top : ∀ (l : Sl) (q : List (Rat × List Rat)) (lo hi : Nat), ActsIn wr l.val q lo hi → hi ≤ wr.heap.size := fun l q lo hi hl => by
      obtain ⟨_, _, _, _, _, hh, _⟩ := hl
      exact hh
    by_cases hj2 : j < ps.length
    · have hne2 : ¬ j = ps.length := by omega
      simp only [if_neg hne2]
      rcases hat with h' | h'
      · exact h.ne j hj2 g h'
      · have := top _ _ _ _ (h.rat j hj2); omega
    · have e : j = ps.length := by simp at hj; omega
      subst e
      simp only [if_true]
      rcases hat with h' | h'
      · exact hne g h'
      · have := top _ _ _ _ hp; omega
theorem SsAt.states {w wr : World} {v : Value} {ps : List Sl} {ks : List (List (Rat × List Rat))} {lo hi : Nat → Nat} (h : SsAt w wr v ps ks lo hi) (hl : ps.length = ks.length) : StatesAre wr v ks := by
  rcases h.own.2 with ⟨rfl, e⟩ | ⟨g, cap, cur, rfl, hb, hh, hc1, hc2, hs, ht⟩
  · exact ⟨none, 0, by rw [← hl, e], by omega, by decide, fun hp => by omega⟩
  · refine ⟨_, cap, by rw [hl], by omega, by unfold maxLen at hc2; exact hc2, fun _ => ⟨g, 0, rfl, (Array.getElem?_eq_some_iff.1 hh).1, fun j hj => ⟨ps[j]!, ?_, (h.rat j (by omega)).acts⟩⟩⟩
    simp only [World.cell?, hh, Nat.zero_add]
    have e : (cur.toList.take (ps.length * 1))[j]? = (sv ps)[j]? := by rw [ht]
    rw [List.getElem?_take_of_lt (by omega), sv_get ps j (by omega)] at e
    simpa [Sl.val] using e
theorem Tryz.infoAs : (Tryz.prog.info? 63).map (fun i => (i.zero, i.size, i.bytes)) = some (some (.slice none 0 0), 1, 24) := by kernel_rfl
end Go.Proofs.YtaacibgmdeoikaaGreatDoor
