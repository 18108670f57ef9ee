/- Rows of rows of fractions in memory; rows of them that grow. -/
import Derived.Test.YtpopcfclpemlaaaDoorQ1
namespace Go.Proofs.YtpopcfclpemlaaaDoor
open Go.RowKit Go.Sort Go.Shelf

/-- A row's three numbers. -/
abbrev Sl : Type := Option Addr × Nat × Nat
abbrev Sl.a (l : Sl) : Option Addr := l.1
abbrev Sl.n (l : Sl) : Nat := l.2.1
abbrev Sl.c (l : Sl) : Nat := l.2.2
def Sl.val (l : Sl) : Value := .slice l.a l.n l.c
theorem sl_of {w : World} {v : Value} {qs : List Rat} (h : LawIs w v qs) : ∃ l : Sl, v = l.val ∧ LawIs w l.val qs ∧ l.n = qs.length := by
  obtain ⟨a, c, e, h1⟩ := id h
  exact ⟨(a, qs.length, c), e, by rw [show Sl.val (a, qs.length, c) = v from e.symm]; exact h, rfl⟩
theorem law_len {w : World} {l : Sl} {qs : List Rat} (h : LawIs w l.val qs) : l.n = qs.length := by
  obtain ⟨a, c, e, _⟩ := h
  injection e
theorem law_lt {w : World} {l : Sl} {qs : List Rat} (h : LawIs w l.val qs) (hp : 0 < l.n) {ad : Addr} (ha : l.a = some ad) : ad.block < w.heap.size := by
  have hl := law_len h
  obtain ⟨a, c, e, _, _, h3⟩ := h
  obtain ⟨b, o, ea, hlt, _⟩ := h3 (by omega)
  have e1 : l.a = a := by injection e
  rw [e1, ea] at ha
  injection ha with ha
  rw [← ha]; exact hlt
theorem LawIs.far {w w' : World} {l : Sl} {qs : List Rat} {row : Option Nat} (h : LawIs w l.val qs) (hg : w.grownBy w' row) (hno : ∀ g, row = some g → Wordless w g) (hne : 0 < l.n → ∀ ad, l.a = some ad → row ≠ some ad.block) : LawIs w' l.val qs := by
  have hl := law_len h
  obtain ⟨a, c, e, h1, h2, h3⟩ := h
  refine ⟨a, c, e, h1, h2, fun hp => ?_⟩
  obtain ⟨b, o, ea, hlt, hc⟩ := h3 hp
  have e1 : l.a = a := by injection e
  have nb := hne (by omega) ⟨b, o, none⟩ (by rw [e1, ea])
  refine ⟨b, o, ea, Nat.lt_of_lt_of_le hlt hg.size, fun j hj => ?_⟩
  obtain ⟨s, a1, a2, n1, c1, n2, c2, k0, k1, k2, r⟩ := hc j hj
  refine ⟨s, a1, a2, n1, c1, n2, c2, ?_, ?_, ?_, r.far hg hno⟩
  · rw [hg.cell_far ⟨b, o + j * 3, none⟩ hlt (fun e => nb e.symm)]; exact k0
  · rw [hg.cell_far ⟨b, o + j * 3 + 1, none⟩ hlt (fun e => nb e.symm)]; exact k1
  · rw [hg.cell_far ⟨b, o + j * 3 + 2, none⟩ hlt (fun e => nb e.symm)]; exact k2
/-- A row of rows. -/
def RowsAre (w : World) (v : Value) (ks : List (List Rat)) : Prop := ∃ (a : Option Addr) (c : Nat), v = .slice a ks.length c ∧ ks.length ≤ c ∧ c ≤ 9223372036854775807 ∧
  (0 < ks.length → ∃ b o, a = some ⟨b, o, none⟩ ∧ b < w.heap.size ∧ ∀ j, j < ks.length → ∃ l : Sl, w.cell? ⟨b, o + j, none⟩ = some (.slice l.a l.n l.c) ∧ LawIs w l.val ks[j]!)
theorem RowsAre.below {w w' : World} {v : Value} {ks : List (List Rat)} (h : RowsAre w v ks) (hb : Below w.heap.size w w') : RowsAre w' v ks := by
  obtain ⟨a, c, e, h1, h2, h3⟩ := h
  refine ⟨a, c, e, h1, h2, fun hp => ?_⟩
  obtain ⟨b, o, ea, hlt, hc⟩ := h3 hp
  refine ⟨b, o, ea, Nat.lt_of_lt_of_le hlt hb.size, fun j hj => ?_⟩
  obtain ⟨l, c0, r⟩ := hc j hj
  refine ⟨l, ?_, r.below hb⟩
  rw [hb.cell (p := ⟨b, o + j, none⟩) hlt]
  exact c0
theorem zeroS_notWord (n : Nat) : ∀ u ∈ Builtin.zeroCells #[.slice none 0 0] n, Go.Proofs.YtpopcfclpemlaaaDoor.notWord u := by
  intro u hu
  obtain ⟨i, _, rfl⟩ := Array.mem_map.1 hu
  have : i % (#[Value.slice none 0 0] : Array Value).size < 1 := Nat.mod_lt _ (by decide)
  generalize i % (#[Value.slice none 0 0] : Array Value).size = j at *
  match j, this with
  | 0, _ => trivial
/-- append of some rows (cells that are no words). -/
theorem append_wordlessS {P : Program} {w w' : World} {t ty e : TypeId} {i : TypeInfo} {bytes base : Nat} (ht : P.underlying t = some (.slice e)) (hi : P.info? e = some i) (hz : i.zero = some (.slice none 0 0)) (hsize : i.size = 1) (hby : i.bytes = bytes)
    {v : Value} {n : Nat} {xs : List Value} (hown : w.ownsRow base e 1 v n xs) (hno : ∀ g, v.ownBlock = some g → Wordless w g)
    {ad : Addr} {m c : Nat} {news : List Value} (hl : news.length = m * 1) (hnews : ∀ j u, news[j]? = some u → w.cell? (ad.add j) = some u) (h1 : ∀ u ∈ news, u.oneCell' = true) (h1w : ∀ u ∈ news, Go.Proofs.YtpopcfclpemlaaaDoor.notWord u)
    (hm : 0 < m) (h63 : n + m ≤ maxLen) (hbytes : (n + m) * bytes ≤ 140737488355328) {g cap : Nat}
    (hr : (Builtin.append_ #[t, t] ty #[v, .slice (some ad) m c]).run P w = .ok (.slice (some ⟨g, 0, none⟩) (n + m) cap) w') : Wordless w' g := by
  have hmx : n + m ≤ 9223372036854775807 := h63
  subst hby
  have hzc : (Value.slice none 0 0).cells = #[.slice none 0 0] := by simp [Value.cells]
  have inj : ∀ {v1 v2 : Value} {w1 w2 : World}, (Result.ok v1 w1 : Result Value) = .ok v2 w2 → v1 = v2 ∧ w1 = w2 := fun h => by cases h; exact ⟨rfl, rfl⟩
  rcases hown.2 with ⟨rfl, rfl⟩ | ⟨g', cap', cur, rfl, hbg, hg, hnc, hcm, hcs, htake⟩
  · have hq := run_append_nil (P := P) w t ty e i _ ht hi hz ad m c news (by rw [hsize]; exact hl) hnews (by omega) (by omega) (by have hb := hbytes; simp only [Nat.zero_add] at hb; omega)
    rw [hq] at hr
    obtain ⟨ev, rfl⟩ := inj hr
    have eg : w.heap.size = g := by injection ev with e1; injection e1 with e1; injection e1
    subst eg
    refine wordless_of (heap_alloc_new w.drew _) fun u hu => ?_
    rcases Array.mem_append.1 hu with hu | hu
    · exact h1w u (by simpa using hu)
    · rw [hzc] at hu; exact zeroS_notWord _ u hu
  · have hcur := Wordless.owned hg (hno g' rfl)
    by_cases hroom : n + m ≤ cap'
    · have hfit : n * i.size + news.length ≤ cur.size := by rw [hl, hcs, hsize, ← Nat.add_mul]; exact Nat.mul_le_mul_right _ hroom
      have hq := run_append_room (P := P) w t ty e i ht hi g' n cap' cur hg ad m c news (by rw [hsize]; exact hl) hnews h1 hroom hfit
      rw [hq] at hr
      obtain ⟨ev, rfl⟩ := inj hr
      have eg : g' = g := by injection ev with e1; injection e1 with e1; injection e1
      subst eg
      refine wordless_of (setRow_heap w _ cur _ e _ hg) fun u hu => ?_
      have hu : u ∈ cur.toList.take (n * i.size) ++ news ++ cur.toList.drop (n * i.size + news.length) := by simpa using hu
      rcases List.mem_append.1 hu with hu | hu
      · rcases List.mem_append.1 hu with hu | hu
        · exact hcur u (by simpa using List.mem_of_mem_take hu)
        · exact h1w u hu
      · exact hcur u (by simpa using List.mem_of_mem_drop hu)
    · have holds : ∀ j u, xs[j]? = some u → w.cell? ((⟨g', 0, none⟩ : Addr).add j) = some u := hown.cells (g := g') rfl
      have hq := run_append_grow (P := P) w t ty e i _ ht hi hz ⟨g', 0, none⟩ n cap' xs (by rw [hsize]; exact hown.1) holds ad m c news (by rw [hsize]; exact hl) hnews (by omega) (by omega) (growslice_fits (by omega) hbytes)
      rw [hq] at hr
      obtain ⟨ev, rfl⟩ := inj hr
      have eg : w.heap.size = g := by injection ev with e1; injection e1 with e1; injection e1
      subst eg
      refine wordless_of (heap_alloc_new w.drew _) fun u hu => ?_
      rcases Array.mem_append.1 hu with hu | hu
      · rcases Array.mem_append.1 hu with hu | hu
        · refine hcur u ?_
          have hx : u ∈ xs := by simpa using hu
          rw [← htake] at hx
          simpa using List.mem_of_mem_take hx
        · exact h1w u (by simpa using hu)
      · rw [hzc] at hu; exact zeroS_notWord _ u hu

theorem wpList_append_sl {P : Program} (w : World) {ops : Array Oper} {rest : List Oper} {o : Oper} {a : Act} {Q : Exit → Act → World → Prop} (hgd : o.guard = none) (s x : Operand) (t : TypeId)
    (ho : o.op = .call { callee := .builtin .append, args := #[s, x], argTypes := #[t, t] })
    (base : Nat) (e : TypeId) (i : TypeInfo) (bytes : Nat) (ht : P.underlying t = some (.slice e)) (hi : P.info? e = some i) (hz : i.zero = some (.slice none 0 0))
    (hsize : i.size = 1) (hby : i.bytes = bytes)
    (v : Value) (n : Nat) (xs : List Value) (hs : a.eval s = v) (hown : w.ownsRow base e 1 v n xs) (hno : ∀ g, v.ownBlock = some g → Wordless w g)
    (ad : Addr) (m c : Nat) (news : List Value) (hx : a.eval x = .slice (some ad) m c) (hl : news.length = m * 1) (hnews : ∀ j u, news[j]? = some u → w.cell? (ad.add j) = some u) (h1 : ∀ u ∈ news, u.oneCell' = true) (h1w : ∀ u ∈ news, Go.Proofs.YtpopcfclpemlaaaDoor.notWord u)
    (hm : 0 < m) (h63 : n + m ≤ maxLen) (hbytes : (n + m) * bytes ≤ 140737488355328) (hbase : base ≤ w.heap.size) (H : Nat) (hH : w.heap.size = H)
    (h : ∀ g cap w', w'.ownsRow base e 1 (.slice (some ⟨g, 0, none⟩) (n + m) cap) (n + m) (xs ++ news) → w.grownBy w' v.ownBlock → (v.ownBlock = some g ∨ g = H) → g < w'.heap.size → Wordless w' g → wpList P ops Q rest (a.put o.dst (.slice (some ⟨g, 0, none⟩) (n + m) cap)) w') : wpList P ops Q (o :: rest) a w := by
  refine wpList_plain hgd fun K hK => ?_
  obtain ⟨g, cap, w', hr, h2, h3, h4, h5⟩ := run_append_lies (P := P) w t o.type base e i _ 1 bytes ht hi hz hsize hby (by decide) (by omega) v n xs hown ad m c news hl hnews h1 hm h63 hbytes hbase H hH
  have h6 := append_wordlessS ht hi hz hsize hby hown hno hl hnews h1 h1w hm h63 hbytes hr
  unfold Oper.wp execOp
  simp only [ho, resolve, invoke, builtin, Sem.run_bind, Sem.run_pure, Result.andThen_ok, List.map_toArray, List.map_cons, List.map_nil, hs, hx, hr]
  exact hK _ _ (h g cap w' h2 h3 h4 h5 h6)

theorem step_append_sl {P : Program} (w : World) {ops : Array Oper} {o : Oper} {a : Act} {K : Act → World → Prop} {Q : Exit → Act → World → Prop} {E : Prop} (hgd : o.guard = none) (s x : Operand) (t : TypeId)
    (ho : o.op = .call { callee := .builtin .append, args := #[s, x], argTypes := #[t, t] })
    (base : Nat) (e : TypeId) (i : TypeInfo) (bytes : Nat) (ht : P.underlying t = some (.slice e)) (hi : P.info? e = some i) (hz : i.zero = some (.slice none 0 0))
    (hsize : i.size = 1) (hby : i.bytes = bytes)
    (v : Value) (n : Nat) (xs : List Value) (hs : a.eval s = v) (hown : w.ownsRow base e 1 v n xs) (hno : ∀ g, v.ownBlock = some g → Wordless w g)
    (ad : Addr) (m c : Nat) (news : List Value) (hx : a.eval x = .slice (some ad) m c) (hl : news.length = m * 1) (hnews : ∀ j u, news[j]? = some u → w.cell? (ad.add j) = some u) (h1 : ∀ u ∈ news, u.oneCell' = true) (h1w : ∀ u ∈ news, Go.Proofs.YtpopcfclpemlaaaDoor.notWord u)
    (hm : 0 < m) (h63 : n + m ≤ maxLen) (hbytes : (n + m) * bytes ≤ 140737488355328) (hbase : base ≤ w.heap.size) (H : Nat) (hH : w.heap.size = H)
    (h : ∀ g cap w', w'.ownsRow base e 1 (.slice (some ⟨g, 0, none⟩) (n + m) cap) (n + m) (xs ++ news) → w.grownBy w' v.ownBlock → (v.ownBlock = some g ∨ g = H) → g < w'.heap.size → Wordless w' g → K (a.put o.dst (.slice (some ⟨g, 0, none⟩) (n + m) cap)) w') :
    if Region.wanted o (yielded ops a.tmps) = true then Oper.wp P o a w K Q else E := by
  have hw : Region.wanted o (yielded ops a.tmps) = true := by simp [Region.wanted, hgd]
  rw [if_pos hw]
  obtain ⟨g, cap, w', hr, h2, h3, h4, h5⟩ := run_append_lies (P := P) w t o.type base e i _ 1 bytes ht hi hz hsize hby (by decide) (by omega) v n xs hown ad m c news hl hnews h1 hm h63 hbytes hbase H hH
  have h6 := append_wordlessS ht hi hz hsize hby hown hno hl hnews h1 h1w hm h63 hbytes hr
  unfold Oper.wp execOp
  simp only [ho, resolve, invoke, builtin, Sem.run_bind, Sem.run_pure, Result.andThen_ok, List.map_toArray, List.map_cons, List.map_nil, hs, hx, hr]
  exact h g cap w' h2 h3 h4 h5 h6

def sv (ps : List Sl) : List Value := ps.map Sl.val
theorem sv_append (ps : List Sl) (p : Sl) : sv (ps ++ [p]) = sv ps ++ [p.val] := by simp [sv]
theorem sv_get (ps : List Sl) (j : Nat) (hj : j < ps.length) : (sv ps)[j]? = some (ps[j]!).val := by simp [sv, hj]
theorem sv_one (p : Sl) : ∀ u ∈ [p.val], u.oneCell' = true := by
  intro u hu
  obtain rfl := List.mem_singleton.1 hu
  rfl
theorem sv_notWord (p : Sl) : ∀ u ∈ [p.val], notWord u := by
  intro u hu
  obtain rfl := List.mem_singleton.1 hu
  trivial
theorem news_sl (w : World) (p : Sl) (T : TypeId) : ∀ j u, [p.val][j]? = some u → (w.alloc (.cells #[.slice p.a p.n p.c] T)).cell? ((⟨w.heap.size, 0, none⟩ : Addr).add j) = some u :=
  World.news_of_block (cs := #[.slice p.a p.n p.c]) (t := T) (fr := (0, 0)) (heap_alloc_new w _)
/-- Rows of rows of the call's own. -/
structure RsAt (w wr : World) (v : Value) (ps : List Sl) (ks : List (List Rat)) : Prop where
  own : wr.ownsRow w.heap.size 26 1 v ps.length (sv ps)
  no : ∀ g, v.ownBlock = some g → Wordless wr g
  rat : ∀ j, j < ps.length → LawIs wr (ps[j]!).val ks[j]!
  ne : ∀ j, j < ps.length → 0 < (ps[j]!).n → ∀ ad, (ps[j]!).a = some ad → v.ownBlock ≠ some ad.block
  bl : Below w.heap.size w wr
theorem ownsS_block {w : World} {B : Nat} {v : Value} {n : Nat} {xs : List Value} (h : w.ownsRow B 26 1 v n xs) : ∀ k, v.ownBlock = some k → B ≤ k ∧ k < w.heap.size := by
  intro k hk
  obtain ⟨h1, ⟨rfl, _⟩ | ⟨g, cap, cur, rfl, hb, hh, hr⟩⟩ := h
  · cases hk
  · have : g = k := Option.some.inj hk
    subst this
    exact ⟨hb, (Array.getElem?_eq_some_iff.1 hh).1⟩
theorem RsAt.keep {w wr w' : World} {v : Value} {ps : List Sl} {ks : List (List Rat)} (h : RsAt w wr v ps ks) (hb : Below wr.heap.size wr w') : RsAt w w' v ps ks := by
  refine ⟨?_, fun g hg => (h.no g hg).below (ownsS_block h.own g hg).2 hb, fun j hj => (h.rat j hj).below hb, h.ne, below_step h.bl hb⟩
  refine ⟨h.own.1, ?_⟩
  rcases h.own.2 with h2 | ⟨g, cap, cur, hv, hbg, hh, hr⟩
  · exact Or.inl h2
  · exact Or.inr ⟨g, cap, cur, hv, hbg, by rw [hb.block g (Array.getElem?_eq_some_iff.1 hh).1]; exact hh, hr⟩
theorem RsAt.start (w wr : World) (ks : List (List Rat)) (hb : Below w.heap.size w wr) : RsAt w wr (.slice none 0 0) [] ks :=
  ⟨World.ownsRow_nil _ _ _ _, fun g hg => absurd (show (none : Option Nat) = some g from hg) (by simp), fun j hj => absurd hj (Nat.not_lt_zero _), fun j hj => absurd hj (Nat.not_lt_zero _), hb⟩
theorem RsAt.push {w wr w' : World} {g cap : Nat} {v : Value} {ps : List Sl} {p : Sl} {ks : List (List Rat)} (h : RsAt w wr v ps ks) (hp : LawIs wr p.val ks[ps.length]!) (hne : 0 < p.n → ∀ ad, p.a = some ad → v.ownBlock ≠ some ad.block)
    (own : w'.ownsRow w.heap.size 26 1 (.slice (some ⟨g, 0, none⟩) (ps.length + 1) cap) (ps.length + 1) (sv ps ++ [p.val])) (hg : wr.grownBy w' v.ownBlock) (hat : v.ownBlock = some g ∨ g = wr.heap.size) (hn : Wordless w' g) : RsAt w w' (.slice (some ⟨g, 0, none⟩) (ps.length + 1) cap) (ps ++ [p]) ks := by
  have get1 : ∀ j, j < ps.length → (ps ++ [p])[j]! = ps[j]! := fun j hj2 => by rw [List.getElem!_eq_getElem?_getD, List.getElem!_eq_getElem?_getD, List.getElem?_append_left hj2]
  have get2 : (ps ++ [p])[ps.length]! = p := by rw [List.getElem!_eq_getElem?_getD, List.getElem?_append_right (Nat.le_refl _), Nat.sub_self]; rfl
  refine ⟨by rw [sv_append, List.length_append]; exact own, fun k hk => ?_, fun j hj => ?_, fun j hj => ?_, Below.grown h.bl hg h.bl.size (fun k hk => (ownsS_block h.own k hk).1)⟩
  · have : g = k := Option.some.inj hk
    rw [← this]; exact hn
  · rw [List.length_append] at hj
    by_cases hj2 : j < ps.length
    · rw [get1 j hj2]
      have r := h.rat j hj2
      exact r.far hg h.no (fun h0 ad e => h.ne j hj2 h0 ad e)
    · have e : j = ps.length := by simp at hj; omega
      subst e
      rw [get2]; exact hp.far hg h.no (fun h0 ad e => hne h0 ad e)
  · rw [List.length_append] at hj
    show _ → ∀ ad : Addr, _ → some g ≠ some ad.block
    have fresh : ∀ (l : Sl) (k : List Rat), LawIs wr l.val k → 0 < l.n → ∀ ad, l.a = some ad → v.ownBlock ≠ some ad.block → some g ≠ some ad.block := fun l k hl h0 ad e hv => by
      rcases hat with h' | h'
      · rw [← h']; exact hv
      · have := law_lt hl h0 e
        intro e'
        injection e' with e'
        omega
    by_cases hj2 : j < ps.length
    · rw [get1 j hj2]
      exact fun h0 ad e => fresh _ _ (h.rat j hj2) h0 ad e (h.ne j hj2 h0 ad e)
    · have e : j = ps.length := by simp at hj; omega
      subst e
      rw [get2]
      exact fun h0 ad e => fresh _ _ hp h0 ad e (hne h0 ad e)
theorem RsAt.rows {w wr : World} {v : Value} {ps : List Sl} {ks : List (List Rat)} (h : RsAt w wr v ps ks) (hl : ps.length = ks.length) : RowsAre wr v ks := by
  rcases h.own.2 with ⟨rfl, e⟩ | ⟨g, cap, cur, rfl, hb, hh, hc1, hc2, hs, ht⟩
  · exact ⟨none, 0, by rw [← hl, e], by omega, by decide, fun hp => by omega⟩
  · refine ⟨_, cap, by rw [hl], by omega, by unfold maxLen at hc2; exact hc2, fun _ => ⟨g, 0, rfl, (Array.getElem?_eq_some_iff.1 hh).1, fun j hj => ⟨ps[j]!, ?_, h.rat j (by omega)⟩⟩⟩
    simp only [World.cell?, hh, Nat.zero_add]
    have e : (cur.toList.take (ps.length * 1))[j]? = (sv ps)[j]? := by rw [ht]
    rw [List.getElem?_take_of_lt (by omega), sv_get ps j (by omega)] at e
    simpa [Sl.val] using e
theorem Tryd.infoS : (Tryd.prog.info? 26).map (fun i => (i.zero, i.size, i.bytes)) = some (some (.slice none 0 0), 1, 24) := by kernel_rfl
end Go.Proofs.YtpopcfclpemlaaaDoor
