/- Rows of rows of fractions in memory; rows of them that grow. -/
import Derived.Test.YtcelbgleajpenaaGreatDoorB4
import Derived.Test.YtcelbgleajpenaaGreatDoorB1
namespace Go.Proofs.YtcelbgleajpenaaGreatDoor
open Go.RowKit Go.Sort Go.Shelf

/-- A row's three numbers. -/
abbrev Sl : Type := Option Addr × Nat × Nat
abbrev Sl.a (l : Sl) : Option Addr := l.1
abbrev Sl.n (l : Sl) : Nat := l.2.1
abbrev Sl.c (l : Sl) : Nat := l.2.2
def Sl.val (l : Sl) : Value := .slice l.a l.n l.c
theorem sl_of {w : World} {v : Value} {qs : List Rat} (h : LawIs w v qs) : ∃ l : Sl, v = l.val ∧ LawIs w l.val qs ∧ l.n = qs.length := by
  obtain ⟨a, c, e, h1⟩ := id h
  exact ⟨(a, qs.length, c), e, by rw [show Sl.val (a, qs.length, c) = v from e.symm]; exact h, rfl⟩
theorem law_len {w : World} {l : Sl} {qs : List Rat} (h : LawIs w l.val qs) : l.n = qs.length := by
  obtain ⟨a, c, e, _⟩ := h
  injection e
theorem law_lt {w : World} {l : Sl} {qs : List Rat} (h : LawIs w l.val qs) (hp : 0 < l.n) {ad : Addr} (ha : l.a = some ad) : ad.block < w.heap.size := by
  have hl := law_len h
  obtain ⟨a, c, e, _, _, h3⟩ := h
  obtain ⟨b, o, ea, hlt, _⟩ := h3 (by omega)
  have e1 : l.a = a := by injection e
  rw [e1, ea] at ha
  injection ha with ha
  rw [← ha]; exact hlt
theorem LawIs.far {w w' : World} {l : Sl} {qs : List Rat} {row : Option Nat} (h : LawIs w l.val qs) (hg : w.grownBy w' row) (hno : ∀ g, row = some g → Wordless w g) (hne : 0 < l.n → ∀ ad, l.a = some ad → row ≠ some ad.block) : LawIs w' l.val qs := by
  have hl := law_len h
  obtain ⟨a, c, e, h1, h2, h3⟩ := h
  refine ⟨a, c, e, h1, h2, fun hp => ?_⟩
  obtain ⟨b, o, ea, hlt, hc⟩ := h3 hp
  have e1 : l.a = a := by injection e
  have nb := hne (by omega) ⟨b, o, none⟩ (by rw [e1, ea])
  refine ⟨b, o, ea, Nat.lt_of_lt_of_le hlt hg.size, fun j hj => ?_⟩
  obtain ⟨s, a1, a2, n1, c1, n2, c2, k0, k1, k2, r⟩ := hc j hj
  refine ⟨s, a1, a2, n1, c1, n2, c2, ?_, ?_, ?_, r.far hg hno⟩
  · rw [hg.cell_far ⟨b, o + j * 3, none⟩ hlt (fun e => nb e.symm)]; exact k0
  · rw [hg.cell_far ⟨b, o + j * 3 + 1, none⟩ hlt (fun e => nb e.symm)]; exact k1
  · rw [hg.cell_far ⟨b, o + j * 3 + 2, none⟩ hlt (fun e => nb e.symm)]; exact k2
/-- A row of rows. -/
def RowsAre (w : World) (v : Value) (ks : List (List Rat)) : Prop := ∃ (a : Option Addr) (c : Nat), v = .slice a ks.length c ∧ ks.length ≤ c ∧ c ≤ 9223372036854775807 ∧
  (0 < ks.length → ∃ b o, a = some ⟨b, o, none⟩ ∧ b < w.heap.size ∧ ∀ j, j < ks.length → ∃ l : Sl, w.cell? ⟨b, o + j, none⟩ = some (.slice l.a l.n l.c) ∧ LawIs w l.val ks[j]!)
theorem RowsAre.below {w w' : World} {v : Value} {ks : List (List Rat)} (h : RowsAre w v ks) (hb : Below w.heap.size w w') : RowsAre w' v ks := by
  obtain ⟨a, c, e, h1, h2, h3⟩ := h
  refine ⟨a, c, e, h1, h2, fun hp => ?_⟩
  obtain ⟨b, o, ea, hlt, hc⟩ := h3 hp
  refine ⟨b, o, ea, Nat.lt_of_lt_of_le hlt hb.size, fun j hj => ?_⟩
  obtain ⟨l, c0, r⟩ := hc j hj
  refine ⟨l, ?_, r.below hb⟩
  rw [hb.cell (p := ⟨b, o + j, none⟩) hlt]
  exact c0
theorem zeroS_notWord (n : Nat) : ∀ u ∈ Builtin.zeroCells #[.slice none 0 0] n, Go.Proofs.YtcelbgleajpenaaGreatDoor.notWord u := by
  intro u hu
  obtain ⟨i, _, rfl⟩ := Array.mem_map.1 hu
  have : i % (#[Value.slice none 0 0] : Array Value).size < 1 := Nat.mod_lt _ (by decide)
  generalize i % (#[Value.slice none 0 0] : Array Value).size = j at *
  match j, this with
  | 0, _ => trivial
/-- append of some rows (cells that are no words). -/
theorem append_wordlessS {P : Program} {w w' : World} {t ty e : TypeId} {i : TypeInfo} {bytes base : Nat} (ht : P.underlying t = some (.slice e)) (hi : P.info? e = some i) (hz : i.zero = some (.slice none 0 0)) (hsize : i.size = 1) (hby : i.bytes = bytes)
    {v : Value} {n : Nat} {xs : List Value} (hown : w.ownsRow base e 1 v n xs) (hno : ∀ g, v.ownBlock = some g → Wordless w g)
    {ad : Addr} {m c : Nat} {news : List Value} (hl : news.length = m * 1) (hnews : ∀ j u, news[j]? = some u → w.cell? (ad.add j) = some u) (h1 : ∀ u ∈ news, u.oneCell' = true) (h1w : ∀ u ∈ news, Go.Proofs.YtcelbgleajpenaaGreatDoor.notWord u)
    (hm : 0 < m) (h63 : n + m ≤ maxLen) (hbytes : (n + m) * bytes ≤ 140737488355328) {g cap : Nat}
    (hr : (Builtin.append_ #[t, t] ty #[v, .slice (some ad) m c]).run P w = .ok (.slice (some ⟨g, 0, none⟩) (n + m) cap) w') : Wordless w' g := by
  have hmx : n + m ≤ 9223372036854775807 := h63
  subst hby
  have hzc : (Value.slice none 0 0).cells = #[.slice none 0 0] := by simp [Value.cells]
  have inj : ∀ {v1 v2 : Value} {w1 w2 : World}, (Result.ok v1 w1 : Result Value) = .ok v2 w2 → v1 = v2 ∧ w1 = w2 := fun h => by cases h; exact ⟨rfl, rfl⟩
  rcases hown.2 with ⟨rfl, rfl⟩ | ⟨g', cap', cur, rfl, hbg, hg, hnc, hcm, hcs, htake⟩
  · have hq := run_append_nil (P := P) w t ty e i _ ht hi hz ad m c news (by rw [hsize]; exact hl) hnews (by omega) (by omega) (by have hb := hbytes; simp only [Nat.zero_add] at hb; omega)
    rw [hq] at hr
    obtain ⟨ev, rfl⟩ := inj hr
    have eg : w.heap.size = g := by injection ev with e1; injection e1 with e1; injection e1
    subst eg
    refine wordless_of (heap_alloc_new w.drew _) fun u hu => ?_
    rcases Array.mem_append.1 hu with hu | hu
    · exact h1w u (by simpa using hu)
    · rw [hzc] at hu; exact zeroS_notWord _ u hu
  · have hcur := Wordless.owned hg (hno g' rfl)
    by_cases hroom : n + m ≤ cap'
    · have hfit : n * i.size + news.length ≤ cur.size := by rw [hl, hcs, hsize, ← Nat.add_mul]; exact Nat.mul_le_mul_right _ hroom
      have hq := run_append_room (P := P) w t ty e i ht hi g' n cap' cur hg ad m c news (by rw [hsize]; exact hl) hnews h1 hroom hfit
      rw [hq] at hr
      obtain ⟨ev, rfl⟩ := inj hr
      have eg : g' = g := by injection ev with e1; injection e1 with e1; injection e1
      subst eg
      refine wordless_of (setRow_heap w _ cur _ e _ hg) fun u hu => ?_
      have hu : u ∈ cur.toList.take (n * i.size) ++ news ++ cur.toList.drop (n * i.size + news.length) := by simpa using hu
      rcases List.mem_append.1 hu with hu | hu
      · rcases List.mem_append.1 hu with hu | hu
        · exact hcur u (by simpa using List.mem_of_mem_take hu)
        · exact h1w u hu
      · exact hcur u (by simpa using List.mem_of_mem_drop hu)
    · have holds : ∀ j u, xs[j]? = some u → w.cell? ((⟨g', 0, none⟩ : Addr).add j) = some u := hown.cells (g := g') rfl
      have hq := run_append_grow (P := P) w t ty e i _ ht hi hz ⟨g', 0, none⟩ n cap' xs (by rw [hsize]; exact hown.1) holds ad m c news (by rw [hsize]; exact hl) hnews (by omega) (by omega) (growslice_fits (by omega) hbytes)
      rw [hq] at hr
      obtain ⟨ev, rfl⟩ := inj hr
      have eg : w.heap.size = g := by injection ev with e1; injection e1 with e1; injection e1
      subst eg
      refine wordless_of (heap_alloc_new w.drew _) fun u hu => ?_
      rcases Array.mem_append.1 hu with hu | hu
      · rcases Array.mem_append.1 hu with hu | hu
        · refine hcur u ?_
          have hx : u ∈ xs := by simpa using hu
          rw [← htake] at hx
          simpa using List.mem_of_mem_take hx
        · exact h1w u (by simpa using hu)
      · rw [hzc] at hu; exact zeroS_notWord _ u hu

theorem wpList_append_sl {P : Program} (w : World) {ops : Array Oper} {rest : List Oper} {o : Oper} {a : Act} {Q : Exit → Act → World → Prop} (hgd : o.guard = none) (s x : Operand) (t : TypeId)
    (ho : o.op = .call { callee := .builtin .append, args := #[s, x], argTypes := #[t, t] })
    (base : Nat) (e : TypeId) (i : TypeInfo) (bytes : Nat) (ht : P.underlying t = some (.slice e)) (hi : P.info? e = some i) (hz : i.zero = some (.slice none 0 0))
    (hsize : i.size = 1) (hby : i.bytes = bytes)
    (v : Value) (n : Nat) (xs : List Value) (hs : a.eval s = v) (hown : w.ownsRow base e 1 v n xs) (hno : ∀ g, v.ownBlock = some g → Wordless w g)
    (ad : Addr) (m c : Nat) (news : List Value) (hx : a.eval x = .slice (some ad) m c) (hl : news.length = m * 1) (hnews : ∀ j u, news[j]? = some u → w.cell? (ad.add j) = some u) (h1 : ∀ u ∈ news, u.oneCell' = true) (h1w : ∀ u ∈ news, Go.Proofs.YtcelbgleajpenaaGreatDoor.notWord u)
    (hm : 0 < m) (h63 : n + m ≤ maxLen) (hbytes : (n + m) * bytes ≤ 140737488355328) (hbase : base ≤ w.heap.size) (H : Nat) (hH : w.heap.size = H)
    (h : ∀ g cap w', w'.ownsRow base e 1 (.slice (some ⟨g, 0, none⟩) (n + m) cap) (n + m) (xs ++ news) → w.grownBy w' v.ownBlock → (v.ownBlock = some g ∨ g = H) → g < w'.heap.size → Wordless w' g → wpList P ops Q rest (a.put o.dst (.slice (some ⟨g, 0, none⟩) (n + m) cap)) w') : wpList P ops Q (o :: rest) a w := by
  refine wpList_plain hgd fun K hK => ?_
  obtain ⟨g, cap, w', hr, h2, h3, h4, h5⟩ := run_append_lies (P := P) w t o.type base e i _ 1 bytes ht hi hz hsize hby (by decide) (by omega) v n xs hown ad m c news hl hnews h1 hm h63 hbytes hbase H hH
  have h6 := append_wordlessS ht hi hz hsize hby hown hno hl hnews h1 h1w hm h63 hbytes hr
  unfold Oper.wp execOp
  simp only [ho, resolve, invoke, builtin, Sem.run_bind, Sem.run_pure, Result.andThen_ok, List.map_toArray, List.map_cons, List.map_nil, hs, hx, hr]
  exact hK _ _ (h g cap w' h2 h3 h4 h5 h6)

theorem step_append_sl {P : Program} (w : World) {ops : Array Oper} {o : Oper} {a : Act} {K : Act → World → Prop} {Q : Exit → Act → World → Prop} {E : Prop} (hgd : o.guard = none) (s x : Operand) (t : TypeId)
    (ho : o.op = .call { callee := .builtin .append, args := #[s, x], argTypes := #[t, t] })
    (base : Nat) (e : TypeId) (i : TypeInfo) (bytes : Nat) (ht : P.underlying t = some (.slice e)) (hi : P.info? e = some i) (hz : i.zero = some (.slice none 0 0))
    (hsize : i.size = 1) (hby : i.bytes = bytes)
    (v : Value) (n : Nat) (xs : List Value) (hs : a.eval s = v) (hown : w.ownsRow base e 1 v n xs) (hno : ∀ g, v.ownBlock = some g → Wordless w g)
    (ad : Addr) (m c : Nat) (news : List Value) (hx : a.eval x = .slice (some ad) m c) (hl : news.length = m * 1) (hnews : ∀ j u, news[j]? = some u → w.cell? (ad.add j) = some u) (h1 : ∀ u ∈ news, u.oneCell' = true) (h1w : ∀ u ∈ news, Go.Proofs.YtcelbgleajpenaaGreatDoor.notWord u)
    (hm : 0 < m) (h63 : n + m ≤ maxLen) (hbytes : (n + m) * bytes ≤ 140737488355328) (hbase : base ≤ w.heap.size) (H : Nat) (hH : w.heap.size = H)
    (h : ∀ g cap w', w'.ownsRow base e 1 (.slice (some ⟨g, 0, none⟩) (n + m) cap) (n + m) (xs ++ news) → w.grownBy w' v.ownBlock → (v.ownBlock = some g ∨ g = H) → g < w'.heap.size → Wordless w' g → K (a.put o.dst (.slice (some ⟨g, 0, none⟩) (n + m) cap)) w') :
    if Region.wanted o (yielded ops a.tmps) = true then Oper.wp P o a w K Q else E := by
  have hw : Region.wanted o (yielded ops a.tmps) = true := by simp [Region.wanted, hgd]
  rw [if_pos hw]
  obtain ⟨g, cap, w', hr, h2, h3, h4, h5⟩ := run_append_lies (P := P) w t o.type base e i _ 1 bytes ht hi hz hsize hby (by decide) (by omega) v n xs hown ad m c news hl hnews h1 hm h63 hbytes hbase H hH
  have h6 := append_wordlessS ht hi hz hsize hby hown hno hl hnews h1 h1w hm h63 hbytes hr
  unfold Oper.wp execOp
  simp only [ho, resolve, invoke, builtin, Sem.run_bind, Sem.run_pure, Result.andThen_ok, List.map_toArray, List.map_cons, List.map_nil, hs, hx, hr]
  exact h g cap w' h2 h3 h4 h5 h6

def sv (ps : List Sl) : List Value := ps.map Sl.val
theorem sv_append (ps : List Sl) (p : Sl) : sv (ps ++ [p]) = sv ps ++ [p.val] := by simp [sv]
theorem sv_get (ps : List Sl) (j : Nat) (hj : j < ps.length) : (sv ps)[j]? = some (ps[j]!).val := by simp [sv, hj]
theorem sv_one (p : Sl) : ∀ u ∈ [p.val], u.oneCell' = true := by
  intro u hu
  obtain rfl := List.mem_singleton.1 hu
  rfl
theorem sv_notWord (p : Sl) : ∀ u ∈ [p.val], notWord u := by
  intro u hu
  obtain rfl := List.mem_singleton.1 hu
  trivial
theorem news_sl (w : World) (p : Sl) (T : TypeId) : ∀ j u, [p.val][j]? = some u → (w.alloc (.cells #[.slice p.a p.n p.c] T)).cell? ((⟨w.heap.size, 0, none⟩ : Addr).add j) = some u :=
  World.news_of_block (cs := #[.slice p.a p.n p.c]) (t := T) (fr := (0, 0)) (heap_alloc_new w _)
/-- Rows of rows of the call's own. -/
structure RsAt (w wr : World) (v : Value) (ps : List Sl) (ks : List (List Rat)) : Prop where
  own : wr.ownsRow w.heap.size 42 1 v ps.length (sv ps)
  no : ∀ g, v.ownBlock = some g → Wordless wr g
  rat : ∀ j, j < ps.length → LawIs wr (ps[j]!).val ks[j]!
  ne : ∀ j, j < ps.length → 0 < (ps[j]!).n → ∀ ad, (ps[j]!).a = some ad → v.ownBlock ≠ some ad.block
  bl : Below w.heap.size w wr
theorem ownsS_blockz {w : World} {B : Nat} {v : Value} {n : Nat} {xs : List Value} (h : w.ownsRow B 42 1 v n xs) : ∀ k, v.ownBlock = some k → B ≤ k ∧ k < w.heap.size := by
  intro k hk
  obtain ⟨h1, ⟨rfl, _⟩ | ⟨g, cap, cur, rfl, hb, hh, hr⟩⟩ := h
  · cases hk
  · have : g = k := Option.some.inj hk
    subst this
    exact ⟨hb, (Array.getElem?_eq_some_iff.1 hh).1⟩
theorem RsAt.keep {w wr w' : World} {v : Value} {ps : List Sl} {ks : List (List Rat)} (h : RsAt w wr v ps ks) (hb : Below wr.heap.size wr w') : RsAt w w' v ps ks := by
  refine ⟨?_, fun g hg => (h.no g hg).below (ownsS_blockz h.own g hg).2 hb, fun j hj => (h.rat j hj).below hb, h.ne, below_step h.bl hb⟩
  refine ⟨h.own.1, ?_⟩
  rcases h.own.2 with h2 | ⟨g, cap, cur, hv, hbg, hh, hr⟩
  · exact Or.inl h2
  · exact Or.inr ⟨g, cap, cur, hv, hbg, by rw [hb.block g (Array.getElem?_eq_some_iff.1 hh).1]; exact hh, hr⟩
theorem RsAt.start (w wr : World) (ks : List (List Rat)) (hb : Below w.heap.size w wr) : RsAt w wr (.slice none 0 0) [] ks :=
  ⟨World.ownsRow_nil _ _ _ _, fun g hg => absurd (show (none : Option Nat) = some g from hg) (by simp), fun j hj => absurd hj (Nat.not_lt_zero _), fun j hj => absurd hj (Nat.not_lt_zero _), hb⟩
theorem RsAt.push {w wr w' : World} {g cap : Nat} {v : Value} {ps : List Sl} {p : Sl} {ks : List (List Rat)} (h : RsAt w wr v ps ks) (hp : LawIs wr p.val ks[ps.length]!) (hne : 0 < p.n → ∀ ad, p.a = some ad → v.ownBlock ≠ some ad.block)
    (own : w'.ownsRow w.heap.size 42 1 (.slice (some ⟨g, 0, none⟩) (ps.length + 1) cap) (ps.length + 1) (sv ps ++ [p.val])) (hg : wr.grownBy w' v.ownBlock) (hat : v.ownBlock = some g ∨ g = wr.heap.size) (hn : Wordless w' g) : RsAt w w' (.slice (some ⟨g, 0, none⟩) (ps.length + 1) cap) (ps ++ [p]) ks := by
  have get1 : ∀ j, j < ps.length → (ps ++ [p])[j]! = ps[j]! := fun j hj2 => by rw [List.getElem!_eq_getElem?_getD, List.getElem!_eq_getElem?_getD, List.getElem?_append_left hj2]
  have get2 : (ps ++ [p])[ps.length]! = p := by rw [List.getElem!_eq_getElem?_getD, List.getElem?_append_right (Nat.le_refl _), Nat.sub_self]; rfl
  refine ⟨by rw [sv_append, List.length_append]; exact own, fun k hk => ?_, fun j hj => ?_, fun j hj => ?_, Below.grown h.bl hg h.bl.size (fun k hk => (ownsS_blockz h.own k hk).1)⟩
  · have : g = k := Option.some.inj hk
    rw [← this]; exact hn
  · rw [List.length_append] at hj
    by_cases hj2 : j < ps.length
    · rw [get1 j hj2]
      have r := h.rat j hj2
      exact r.far hg h.no (fun h0 ad e => h.ne j hj2 h0 ad e)
    · have e : j = ps.length := by simp at hj; omega
      subst e
      rw [get2]; exact hp.far hg h.no (fun h0 ad e => hne h0 ad e)
  · rw [List.length_append] at hj
    show _ → ∀ ad : Addr, _ → some g ≠ some ad.block
    have fresh : ∀ (l : Sl) (k : List Rat), LawIs wr l.val k → 0 < l.n → ∀ ad, l.a = some ad → v.ownBlock ≠ some ad.block → some g ≠ some ad.block := fun l k hl h0 ad e hv => by
      rcases hat with h' | h'
      · rw [← h']; exact hv
      · have := law_lt hl h0 e
        intro e'
        injection e' with e'
        omega
    by_cases hj2 : j < ps.length
    · rw [get1 j hj2]
      exact fun h0 ad e => fresh _ _ (h.rat j hj2) h0 ad e (h.ne j hj2 h0 ad e)
    · have e : j = ps.length := by simp at hj; omega
      subst e
      rw [get2]
      exact fun h0 ad e => fresh _ _ hp h0 ad e (hne h0 ad e)
theorem RsAt.rows {w wr : World} {v : Value} {ps : List Sl} {ks : List (List Rat)} (h : RsAt w wr v ps ks) (hl : ps.length = ks.length) : RowsAre wr v ks := by
  rcases h.own.2 with ⟨rfl, e⟩ | ⟨g, cap, cur, rfl, hb, hh, hc1, hc2, hs, ht⟩
  · exact ⟨none, 0, by rw [← hl, e], by omega, by decide, fun hp => by omega⟩
  · refine ⟨_, cap, by rw [hl], by omega, by unfold maxLen at hc2; exact hc2, fun _ => ⟨g, 0, rfl, (Array.getElem?_eq_some_iff.1 hh).1, fun j hj => ⟨ps[j]!, ?_, h.rat j (by omega)⟩⟩⟩
    simp only [World.cell?, hh, Nat.zero_add]
    have e : (cur.toList.take (ps.length * 1))[j]? = (sv ps)[j]? := by rw [ht]
    rw [List.getElem?_take_of_lt (by omega), sv_get ps j (by omega)] at e
    simpa [Sl.val] using e
theorem Tryz.infoSz : (Tryz.prog.info? 42).map (fun i => (i.zero, i.size, i.bytes)) = some (some (.slice none 0 0), 1, 24) := by kernel_rfl
end Go.Proofs.YtcelbgleajpenaaGreatDoor
/- As many equations as unknown numbers: Gauss. -/
namespace Go.Proofs.YtcelbgleajpenaaGreatDoor.Lin
open Bth

theorem ps_zero {f : Nat → Rat} (k : Nat) (h : ∀ j, j < k → f j = 0) : ps f k = 0 := by
  induction k with
  | zero => rfl
  | succ k ih => show ps f k + f k = 0; rw [ih (fun j hj => h j (by omega)), h k (by omega)]; grind
theorem ps_add (f g : Nat → Rat) (k : Nat) : ps (fun j => f j + g j) k = ps f k + ps g k := by
  induction k with
  | zero => show (0 : Rat) = 0 + 0; grind
  | succ k ih => show ps _ k + _ = ps f k + f k + (ps g k + g k); rw [ih]; grind
theorem ps_sub (f g : Nat → Rat) (k : Nat) : ps (fun j => f j - g j) k = ps f k - ps g k := by
  induction k with
  | zero => show (0 : Rat) = 0 - 0; grind
  | succ k ih => show ps _ k + _ = ps f k + f k - (ps g k + g k); rw [ih]; grind
theorem ps_mul (c : Rat) (f : Nat → Rat) (k : Nat) : ps (fun j => c * f j) k = c * ps f k := by
  induction k with
  | zero => show (0 : Rat) = c * 0; grind
  | succ k ih => show ps _ k + _ = c * (ps f k + f k); rw [ih]; grind
theorem ps_swap (f : Nat → Nat → Rat) (m : Nat) (n : Nat) : ps (fun i => ps (fun j => f i j) n) m = ps (fun j => ps (fun i => f i j) m) n := by
  induction m with
  | zero => exact (ps_zero n (fun _ _ => rfl)).symm
  | succ m ih =>
    show ps (fun i => ps (fun j => f i j) n) m + ps (fun j => f m j) n = ps (fun j => ps (fun i => f i j) m + f m j) n
    rw [ps_add, ih]
/-- One place of a sum apart. -/
theorem ps_one {f : Nat → Rat} {i k : Nat} (hi : i < k) (h : ∀ j, j < k → j ≠ i → f j = 0) : ps f k = f i := by
  induction k with
  | zero => omega
  | succ k ih =>
    show ps f k + f k = f i
    by_cases e : i = k
    · subst e
      rw [ps_zero i (fun j hj => h j (by omega) (by omega))]; grind
    · rw [ih (by omega) (fun j hj hn => h j (by omega) hn), h k (by omega) (fun x => e x.symm)]; grind
theorem ps_nn_zero {f : Nat → Rat} {n : Nat} (h : ∀ j, j < n → 0 ≤ f j) (hz : ps f n ≤ 0) : ∀ j, j < n → f j = 0 := by
  induction n with
  | zero => intro j hj; omega
  | succ n ih =>
    have a := ps_nn (N := n) (fun j hj => h j (by omega)) n (Nat.le_refl _)
    have b := h n (by omega)
    have c : ps f n + f n ≤ 0 := hz
    intro j hj
    by_cases e : j = n
    · subst e; grind
    · exact ih (fun j hj => h j (by omega)) (by grind) j (by omega)

/-- Equations: row, column; the column n says what stands on the right. -/
def Sat (n : Nat) (M : Nat → Nat → Rat) (x : Nat → Rat) (t : Rat) : Prop := ∀ i, i < n → ps (fun j => M i j * x j) n = M i n * t
/-- What is looked at when k columns are done. -/
def eff (k : Nat) (L : Nat → Nat → Rat) (i j : Nat) : Rat := if j < k ∧ j < i then 0 else L i j
def swp (L : Nat → Nat → Rat) (k p i : Nat) : Nat → Rat := if i = k then L p else if i = p then L k else L i
/-- The rows behind k, of which the row k is taken away. -/
def took (L : Nat → Nat → Rat) (n k i j : Nat) : Rat := if k < i ∧ k < j ∧ j ≤ n then L i j - L i k / L k k * L k j else L i j

theorem eff_zero (L : Nat → Nat → Rat) : eff 0 L = L := by
  funext i j
  unfold eff
  rw [if_neg (by omega)]

theorem sat_swp {n k p : Nat} (L : Nat → Nat → Rat) (hk : k ≤ p) (hp : p < n) (x : Nat → Rat) (t : Rat) : Sat n (eff k (swp L k p)) x t ↔ Sat n (eff k L) x t := by
  have e1 : ∀ j, eff k (swp L k p) k j = eff k L p j := fun j => by
    unfold eff swp
    rw [if_pos rfl]
    by_cases h : j < k
    · rw [if_pos ⟨h, h⟩, if_pos ⟨h, by omega⟩]
    · rw [if_neg (by omega), if_neg (by omega)]
  have e2 : ∀ j, eff k (swp L k p) p j = eff k L k j := fun j => by
    unfold eff swp
    by_cases e : p = k
    · subst e; rw [if_pos rfl]
    rw [if_neg e, if_pos rfl]
    by_cases h : j < k
    · rw [if_pos ⟨h, by omega⟩, if_pos ⟨h, h⟩]
    · rw [if_neg (by omega), if_neg (by omega)]
  have e3 : ∀ i j, i ≠ k → i ≠ p → eff k (swp L k p) i j = eff k L i j := fun i j h1 h2 => by
    unfold eff swp
    rw [if_neg h1, if_neg h2]
  constructor
  · intro h i hi
    by_cases a : i = k
    · subst a
      have := h p hp
      simp only [e2] at this
      exact this
    by_cases b : i = p
    · subst b
      have := h k (by omega)
      simp only [e1] at this
      exact this
    have := h i hi
    simp only [e3 i _ a b] at this
    exact this
  · intro h i hi
    by_cases a : i = k
    · subst a
      simp only [e1]
      exact h p hp
    by_cases b : i = p
    · subst b
      simp only [e2]
      exact h k (by omega)
    simp only [e3 i _ a b]
    exact h i hi

theorem div_mul_self {a b : Rat} (h : b ≠ 0) : a / b * b = a := Rat.div_mul_cancel h

theorem sat_took {n k : Nat} (L : Nat → Nat → Rat) (hk : k < n) (hz : L k k ≠ 0) (x : Nat → Rat) (t : Rat) : Sat n (eff (k + 1) (took L n k)) x t ↔ Sat n (eff k L) x t := by
  have e1 : ∀ i j, i ≤ k → eff (k + 1) (took L n k) i j = eff k L i j := fun i j h => by
    unfold eff took
    rw [if_neg (c := k < i ∧ k < j ∧ j ≤ n) (by omega)]
    by_cases h1 : j < k ∧ j < i
    · rw [if_pos h1, if_pos (by omega)]
    · rw [if_neg h1, if_neg (by omega)]
  have e2 : ∀ i j, k < i → j ≤ n → eff (k + 1) (took L n k) i j = eff k L i j - L i k / L k k * eff k L k j := fun i j h hj => by
    unfold eff took
    by_cases h1 : j < k
    · rw [if_pos ⟨by omega, by omega⟩, if_pos ⟨h1, by omega⟩, if_pos ⟨h1, h1⟩]; grind
    by_cases h2 : j = k
    · subst h2
      rw [if_pos ⟨by omega, by omega⟩, if_neg (by omega), if_neg (by omega), div_mul_self hz]; grind
    rw [if_neg (by omega), if_pos ⟨h, by omega, hj⟩, if_neg (by omega), if_neg (by omega)]
  have e3 : ∀ i, k < i → ps (fun j => eff (k + 1) (took L n k) i j * x j) n = ps (fun j => eff k L i j * x j) n - L i k / L k k * ps (fun j => eff k L k j * x j) n := fun i h => by
    rw [← ps_mul, ← ps_sub]
    exact ps_congr n (fun j hj => by rw [e2 i j h (by omega)]; grind)
  constructor
  · intro h i hi
    by_cases a : i ≤ k
    · have := h i hi
      simp only [e1 i _ a] at this
      exact this
    · have h1 := h i hi
      have h2 := h k hk
      simp only [e1 k _ (Nat.le_refl k)] at h2
      rw [e3 i (by omega), h2, e2 i n (by omega) (Nat.le_refl n)] at h1
      grind
  · intro h i hi
    by_cases a : i ≤ k
    · simp only [e1 i _ a]
      exact h i hi
    · rw [e3 i (by omega), h i hi, h k hk, e2 i n (by omega) (Nat.le_refl n)]
      grind

/-- What holds when k columns are done. -/
def Inv (n : Nat) (A : Nat → Nat → Rat) (k : Nat) (L : Nat → Nat → Rat) : Prop := (∀ x t, Sat n A x t ↔ Sat n (eff k L) x t) ∧ ∀ i, i < k → L i i ≠ 0
theorem inv_zero (n : Nat) (A : Nat → Nat → Rat) : Inv n A 0 A := ⟨fun x t => by rw [eff_zero], fun i hi => by omega⟩
theorem inv_next {n k p : Nat} {A L : Nat → Nat → Rat} (h : Inv n A k L) (hk : k ≤ p) (hp : p < n) (hz : L p k ≠ 0) : Inv n A (k + 1) (took (swp L k p) n k) := by
  have e : swp L k p k = L p := by unfold swp; rw [if_pos rfl]
  refine ⟨fun x t => ?_, fun i hi => ?_⟩
  · rw [sat_took _ (by omega) (by rw [e]; exact hz), sat_swp L hk hp]
    exact h.1 x t
  · unfold took
    rw [if_neg (by omega)]
    by_cases a : i = k
    · subst a; rw [e]; exact hz
    · unfold swp
      rw [if_neg a, if_neg (by omega)]
      exact h.2 i (by omega)

/-- A number may be found for each of the rows m .. k-1, whatever stands behind. -/
theorem tri_fill {n k : Nat} {L : Nat → Nat → Rat} (hk : k ≤ n) (hz : ∀ i, i < k → L i i ≠ 0) (z : Nat → Rat) (t : Rat) : ∀ d, d ≤ k → ∃ y : Nat → Rat, (∀ j, k ≤ j → y j = z j) ∧ ∀ i, k - d ≤ i → i < k → ps (fun j => eff k L i j * y j) n = eff k L i n * t
  | 0, _ => ⟨z, fun _ _ => rfl, fun i h1 h2 => by omega⟩
  | d + 1, hd => by
    obtain ⟨y, h1, h2⟩ := tri_fill hk hz z t d (by omega)
    obtain ⟨m, hm⟩ : ∃ m, m = k - (d + 1) := ⟨_, rfl⟩
    let y' : Nat → Rat := fun j => if j = m then y m + (eff k L m n * t - ps (fun j => eff k L m j * y j) n) / L m m else y j
    refine ⟨y', fun j hj => ?_, fun i a b => ?_⟩
    · show (if j = m then _ else _) = _
      rw [if_neg (by omega)]; exact h1 j hj
    · have split : ∀ i, i < n → ps (fun j => eff k L i j * y' j) n = ps (fun j => eff k L i j * y j) n + eff k L i m * (y' m - y m) := fun i hi => by
        have : ps (fun j => eff k L i j * y' j) n - ps (fun j => eff k L i j * y j) n = eff k L i m * (y' m - y m) := by
          rw [← ps_sub]
          rw [ps_one (i := m) (by omega) (fun j hj hn => by
            have : y' j = y j := by show (if j = m then _ else _) = _; rw [if_neg hn]
            rw [this]; grind)]
          grind
        grind
      have ym : y' m = y m + (eff k L m n * t - ps (fun j => eff k L m j * y j) n) / L m m := by show (if m = m then _ else _) = _; rw [if_pos rfl]
      rw [split i (by omega)]
      by_cases e : i = m
      · subst e
        have ed : eff k L i i = L i i := by unfold eff; rw [if_neg (by omega)]
        rw [ym, ed]
        have := div_mul_self (a := eff k L i n * t - ps (fun j => eff k L i j * y j) n) (hz i b)
        grind
      · have e0 : eff k L i m = 0 := by unfold eff; rw [if_pos (by omega)]
        rw [e0, h2 i (by omega) b]
        grind

/-- No number in column k: then something other than 0 fits where all is 0 on the right. -/
theorem singular {n k : Nat} {A L : Nat → Nat → Rat} (h : Inv n A k L) (hk : k < n) (hz : ∀ p, k ≤ p → p < n → L p k = 0) : ∃ y, Sat n A y 0 ∧ y k = 1 := by
  obtain ⟨y, h1, h2⟩ := tri_fill (L := L) (n := n) (Nat.le_of_lt hk) h.2 (fun j => if j = k then 1 else 0) 0 k (Nat.le_refl k)
  refine ⟨y, (h.1 y 0).2 (fun i hi => ?_), ?_⟩
  · by_cases a : i < k
    · exact h2 i (by omega) a
    · have e : eff k L i n * 0 = 0 := by grind
      rw [e]
      refine ps_zero n (fun j hj => ?_)
      unfold eff
      by_cases b : j < k
      · rw [if_pos ⟨b, by omega⟩]; grind
      · rw [if_neg (by omega)]
        by_cases c : j = k
        · subst c; rw [hz i (by omega) hi]; grind
        · rw [h1 j (by omega), if_neg c]; grind
  · rw [h1 k (Nat.le_refl k), if_pos rfl]

/-- Where all columns are done, only 0 fits where all is 0 on the right. -/
theorem only_zero {n : Nat} {A L : Nat → Nat → Rat} (h : Inv n A n L) {y : Nat → Rat} (hy : Sat n A y 0) : ∀ d, d ≤ n → ∀ i, n - d ≤ i → i < n → y i = 0
  | 0, _ => fun i a b => by omega
  | d + 1, hd => by
    have ih := only_zero h hy d (by omega)
    have hs := (h.1 y 0).1 hy
    intro i a b
    by_cases e : n - d ≤ i
    · exact ih i e b
    · have hi : ∀ j, j < n → j ≠ i → eff n L i j * y j = 0 := fun j hj hn => by
        by_cases c : j < i
        · unfold eff; rw [if_pos ⟨hj, c⟩]; grind
        · rw [ih j (by omega) hj]; grind
      have := hs i b
      rw [ps_one b hi] at this
      have ed : eff n L i i = L i i := by unfold eff; rw [if_neg (by omega)]
      rw [ed] at this
      have t2 : L i i * y i = 0 := by grind
      rcases Rat.mul_eq_zero.1 t2 with c | c
      · exact absurd c (h.2 i b)
      · exact c

/-- The row k less what is known, after c numbers. -/
def rst (L : Nat → Nat → Rat) (x : Nat → Rat) (n k : Nat) : Nat → Rat
  | 0 => L k n
  | c + 1 => rst L x n k c - L k (k + 1 + c) * x (k + 1 + c)
/-- The numbers from the last on: m of them. -/
def bk (L : Nat → Nat → Rat) (n : Nat) : Nat → Nat → Rat
  | 0, _ => 0
  | m + 1, i => if i = n - 1 - m then rst L (bk L n m) n (n - 1 - m) m / L (n - 1 - m) (n - 1 - m) else bk L n m i
theorem rst_congr {L : Nat → Nat → Rat} {x y : Nat → Rat} {n k : Nat} : ∀ c, (∀ j, k < j → j < k + 1 + c → x j = y j) → rst L x n k c = rst L y n k c
  | 0, _ => rfl
  | c + 1, h => by
    show rst L x n k c - _ = rst L y n k c - _
    rw [rst_congr c (fun j a b => h j a (by omega)), h (k + 1 + c) (by omega) (by omega)]
theorem bk_old (L : Nat → Nat → Rat) (n : Nat) {i m : Nat} (h : n - m ≤ i) (hi : i < n) : ∀ d, m + d ≤ n → bk L n (m + d) i = bk L n m i
  | 0, _ => rfl
  | d + 1, hd => by
    show (if i = n - 1 - (m + d) then _ else bk L n (m + d) i) = _
    rw [if_neg (by omega)]
    exact bk_old L n h hi d (by omega)
theorem bk_new (L : Nat → Nat → Rat) (n : Nat) {k : Nat} (hk : k < n) : bk L n n k * L k k = rst L (bk L n n) n k (n - 1 - k) ∨ L k k = 0 := by
  by_cases hz : L k k = 0
  · exact Or.inr hz
  refine Or.inl ?_
  have e1 : bk L n n k = bk L n (n - k) k := by
    have := bk_old L n (i := k) (m := n - k) (by omega) hk k (by omega)
    rw [show n - k + k = n by omega] at this
    exact this
  have e2 : bk L n (n - k) k = rst L (bk L n (n - 1 - k)) n k (n - 1 - k) / L k k := by
    rw [show n - k = n - 1 - k + 1 by omega]
    show (if k = n - 1 - (n - 1 - k) then _ else _) = _
    rw [if_pos (by omega), show n - 1 - (n - 1 - k) = k by omega]
  rw [e1, e2, div_mul_self hz]
  refine rst_congr _ (fun j a b => ?_)
  have := bk_old L n (i := j) (m := n - 1 - k) (by omega) (by omega) (k + 1) (by omega)
  rw [show n - 1 - k + (k + 1) = n by omega] at this
  exact this.symm
/-- What is left of the row when all behind k is taken. -/
theorem rst_ps {L : Nat → Nat → Rat} {x : Nat → Rat} {n k : Nat} (hk : k < n) : ∀ c, k + 1 + c ≤ n → rst L x n k c = L k n - (ps (fun j => eff n L k j * x j) (k + 1 + c) - L k k * x k)
  | 0, _ => by
    show L k n = L k n - (ps (fun j => eff n L k j * x j) (k + 1) - L k k * x k)
    have : ps (fun j => eff n L k j * x j) (k + 1) = L k k * x k := by
      rw [ps_one (i := k) (by omega) (fun j a b => by unfold eff; rw [if_pos (by omega)]; grind)]
      unfold eff; rw [if_neg (by omega)]
    rw [this]; grind
  | c + 1, h => by
    show rst L x n k c - L k (k + 1 + c) * x (k + 1 + c) = L k n - (ps (fun j => eff n L k j * x j) (k + 1 + c) + eff n L k (k + 1 + c) * x (k + 1 + c) - L k k * x k)
    rw [rst_ps hk c (by omega)]
    have : eff n L k (k + 1 + c) = L k (k + 1 + c) := by unfold eff; rw [if_neg (by omega)]
    rw [this]; grind
theorem bk_sat {n : Nat} {A L : Nat → Nat → Rat} (h : Inv n A n L) : Sat n A (bk L n n) 1 := by
  refine (h.1 _ 1).2 (fun k hk => ?_)
  have ek : eff n L k n = L k n := by unfold eff; rw [if_neg (by omega)]
  rcases bk_new L n hk with e | e
  · have r := rst_ps (L := L) (x := bk L n n) hk (n - 1 - k) (by omega)
    rw [show k + 1 + (n - 1 - k) = n by omega, ← e] at r
    rw [ek]; grind
  · exact absurd e (h.2 k hk)
/-- What Solve says: the numbers that fit, and only these; or that there are others. -/
def Solved (n : Nat) (A : Nat → Nat → Rat) (x : Nat → Rat) : Prop := Sat n A x 1 ∧ ∀ y, Sat n A y 0 → ∀ i, i < n → y i = 0
theorem solved_of {n : Nat} {A L : Nat → Nat → Rat} (h : Inv n A n L) : Solved n A (bk L n n) := ⟨bk_sat h, fun y hy i hi => only_zero h hy n (Nat.le_refl n) i (by omega) hi⟩
end Go.Proofs.YtcelbgleajpenaaGreatDoor.Lin
