/- Fractions appended to a row of the call's own: the spare cells hold no words, so the numbers of the fractions lie elsewhere. -/
import Derived.Test.YtcelbgleajpenaaGreatDoorA15
namespace Go.Proofs.YtcelbgleajpenaaGreatDoor
open Go.RowKit Go.Sort Go.Shelf

def Wordless (w : World) (g : Nat) : Prop := ∀ i k x, w.cell? ⟨g, i, none⟩ ≠ some (.int k x)
def notWord : Value → Prop | .int _ _ => False | _ => True
theorem Tri.notWord (t : Tri) : ∀ u ∈ t.cells, notWord u := by
 intro u hu
 simp only [Tri.cells, List.mem_cons, List.not_mem_nil, or_false] at hu
 rcases hu with rfl | rfl | rfl <;> trivial
theorem tcells_notWord (ts : List Tri) : ∀ u ∈ tcells ts, Go.Proofs.YtcelbgleajpenaaGreatDoor.notWord u := by
 intro u hu
 obtain ⟨t, _, h⟩ := List.mem_flatMap.1 hu
 exact t.notWord u h
theorem wordless_of {w : World} {g : Nat} {cs : Array Value} {T : TypeId} {fr : Nat × Nat} (h : w.heap[g]? = some (.cells cs T fr)) (hn : ∀ u ∈ cs, Go.Proofs.YtcelbgleajpenaaGreatDoor.notWord u) : Wordless w g := by
 intro i k x e
 simp only [World.cell?, h] at e
 obtain ⟨_, e⟩ := Array.getElem?_eq_some_iff.1 (show cs[i]? = some _ from e)
 exact hn (.int k x) (e ▸ Array.getElem_mem _)
def zR : Array Value := #[.bool false, .slice none 0 0, .slice none 0 0]
theorem zeroCells_notWord (n : Nat) : ∀ u ∈ Builtin.zeroCells zR n, Go.Proofs.YtcelbgleajpenaaGreatDoor.notWord u := by
 intro u hu
 obtain ⟨i, _, rfl⟩ := Array.mem_map.1 hu
 have : i % zR.size < 3 := Nat.mod_lt _ (by decide)
 generalize i % zR.size = j at *
 match j, this with
 | 0, _ => trivial
 | 1, _ => trivial
 | 2, _ => trivial
theorem Wordless.owned {w : World} {g : Nat} {cs : Array Value} {T : TypeId} {fr : Nat × Nat} (h : w.heap[g]? = some (.cells cs T fr)) (hn : Wordless w g) : ∀ u ∈ cs, Go.Proofs.YtcelbgleajpenaaGreatDoor.notWord u := by
 intro u hu
 obtain ⟨i, hi, rfl⟩ := Array.mem_iff_getElem.1 hu
 cases e : cs[i] with
 | int k x => exact (hn i k x (by simp only [World.cell?, h]; rw [Array.getElem?_eq_getElem hi, e]; rfl)).elim
 | _ => trivial

theorem append_wordless {P : Program} {w w' : World} {t ty e : TypeId} {i : TypeInfo} {bytes base : Nat} (ht : P.underlying t = some (.slice e)) (hi : P.info? e = some i) (hz : i.zero = some (.agg zR)) (hsize : i.size = 3) (hby : i.bytes = bytes)
  {v : Value} {n : Nat} {xs : List Value} (hown : w.ownsRow base e 3 v n xs) (hno : ∀ g, v.ownBlock = some g → Wordless w g)
  {ad : Addr} {m c : Nat} {news : List Value} (hl : news.length = m * 3) (hnews : ∀ j u, news[j]? = some u → w.cell? (ad.add j) = some u) (h1 : ∀ u ∈ news, u.oneCell' = true) (h1w : ∀ u ∈ news, Go.Proofs.YtcelbgleajpenaaGreatDoor.notWord u)
  (hm : 0 < m) (h63 : n + m ≤ maxLen) (hbytes : (n + m) * bytes ≤ 140737488355328) {g cap : Nat}
  (hr : (Builtin.append_ #[t, t] ty #[v, .slice (some ad) m c]).run P w = .ok (.slice (some ⟨g, 0, none⟩) (n + m) cap) w') : Wordless w' g := by
 have hmx : n + m ≤ 9223372036854775807 := h63
 subst hby
 have hzc : (Value.agg zR).cells = zR := by simp [Value.cells, zR]
 have inj : ∀ {v1 v2 : Value} {w1 w2 : World}, (Result.ok v1 w1 : Result Value) = .ok v2 w2 → v1 = v2 ∧ w1 = w2 := fun h => by cases h; exact ⟨rfl, rfl⟩
 rcases hown.2 with ⟨rfl, rfl⟩ | ⟨g', cap', cur, rfl, hbg, hg, hnc, hcm, hcs, htake⟩
 ·have hq := run_append_nil (P := P) w t ty e i _ ht hi hz ad m c news (by rw [hsize]; exact hl) hnews (by omega) (by omega) (by have hb := hbytes; simp only [Nat.zero_add] at hb; omega)
  rw [hq] at hr
  obtain ⟨ev, rfl⟩ := inj hr
  have eg : w.heap.size = g := by injection ev with e1; injection e1 with e1; injection e1
  subst eg
  refine wordless_of (heap_alloc_new w.drew _) fun u hu => ?_
  rcases Array.mem_append.1 hu with hu | hu
  ·exact h1w u (by simpa using hu)
  ·rw [hzc] at hu; exact zeroCells_notWord _ u hu
 ·have hcur := Wordless.owned hg (hno g' rfl)
  by_cases hroom : n + m ≤ cap'
  ·have hfit : n * i.size + news.length ≤ cur.size := by rw [hl, hcs, hsize, ← Nat.add_mul]; exact Nat.mul_le_mul_right _ hroom
   have hq := run_append_room (P := P) w t ty e i ht hi g' n cap' cur hg ad m c news (by rw [hsize]; exact hl) hnews h1 hroom hfit
   rw [hq] at hr
   obtain ⟨ev, rfl⟩ := inj hr
   have eg : g' = g := by injection ev with e1; injection e1 with e1; injection e1
   subst eg
   refine wordless_of (setRow_heap w _ cur _ e _ hg) fun u hu => ?_
   have hu : u ∈ cur.toList.take (n * i.size) ++ news ++ cur.toList.drop (n * i.size + news.length) := by simpa using hu
   rcases List.mem_append.1 hu with hu | hu
   ·rcases List.mem_append.1 hu with hu | hu
    ·exact hcur u (by simpa using List.mem_of_mem_take hu)
    ·exact h1w u hu
   ·exact hcur u (by simpa using List.mem_of_mem_drop hu)
  ·have holds : ∀ j u, xs[j]? = some u → w.cell? ((⟨g', 0, none⟩ : Addr).add j) = some u := hown.cells (g := g') rfl
   have hq := run_append_grow (P := P) w t ty e i _ ht hi hz ⟨g', 0, none⟩ n cap' xs (by rw [hsize]; exact hown.1) holds ad m c news (by rw [hsize]; exact hl) hnews (by omega) (by omega) (growslice_fits (by omega) hbytes)
   rw [hq] at hr
   obtain ⟨ev, rfl⟩ := inj hr
   have eg : w.heap.size = g := by injection ev with e1; injection e1 with e1; injection e1
   subst eg
   refine wordless_of (heap_alloc_new w.drew _) fun u hu => ?_
   rcases Array.mem_append.1 hu with hu | hu
   ·rcases Array.mem_append.1 hu with hu | hu
    ·refine hcur u ?_
     have hx : u ∈ xs := by simpa using hu
     rw [← htake] at hx
     simpa using List.mem_of_mem_take hx
    ·exact h1w u (by simpa using hu)
   ·rw [hzc] at hu; exact zeroCells_notWord _ u hu

theorem wpList_append_tri {P : Program} (w : World) {ops : Array Oper} {rest : List Oper} {o : Oper} {a : Act} {Q : Exit → Act → World → Prop} (hgd : o.guard = none) (s x : Operand) (t : TypeId)
  (ho : o.op = .call { callee := .builtin .append, args := #[s, x], argTypes := #[t, t] })
  (base : Nat) (e : TypeId) (i : TypeInfo) (bytes : Nat) (ht : P.underlying t = some (.slice e)) (hi : P.info? e = some i) (hz : i.zero = some (.agg zR))
  (hsize : i.size = 3) (hby : i.bytes = bytes)
  (v : Value) (n : Nat) (xs : List Value) (hs : a.eval s = v) (hown : w.ownsRow base e 3 v n xs) (hno : ∀ g, v.ownBlock = some g → Wordless w g)
  (ad : Addr) (m c : Nat) (news : List Value) (hx : a.eval x = .slice (some ad) m c) (hl : news.length = m * 3) (hnews : ∀ j u, news[j]? = some u → w.cell? (ad.add j) = some u) (h1 : ∀ u ∈ news, u.oneCell' = true) (h1w : ∀ u ∈ news, Go.Proofs.YtcelbgleajpenaaGreatDoor.notWord u)
  (hm : 0 < m) (h63 : n + m ≤ maxLen) (hbytes : (n + m) * bytes ≤ 140737488355328) (hbase : base ≤ w.heap.size) (H : Nat) (hH : w.heap.size = H)
  (h : ∀ g cap w', w'.ownsRow base e 3 (.slice (some ⟨g, 0, none⟩) (n + m) cap) (n + m) (xs ++ news) → w.grownBy w' v.ownBlock → (v.ownBlock = some g ∨ g = H) → g < w'.heap.size → Wordless w' g → wpList P ops Q rest (a.put o.dst (.slice (some ⟨g, 0, none⟩) (n + m) cap)) w') : wpList P ops Q (o :: rest) a w := by
 refine wpList_plain hgd fun K hK => ?_
 obtain ⟨g, cap, w', hr, h2, h3, h4, h5⟩ := run_append_lies (P := P) w t o.type base e i _ 3 bytes ht hi hz hsize hby (by decide) (by omega) v n xs hown ad m c news hl hnews h1 hm h63 hbytes hbase H hH
 have h6 := append_wordless ht hi hz hsize hby hown hno hl hnews h1 h1w hm h63 hbytes hr
 unfold Oper.wp execOp
 simp only [ho, resolve, invoke, builtin, Sem.run_bind, Sem.run_pure, Result.andThen_ok, List.map_toArray, List.map_cons, List.map_nil, hs, hx, hr]
 exact hK _ _ (h g cap w' h2 h3 h4 h5 h6)

theorem RowIs.far {w w' : World} {a : Option Addr} {n c : Nat} {f : Nat → Int} {row : Option Nat} (h : RowIs w a n c f) (hg : w.grownBy w' row) (hno : ∀ g, row = some g → Wordless w g) : RowIs w' a n c f := by
 obtain ⟨h1, h2, h3⟩ := h
 refine ⟨h1, h2, fun hp => ?_⟩
 obtain ⟨b, o, ea, hlt, hc⟩ := h3 hp
 refine ⟨b, o, ea, Nat.lt_of_lt_of_le hlt hg.size, fun j hj => ?_⟩
 rw [hg.cell_far ⟨b, o + j, none⟩ hlt ?_]
 ·exact hc j hj
 ·intro e
  exact hno b e.symm _ _ _ (hc j hj)
theorem NatIs.far {w w' : World} {v : Value} {N : Int} {row : Option Nat} (h : NatIs w v N) (hg : w.grownBy w' row) (hno : ∀ g, row = some g → Wordless w g) : NatIs w' v N := by
 obtain ⟨a, n, c, e, hl, hr⟩ := h
 exact ⟨a, n, c, e, hl, hr.far hg hno⟩
theorem RatIs.far {w w' : World} {v : Value} {q : Rat} {row : Option Nat} (h : RatIs w v q) (hg : w.grownBy w' row) (hno : ∀ g, row = some g → Wordless w g) : RatIs w' v q := by
 obtain ⟨ov, un, e, h1, h2⟩ := h
 exact ⟨ov, un, e, h1.far hg hno, h2.far hg hno⟩
theorem Wordless.below {w w' : World} {g : Nat} (h : Wordless w g) (hlt : g < w.heap.size) (hb : Below w.heap.size w w') : Wordless w' g := fun i k x e => h i k x (by rw [← hb.cell (p := ⟨g, i, none⟩) hlt]; exact e)
end Go.Proofs.YtcelbgleajpenaaGreatDoor
/- plain.Fs: pairs made a row of fractions. -/
namespace Go.Proofs.YtcelbgleajpenaaGreatDoor
open Go.RowKit Go.Sort Go.Shelf

theorem Tryz.infoR : (Tryz.prog.info? 37).map (fun i => (i.zero, i.size, i.bytes)) = some (some (.agg zR), 3, 56) := by kernel_rfl

theorem ownsR_kept {w w' : World} {B : Nat} {v : Value} {n : Nat} {xs : List Value} (h : w.ownsRow B 37 3 v n xs) (hk : ∀ k o, B ≤ k → w.heap[k]? = some o → w'.heap[k]? = some o) : w'.ownsRow B 37 3 v n xs := by
 obtain ⟨h1, h2 | ⟨g, cap, cur, e, hb, hh, hr⟩⟩ := h
 ·exact ⟨h1, .inl h2⟩
 ·exact ⟨h1, .inr ⟨g, cap, cur, e, hb, hk g _ hb hh, hr⟩⟩
theorem ownsR_block {w : World} {B : Nat} {v : Value} {n : Nat} {xs : List Value} (h : w.ownsRow B 37 3 v n xs) : ∀ k, v.ownBlock = some k → B ≤ k ∧ k < w.heap.size := by
 intro k hk
 obtain ⟨h1, ⟨rfl, _⟩ | ⟨g, cap, cur, rfl, hb, hh, hr⟩⟩ := h
 ·cases hk
 ·have : g = k := Option.some.inj hk
  subst this
  exact ⟨hb, (Array.getElem?_eq_some_iff.1 hh).1⟩

structure FsAt (w wr : World) (B : Nat) (v : Value) (ts : List Tri) (qs : List Rat) : Prop where
 own : wr.ownsRow B 37 3 v ts.length (tcells ts)
 no : ∀ g, v.ownBlock = some g → Wordless wr g
 rat : ∀ j, j < ts.length → RatIs wr (ts[j]!).val qs[j]!
 bl : Below w.heap.size w wr
 base : w.heap.size ≤ B

theorem FsAt.keep {w wr w' : World} {B : Nat} {v : Value} {ts : List Tri} {qs : List Rat} (h : FsAt w wr B v ts qs) (hb : Below wr.heap.size wr w') : FsAt w w' B v ts qs := by
 refine ⟨ownsR_kept h.own fun k o _ ho => ?_, fun g hg => (h.no g hg).below (ownsR_block h.own g hg).2 hb, fun j hj => (h.rat j hj).below hb, below_step h.bl hb, h.base⟩
 rw [hb.block k (Array.getElem?_eq_some_iff.1 ho).1]; exact ho

theorem tri_of {w : World} {v : Value} {q : Rat} (h : RatIs w v q) : ∃ t : Tri, v = t.val ∧ RatIs w t.val q := by
 have h' := h
 obtain ⟨ov, un, rfl, ho, hu⟩ := h'
 obtain ⟨y1, y2, y3, rfl, _, _⟩ := ho
 obtain ⟨y4, y5, y6, rfl, _, _⟩ := hu
 exact ⟨⟨_, y1, y4, y2, y3, y5, y6⟩, rfl, h⟩

theorem news_tri (w : World) (t : Tri) (T : TypeId) : ∀ j u, t.cells[j]? = some u → (w.alloc (.cells #[.bool t.s, .slice t.a1 t.n1 t.c1, .slice t.a2 t.n2 t.c2] T)).cell? ((⟨w.heap.size, 0, none⟩ : Addr).add j) = some u :=
 World.news_of_block (cs := #[.bool t.s, .slice t.a1 t.n1 t.c1, .slice t.a2 t.n2 t.c2]) (t := T) (fr := (0, 0)) (heap_alloc_new w _)

theorem tri_one (t : Tri) : ∀ u ∈ t.cells, u.oneCell' = true := by
 intro u hu
 simp only [Tri.cells, List.mem_cons, List.not_mem_nil, or_false] at hu
 rcases hu with rfl | rfl | rfl <;> rfl

theorem FsAt.push {w wr w' : World} {B g cap : Nat} {v : Value} {ts : List Tri} {t : Tri} {qs : List Rat} (h : FsAt w wr B v ts qs) (ht : RatIs wr t.val qs[ts.length]!)
  (own : w'.ownsRow B 37 3 (.slice (some ⟨g, 0, none⟩) (ts.length + 1) cap) (ts.length + 1) (tcells ts ++ t.cells)) (hg : wr.grownBy w' v.ownBlock) (hn : Wordless w' g) (hB : B ≤ wr.heap.size) :
  FsAt w w' B (.slice (some ⟨g, 0, none⟩) (ts.length + 1) cap) (ts ++ [t]) qs := by
 refine ⟨by rw [tcells_append, List.length_append]; exact own, fun k hk => ?_, fun j hj => ?_, Below.grown h.bl hg (Nat.le_trans h.base hB) (fun k hk => Nat.le_trans h.base (ownsR_block h.own k hk).1), h.base⟩
 ·have : g = k := Option.some.inj hk
  rw [← this]; exact hn
 ·rw [List.length_append] at hj
  by_cases hj2 : j < ts.length
  ·have e : (ts ++ [t])[j]! = ts[j]! := by rw [List.getElem!_eq_getElem?_getD, List.getElem!_eq_getElem?_getD, List.getElem?_append_left hj2]
   rw [e]; exact (h.rat j hj2).far hg h.no
  ·have e : j = ts.length := by simp at hj; omega
   subst e
   have e : (ts ++ [t])[ts.length]! = t := by rw [List.getElem!_eq_getElem?_getD, List.getElem?_append_right (Nat.le_refl _), Nat.sub_self]; rfl
   rw [e]; exact ht.far hg h.no

theorem FsAt.start (w : World) (qs : List Rat) : FsAt w w w.heap.size (.slice none 0 0) [] qs :=
 ⟨World.ownsRow_nil _ _ _ _, fun g hg => absurd (show (none : Option Nat) = some g from hg) (by simp), fun j hj => absurd hj (Nat.not_lt_zero _), Below.refl _ _, Nat.le_refl _⟩

set_option maxHeartbeats 4000000 in
set_option maxRecDepth 100000 in
theorem fs_any (v : Value) (ps : List (Int × Int)) (w : World) (h : PairsAre w v ps) (hl : ps.length ≤ 1099511627776) :
  Calls Tryz.prog 15 #[v] w fun e w' => ∃ v, e = .returned v ∧ LawIs w' v (pqs ps) ∧ Below w.heap.size w w' := by
 obtain ⟨a, c, rfl, h1, h2, h4, h3⟩ := h
 obtain ⟨ti, hi, hz0, hz1, hz2⟩ := info_parts Tryz.infoR
 have H3 := hide h3
 have H4 := hide h4
 have HI := hide hi
 have HZ := hide hz0
 clear h3 h4 hi hz0
 go_enter Tryz.func15, Tryz.ntmps15
 go_wp2_with fail
 go_loopw [3, 8] (fun vo vi wr => ∃ (i : Nat) (ts : List Tri), vi = .int .i64 i ∧ i ≤ ps.length ∧ ts.length = i ∧ FsAt w wr w.heap.size vo ts (pqs ps)) (fun _ vi _ => ps.length - (intOf vi).toNat)
 case atStart => exact ⟨0, [], rfl, Nat.zero_le _, rfl, FsAt.start w _⟩
 case round =>
  obtain ⟨i, ts, rfl, hi, hts, T⟩ := hrel
  by_cases hlt : i < ps.length
  ·obtain ⟨b, o, rfl, hblt, hcs⟩ := unhide H3 (by omega)
   have ⟨k0, k1⟩ := hcs i hlt
   have ⟨i1, i2⟩ := unhide H4 i hlt
   rw [← T.bl.cell (p := ⟨b, o + i * 2, none⟩) hblt] at k0
   rw [← T.bl.cell (p := ⟨b, o + i * 2 + 1, none⟩) hblt] at k1
   obtain ⟨x, hx⟩ : ∃ x, (ps[i]!).1 = x := ⟨_, rfl⟩
   obtain ⟨y, hy⟩ : ∃ y, (ps[i]!).2 = y := ⟨_, rfl⟩
   have epq : (pqs ps)[ts.length]! = Rat.divInt x (if y = 0 then 1 else y) := by
    rw [hts, ← hx, ← hy]
    simp [pqs, pq, hlt]
   rw [hx] at k0 i1
   rw [hy] at k1 i2
   have T1 := T.keep (alloc_below wr (.cells #[.int .i64 x, .int .i64 y] 51))
   have HF := hide (f_any x y i1.1 i1.2 i2.1 i2.2 (wr.alloc (.cells #[.int .i64 x, .int .i64 y] 51)))
   have hi0 : (0 : Int) ≤ (i : Int) := by omega
   have hi1 : (i : Int) < (ps.length : Int) := by omega
   have HT1 := hide T1
   have HE := hide epq
   have HTS := hide hts
   clear T T1 hcs H3 H4 epq i1 i2 hts hx hy
   go_wp2_with fail
   refine (unhide HF).mono ?_
   rintro e w2 ⟨v2, rfl, hv2, hb2⟩
   obtain ⟨t, rfl, hr2⟩ := tri_of hv2
   rw [← unhide HE] at hr2
   have T2 := ((unhide HT1).keep hb2).keep (alloc_below w2 (.cells #[.bool t.s, .slice t.a1 t.n1 t.c1, .slice t.a2 t.n2 t.c2] 37))
   have hr3 := hr2.below (alloc_below w2 (.cells #[.bool t.s, .slice t.a1 t.n1 t.c1, .slice t.a2 t.n2 t.c2] 37))
   have hlen56 : (ts.length + 1) * 56 ≤ 140737488355328 := by have := unhide HTS; omega
   have hlen63 : ts.length + 1 ≤ maxLen := by have := unhide HTS; unfold maxLen; omega
   have hbase : w.heap.size ≤ (w2.alloc (.cells #[.bool t.s, .slice t.a1 t.n1 t.c1, .slice t.a2 t.n2 t.c2] 37)).heap.size := T2.bl.size
   have hsz2 : (w2.alloc (.cells #[.bool t.s, .slice t.a1 t.n1 t.c1, .slice t.a2 t.n2 t.c2] 37)).heap.size = w2.heap.size + 1 := by rw [alloc_heap, Array.size_push]
   have HT2 := hide T2
   have HR3 := hide hr3
   have HBA := hide hbase
   have HSZ := hide hsz2
   have HL56 := hide hlen56
   have HL63 := hide hlen63
   simp only [Tri.val]
   clear T2 hr3 hr2 hbase hsz2 hlen56 hlen63 hv2 hb2 HT1 HF
   go_wp2_with (at_builtin; go_loud (refine wpList_append_tri _ rfl _ _ _ rfl w.heap.size 37 ti 56 Tryz.underlying42 (unhide HI) (unhide HZ) hz1 hz2 _ ts.length (tcells ts) rfl (unhide HT2).own (unhide HT2).no ⟨w2.heap.size, 0, none⟩ 1 1 t.cells rfl rfl (news_tri w2 t _) (tri_one t) t.notWord (by decide) (unhide HL63) (unhide HL56) (unhide HBA) (w2.heap.size + 1) (unhide HSZ) ?_; intro g cap w4 hown4 hgrow hat hlt4 hno4))
   have FIN := hide ((unhide HT2).push (unhide HR3) hown4 hgrow hno4 (unhide HBA))
   clear hown4 hgrow hat hno4 HT2 HR3
   go_wp2_with fail
   exact ⟨⟨i + 1, ts ++ [t], by go_num, hlt, by rw [List.length_append, unhide HTS]; rfl, unhide FIN⟩, by simp [intOf]; omega⟩
  ·obtain rfl : i = ps.length := by omega
   have L := law_of_owns T.own (by rw [hts, pqs_length]) T.rat
   have HB := hide T.bl
   have HL := hide L
   clear T H3 H4 L
   go_wp2
   (try simp only [Exit.inBlock, Exit.then])
   exact bodyPost_ret (v := u3) (by simp [results, Tryz.results15, go_sem]) rfl ⟨_, rfl, unhide HL, unhide HB⟩
end Go.Proofs.YtcelbgleajpenaaGreatDoor
/- plain.Law; the checker's own sum. -/
namespace Go.Proofs.YtcelbgleajpenaaGreatDoor
open Go.RowKit Go.Sort Go.Shelf

set_option maxHeartbeats 1000000 in
theorem law_any (v : Value) (ps : List (Int × Int)) (w : World) (h : PairsAre w v ps) (hl : ps.length ≤ 1099511627776) :
  Calls Tryz.prog 31 #[v] w fun e w' => ∃ v, e = .returned v ∧ LawIs w' v (pqs ps) ∧ Below w.heap.size w w' := by
 have HF := hide (fs_any v ps w h hl)
 clear h
 go_enter Tryz.func31, Tryz.ntmps31
 go_wp2_with fail
 refine (unhide HF).mono ?_
 rintro e w2 ⟨v2, rfl, hv2, hb2⟩
 have HV := hide hv2
 obtain ⟨a, c, rfl, _, _, _⟩ := hv2
 go_wp2
 go_ret
 exact ⟨_, rfl, unhide HV, hb2⟩

end Go.Proofs.YtcelbgleajpenaaGreatDoor
