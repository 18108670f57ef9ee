/- Rows of pointers to the checker's fractions: appended to, read; the document's Of, List, Sum, LawCheck. -/
import Derived.Test.YtcelbgleajpenaaGreatDoorBG
import Derived.Test.YtcelbgleajpenaaGreatDoorA16
import Derived.Test.YtcelbgleajpenaaGreatDoorA15
namespace Go.Proofs.YtcelbgleajpenaaGreatDoor
open Go.RowKit Go.Sort Go.Shelf

def isPtr : Value → Prop | .pointer _ => True | _ => False
def Ptrly (w : World) (g : Nat) : Prop := ∀ i x, w.cell? ⟨g, i, none⟩ = some x → isPtr x
theorem ptrly_of {w : World} {g : Nat} {cs : Array Value} {T : TypeId} {fr : Nat × Nat} (h : w.heap[g]? = some (.cells cs T fr)) (hn : ∀ u ∈ cs, isPtr u) : Ptrly w g := by
 intro i x e
 simp only [World.cell?, h] at e
 obtain ⟨_, e⟩ := Array.getElem?_eq_some_iff.1 (show cs[i]? = some _ from e)
 exact hn x (e ▸ Array.getElem_mem _)
def zP : Array Value := #[.pointer none]
theorem zeroCells_ptr (n : Nat) : ∀ u ∈ Builtin.zeroCells zP n, isPtr u := by
 intro u hu
 obtain ⟨i, _, rfl⟩ := Array.mem_map.1 hu
 have : i % zP.size < 1 := Nat.mod_lt _ (by decide)
 generalize i % zP.size = j at *
 match j, this with
 | 0, _ => trivial
theorem Ptrly.owned {w : World} {g : Nat} {cs : Array Value} {T : TypeId} {fr : Nat × Nat} (h : w.heap[g]? = some (.cells cs T fr)) (hn : Ptrly w g) : ∀ u ∈ cs, isPtr u := by
 intro u hu
 obtain ⟨i, hi, rfl⟩ := Array.mem_iff_getElem.1 hu
 exact hn i cs[i] (by simp only [World.cell?, h]; rw [Array.getElem?_eq_getElem hi]; rfl)
theorem append_ptrly {P : Program} {w w' : World} {t ty e : TypeId} {i : TypeInfo} {bytes base : Nat} (ht : P.underlying t = some (.slice e)) (hi : P.info? e = some i) (hz : i.zero = some (.pointer none)) (hsize : i.size = 1) (hby : i.bytes = bytes)
  {v : Value} {n : Nat} {xs : List Value} (hown : w.ownsRow base e 1 v n xs) (hno : ∀ g, v.ownBlock = some g → Ptrly w g)
  {ad : Addr} {m c : Nat} {news : List Value} (hl : news.length = m * 1) (hnews : ∀ j u, news[j]? = some u → w.cell? (ad.add j) = some u) (h1 : ∀ u ∈ news, u.oneCell' = true) (h1w : ∀ u ∈ news, isPtr u)
  (hm : 0 < m) (h63 : n + m ≤ maxLen) (hbytes : (n + m) * bytes ≤ 140737488355328) {g cap : Nat}
  (hr : (Builtin.append_ #[t, t] ty #[v, .slice (some ad) m c]).run P w = .ok (.slice (some ⟨g, 0, none⟩) (n + m) cap) w') : Ptrly w' g := by
 have hmx : n + m ≤ 9223372036854775807 := h63
 subst hby
 have hzc : (Value.pointer none).cells = zP := by simp [Value.cells, zP]
 have inj : ∀ {v1 v2 : Value} {w1 w2 : World}, (Result.ok v1 w1 : Result Value) = .ok v2 w2 → v1 = v2 ∧ w1 = w2 := fun h => by cases h; exact ⟨rfl, rfl⟩
 rcases hown.2 with ⟨rfl, rfl⟩ | ⟨g', cap', cur, rfl, hbg, hg, hnc, hcm, hcs, htake⟩
 ·have hq := run_append_nil (P := P) w t ty e i _ ht hi hz ad m c news (by rw [hsize]; exact hl) hnews (by omega) (by omega) (by have hb := hbytes; simp only [Nat.zero_add] at hb; omega)
  rw [hq] at hr
  obtain ⟨ev, rfl⟩ := inj hr
  have eg : w.heap.size = g := by injection ev with e1; injection e1 with e1; injection e1
  subst eg
  refine ptrly_of (heap_alloc_new w.drew _) fun u hu => ?_
  rcases Array.mem_append.1 hu with hu | hu
  ·exact h1w u (by simpa using hu)
  ·rw [hzc] at hu; exact zeroCells_ptr _ u hu
 ·have hcur := Ptrly.owned hg (hno g' rfl)
  by_cases hroom : n + m ≤ cap'
  ·have hfit : n * i.size + news.length ≤ cur.size := by rw [hl, hcs, hsize, ← Nat.add_mul]; exact Nat.mul_le_mul_right _ hroom
   have hq := run_append_room (P := P) w t ty e i ht hi g' n cap' cur hg ad m c news (by rw [hsize]; exact hl) hnews h1 hroom hfit
   rw [hq] at hr
   obtain ⟨ev, rfl⟩ := inj hr
   have eg : g' = g := by injection ev with e1; injection e1 with e1; injection e1
   subst eg
   refine ptrly_of (setRow_heap w _ cur _ e _ hg) fun u hu => ?_
   have hu : u ∈ cur.toList.take (n * i.size) ++ news ++ cur.toList.drop (n * i.size + news.length) := by simpa using hu
   rcases List.mem_append.1 hu with hu | hu
   ·rcases List.mem_append.1 hu with hu | hu
    ·exact hcur u (by simpa using List.mem_of_mem_take hu)
    ·exact h1w u hu
   ·exact hcur u (by simpa using List.mem_of_mem_drop hu)
  ·have holds : ∀ j u, xs[j]? = some u → w.cell? ((⟨g', 0, none⟩ : Addr).add j) = some u := hown.cells (g := g') rfl
   have hq := run_append_grow (P := P) w t ty e i _ ht hi hz ⟨g', 0, none⟩ n cap' xs (by rw [hsize]; exact hown.1) holds ad m c news (by rw [hsize]; exact hl) hnews (by omega) (by omega) (growslice_fits (by omega) hbytes)
   rw [hq] at hr
   obtain ⟨ev, rfl⟩ := inj hr
   have eg : w.heap.size = g := by injection ev with e1; injection e1 with e1; injection e1
   subst eg
   refine ptrly_of (heap_alloc_new w.drew _) fun u hu => ?_
   rcases Array.mem_append.1 hu with hu | hu
   ·rcases Array.mem_append.1 hu with hu | hu
    ·refine hcur u ?_
     have hx : u ∈ xs := by simpa using hu
     rw [← htake] at hx
     simpa using List.mem_of_mem_take hx
    ·exact h1w u (by simpa using hu)
   ·rw [hzc] at hu; exact zeroCells_ptr _ u hu
theorem wpList_append_ptr {P : Program} (w : World) {ops : Array Oper} {rest : List Oper} {o : Oper} {a : Act} {Q : Exit → Act → World → Prop} (hgd : o.guard = none) (s x : Operand) (t : TypeId)
  (ho : o.op = .call { callee := .builtin .append, args := #[s, x], argTypes := #[t, t] })
  (base : Nat) (e : TypeId) (i : TypeInfo) (bytes : Nat) (ht : P.underlying t = some (.slice e)) (hi : P.info? e = some i) (hz : i.zero = some (.pointer none))
  (hsize : i.size = 1) (hby : i.bytes = bytes)
  (v : Value) (n : Nat) (xs : List Value) (hs : a.eval s = v) (hown : w.ownsRow base e 1 v n xs) (hno : ∀ g, v.ownBlock = some g → Ptrly w g)
  (ad : Addr) (m c : Nat) (news : List Value) (hx : a.eval x = .slice (some ad) m c) (hl : news.length = m * 1) (hnews : ∀ j u, news[j]? = some u → w.cell? (ad.add j) = some u) (h1 : ∀ u ∈ news, u.oneCell' = true) (h1w : ∀ u ∈ news, isPtr u)
  (hm : 0 < m) (h63 : n + m ≤ maxLen) (hbytes : (n + m) * bytes ≤ 140737488355328) (hbase : base ≤ w.heap.size) (H : Nat) (hH : w.heap.size = H)
  (h : ∀ g cap w', w'.ownsRow base e 1 (.slice (some ⟨g, 0, none⟩) (n + m) cap) (n + m) (xs ++ news) → w.grownBy w' v.ownBlock → (v.ownBlock = some g ∨ g = H) → g < w'.heap.size → Ptrly w' g → wpList P ops Q rest (a.put o.dst (.slice (some ⟨g, 0, none⟩) (n + m) cap)) w') : wpList P ops Q (o :: rest) a w := by
 refine wpList_plain hgd fun K hK => ?_
 obtain ⟨g, cap, w', hr, h2, h3, h4, h5⟩ := run_append_lies (P := P) w t o.type base e i _ 1 bytes ht hi hz hsize hby (by decide) (by omega) v n xs hown ad m c news hl hnews h1 hm h63 hbytes hbase H hH
 have h6 := append_ptrly ht hi hz hsize hby hown hno hl hnews h1 h1w hm h63 hbytes hr
 unfold Oper.wp execOp
 simp only [ho, resolve, invoke, builtin, Sem.run_bind, Sem.run_pure, Result.andThen_ok, List.map_toArray, List.map_cons, List.map_nil, hs, hx, hr]
 exact hK _ _ (h g cap w' h2 h3 h4 h5 h6)
theorem HNat.far {w w' : World} {v : Value} {N : Int} {row : Option Nat} (h : HNat w v N) (hg : w.grownBy w' row) (hno : ∀ g, row = some g → Ptrly w g) : HNat w' v N := by
 obtain ⟨a, n, c, e, hl, h1, h2, h3⟩ := h
 refine ⟨a, n, c, e, hl, h1, h2, fun hp => ?_⟩
 obtain ⟨b, o, ea, hlt, hc⟩ := h3 hp
 refine ⟨b, o, ea, Nat.lt_of_lt_of_le hlt hg.size, fun j hj => ?_⟩
 rw [hg.cell_far ⟨b, o + j, none⟩ hlt ?_]
 ·exact hc j hj
 ·intro e
  exact hno b e.symm _ _ (hc j hj)
theorem BInt.far {w w' : World} {b o : Nat} {N : Int} {row : Option Nat} (h : BInt w b o N) (hg : w.grownBy w' row) (hno : ∀ g, row = some g → Ptrly w g) : BInt w' b o N := by
 have ne : some b ≠ row := fun e => hno b e.symm _ _ h.sg
 obtain ⟨a, n, c, ea, hn⟩ := h.ab
 exact ⟨by rw [hg.cell_far ⟨b, o, none⟩ h.lt ne]; exact h.sg, ⟨a, n, c, by rw [hg.cell_far ⟨b, o + 1, none⟩ h.lt ne]; exact ea, hn.far hg hno⟩, by rw [hg.frozen_far ⟨b, o, none⟩ h.lt ne]; exact h.fs, by rw [hg.frozen_far ⟨b, o + 1, none⟩ h.lt ne]; exact h.fa, Nat.lt_of_lt_of_le h.lt hg.size⟩
theorem BRz.far {w w' : World} {b o : Nat} {q : Rat} {row : Option Nat} (h : BRz w b o q) (hg : w.grownBy w' row) (hno : ∀ g, row = some g → Ptrly w g) : BRz w' b o q :=
 ⟨h.1.far hg hno, h.2.imp (fun k => k.far hg hno) (fun k => ⟨k.1, k.2.far hg hno⟩)⟩
theorem Ptrly.below {w w' : World} {g : Nat} (h : Ptrly w g) (hlt : g < w.heap.size) (hb : Below w.heap.size w w') : Ptrly w' g := fun i x e => h i x (by rw [← hb.cell (p := ⟨g, i, none⟩) hlt]; exact e)
def ptrs (gs : List Nat) : List Value := gs.map fun g => .pointer (some ⟨g, 0, none⟩)
theorem ptrs_length (gs : List Nat) : (ptrs gs).length = gs.length := by simp [ptrs]
theorem ptrs_append (gs : List Nat) (g : Nat) : ptrs (gs ++ [g]) = ptrs gs ++ [.pointer (some ⟨g, 0, none⟩)] := by simp [ptrs]
theorem Tryz.infoP : (Tryz.prog.info? 31).map (fun i => (i.zero, i.size, i.bytes)) = some (some (.pointer none), 1, 8) := by kernel_rfl
theorem ownsP_kept {w w' : World} {B : Nat} {v : Value} {n : Nat} {xs : List Value} (h : w.ownsRow B 31 1 v n xs) (hk : ∀ k o, B ≤ k → w.heap[k]? = some o → w'.heap[k]? = some o) : w'.ownsRow B 31 1 v n xs := by
 obtain ⟨h1, h2 | ⟨g, cap, cur, e, hb, hh, hr⟩⟩ := h
 ·exact ⟨h1, .inl h2⟩
 ·exact ⟨h1, .inr ⟨g, cap, cur, e, hb, hk g _ hb hh, hr⟩⟩
theorem ownsP_block {w : World} {B : Nat} {v : Value} {n : Nat} {xs : List Value} (h : w.ownsRow B 31 1 v n xs) : ∀ k, v.ownBlock = some k → B ≤ k ∧ k < w.heap.size := by
 intro k hk
 obtain ⟨h1, ⟨rfl, _⟩ | ⟨g, cap, cur, rfl, hb, hh, hr⟩⟩ := h
 ·cases hk
 ·have : g = k := Option.some.inj hk
  subst this
  exact ⟨hb, (Array.getElem?_eq_some_iff.1 hh).1⟩
structure PAt (w wr : World) (B : Nat) (v : Value) (gs : List Nat) (qs : List Rat) : Prop where
 own : wr.ownsRow B 31 1 v gs.length (ptrs gs)
 no : ∀ g, v.ownBlock = some g → Ptrly wr g
 rat : ∀ j, j < gs.length → BRz wr gs[j]! 0 qs[j]!
 bl : Below w.heap.size w wr
 base : w.heap.size ≤ B
theorem PAt.keep {w wr w' : World} {B : Nat} {v : Value} {gs : List Nat} {qs : List Rat} (h : PAt w wr B v gs qs) (hb : Below wr.heap.size wr w') : PAt w w' B v gs qs := by
 refine ⟨ownsP_kept h.own fun k o _ ho => ?_, fun g hg => (h.no g hg).below (ownsP_block h.own g hg).2 hb, fun j hj => (h.rat j hj).below hb, bstep h.bl hb, h.base⟩
 rw [hb.block k (Array.getElem?_eq_some_iff.1 ho).1]; exact ho
theorem PAt.push {w wr w' : World} {B g cap : Nat} {v : Value} {gs : List Nat} {x : Nat} {qs : List Rat} (h : PAt w wr B v gs qs) (ht : BRz wr x 0 qs[gs.length]!)
  (own : w'.ownsRow B 31 1 (.slice (some ⟨g, 0, none⟩) (gs.length + 1) cap) (gs.length + 1) (ptrs gs ++ [.pointer (some ⟨x, 0, none⟩)])) (hg : wr.grownBy w' v.ownBlock) (hn : Ptrly w' g) (hB : B ≤ wr.heap.size) :
  PAt w w' B (.slice (some ⟨g, 0, none⟩) (gs.length + 1) cap) (gs ++ [x]) qs := by
 refine ⟨by rw [ptrs_append, List.length_append]; exact own, fun k hk => ?_, fun j hj => ?_, Below.grown h.bl hg (Nat.le_trans h.base hB) (fun k hk => Nat.le_trans h.base (ownsP_block h.own k hk).1), h.base⟩
 ·have : g = k := Option.some.inj hk
  rw [← this]; exact hn
 ·rw [List.length_append] at hj
  by_cases hj2 : j < gs.length
  ·have e : (gs ++ [x])[j]! = gs[j]! := by rw [List.getElem!_eq_getElem?_getD, List.getElem!_eq_getElem?_getD, List.getElem?_append_left hj2]
   rw [e]; exact (h.rat j hj2).far hg h.no
  ·have e : j = gs.length := by simp at hj; omega
   subst e
   have e : (gs ++ [x])[gs.length]! = x := by rw [List.getElem!_eq_getElem?_getD, List.getElem?_append_right (Nat.le_refl _), Nat.sub_self]; rfl
   rw [e]; exact ht.far hg h.no
theorem PAt.start (w : World) (qs : List Rat) : PAt w w w.heap.size (.slice none 0 0) [] qs :=
 ⟨World.ownsRow_nil _ _ _ _, fun g hg => absurd (show (none : Option Nat) = some g from hg) (by simp), fun j hj => absurd hj (Nat.not_lt_zero _), Below.refl _ _, Nat.le_refl _⟩
def RList (w : World) (v : Value) (qs : List Rat) : Prop := ∃ (a : Option Addr) (c : Nat), v = .slice a qs.length c ∧ qs.length ≤ c ∧ c ≤ 9223372036854775807 ∧ (0 < qs.length → ∃ b o, a = some ⟨b, o, none⟩ ∧ b < w.heap.size ∧ ∀ j, j < qs.length → ∃ g, w.cell? ⟨b, o + j, none⟩ = some (.pointer (some ⟨g, 0, none⟩)) ∧ BRz w g 0 qs[j]!)
theorem RList.below {w w' : World} {v : Value} {qs : List Rat} (h : RList w v qs) (hb : Below w.heap.size w w') : RList w' v qs := by
 obtain ⟨a, c, e, h1, h2, h3⟩ := h
 refine ⟨a, c, e, h1, h2, fun hp => ?_⟩
 obtain ⟨b, o, ea, hlt, hc⟩ := h3 hp
 refine ⟨b, o, ea, Nat.lt_of_lt_of_le hlt hb.size, fun j hj => ?_⟩
 obtain ⟨g, e1, e2⟩ := hc j hj
 exact ⟨g, by rw [hb.cell (p := ⟨b, o + j, none⟩) hlt]; exact e1, e2.below hb⟩
theorem rlist_of {w : World} {B : Nat} {v : Value} {gs : List Nat} {qs : List Rat} (h : w.ownsRow B 31 1 v gs.length (ptrs gs)) (hl : gs.length = qs.length) (hr : ∀ j, j < gs.length → BRz w gs[j]! 0 qs[j]!) : RList w v qs := by
 have h' := h
 obtain ⟨h1, ⟨rfl, h0⟩ | ⟨g, cap, cur, rfl, hb, hh, hnc, hcm, hcs, htake⟩⟩ := h'
 ·have : qs.length = 0 := by omega
  exact ⟨none, 0, by rw [this], by omega, by decide, fun hp => by omega⟩
 ·rw [hl] at hnc ⊢
  refine ⟨some ⟨g, 0, none⟩, cap, rfl, hnc, hcm, fun _ => ⟨g, 0, rfl, (Array.getElem?_eq_some_iff.1 hh).1, fun j hj => ?_⟩⟩
  have hc := h.cells (g := g) rfl j (.pointer (some ⟨gs[j]!, 0, none⟩)) (by simp [ptrs, show j < gs.length by omega])
  refine ⟨gs[j]!, ?_, hr j (by omega)⟩
  by_cases hj0 : j = 0
  ·subst hj0; simpa [Addr.add] using hc
  ·simpa [Addr.add, hj0] using hc
theorem RList.take {w : World} {a : Option Addr} {c n : Nat} {qs : List Rat} (h : RList w (.slice a qs.length c) qs) (hn : n ≤ qs.length) : RList w (.slice a n c) (qs.take n) := by
 obtain ⟨a', c', e, h1, h2, h3⟩ := h
 injection e with e1 e2 e3
 subst e1 e3
 have hl : (qs.take n).length = n := by rw [List.length_take]; omega
 refine ⟨a, c, by rw [hl], by omega, h2, fun hp => ?_⟩
 obtain ⟨b, o, ea, hlt, hc⟩ := h3 (by omega)
 refine ⟨b, o, ea, hlt, fun j hj => ?_⟩
 obtain ⟨g, e1, e2⟩ := hc j (by omega)
 refine ⟨g, e1, ?_⟩
 have : (qs.take n)[j]! = qs[j]! := by
  rw [List.getElem!_eq_getElem?_getD, List.getElem!_eq_getElem?_getD, List.getElem?_take_of_lt (by omega)]
 rw [this]; exact e2
theorem news_ptr (w : World) (x : Nat) (T : TypeId) : ∀ j u, [Value.pointer (some ⟨x, 0, none⟩)][j]? = some u → (w.alloc (.cells #[.pointer (some ⟨x, 0, none⟩)] T)).cell? ((⟨w.heap.size, 0, none⟩ : Addr).add j) = some u :=
 World.news_of_block (cs := #[.pointer (some ⟨x, 0, none⟩)]) (t := T) (fr := (0, 0)) (heap_alloc_new w _)
theorem one_ptr (x : Nat) : ∀ u ∈ [Value.pointer (some ⟨x, 0, none⟩)], u.oneCell' = true := by
 intro u hu
 simp only [List.mem_singleton] at hu
 subst hu; rfl
theorem is_ptr (x : Nat) : ∀ u ∈ [Value.pointer (some ⟨x, 0, none⟩)], isPtr u := by
 intro u hu
 simp only [List.mem_singleton] at hu
 subst hu; trivial
set_option maxHeartbeats 4000000 in
set_option maxRecDepth 100000 in
set_option linter.unusedSimpArgs false in
theorem newRat_any (x y : Int) (hx : I64 x) (hy : I64 y) (hy0 : y ≠ 0) (w : World) :
  Calls Tryz.prog 57 #[.int .i64 x, .int .i64 y] w (NewsZ w (Rat.divInt x y)) := by
 have k := slotR_new w
 have bA := abelow w (.cells #[.bool false, .slice none 0 0, .bool false, .slice none 0 0] 86)
 obtain ⟨W0, hW0⟩ : ∃ W, w.alloc (.cells #[.bool false, .slice none 0 0, .bool false, .slice none 0 0] 86) = W := ⟨_, rfl⟩
 obtain ⟨g, hg⟩ : ∃ g, w.heap.size = g := ⟨_, rfl⟩
 rw [hW0, hg] at k
 rw [hW0] at bA
 have HK := hide k
 have HB := hide bA
 have HG := hide hg
 have hyb : (y == 0) = false := by simpa using hy0
 have HN := hide (newInt_any x hx.1 hx.2 W0)
 have HYR : Hid (∀ W, Calls Tryz.prog 85 #[.int .i64 y] W fun e w' => ∃ b, e = .returned (.pointer (some ⟨b, 0, none⟩)) ∧ W.heap.size ≤ b ∧ BInt w' b 0 y ∧ Below W.heap.size W w') := fun W => newInt_any y hy.1 hy.2 W
 have HS : Hid (y ≠ 0 ∧ SmH (x.natAbs : Int) ∧ SmH (y.natAbs : Int)) := ⟨hy0, smh_small (by have := hx.1; have := hx.2; omega), smh_small (by have := hy.1; have := hy.2; omega)⟩
 clear k bA hx hy hy0
 go_enter Tryz.func57, Tryz.ntmps57
 go_wp2_with fail
 clear hW0 hg
 refine (unhide HN).mono ?_
 rintro e w1 ⟨b1, rfl, hb1, hi1, hl1⟩
 have HI := hide hi1
 have HL := hide hl1
 clear hi1 hl1 hb1
 go_wp2_with fail
 refine (unhide HYR w1).mono ?_
 rintro e w2 ⟨b2, rfl, hb2, hi2, hl2⟩
 have HL2 := hide (bstep (unhide HL) hl2)
 have HSF := hide (setFrac_any _ divs_any g 0 b1 0 b2 0 x y w2 ((unhide HK).below (unhide HL2)) ((unhide HI).below hl2) hi2 (unhide HS).1 (unhide HS).2.1 (unhide HS).2.2)
 clear hi2 hl2 hb2
 go_wp2_with fail
 refine (unhide HSF).mono ?_
 rintro e w3 ⟨rfl, hr, hf⟩
 have HR := hide hr
 have HF := hide (hf w (bstep (unhide HB) (unhide HL2)) (Nat.le_of_eq (unhide HG)))
 clear hr hf HSF
 go_wp2
 go_ret
 exact ⟨g, rfl, Nat.le_of_eq (unhide HG), (unhide HR).z, unhide HF⟩
set_option maxHeartbeats 4000000 in
set_option maxRecDepth 100000 in
set_option linter.unusedSimpArgs false in
theorem refOf_any (x y : Int) (hx : I64 x) (hy : I64 y) (w : World) :
  Calls Tryz.prog 20 #[.agg #[.int .i64 x, .int .i64 y]] w (NewsZ w (pq (x, y))) := by
 have bA := abelow w (.cells #[.int .i64 x, .int .i64 y] 51)
 have HB := hide bA
 by_cases hy0 : y = 0
 ·subst hy0
  have HN := hide (newRat_any x 1 hx ⟨by decide, by decide⟩ (by decide) (w.alloc (.cells #[.int .i64 x, .int .i64 0] 51)))
  have e : pq (x, 0) = Rat.divInt x 1 := rfl
  rw [e]
  clear hx hy bA e
  go_enter Tryz.func20, Tryz.ntmps20
  go_wp2_with fail
  refine (unhide HN).mono ?_
  rintro e w1 ⟨b, rfl, h1, h2, h3⟩
  have HH := hide (And.intro (Nat.le_trans (unhide HB).size h1) (And.intro h2 (bstep (unhide HB) h3)))
  clear h1 h2 h3 HN
  go_wp2
  go_ret
  exact ⟨b, rfl, (unhide HH).1, (unhide HH).2.1, (unhide HH).2.2⟩
 ·have HN := hide (newRat_any x y hx hy hy0 (w.alloc (.cells #[.int .i64 x, .int .i64 y] 51)))
  have e : pq (x, y) = Rat.divInt x y := by unfold pq; rw [if_neg hy0]
  rw [e]
  have hyb : (y == 0) = false := by simpa using hy0
  clear hx hy bA e hy0
  go_enter Tryz.func20, Tryz.ntmps20
  go_wp2_with fail
  refine (unhide HN).mono ?_
  rintro e w1 ⟨b, rfl, h1, h2, h3⟩
  have HH := hide (And.intro (Nat.le_trans (unhide HB).size h1) (And.intro h2 (bstep (unhide HB) h3)))
  clear h1 h2 h3 HN
  go_wp2
  go_ret
  exact ⟨b, rfl, (unhide HH).1, (unhide HH).2.1, (unhide HH).2.2⟩
set_option maxHeartbeats 4000000 in
set_option maxRecDepth 100000 in
set_option linter.unusedSimpArgs false in
theorem refList_any (v : Value) (ps : List (Int × Int)) (w : World) (h : PairsAre w v ps) (hl : ps.length ≤ 1099511627776) :
  Calls Tryz.prog 11 #[v] w fun e w' => ∃ v, e = .returned v ∧ RList w' v (pqs ps) ∧ Below w.heap.size w w' := by
 obtain ⟨a, c, rfl, h1, h2, h4, h3⟩ := h
 obtain ⟨ti, hi, hz0, hz1, hz2⟩ := info_parts Tryz.infoP
 have H3 := hide h3
 have H4 := hide h4
 have HI := hide hi
 have HZ := hide hz0
 clear h3 h4 hi hz0
 go_enter Tryz.func11, Tryz.ntmps11
 go_wp2_with fail
 go_loopw [3, 8] (fun vo vi wr => ∃ (i : Nat) (gs : List Nat), vi = .int .i64 i ∧ i ≤ ps.length ∧ gs.length = i ∧ PAt w wr w.heap.size vo gs (pqs ps)) (fun _ vi _ => ps.length - (intOf vi).toNat)
 case atStart => exact ⟨0, [], rfl, Nat.zero_le _, rfl, PAt.start w _⟩
 case round =>
  obtain ⟨i, gs, rfl, hi, hts, T⟩ := hrel
  by_cases hlt : i < ps.length
  ·obtain ⟨b, o, rfl, hblt, hcs⟩ := unhide H3 (by omega)
   have ⟨k0, k1⟩ := hcs i hlt
   have ⟨i1, i2⟩ := unhide H4 i hlt
   rw [← T.bl.cell (p := ⟨b, o + i * 2, none⟩) hblt] at k0
   rw [← T.bl.cell (p := ⟨b, o + i * 2 + 1, none⟩) hblt] at k1
   obtain ⟨x, hx⟩ : ∃ x, (ps[i]!).1 = x := ⟨_, rfl⟩
   obtain ⟨y, hy⟩ : ∃ y, (ps[i]!).2 = y := ⟨_, rfl⟩
   have epq : (pqs ps)[gs.length]! = pq (x, y) := by
    rw [hts, ← hx, ← hy]
    simp [pqs, hlt]
   rw [hx] at k0 i1
   rw [hy] at k1 i2
   have T1 := T.keep (abelow wr (.cells #[.int .i64 x, .int .i64 y] 51))
   have HF := hide (refOf_any x y i1 i2 (wr.alloc (.cells #[.int .i64 x, .int .i64 y] 51)))
   have hi0 : (0 : Int) ≤ (i : Int) := by omega
   have hi1 : (i : Int) < (ps.length : Int) := by omega
   have HT1 := hide T1
   have HE := hide epq
   have HTS := hide hts
   clear T T1 hcs H3 H4 epq i1 i2 hts hx hy
   go_wp2_with fail
   refine (unhide HF).mono ?_
   rintro e w2 ⟨bn, rfl, -, hr2, hb2⟩
   rw [← unhide HE] at hr2
   have T2 := ((unhide HT1).keep hb2).keep (abelow w2 (.cells #[.pointer (some ⟨bn, 0, none⟩)] 31))
   have hr3 := hr2.below (abelow w2 (.cells #[.pointer (some ⟨bn, 0, none⟩)] 31))
   have hlen8 : (gs.length + 1) * 8 ≤ 140737488355328 := by have := unhide HTS; omega
   have hlen63 : gs.length + 1 ≤ maxLen := by have := unhide HTS; unfold maxLen; omega
   have hbase : w.heap.size ≤ (w2.alloc (.cells #[.pointer (some ⟨bn, 0, none⟩)] 31)).heap.size := T2.bl.size
   have hsz2 : (w2.alloc (.cells #[.pointer (some ⟨bn, 0, none⟩)] 31)).heap.size = w2.heap.size + 1 := by rw [alloc_heap, Array.size_push]
   have HT2 := hide T2
   have HR3 := hide hr3
   have HBA := hide hbase
   have HSZ := hide hsz2
   have HL8 := hide hlen8
   have HL63 := hide hlen63
   clear T2 hr3 hr2 hbase hsz2 hlen8 hlen63 hb2 HT1 HF
   go_wp2_with (at_builtin; go_loud (refine wpList_append_ptr _ rfl _ _ _ rfl w.heap.size 31 ti 8 Tryz.underlying29 (unhide HI) (unhide HZ) hz1 hz2 _ gs.length (ptrs gs) rfl (unhide HT2).own (unhide HT2).no ⟨w2.heap.size, 0, none⟩ 1 1 [.pointer (some ⟨bn, 0, none⟩)] rfl rfl (news_ptr w2 bn _) (one_ptr bn) (is_ptr bn) (by decide) (unhide HL63) (unhide HL8) (unhide HBA) (w2.heap.size + 1) (unhide HSZ) ?_; intro g cap w4 hown4 hgrow hat hlt4 hno4))
   have FIN := hide ((unhide HT2).push (unhide HR3) hown4 hgrow hno4 (unhide HBA))
   clear hown4 hgrow hat hno4 HT2 HR3
   go_wp2_with fail
   exact ⟨⟨i + 1, gs ++ [bn], by go_num, hlt, by rw [List.length_append, unhide HTS]; rfl, unhide FIN⟩, by simp [intOf]; omega⟩
  ·obtain rfl : i = ps.length := by omega
   have L := rlist_of T.own (by rw [hts, pqs_length]) T.rat
   have HB := hide T.bl
   have HL := hide L
   clear T H3 H4 L
   go_wp2
   (try simp only [Exit.inBlock, Exit.then])
   exact bodyPost_ret (v := u3) (by simp [results, Tryz.results11, go_sem]) rfl ⟨_, rfl, unhide HL, unhide HB⟩
end Go.Proofs.YtcelbgleajpenaaGreatDoor
/- The document's Sum, LawCheck, Least; what the laws ask of one fraction, of one number. -/
namespace Go.Proofs.YtcelbgleajpenaaGreatDoor
open Go.RowKit Go.Sort Go.Shelf

set_option maxHeartbeats 4000000 in
set_option maxRecDepth 100000 in
set_option linter.unusedSimpArgs false in
theorem refSum_any (v : Value) (qs : List Rat) (J : Nat) (w : World) (h : RList w v qs) (hq : ∀ j, j < qs.length → RS qs[j]! J) (hJ : qs.length * (J + 1) + 1 + J ≤ 400000) :
  Calls Tryz.prog 69 #[v] w (NewsZ w (qsum qs qs.length)) := by
 obtain ⟨a, c, rfl, h1, h2, h3⟩ := h
 obtain ⟨n, hn⟩ : ∃ n, qs.length = n := ⟨_, rfl⟩
 rw [hn] at h1 h3 hJ ⊢
 have H3 := hide h3
 have HQ := hide hq
 have HJ := hide hJ
 have HN := hide hn
 have hz := rz_new w
 have bA := abelow w (.cells #[.bool false, .slice none 0 0, .bool false, .slice none 0 0] 86)
 obtain ⟨W0, hW0⟩ : ∃ W, w.alloc (.cells #[.bool false, .slice none 0 0, .bool false, .slice none 0 0] 86) = W := ⟨_, rfl⟩
 obtain ⟨g, hg⟩ : ∃ g, w.heap.size = g := ⟨_, rfl⟩
 rw [hW0, hg] at hz
 rw [hW0] at bA
 have HZ := hide hz
 have HB := hide bA
 have HG := hide hg
 clear h3 hq hJ hn hz bA
 go_enter Tryz.func69, Tryz.ntmps69
 go_wp2_with fail
 clear hW0 hg
 go_loopw [3, 9] (fun vs vi wr => ∃ (i b : Nat), vs = .pointer (some ⟨b, 0, none⟩) ∧ vi = .int .i64 (i : Int) ∧ i ≤ n ∧ BRz wr b 0 (qsum qs i) ∧ Below w.heap.size w wr ∧ w.heap.size ≤ b) (fun _ vi _ => n - (intOf vi).toNat)
 case atStart => exact ⟨0, g, rfl, rfl, Nat.zero_le _, unhide HZ, unhide HB, Nat.le_of_eq (unhide HG)⟩
 case round =>
  obtain ⟨i, b, rfl, rfl, hi, hr, hb, hge⟩ := hrel
  have HGE := hide hge
  by_cases hlt : i < n
  ·obtain ⟨bl, ol, rfl, hblt, hcs⟩ := unhide H3 (by omega)
   obtain ⟨x, k0, kx⟩ := hcs i hlt
   rw [← hb.cell (p := ⟨bl, ol + i, none⟩) hblt] at k0
   have kx2 := kx.below hb
   have hi0 : (0 : Int) ≤ (i : Int) := by omega
   have hi1 : (i : Int) < (n : Int) := by omega
   have hJ := unhide HJ
   have hm : i * (J + 1) ≤ n * (J + 1) := Nat.mul_le_mul_right _ hi
   have HA := hide (refAdd_any b x (i * (J + 1) + 1) J (qsum qs i) qs[i]! wr hr kx2 (qsum_RS (unhide HQ) i (by rw [unhide HN]; exact hi)) (unhide HQ i (by rw [unhide HN]; exact hlt)) (by omega))
   have HBB := hide hb
   clear hr hb kx kx2 hcs hJ hm hge
   go_wp2_with fail
   refine (unhide HA).mono ?_
   rintro e w1 ⟨b1, rfl, hge1, hr1, hb1⟩
   have HR1 := hide hr1
   have HB1 := hide (bstep (unhide HBB) hb1)
   have HG1 := hide (Nat.le_trans (unhide HBB).size hge1)
   clear hr1 hb1 HA hge1
   go_wp2_with fail
   exact ⟨⟨i + 1, b1, rfl, by go_num, hlt, unhide HR1, unhide HB1, unhide HG1⟩, by simp [intOf]; omega⟩
  ·obtain rfl : n = i := by omega
   have HR := hide hr
   have HBB := hide hb
   clear hr hb hge
   go_wp2
   (try simp only [Exit.inBlock, Exit.then])
   (try go_wp2)
   go_ret
   exact ⟨b, rfl, unhide HGE, unhide HR, unhide HBB⟩
theorem cmp_one {q : Rat} : (Wd.sg (q.num * ((1 : Int) : Rat).den) (((1 : Int) : Rat).num * q.den) != 0) = !decide (q = 1) := by
 have e : (Wd.sg (q.num * ((1 : Int) : Rat).den) (((1 : Int) : Rat).num * q.den) = 0) ↔ q = 1 := by
  rw [sg_zero]
  show q.num * ((1 : Nat) : Int) = (1 : Int) * (q.den : Int) ↔ _
  rw [Int.one_mul, show ((1 : Nat) : Int) = 1 from rfl, Int.mul_one]
  constructor
  ·intro h
   rw [← Rat.num_divInt_den q, h, Rat.divInt_self' (by have := q.den_pos; omega)]
  ·intro h; rw [h]; rfl
 by_cases h : q = 1
 ·rw [decide_eq_true h, e.2 h]; rfl
 ·rw [decide_eq_false h]
  exact bne_iff_ne.2 (fun h' => h (e.1 h'))
theorem sign_neg {x : Int} : (decide (x.sign < 0)) = decide (x < 0) := by
 rcases Int.lt_trichotomy x 0 with h | h | h
 ·rw [Int.sign_eq_neg_one_of_neg h, decide_eq_true h]; rfl
 ·subst h; rfl
 ·rw [Int.sign_eq_one_of_pos h, decide_eq_false (show ¬ x < 0 by omega)]; rfl
set_option maxHeartbeats 4000000 in
set_option maxRecDepth 100000 in
set_option linter.unusedSimpArgs false in
theorem refLawCheck_any (v : Value) (qs : List Rat) (J : Nat) (w : World) (h : RList w v qs) (hq : ∀ j, j < qs.length → RS qs[j]! J) (hJ : qs.length * (J + 1) + 1 + J ≤ 399999) :
  Calls Tryz.prog 67 #[v] w fun e w' => e = .returned (.int .i64 (chk qs)) ∧ Below w.heap.size w w' := by
 have HL := hide h
 obtain ⟨a, c, rfl, h1, h2, h3⟩ := h
 obtain ⟨n, hn⟩ : ∃ n, qs.length = n := ⟨_, rfl⟩
 rw [hn] at h1 h3 HL ⊢
 have H3 := hide h3
 have HQ := hide hq
 have HJ := hide hJ
 have HN := hide hn
 clear h3 hq hJ
 by_cases hlim : n < 1 ∨ 101 < n
 ·have ek : chk qs = 4 := by unfold chk; rw [hn, if_pos hlim]
  rw [ek]
  clear hn ek
  rcases hlim with h0 | h0
  ·obtain rfl : n = 0 := by omega
   go_enter Tryz.func67, Tryz.ntmps67
   go_wp2
   go_ret
   exact ⟨rfl, Below.refl _ _⟩
  ·have f1 : ¬ (n : Int) < 1 := by omega
   have f2 : (101 : Int) < (n : Int) := by omega
   clear h0
   go_enter Tryz.func67, Tryz.ntmps67
   go_wp2
   go_ret
   exact ⟨rfl, Below.refl _ _⟩
 ·have f1 : ¬ (n : Int) < 1 := by omega
  have f2 : ¬ (101 : Int) < (n : Int) := by omega
  have ek : chk qs = if ∃ j, j < n ∧ qs[j]!.num < 0 then 1 else if qsum qs n = 1 then 0 else 10 := by unfold chk; rw [hn, if_neg hlim]
  obtain ⟨k, hk⟩ : ∃ k, chk qs = k := ⟨_, rfl⟩
  rw [hk] at ek ⊢
  have HEK := hide ek
  have HLM : Hid (1 ≤ n ∧ n ≤ 101) := ⟨by omega, by omega⟩
  clear hn ek hk hlim
  go_enter Tryz.func67, Tryz.ntmps67
  go_wp2_with fail
  go_loopw [15] (fun vi wr => ∃ (i : Nat), vi = .int .i64 (i : Int) ∧ i ≤ n ∧ wr = w ∧ ∀ j, j < i → 0 ≤ qs[j]!.num) (fun vi _ => n - (intOf vi).toNat)
  case atStart => exact ⟨0, rfl, Nat.zero_le _, rfl, fun j hj => absurd hj (Nat.not_lt_zero _)⟩
  case round =>
   obtain ⟨i, rfl, hi, hw, hall⟩ := hrel
   subst hw
   have HAL := hide hall
   clear hall
   by_cases hlt : i < n
   ·obtain ⟨bl, ol, rfl, hblt, hcs⟩ := unhide H3 (by omega)
    obtain ⟨x, k0, kx⟩ := hcs i hlt
    have hi0 : (0 : Int) ≤ (i : Int) := by omega
    have hi1 : (i : Int) < (n : Int) := by omega
    have HS := hide (signz_any x 0 qs[i]! wr kx)
    have hsn := sign_neg (x := qs[i]!.num)
    by_cases hneg : qs[i]!.num < 0
    ·rw [decide_eq_true hneg] at hsn
     have HK1 : Hid (k = 1) := by show _ = _; rw [unhide HEK, if_pos ⟨i, hlt, hneg⟩]
     clear hcs kx hneg
     obtain ⟨z, hz⟩ : ∃ z, qs[i]!.num.sign = z := ⟨_, rfl⟩
     rw [hz] at hsn HS
     clear hz
     go_wp2_with fail
     refine (unhide HS).mono ?_
     rintro e w1 ⟨rfl, hw⟩
     have hw := hw.symm
     subst hw
     go_wp2
     (try simp only [Exit.inBlock, Exit.then])
     (try go_wp2)
     go_ret
     exact ⟨by rw [unhide HK1]; rfl, Below.refl _ _⟩
    ·rw [decide_eq_false hneg] at hsn
     have HNG := hide (show 0 ≤ qs[i]!.num by omega)
     clear hcs kx hneg
     obtain ⟨z, hz⟩ : ∃ z, qs[i]!.num.sign = z := ⟨_, rfl⟩
     rw [hz] at hsn HS
     clear hz
     go_wp2_with fail
     refine (unhide HS).mono ?_
     rintro e w1 ⟨rfl, hw⟩
     have hw := hw.symm
     subst hw
     go_wp2_with fail
     exact ⟨⟨i + 1, by go_num, hlt, by first | rfl | trivial, fun j hj => by
      by_cases e : j = i
      ·subst e; exact unhide HNG
      ·exact unhide HAL j (by omega)⟩, by simp [intOf]; omega⟩
   ·obtain rfl : n = i := by omega
    have hne : ¬ ∃ j, j < n ∧ qs[j]!.num < 0 := fun ⟨j, h1, h2⟩ => by have := unhide HAL j h1; omega
    have hk := unhide HEK
    rw [if_neg hne] at hk
    have HSU := hide (refSum_any (.slice a n c) qs J wr (unhide HL) (unhide HQ) (by have := unhide HJ; omega))
    rw [unhide HN] at HSU
    have HRS := hide (qsum_RS (unhide HQ) n (by rw [unhide HN]; exact Nat.le_refl _))
    have HK := hide hk
    have HJ2 : Hid (n * (J + 1) + 1 + 1 ≤ 400000) := by show _ ≤ _; have := unhide HJ; rw [unhide HN] at this; omega
    clear hne hk
    go_wp2_with fail
    (try simp only [Exit.inBlock, Exit.then])
    (try go_wp2_with fail)
    refine (unhide HSU).mono ?_
    rintro e w1 ⟨b1, rfl, -, hr1, hb1⟩
    have HR1 := hide hr1
    have HB1 := hide hb1
    have HIN := hide (refIntz_any 1 (by decide) (by decide) w1)
    clear hr1 hb1 HSU
    go_wp2_with fail
    refine (unhide HIN).mono ?_
    rintro e w2 ⟨b2, rfl, -, hr2, hb2⟩
    have HB2 := hide (bstep (unhide HB1) hb2)
    have HCM := hide (rcmp_any b1 0 b2 0 (n * (J + 1) + 1) 1 _ _ w2 ((unhide HR1).below hb2) hr2 (unhide HRS) ⟨by decide, by decide⟩ (unhide HJ2))
    clear hr2 hb2 HIN
    go_wp2_with fail
    refine (unhide HCM).mono ?_
    rintro e w3 ⟨rfl, hb3⟩
    have HB3 := hide (bstep (unhide HB2) hb3)
    have hone := cmp_one (q := qsum qs n)
    obtain ⟨z, hz⟩ : ∃ z, Wd.sg ((qsum qs n).num * ((1 : Int) : Rat).den) (((1 : Int) : Rat).num * (qsum qs n).den) = z := ⟨_, rfl⟩
    rw [hz] at hone ⊢
    clear hb3 HCM hz
    by_cases hq1 : qsum qs n = 1
    ·have HK0 : Hid (k = 0) := by show _ = _; rw [unhide HK, if_pos hq1]
     rw [decide_eq_true hq1] at hone
     clear hq1
     go_wp2
     go_ret
     exact ⟨by rw [unhide HK0]; rfl, unhide HB3⟩
    ·have HK0 : Hid (k = 10) := by show _ = _; rw [unhide HK, if_neg hq1]
     rw [decide_eq_false hq1] at hone
     clear hq1
     go_wp2
     go_ret
     exact ⟨by rw [unhide HK0]; rfl, unhide HB3⟩
set_option maxHeartbeats 4000000 in
set_option maxRecDepth 100000 in
set_option linter.unusedSimpArgs false in
theorem one_ok (v : Value) (q : Rat) (bw j : Nat) (w : World) (h : RatIs w v q) (hq : RS q j) (hj : j ≤ 200000) (htab : Tab w) (x : BRz w bw 0 q) :
  Calls Tryz.prog 16 #[v, .nilIface, .pointer (some ⟨bw, 0, none⟩), .int .i64 0] w fun e w' => e = .returned (.bool true) ∧ Below w.heap.size w w' := by
 have h' := h
 obtain ⟨ov, un, rfl, ho, hu⟩ := h'
 obtain ⟨y1, y2, y3, rfl, _, _⟩ := ho
 obtain ⟨u1, u2, u3, rfl, _, _⟩ := hu
 have bA := abelow w (.cells #[.bool (decide (q.num < 0)), .slice y1 y2 y3, .slice u1 u2 u3] 37)
 have hT := textR_any _ q _ (h.below bA) j hq (Nat.le_trans hj (by decide)) (tab_below htab bA)
 have hR : ∀ W, Below w.heap.size w W → Calls Tryz.prog 50 #[.pointer (some ⟨bw, 0, none⟩)] W fun e w' => e = .returned (.string ⟨(qtext q).toArray⟩) ∧ Below W.heap.size W w' := fun W hW => refTextz_any bw 0 j q W (x.below hW) hq hj
 obtain ⟨R, hRR⟩ : ∃ R, qtext q = R := ⟨_, rfl⟩
 rw [hRR] at hT hR
 obtain ⟨s, hs⟩ : ∃ s, decide (q.num < 0) = s := ⟨_, rfl⟩
 rw [hs] at hT bA ⊢
 have HT := hide hT
 have HR := hide hR
 have HB := hide bA
 clear h hT hR bA hRR hs hq hj x htab
 go_enter Tryz.func16, Tryz.ntmps16
 go_wp2_with fail
 refine (unhide HT).mono ?_
 rintro e w1 ⟨rfl, hb1⟩
 have HB1 := hide (bstep (unhide HB) hb1)
 clear hb1 HT HB
 go_wp2_with fail
 refine (unhide HR _ (unhide HB1)).mono ?_
 rintro e w2 ⟨rfl, hb2⟩
 have HB2 := hide (bstep (unhide HB1) hb2)
 clear hb2 HR HB1
 go_wp2
 go_ret
 exact ⟨rfl, unhide HB2⟩
end Go.Proofs.YtcelbgleajpenaaGreatDoor
