/- plain.Choice. -/
import Derived.Test.YtaacibgmdeoikaaGreatDoorI4
import Derived.Test.YtaacibgmdeoikaaGreatDoorA16
namespace Go.Proofs.YtaacibgmdeoikaaGreatDoor
open Go.RowKit Go.Sort Go.Shelf

/-- A row of the call's own, or none. -/
def Fresh (w : World) (v : Value) : Prop := v = .slice none 0 0 ∨ ∃ g n cap, v = .slice (some ⟨g, 0, none⟩) n cap ∧ w.heap.size ≤ g
theorem fresh_of {w wr : World} {v : Value} {n : Nat} {xs : List Value} {T : TypeId} {k : Nat} (h : wr.ownsRow w.heap.size T k v n xs) : Fresh w v := by
  rcases h.2 with ⟨rfl, _⟩ | ⟨g, cap, cur, rfl, hb, _⟩
  · exact Or.inl rfl
  · exact Or.inr ⟨g, _, cap, rfl, hb⟩
def FsPost (w : World) (qs : List Rat) (e : Ending) (w' : World) : Prop := ∃ v, e = .returned v ∧ LawIs w' v qs ∧ Below w.heap.size w w' ∧ Fresh w v

set_option maxHeartbeats 4000000 in
set_option maxRecDepth 100000 in
theorem fs_own (v : Value) (ps : List (Int × Int)) (w : World) (h : PairsAre w v ps) (hl : ps.length ≤ 1099511627776) :
    Calls Tryz.prog 16 #[v] w (FsPost w (pqs ps)) := by
  obtain ⟨a, c, rfl, h1, h2, h4, h3⟩ := h
  obtain ⟨ti, hi, hz0, hz1, hz2⟩ := info_parts Tryz.infoR
  have H3 := hide h3
  have H4 := hide h4
  have HI := hide hi
  have HZ := hide hz0
  clear h3 h4 hi hz0
  go_enter Tryz.func16, Tryz.ntmps16
  go_wp2_with fail
  go_loopw [3, 8] (fun vo vi wr => ∃ (i : Nat) (ts : List Tri), vi = .int .i64 i ∧ i ≤ ps.length ∧ ts.length = i ∧ FsAt w wr w.heap.size vo ts (pqs ps)) (fun _ vi _ => ps.length - (intOf vi).toNat)
  case atStart => exact ⟨0, [], rfl, Nat.zero_le _, rfl, FsAt.start w _⟩
  case round =>
    obtain ⟨i, ts, rfl, hi, hts, T⟩ := hrel
    by_cases hlt : i < ps.length
    · obtain ⟨b, o, rfl, hblt, hcs⟩ := unhide H3 (by omega)
      have ⟨k0, k1⟩ := hcs i hlt
      have ⟨i1, i2⟩ := unhide H4 i hlt
      rw [← T.bl.cell (p := ⟨b, o + i * 2, none⟩) hblt] at k0
      rw [← T.bl.cell (p := ⟨b, o + i * 2 + 1, none⟩) hblt] at k1
      obtain ⟨x, hx⟩ : ∃ x, (ps[i]!).1 = x := ⟨_, rfl⟩
      obtain ⟨y, hy⟩ : ∃ y, (ps[i]!).2 = y := ⟨_, rfl⟩
      have epq : (pqs ps)[ts.length]! = Rat.divInt x (if y = 0 then 1 else y) := by
        rw [hts, ← hx, ← hy]
        simp [pqs, pq, hlt]
      rw [hx] at k0 i1
      rw [hy] at k1 i2
      have T1 := T.keep (alloc_below wr (.cells #[.int .i64 x, .int .i64 y] 24))
      have HF := hide (f_any x y i1.1 i1.2 i2.1 i2.2 (wr.alloc (.cells #[.int .i64 x, .int .i64 y] 24)))
      have hi0 : (0 : Int) ≤ (i : Int) := by omega
      have hi1 : (i : Int) < (ps.length : Int) := by omega
      have HT1 := hide T1
      have HE := hide epq
      have HTS := hide hts
      clear T T1 hcs H3 H4 epq i1 i2 hts hx hy
      go_wp2_with fail
      refine (unhide HF).mono ?_
      rintro e w2 ⟨v2, rfl, hv2, hb2⟩
      obtain ⟨t, rfl, hr2⟩ := tri_of hv2
      rw [← unhide HE] at hr2
      have T2 := ((unhide HT1).keep hb2).keep (alloc_below w2 (.cells #[.bool t.s, .slice t.a1 t.n1 t.c1, .slice t.a2 t.n2 t.c2] 33))
      have hr3 := hr2.below (alloc_below w2 (.cells #[.bool t.s, .slice t.a1 t.n1 t.c1, .slice t.a2 t.n2 t.c2] 33))
      have hlen56 : (ts.length + 1) * 56 ≤ 140737488355328 := by have := unhide HTS; omega
      have hlen63 : ts.length + 1 ≤ maxLen := by have := unhide HTS; unfold maxLen; omega
      have hbase : w.heap.size ≤ (w2.alloc (.cells #[.bool t.s, .slice t.a1 t.n1 t.c1, .slice t.a2 t.n2 t.c2] 33)).heap.size := T2.bl.size
      have hsz2 : (w2.alloc (.cells #[.bool t.s, .slice t.a1 t.n1 t.c1, .slice t.a2 t.n2 t.c2] 33)).heap.size = w2.heap.size + 1 := by rw [alloc_heap, Array.size_push]
      have HT2 := hide T2
      have HR3 := hide hr3
      have HBA := hide hbase
      have HSZ := hide hsz2
      have HL56 := hide hlen56
      have HL63 := hide hlen63
      simp only [Tri.val]
      clear T2 hr3 hr2 hbase hsz2 hlen56 hlen63 hv2 hb2 HT1 HF
      go_wp2_with (at_builtin; go_loud (refine wpList_append_tri _ rfl _ _ _ rfl w.heap.size 33 ti 56 Tryz.underlying37 (unhide HI) (unhide HZ) hz1 hz2 _ ts.length (tcells ts) rfl (unhide HT2).own (unhide HT2).no ⟨w2.heap.size, 0, none⟩ 1 1 t.cells rfl rfl (news_tri w2 t _) (tri_one t) t.notWord (by decide) (unhide HL63) (unhide HL56) (unhide HBA) (w2.heap.size + 1) (unhide HSZ) ?_; intro g cap w4 hown4 hgrow hat hlt4 hno4))
      have FIN := hide ((unhide HT2).push (unhide HR3) hown4 hgrow hno4 (unhide HBA))
      clear hown4 hgrow hat hno4 HT2 HR3
      go_wp2_with fail
      exact ⟨⟨i + 1, ts ++ [t], by go_num, hlt, by rw [List.length_append, unhide HTS]; rfl, unhide FIN⟩, by simp [intOf]; omega⟩
    · obtain rfl : i = ps.length := by omega
      have L := law_of_owns T.own (by rw [hts, pqs_length]) T.rat
      have HB := hide T.bl
      have HL := hide L
      have HF : Hid (Fresh w u3) := fresh_of T.own
      clear T H3 H4 L
      go_wp2
      (try simp only [Exit.inBlock, Exit.then])
      exact bodyPost_ret (v := u3) (by simp [results, Tryz.results16, go_sem]) rfl ⟨_, rfl, unhide HL, unhide HB, unhide HF⟩

/-- A row of plain acts. -/
def ClsAre (w : World) (v : Value) (ps : List ((Int × Int) × List (Int × Int))) : Prop := ∃ (a : Option Addr) (c : Nat), v = .slice a ps.length c ∧ ps.length ≤ c ∧ c ≤ 9223372036854775807 ∧ (∀ j, j < ps.length → I64 (ps[j]!).1.1 ∧ I64 (ps[j]!).1.2) ∧
  (0 < ps.length → ∃ b o, a = some ⟨b, o, none⟩ ∧ b < w.heap.size ∧ ∀ j, j < ps.length → ∃ l : Sl, (w.cell? ⟨b, o + j * 3, none⟩ = some (.int .i64 (ps[j]!).1.1) ∧ w.cell? ⟨b, o + j * 3 + 1, none⟩ = some (.int .i64 (ps[j]!).1.2) ∧ w.cell? ⟨b, o + j * 3 + 2, none⟩ = some (.slice l.a l.n l.c)) ∧ PairsAre w l.val (ps[j]!).2)
theorem ClsAre.below {w w' : World} {v : Value} {ps : List ((Int × Int) × List (Int × Int))} (h : ClsAre w v ps) (hb : Below w.heap.size w w') : ClsAre w' v ps := by
  obtain ⟨a, c, e, h1, h2, h4, h3⟩ := h
  refine ⟨a, c, e, h1, h2, h4, fun hp => ?_⟩
  obtain ⟨b, o, ea, hlt, hc⟩ := h3 hp
  refine ⟨b, o, ea, Nat.lt_of_lt_of_le hlt hb.size, fun j hj => ?_⟩
  obtain ⟨l, k, p⟩ := hc j hj
  refine ⟨l, ?_, p.below hb⟩
  rw [hb.cell (p := ⟨b, o + j * 3, none⟩) hlt, hb.cell (p := ⟨b, o + j * 3 + 1, none⟩) hlt, hb.cell (p := ⟨b, o + j * 3 + 2, none⟩) hlt]
  exact k
theorem pairs_len {w : World} {l : Sl} {ps : List (Int × Int)} (h : PairsAre w l.val ps) : l.n = ps.length := by
  obtain ⟨a, c, e, _⟩ := h
  injection e
/-- The acts that they make. -/
def csOf (ps : List ((Int × Int) × List (Int × Int))) : List (Rat × List Rat) := ps.map fun p => (pq p.1, pqs p.2)
theorem csOf_length (ps : List ((Int × Int) × List (Int × Int))) : (csOf ps).length = ps.length := by simp [csOf]
theorem csOf_get {ps : List ((Int × Int) × List (Int × Int))} {j : Nat} (h : j < ps.length) : (csOf ps)[j]! = (pq (ps[j]!).1, pqs (ps[j]!).2) := by simp [csOf, h]

/-- Rows of rows of plain acts; a plain model. -/
def PStsAre (w : World) (v : Value) (ps : List (List ((Int × Int) × List (Int × Int)))) : Prop := ∃ (a : Option Addr) (c : Nat), v = .slice a ps.length c ∧ ps.length ≤ c ∧ c ≤ 9223372036854775807 ∧
  (0 < ps.length → ∃ b o, a = some ⟨b, o, none⟩ ∧ b < w.heap.size ∧ ∀ j, j < ps.length → ∃ l : Sl, w.cell? ⟨b, o + j, none⟩ = some (.slice l.a l.n l.c) ∧ ClsAre w l.val ps[j]!)
theorem PStsAre.below {w w' : World} {v : Value} {ps : List (List ((Int × Int) × List (Int × Int)))} (h : PStsAre w v ps) (hb : Below w.heap.size w w') : PStsAre w' v ps := by
  obtain ⟨a, c, e, h1, h2, h3⟩ := h
  refine ⟨a, c, e, h1, h2, fun hp => ?_⟩
  obtain ⟨b, o, ea, hlt, hc⟩ := h3 hp
  refine ⟨b, o, ea, Nat.lt_of_lt_of_le hlt hb.size, fun j hj => ?_⟩
  obtain ⟨l, k, p⟩ := hc j hj
  exact ⟨l, by rw [hb.cell (p := ⟨b, o + j, none⟩) hlt]; exact k, p.below hb⟩
def pmv (l : Sl) (x y : Int) : Value := .agg #[.slice l.a l.n l.c, .int .i64 x, .int .i64 y]
def PModelIs (w : World) (v : Value) (ps : List (List ((Int × Int) × List (Int × Int)))) (x y : Int) : Prop := ∃ l : Sl, v = pmv l x y ∧ PStsAre w l.val ps ∧ I64 x ∧ I64 y
theorem PModelIs.below {w w' : World} {v : Value} {ps : List (List ((Int × Int) × List (Int × Int)))} {x y : Int} (h : PModelIs w v ps x y) (hb : Below w.heap.size w w') : PModelIs w' v ps x y := by
  obtain ⟨l, e, h1, h2⟩ := h
  exact ⟨l, e, h1.below hb, h2⟩
theorem psts_len {w : World} {l : Sl} {ps : List (List ((Int × Int) × List (Int × Int)))} (h : PStsAre w l.val ps) : l.n = ps.length := by
  obtain ⟨a, c, e, _⟩ := h
  injection e
theorem cls_len {w : World} {l : Sl} {ps : List ((Int × Int) × List (Int × Int))} (h : ClsAre w l.val ps) : l.n = ps.length := by
  obtain ⟨a, c, e, _⟩ := h
  injection e
/-- The states that they make. -/
def kOf (ps : List (List ((Int × Int) × List (Int × Int)))) : List (List (Rat × List Rat)) := ps.map csOf
theorem kOf_length (ps : List (List ((Int × Int) × List (Int × Int)))) : (kOf ps).length = ps.length := by simp [kOf]
theorem kOf_get {ps : List (List ((Int × Int) × List (Int × Int)))} {j : Nat} (h : j < ps.length) : (kOf ps)[j]! = csOf ps[j]! := by simp [kOf, h]
structure SmPM (ps : List (List ((Int × Int) × List (Int × Int)))) : Prop where
  n : ps.length ≤ 1000
  a : ∀ i, i < ps.length → (ps[i]!).length ≤ 1000
  x : ∀ i j, i < ps.length → j < (ps[i]!).length → (((ps[i]!)[j]!).2).length ≤ 1000
theorem grown_set (W : World) (b i : Nat) (v : Value) : W.grownBy (W.setCell ⟨b, i, none⟩ v) (some b) :=
  ⟨rfl, rfl, rfl, Nat.le_of_eq (by simp [World.setCell]), fun k _ hne => Below.heap_setCell _ _ _ _ (fun e => hne (by rw [e]))⟩
theorem grown_set4 (W : World) (b : Nat) (x0 x1 x2 x3 : Value) : W.grownBy ((((W.setCell ⟨b, 0, none⟩ x0).setCell ⟨b, 1, none⟩ x1).setCell ⟨b, 2, none⟩ x2).setCell ⟨b, 3, none⟩ x3) (some b) :=
  ⟨rfl, rfl, rfl, Nat.le_of_eq (by simp [World.setCell]), fun k _ hne => by
    have e : k ≠ b := fun e => hne (by rw [e])
    rw [Below.heap_setCell _ _ _ _ e, Below.heap_setCell _ _ _ _ e, Below.heap_setCell _ _ _ _ e, Below.heap_setCell _ _ _ _ e]⟩
theorem SsAt.touch {w wr w' : World} {v : Value} {ts : List Sl} {ks : List (List (Rat × List Rat))} {lo hi : Nat → Nat} {go : Nat} {cs : Array Value} (h : SsAt w wr v ts ks lo hi) (hg : wr.heap[go]? = some (.cells cs 35)) (hn : ∀ u ∈ cs, notWord u) (hlo : ∀ j, j < ts.length → go < lo j) (hG : wr.grownBy w' (some go)) (hB : Below w.heap.size w w') :
    SsAt w w' v ts ks lo hi := by
  have hno : ∀ g, some go = some g → Wordless wr g := fun g e => by
    injection e with e
    rw [← e]; exact wordless_of hg hn
  have hne : ∀ g, v.ownBlock = some g → g ≠ go := fun g e => by
    rintro rfl
    rcases h.own.2 with ⟨rfl, _⟩ | ⟨g', cap, cur, rfl, _, hh, _⟩
    · cases e
    · have : g' = g := Option.some.inj e
      subst this
      rw [hg] at hh
      injection hh with hh
      injection hh with _ hh
      exact absurd hh (by decide)
  have hne' : ∀ g, v.ownBlock = some g → some g ≠ some go := fun g e x => hne g e (Option.some.inj x)
  refine ⟨⟨h.own.1, ?_⟩, fun g hgv => ?_, fun j hj => (h.rat j hj).far hG hno (fun g e => by injection e with e; rw [← e]; exact Or.inl (hlo j hj)), h.ne, hB⟩
  · rcases h.own.2 with h2 | ⟨g, cap, cur, hv, hbg, hh, hr⟩
    · exact Or.inl h2
    · refine Or.inr ⟨g, cap, cur, hv, hbg, ?_, hr⟩
      rw [hG.block g (Array.getElem?_eq_some_iff.1 hh).1 (hne' g (by rw [hv]; rfl))]; exact hh
  · intro i k y e
    refine h.no g hgv i k y ?_
    rw [← hG.cell_far ⟨g, i, none⟩ (ownsSt_block h.own g hgv).2 (hne' g hgv)]; exact e

set_option maxHeartbeats 16000000 in
set_option maxRecDepth 100000 in
set_option linter.unusedSimpArgs false in
theorem choice_any (v : Value) (ps : List (List ((Int × Int) × List (Int × Int)))) (wx wy : Int) (w : World) (h : PModelIs w v ps wx wy) (sm : SmPM ps) : Calls Tryz.prog 8 #[v] w fun e w' => ∃ v, e = .returned v ∧ ModelIs w' v (kOf ps) (pq (wx, wy)) ∧ Below w.heap.size w w' := by
  obtain ⟨lp, rfl, hP, hx, hy⟩ := h
  have hln := psts_len hP
  have HP := hide hP
  have HSM := hide sm
  have hsl := sm.n
  obtain ⟨ti, hi, hz0, hz1, hz2⟩ := info_parts Tryz.infoA
  obtain ⟨tj, hj, hy0, hy1, hy2⟩ := info_parts Tryz.infoAs
  have HI := hide hi
  have HZ := hide hz0
  have HI2 := hide hj
  have HZ2 := hide hy0
  obtain ⟨np, hnp⟩ : ∃ n, ps.length = n := ⟨_, rfl⟩
  rw [hnp] at hln hsl
  have HNP := hide hnp
  have b0 := alloc_below w (.cells #[.slice lp.a lp.n lp.c, .int .i64 wx, .int .i64 wy] 26)
  have N0 := heap_alloc_new w (.cells #[.slice lp.a lp.n lp.c, .int .i64 wx, .int .i64 wy] 26)
  obtain ⟨W0, hW0⟩ : ∃ W, w.alloc (.cells #[.slice lp.a lp.n lp.c, .int .i64 wx, .int .i64 wy] 26) = W := ⟨_, rfl⟩
  obtain ⟨gi, hgi⟩ : ∃ g, w.heap.size = g := ⟨_, rfl⟩
  rw [hW0] at b0 N0
  rw [hgi] at N0
  have b1 := alloc_below W0 (.cells #[.slice none 0 0, .bool false, .slice none 0 0, .slice none 0 0] 35)
  have N1 := heap_alloc_new W0 (.cells #[.slice none 0 0, .bool false, .slice none 0 0, .slice none 0 0] 35)
  obtain ⟨W1, hW1⟩ : ∃ W, W0.alloc (.cells #[.slice none 0 0, .bool false, .slice none 0 0, .slice none 0 0] 35) = W := ⟨_, rfl⟩
  obtain ⟨gr, hgr⟩ : ∃ g, gi + 1 = g := ⟨_, rfl⟩
  have s0 : W0.heap.size = gr := by rw [← hW0, alloc_size, hgi, hgr]
  rw [hW1] at b1 N1
  rw [s0] at N1
  have N0' := heap_kept N0 b1
  have q0 : W1.cell? ⟨gi, 0, none⟩ = some (.slice lp.a lp.n lp.c) := by simp [World.cell?, N0']
  have q1 : W1.cell? ⟨gi, 1, none⟩ = some (.int .i64 wx) := by simp [World.cell?, N0']
  have q2 : W1.cell? ⟨gi, 2, none⟩ = some (.int .i64 wy) := by simp [World.cell?, N0']
  have HB1 := hide (below_step b0 b1)
  have HN0 := hide N0'
  have HN1 := hide N1
  have HGR : Hid (w.heap.size ≤ gr) := by show _ ≤ _; omega
  have HF := hide (f_any wx wy hx.1 hx.2 hy.1 hy.2 W1)
  unfold pmv
  rw [hln] at hW0 q0 ⊢
  clear hP sm hi hz0 hj hy0 hnp b0 b1 N0 N0' N1 hx hy
  go_enter Tryz.func8, Tryz.ntmps8
  go_wp2_with fail
  clear hW0 hW1 hgi hgr s0 q0 q1 q2
  refine (unhide HF).mono ?_
  rintro e w2 ⟨v2, rfl, hv2, hb2⟩
  obtain ⟨tw, rfl, rto⟩ := tri_of hv2
  simp only [Tri.val]
  have b3 := alloc_below w2 (.cells #[.slice none 0 0, .bool tw.s, .slice tw.a1 tw.n1 tw.c1, .slice tw.a2 tw.n2 tw.c2] 35)
  have N3 := heap_alloc_new w2 (.cells #[.slice none 0 0, .bool tw.s, .slice tw.a1 tw.n1 tw.c1, .slice tw.a2 tw.n2 tw.c2] 35)
  have n0 := heap_kept (heap_kept (unhide HN0) hb2) b3
  have n1 := heap_kept (heap_kept (unhide HN1) hb2) b3
  have r3 := rto.below b3
  have hgo2 : w.heap.size ≤ w2.heap.size := (below_step (unhide HB1) hb2).size
  have hrl : gr < w2.heap.size := (Array.getElem?_eq_some_iff.1 (heap_kept (unhide HN1) hb2)).1
  obtain ⟨W3, hW3⟩ : ∃ W, w2.alloc (.cells #[.slice none 0 0, .bool tw.s, .slice tw.a1 tw.n1 tw.c1, .slice tw.a2 tw.n2 tw.c2] 35) = W := ⟨_, rfl⟩
  obtain ⟨go, hgo⟩ : ∃ g, w2.heap.size = g := ⟨_, rfl⟩
  rw [hW3] at b3 N3 n0 n1 r3
  rw [hgo] at N3 hgo2 hrl
  have HB3 := hide (below_step (below_step (unhide HB1) hb2) b3)
  have q0 : W3.cell? ⟨gi, 0, none⟩ = some (.slice lp.a lp.n lp.c) := by simp [World.cell?, n0]
  rw [hln] at q0
  have HN3 := hide N3
  have HN1' := hide n1
  have HR3 := hide r3
  have HGO := hide hgo2
  have HRL := hide hrl
  have HGL : Hid (go < W3.heap.size) := (Array.getElem?_eq_some_iff.1 N3).1
  clear hv2 rto hb2 b3 N3 n0 n1 r3 hgo2 hrl HF HB1 HN0 HN1
  go_wp2_with fail
  clear hW3 hgo q0
  go_loopw [16] (fun vi wr => ∃ (i : Nat) (ts : List Sl) (lo hi : Nat → Nat) (sa : Option Addr) (ns cs : Nat), vi = .int .i64 (i : Int) ∧ i ≤ np ∧ ts.length = i ∧ SsAt w wr (.slice sa ns cs) ts (kOf ps) lo hi ∧ (∀ j, j < ts.length → go < lo j) ∧ wr.heap[go]? = some (.cells #[.slice sa ns cs, .bool tw.s, .slice tw.a1 tw.n1 tw.c1, .slice tw.a2 tw.n2 tw.c2] 35) ∧ wr.heap[gr]? = some (.cells #[.slice none 0 0, .bool false, .slice none 0 0, .slice none 0 0] 35) ∧ RatIs wr tw.val (pq (wx, wy))) (fun vi _ => np - (intOf vi).toNat)
  case atStart => exact ⟨0, [], fun _ => 0, fun _ => 0, none, 0, 0, rfl, Nat.zero_le _, rfl, SsAt.start w _ _ _ _ (unhide HB3), fun j hj => absurd hj (Nat.not_lt_zero _), unhide HN3, unhide HN1', unhide HR3⟩
  case round =>
    obtain ⟨i, ss, lo, hi', sa, ns, cs, rfl, hi, hss, TS, hlo, hgo, hgr, hro⟩ := hrel
    clear HN3 HN1' HR3
    have HTS0 := hide TS
    have HSS := hide hss
    have HLO := hide hlo
    have HG := hide hgo
    have HGRR := hide hgr
    have HRO := hide hro
    by_cases hlt : i < np
    · have e1 : (i : Int) < (np : Int) := by omega
      have e0 : (0 : Int) ≤ (i : Int) := by omega
      have hltP : i < ps.length := by have := unhide HNP; omega
      obtain ⟨ap, cp, ep, _, _, h3⟩ := unhide HP
      obtain ⟨bp, op, rfl, hbp, hcp⟩ := h3 (by omega)
      have elp : lp.a = some ⟨bp, op, none⟩ := by injection ep
      obtain ⟨lr, k0, hcl⟩ := hcp i hltP
      rw [← TS.bl.cell (p := ⟨bp, op + i, none⟩) hbp] at k0
      have hcn := cls_len hcl
      have ha1 := (unhide HSM).a i hltP
      have HCLS := hide (hcl.below TS.bl)
      have HLTP := hide hltP
      obtain ⟨pr, hpr⟩ : ∃ r, ps[i]! = r := ⟨_, rfl⟩
      rw [hpr] at hcn ha1 HCLS
      have HPR := hide hpr
      rw [hcn] at k0
      have HCN := hide hcn
      rw [elp]
      clear TS hss hlo hgo hgr hro h3 hcp hcl ep elp hcn hpr
      go_wp2_with fail
      clear k0
      obtain ⟨V, hV⟩ : ∃ V, wr = V := ⟨_, rfl⟩
      rw [hV] at HTS0 HG HGRR HRO HCLS ⊢
      clear hV
      go_loopw [6, 22] (fun vo vj wv => ∃ (j : Nat) (ts : List (Tri × Sl)), vj = .int .i64 (j : Int) ∧ j ≤ pr.length ∧ ts.length = j ∧ AsAt V wv vo ts (csOf pr)) (fun _ vj _ => pr.length - (intOf vj).toNat)
      case atStart => exact ⟨0, [], rfl, Nat.zero_le _, rfl, AsAt.start V _ _ (Below.refl _ _)⟩
      case round =>
        obtain ⟨j, ts, rfl, hj, hts, T⟩ := hrel
        by_cases hltj : j < pr.length
        · obtain ⟨ac, cc', ec, _, _, h4, h3⟩ := unhide HCLS
          obtain ⟨b, o, rfl, hblt, hcs⟩ := h3 (by omega)
          have elr : lr.a = some ⟨b, o, none⟩ := by injection ec
          obtain ⟨l, ⟨k0, k1, k2⟩, hpl⟩ := hcs j hltj
          have ⟨i1, i2⟩ := h4 j hltj
          have hnx := (unhide HSM).x i j (unhide HLTP) (by rw [unhide HPR]; exact hltj)
          rw [unhide HPR] at hnx
          rw [← T.bl.cell (p := ⟨b, o + j * 3, none⟩) hblt] at k0
          rw [← T.bl.cell (p := ⟨b, o + j * 3 + 1, none⟩) hblt] at k1
          rw [← T.bl.cell (p := ⟨b, o + j * 3 + 2, none⟩) hblt] at k2
          obtain ⟨x, hx⟩ : ∃ x, (pr[j]!).1.1 = x := ⟨_, rfl⟩
          obtain ⟨y, hy⟩ : ∃ y, (pr[j]!).1.2 = y := ⟨_, rfl⟩
          have epq : (csOf pr)[ts.length]! = (Rat.divInt x (if y = 0 then 1 else y), pqs (pr[j]!).2) := by
            rw [hts, csOf_get hltj, ← hx, ← hy]
            rfl
          rw [hx] at k0 i1
          rw [hy] at k1 i2
          have bA := alloc_below wr (.cells #[.int .i64 x, .int .i64 y, .slice l.a l.n l.c] 66)
          have T1 := T.keep bA
          have hpl2 := hpl.below (below_step T.bl bA)
          have hnew := heap_alloc_new wr (.cells #[.int .i64 x, .int .i64 y, .slice l.a l.n l.c] 66)
          have hne : ∀ e : (u6).ownBlock = some wr.heap.size, False := fun e => Nat.lt_irrefl _ (ownsA_block T.own _ e).2
          obtain ⟨W2, hW2⟩ : ∃ W, wr.alloc (.cells #[.int .i64 x, .int .i64 y, .slice l.a l.n l.c] 66) = W := ⟨_, rfl⟩
          obtain ⟨bk, hbk⟩ : ∃ g, wr.heap.size = g := ⟨_, rfl⟩
          rw [hW2] at T1 hnew hpl2
          rw [hbk] at hnew hne
          have hbl : bk < W2.heap.size := (Array.getElem?_eq_some_iff.1 hnew).1
          have HC : Hid (∀ W, Below W2.heap.size W2 W → (fun w' : World => w'.cell? ⟨bk, 0, none⟩ = some (.int .i64 x) ∧ w'.cell? ⟨bk, 1, none⟩ = some (.int .i64 y) ∧ w'.cell? ⟨bk, 2, none⟩ = some (.slice l.a l.n l.c)) W) := fun W hb => by
            have h' : W.heap[bk]? = some (.cells #[.int .i64 x, .int .i64 y, .slice l.a l.n l.c] 66) := by rw [hb.block _ hbl]; exact hnew
            simp [World.cell?, h']
          have HLW : Hid (∀ W, Below W2.heap.size W2 W → Calls Tryz.prog 16 #[.slice l.a l.n l.c] W (FsPost W (pqs (pr[j]!).2))) := fun W hb => fs_own l.val _ W (hpl2.below hb) (by omega)
          have HX := hide i1
          have HY := hide i2
          have hj0 : (0 : Int) ≤ (j : Int) := by omega
          have hj1 : (j : Int) < (pr.length : Int) := by omega
          have HT1 := hide T1
          have HE := hide epq
          have HTS := hide hts
          have HBK := hide hbl
          have HNE := hide hne
          have ⟨c0, c1, c2⟩ := unhide HC _ (Below.refl _ _)
          rw [elr]
          clear T T1 hcs h3 h4 ec elr epq i1 i2 hts hx hy bA hne hnew hbl hpl hpl2 hnx
          go_wp2_with fail
          clear hW2 hbk c0 c1 c2 k0 k1 k2
          refine wp_region_hold (fun w' : World => w'.cell? ⟨bk, 0, none⟩ = some (.int .i64 x) ∧ w'.cell? ⟨bk, 1, none⟩ = some (.int .i64 y) ∧ w'.cell? ⟨bk, 2, none⟩ = some (.slice l.a l.n l.c)) (by kernel_rfl) ?_
          have bd0 : Below W2.heap.size W2 W2.drew := (Below.refl _ _).drew
          have hC0 : (fun w' : World => w'.cell? ⟨bk, 0, none⟩ = some (.int .i64 x) ∧ w'.cell? ⟨bk, 1, none⟩ = some (.int .i64 y) ∧ w'.cell? ⟨bk, 2, none⟩ = some (.slice l.a l.n l.c)) W2.drew := unhide HC _ bd0
          refine wpHold_take (i := 0) (v := ?_) rfl (by kernel_rfl) (by kernel_rfl) (by kernel_rfl) (fun _ _ _ h => h) (Or.inl ⟨by rfl, ?_⟩) hC0 ?_
          rotate_left
          · intro w hSw; clear hSw; go_simp; (try with_reducible rfl)
          (try simp only [List.getElem_toArray, List.getElem_cons_succ, List.getElem_cons_zero])
          (try simp only [Act.put, List.setIfInBounds_toArray, List.set_cons_zero, List.set_cons_succ])
          refine wpHold_take (i := 1) (v := ?_) rfl (by kernel_rfl) (by kernel_rfl) (by kernel_rfl) (fun _ _ _ h => h) (Or.inl ⟨by rfl, ?_⟩) hC0 ?_
          rotate_left
          · intro w hSw; clear hSw; go_simp; (try with_reducible rfl)
          (try simp only [List.getElem_toArray, List.getElem_cons_succ, List.getElem_cons_zero])
          (try simp only [Act.put, List.setIfInBounds_toArray, List.set_cons_zero, List.set_cons_succ])
          refine wpHold_take (i := 2) (v := ?_) rfl (by kernel_rfl) (by kernel_rfl) (by kernel_rfl) (fun _ _ _ h => h) (Or.inl ⟨by rfl, ?_⟩) hC0 ?_
          rotate_left
          · intro w hSw; (try dsimp only at hSw); obtain ⟨c0, c1, c2⟩ := hSw; go_simp; (try with_reducible rfl)
          (try simp only [List.getElem_toArray, List.getElem_cons_succ, List.getElem_cons_zero])
          (try simp only [Act.put, List.setIfInBounds_toArray, List.set_cons_zero, List.set_cons_succ])
          refine wpHold_take (i := 4) (v := ?_) rfl (by kernel_rfl) (by kernel_rfl) (by kernel_rfl) (fun _ _ _ h => h) (Or.inl ⟨by rfl, ?_⟩) hC0 ?_
          rotate_left
          · intro w hSw; clear hSw; go_simp; (try with_reducible rfl)
          (try simp only [List.getElem_toArray, List.getElem_cons_succ, List.getElem_cons_zero])
          (try simp only [Act.put, List.setIfInBounds_toArray, List.set_cons_zero, List.set_cons_succ])
          refine wpHold_take (i := 5) (v := ?_) rfl (by kernel_rfl) (by kernel_rfl) (by kernel_rfl) (fun _ _ _ h => h) (Or.inl ⟨by rfl, ?_⟩) hC0 ?_
          rotate_left
          · intro w hSw; (try dsimp only at hSw); obtain ⟨c0, c1, c2⟩ := hSw; go_simp; (try with_reducible rfl)
          (try simp only [List.getElem_toArray, List.getElem_cons_succ, List.getElem_cons_zero])
          (try simp only [Act.put, List.setIfInBounds_toArray, List.set_cons_zero, List.set_cons_succ])
          refine wpHold_one (k := 3) (by kernel_rfl) rfl (fun K hK => ?_)
          (try simp only [List.getElem_toArray, List.getElem_cons_succ, List.getElem_cons_zero])
          go_simp
          refine (f_any x y (unhide HX).1 (unhide HX).2 (unhide HY).1 (unhide HY).2 _).mono ?_
          rintro e xw_1 ⟨xv_1, rfl, hv_1, hb_1⟩
          have cc_1 := below_step bd0 hb_1
          have hC_1 : (fun w' : World => w'.cell? ⟨bk, 0, none⟩ = some (.int .i64 x) ∧ w'.cell? ⟨bk, 1, none⟩ = some (.int .i64 y) ∧ w'.cell? ⟨bk, 2, none⟩ = some (.slice l.a l.n l.c)) xw_1 := unhide HC _ cc_1
          refine hK.out _ _ hC_1 ?_
          clear hK K
          (try simp only [Act.put, List.setIfInBounds_toArray, List.set_cons_zero, List.set_cons_succ])
          refine wpHold_one (k := 6) (by kernel_rfl) rfl (fun K hK => ?_)
          (try simp only [List.getElem_toArray, List.getElem_cons_succ, List.getElem_cons_zero])
          go_simp
          refine (unhide HLW _ cc_1).mono ?_
          rintro e xw_2 ⟨xv_2, rfl, hv_2, hb_2, hf_2⟩
          have cc_2 := below_step cc_1 hb_2
          have hC_2 : (fun w' : World => w'.cell? ⟨bk, 0, none⟩ = some (.int .i64 x) ∧ w'.cell? ⟨bk, 1, none⟩ = some (.int .i64 y) ∧ w'.cell? ⟨bk, 2, none⟩ = some (.slice l.a l.n l.c)) xw_2 := unhide HC _ cc_2
          refine hK.out _ _ hC_2 ?_
          clear hK K
          (try simp only [Act.put, List.setIfInBounds_toArray, List.set_cons_zero, List.set_cons_succ])
          obtain ⟨t, rfl, ht0⟩ := tri_of hv_1
          have ht := ht0.below hb_2
          obtain ⟨m, rfl, hm, hmn⟩ := sl_of hv_2
          clear hv_1 hv_2 ht0 hmn
          simp only [Tri.val, Sl.val]
          have hmf : ∀ ad, m.a = some ad → xw_1.heap.size ≤ ad.block := fun ad e => by
            rcases hf_2 with h | ⟨g, n, cap, h, hg⟩
            · have : m.a = none := by injection h
              rw [this] at e; cases e
            · have : m.a = some ⟨g, 0, none⟩ := by injection h
              rw [this] at e
              injection e with e
              rw [← e]; exact hg
          refine wpHold_take (i := 7) (v := ?_) rfl (by kernel_rfl) (by kernel_rfl) (by kernel_rfl) (fun _ _ _ h => h) (Or.inl ⟨by rfl, ?_⟩) hC_2 ?_
          rotate_left
          · intro w hSw; clear hSw; go_simp; (try with_reducible rfl)
          (try simp only [List.getElem_toArray, List.getElem_cons_succ, List.getElem_cons_zero])
          (try simp only [Act.put, List.setIfInBounds_toArray, List.set_cons_zero, List.set_cons_succ])
          refine wpHold_one (k := 8) (by kernel_rfl) rfl (fun K hK => ?_)
          (try simp only [List.getElem_toArray, List.getElem_cons_succ, List.getElem_cons_zero])
          go_simp
          have bL := alloc_below xw_2 (.cells #[.bool t.s, .slice t.a1 t.n1 t.c1, .slice t.a2 t.n2 t.c2, .slice m.a m.n m.c] 62)
          have cc_3 := below_step cc_2 bL
          have hC_3 : (fun w' : World => w'.cell? ⟨bk, 0, none⟩ = some (.int .i64 x) ∧ w'.cell? ⟨bk, 1, none⟩ = some (.int .i64 y) ∧ w'.cell? ⟨bk, 2, none⟩ = some (.slice l.a l.n l.c)) (xw_2.alloc (.cells #[.bool t.s, .slice t.a1 t.n1 t.c1, .slice t.a2 t.n2 t.c2, .slice m.a m.n m.c] 62)) := unhide HC _ cc_3
          refine hK.out _ _ hC_3 ?_
          clear hK K
          (try simp only [Act.put, List.setIfInBounds_toArray, List.set_cons_zero, List.set_cons_succ])
          have T3 := (unhide HT1).keep cc_3
          have ht3 := ht.below bL
          have hm3 := hm.below bL
          have hlen64 : (ts.length + 1) * 80 ≤ 140737488355328 := by have := unhide HTS; omega
          have hlen63 : ts.length + 1 ≤ maxLen := by have := unhide HTS; unfold maxLen; omega
          have hsz2 : (xw_2.alloc (.cells #[.bool t.s, .slice t.a1 t.n1 t.c1, .slice t.a2 t.n2 t.c2, .slice m.a m.n m.c] 62)).heap.size = xw_2.heap.size + 1 := by rw [alloc_heap, Array.size_push]
          have hown1 := ownsA_block (unhide HT1).own
          have hsz1 := cc_1.size
          have hszV := (unhide HT1).bl.size
          refine wpHold_one (k := 9) (by kernel_rfl) rfl (fun K hK => ?_)
          refine step_append_act _ rfl _ _ _ rfl V.heap.size 62 ti 80 Tryz.underlying63 (unhide HI) (unhide HZ) hz1 hz2 _ ts.length (acells ts) rfl T3.own T3.no ⟨xw_2.heap.size, 0, none⟩ 1 1 (acl (t, m)) rfl rfl (news_act xw_2 (t, m) _) (ac_one (t, m)) (ac_notWord (t, m)) (by decide) hlen63 hlen64 T3.bl.size (xw_2.heap.size + 1) hsz2 ?_
          intro g cap w4 hown4 hgrow hat hlt4 hno4
          have FIN := T3.push (p := (t, m)) (by rw [unhide HE]; exact ⟨ht3, hm3⟩) (fun _ ad e he => by have h1 := (hown1 _ he).2; have h2 := hmf ad e; omega) (fun _ ad e => by have h2 := hmf ad e; omega) hown4 hgrow (by rw [hsz2]; exact hat) hno4
          have hC_4 : (fun w' : World => w'.cell? ⟨bk, 0, none⟩ = some (.int .i64 x) ∧ w'.cell? ⟨bk, 1, none⟩ = some (.int .i64 y) ∧ w'.cell? ⟨bk, 2, none⟩ = some (.slice l.a l.n l.c)) w4 := by
            have far : ∀ k, w4.cell? ⟨bk, k, none⟩ = (xw_2.alloc (.cells #[.bool t.s, .slice t.a1 t.n1 t.c1, .slice t.a2 t.n2 t.c2, .slice m.a m.n m.c] 62)).cell? ⟨bk, k, none⟩ := fun k => hgrow.cell_far ⟨bk, k, none⟩ (Nat.lt_of_lt_of_le (unhide HBK) cc_3.size) (fun e => unhide HNE e.symm)
            simp only [far]; exact hC_3
          refine hK.out _ _ hC_4 ?_
          clear hK K
          (try simp only [Act.put, List.setIfInBounds_toArray, List.set_cons_zero, List.set_cons_succ])
          refine wpHold_one (k := 10) (by kernel_rfl) rfl (fun K hK => ?_)
          (try simp only [List.getElem_toArray, List.getElem_cons_succ, List.getElem_cons_zero])
          go_simp
          refine hK.out _ _ hC_4 ?_
          clear hK K
          (try simp only [Act.put, List.setIfInBounds_toArray, List.set_cons_zero, List.set_cons_succ])
          refine wpHold_done (by kernel_rfl) ?_ _
          have HFIN := hide FIN
          clear FIN hown4 hgrow hat hno4 T3 ht3 hm3 HT1 hC_4 hC_3 HC HE hown1 hsz1 hszV hmf
          go_wp2_with fail
          exact ⟨⟨j + 1, ts ++ [(t, m)], by go_num, hltj, by rw [List.length_append, unhide HTS]; rfl, unhide HFIN⟩, by simp [intOf]; omega⟩
        · obtain rfl : j = pr.length := by omega
          have hj1 : ¬ (pr.length : Int) < (pr.length : Int) := by omega
          have hAI := T.isIn (by rw [hts, csOf_length])
          have hbV := T.bl
          obtain ⟨mm, rfl, hmv⟩ : ∃ m : Sl, u6 = m.val ∧ ActsIn wr m.val (csOf pr) V.heap.size wr.heap.size := by
            obtain ⟨a, c, e, _⟩ := id hAI
            exact ⟨(a, (csOf pr).length, c), e, by rw [show Sl.val (a, (csOf pr).length, c) = u6 from e.symm]; exact hAI⟩
          have bL := alloc_below wr (.cells #[.slice mm.a mm.n mm.c] 63)
          have T2 := ((unhide HTS0).keep hbV).keep bL
          have G2 := heap_kept (heap_kept (unhide HG) hbV) bL
          have GR2 := heap_kept (heap_kept (unhide HGRR) hbV) bL
          have RO2 := ((unhide HRO).below hbV).below bL
          have hA2 := hmv.below bL
          have hown0 := ownsSt_block (unhide HTS0).own
          have c0 : wr.cell? ⟨go, 0, none⟩ = some (.slice sa ns cs) := by
            have := heap_kept (unhide HG) hbV
            simp [World.cell?, this]
          have hlen24 : (ss.length + 1) * 24 ≤ 140737488355328 := by have := unhide HSS; omega
          have hlen63 : ss.length + 1 ≤ maxLen := by have := unhide HSS; unfold maxLen; omega
          have hsz2 : (wr.alloc (.cells #[.slice mm.a mm.n mm.c] 63)).heap.size = wr.heap.size + 1 := by rw [alloc_heap, Array.size_push]
          have hglt : go < (wr.alloc (.cells #[.slice mm.a mm.n mm.c] 63)).heap.size := (Array.getElem?_eq_some_iff.1 G2).1
          have hrlt : gr < (wr.alloc (.cells #[.slice mm.a mm.n mm.c] 63)).heap.size := (Array.getElem?_eq_some_iff.1 GR2).1
          have hgne : ∀ g, (Value.slice sa ns cs).ownBlock = some g → g ≠ go ∧ g ≠ gr := fun g e => by
            have key : ∀ b cs', (wr.alloc (.cells #[.slice mm.a mm.n mm.c] 63)).heap[b]? = some (.cells cs' 35) → g ≠ b := fun b cs' hb => by
              rintro rfl
              rcases T2.own.2 with ⟨e2, _⟩ | ⟨g', cap, cur, e2, _, hh, _⟩
              · rw [e2] at e; cases e
              · rw [e2] at e
                have : g' = g := Option.some.inj e
                subst this
                rw [hb] at hh
                injection hh with hh
                injection hh with _ hh
                exact absurd hh (by decide)
            exact ⟨key go _ G2, key gr _ GR2⟩
          have hgV : go < V.heap.size := (Array.getElem?_eq_some_iff.1 (unhide HG)).1
          have HT2 := hide T2
          have HA2 := hide hA2
          have HOW := hide hown0
          have KEY : Hid (∀ g cap w4, w4.ownsRow w.heap.size 63 1 (.slice (some ⟨g, 0, none⟩) (ss.length + 1) cap) (ss.length + 1) (sv ss ++ [mm.val]) → (wr.alloc (.cells #[.slice mm.a mm.n mm.c] 63)).grownBy w4 (Value.slice sa ns cs).ownBlock → ((Value.slice sa ns cs).ownBlock = some g ∨ g = wr.heap.size + 1) → Wordless w4 g →
              (w4.cell? ⟨go, 0, none⟩ = some (.slice sa ns cs) ∧ w4.frozen? ⟨go, 0, none⟩ = false) ∧ SsAt w (w4.setCell ⟨go, 0, none⟩ (.slice (some ⟨g, 0, none⟩) (ss.length + 1) cap)) (.slice (some ⟨g, 0, none⟩) (ss.length + 1) cap) (ss ++ [mm]) (kOf ps) (fun j => if j = ss.length then V.heap.size else lo j) (fun j => if j = ss.length then wr.heap.size else hi' j) ∧
              (w4.setCell ⟨go, 0, none⟩ (.slice (some ⟨g, 0, none⟩) (ss.length + 1) cap)).heap[go]? = some (.cells #[.slice (some ⟨g, 0, none⟩) (ss.length + 1) cap, .bool tw.s, .slice tw.a1 tw.n1 tw.c1, .slice tw.a2 tw.n2 tw.c2] 35) ∧ (w4.setCell ⟨go, 0, none⟩ (.slice (some ⟨g, 0, none⟩) (ss.length + 1) cap)).heap[gr]? = some (.cells #[.slice none 0 0, .bool false, .slice none 0 0, .slice none 0 0] 35) ∧ RatIs (w4.setCell ⟨go, 0, none⟩ (.slice (some ⟨g, 0, none⟩) (ss.length + 1) cap)) tw.val (pq (wx, wy))) := fun g cap w4 hown4 hgrow hat hno4 => by
            have P4 := T2.push (p := mm) (x := V.heap.size) (y := wr.heap.size) (by rw [unhide HSS, kOf_get (unhide HLTP), unhide HPR]; exact hA2) (fun g' e => Or.inl (hown0 g' e).2) hown4 hgrow (by rw [hsz2]; exact hat) hno4
            have G4 : w4.heap[go]? = some (.cells #[.slice sa ns cs, .bool tw.s, .slice tw.a1 tw.n1 tw.c1, .slice tw.a2 tw.n2 tw.c2] 35) := by
              rw [hgrow.block go hglt (fun e => (hgne go e.symm).1 rfl)]; exact G2
            have R4 : w4.heap[gr]? = some (.cells #[.slice none 0 0, .bool false, .slice none 0 0, .slice none 0 0] 35) := by
              rw [hgrow.block gr hrlt (fun e => (hgne gr e.symm).2 rfl)]; exact GR2
            have RT4 := RO2.far hgrow T2.no
            have nw : ∀ u ∈ (#[.slice sa ns cs, .bool tw.s, .slice tw.a1 tw.n1 tw.c1, .slice tw.a2 tw.n2 tw.c2] : Array Value), notWord u := fun u hu => by
              simp only [List.mem_toArray, List.mem_cons, List.not_mem_nil, or_false] at hu
              rcases hu with rfl | rfl | rfl | rfl <;> trivial
            refine ⟨⟨by simp [World.cell?, G4], by simp [World.frozen?, G4]⟩, P4.touch G4 nw (fun j hj => ?_) (grown_set w4 go 0 _) (P4.bl.setCell (p := ⟨go, 0, none⟩) (unhide HGO) _), ?_, ?_, ?_⟩
            · by_cases e : j = ss.length
              · simp only [e, if_true]; exact hgV
              · simp only [if_neg e]
                exact unhide HLO j (by rw [List.length_append] at hj; simp at hj; omega)
            · rw [setCell_eq]
              simp [mapBlock, Array.getElem?_modify, G4, onCells]
            · rw [Below.heap_setCell _ _ _ _ (Nat.ne_of_lt (unhide HRL))]; exact R4
            · exact RT4.far (grown_set w4 go 0 _) (fun g e => by injection e with e; rw [← e]; exact wordless_of G4 nw)
          have HBA : Hid (w.heap.size ≤ (wr.alloc (.cells #[.slice mm.a mm.n mm.c] 63)).heap.size) := T2.bl.size
          have HSZ := hide hsz2
          have HL24 := hide hlen24
          have HL63 := hide hlen63
          simp only [Sl.val]
          clear T hAI hbV hmv bL T2 G2 GR2 RO2 hA2 hown0 hlen24 hlen63 hsz2 hglt hrlt hgne hgV hts
          go_wp2_with (at_builtin; go_loud (refine wpList_append_sl _ rfl _ _ _ rfl w.heap.size 63 tj 24 Tryz.underlying29 (unhide HI2) (unhide HZ2) hy1 hy2 _ ss.length (sv ss) rfl (unhide HT2).own (unhide HT2).no ⟨wr.heap.size, 0, none⟩ 1 1 [mm.val] rfl rfl (news_sl wr mm _) (sv_one mm) (sv_notWord mm) (by decide) (unhide HL63) (unhide HL24) (unhide HBA) (wr.heap.size + 1) (unhide HSZ) ?_; intro g cap w4 hown4 hgrow hat hlt4 hno4; obtain ⟨⟨y0, y1⟩, K1, K2, K3, K4⟩ := unhide KEY g cap w4 hown4 hgrow hat hno4; have HK1 := hide K1; have HK2 := hide K2; have HK3 := hide K3; have HK4 := hide K4; clear hown4 hgrow hat hno4 K1 K2 K3 K4 KEY))
          exact ⟨⟨i + 1, ss ++ [mm], _, _, _, _, _, by go_num, hlt, by rw [List.length_append, unhide HSS]; rfl, unhide HK1, fun j hj => by
            by_cases e : j = ss.length
            · simp only [e, if_true]; exact (Array.getElem?_eq_some_iff.1 (unhide HG)).1
            · simp only [if_neg e]
              exact unhide HLO j (by rw [List.length_append] at hj; simp at hj; omega), unhide HK2, unhide HK3, unhide HK4⟩, by simp [intOf]; omega⟩
    · obtain rfl : i = np := by omega
      have e1 : ¬ (i : Int) < (i : Int) := by omega
      have hst := TS.states (by rw [hss, kOf_length]; exact (unhide HNP).symm)
      have hbb := TS.bl
      obtain ⟨m0, m1, m2, m3⟩ : wr.cell? ⟨go, 0, none⟩ = some (.slice sa ns cs) ∧ wr.cell? ⟨go, 1, none⟩ = some (.bool tw.s) ∧ wr.cell? ⟨go, 2, none⟩ = some (.slice tw.a1 tw.n1 tw.c1) ∧ wr.cell? ⟨go, 3, none⟩ = some (.slice tw.a2 tw.n2 tw.c2) := by simp [World.cell?, hgo]
      obtain ⟨y0, y1, y2, y3⟩ : wr.cell? ⟨gr, 0, none⟩ = some (.slice none 0 0) ∧ wr.cell? ⟨gr, 1, none⟩ = some (.bool false) ∧ wr.cell? ⟨gr, 2, none⟩ = some (.slice none 0 0) ∧ wr.cell? ⟨gr, 3, none⟩ = some (.slice none 0 0) := by simp [World.cell?, hgr]
      obtain ⟨f0, f1, f2, f3⟩ : wr.frozen? ⟨gr, 0, none⟩ = false ∧ wr.frozen? ⟨gr, 1, none⟩ = false ∧ wr.frozen? ⟨gr, 2, none⟩ = false ∧ wr.frozen? ⟨gr, 3, none⟩ = false := by simp [World.frozen?, hgr]
      have nw : ∀ u ∈ (#[.slice none 0 0, .bool false, .slice none 0 0, .slice none 0 0] : Array Value), notWord u := fun u hu => by
        simp only [List.mem_toArray, List.mem_cons, List.not_mem_nil, or_false] at hu
        rcases hu with rfl | rfl | rfl | rfl <;> trivial
      have hG4 := grown_set4 wr gr (.slice sa ns cs) (.bool tw.s) (.slice tw.a1 tw.n1 tw.c1) (.slice tw.a2 tw.n2 tw.c2)
      have hB4 := ((((hbb.setCell (p := ⟨gr, 0, none⟩) (unhide HGR) (.slice sa ns cs)).setCell (p := ⟨gr, 1, none⟩) (unhide HGR) (.bool tw.s)).setCell (p := ⟨gr, 2, none⟩) (unhide HGR) (.slice tw.a1 tw.n1 tw.c1)).setCell (p := ⟨gr, 3, none⟩) (unhide HGR) (.slice tw.a2 tw.n2 tw.c2))
      have TF := TS.touch hgr nw (fun j hj => Nat.lt_trans (unhide HRL) (hlo j hj)) hG4 hB4
      have RF := hro.far hG4 (fun g e => by injection e with e; rw [← e]; exact wordless_of hgr nw)
      have GF : ((((wr.setCell ⟨gr, 0, none⟩ (.slice sa ns cs)).setCell ⟨gr, 1, none⟩ (.bool tw.s)).setCell ⟨gr, 2, none⟩ (.slice tw.a1 tw.n1 tw.c1)).setCell ⟨gr, 3, none⟩ (.slice tw.a2 tw.n2 tw.c2)).heap[gr]? = some (.cells #[.slice sa ns cs, .bool tw.s, .slice tw.a1 tw.n1 tw.c1, .slice tw.a2 tw.n2 tw.c2] 35) := by
        rw [setCell_eq, setCell_eq, setCell_eq, setCell_eq]
        simp [mapBlock, Array.getElem?_modify, hgr, onCells]
      obtain ⟨Wf, hWf⟩ : ∃ W, (((wr.setCell ⟨gr, 0, none⟩ (.slice sa ns cs)).setCell ⟨gr, 1, none⟩ (.bool tw.s)).setCell ⟨gr, 2, none⟩ (.slice tw.a1 tw.n1 tw.c1)).setCell ⟨gr, 3, none⟩ (.slice tw.a2 tw.n2 tw.c2) = W := ⟨_, rfl⟩
      rw [hWf] at TF RF GF hB4
      have hnss : ss.length = (kOf ps).length := by rw [hss, kOf_length]; exact (unhide HNP).symm
      have HST := hide (TF.states hnss)
      have HRF := hide RF
      have HBF := hide hB4
      obtain ⟨x0, x1, x2, x3⟩ : Wf.cell? ⟨gr, 0, none⟩ = some (.slice sa ns cs) ∧ Wf.cell? ⟨gr, 1, none⟩ = some (.bool tw.s) ∧ Wf.cell? ⟨gr, 2, none⟩ = some (.slice tw.a1 tw.n1 tw.c1) ∧ Wf.cell? ⟨gr, 3, none⟩ = some (.slice tw.a2 tw.n2 tw.c2) := by simp [World.cell?, GF]
      clear TS hss hlo hgo hgr hro hst hbb hG4 hB4 TF RF GF hnss HTS0 HG HGRR HRO
      go_wp2
      exact bodyPost_ret (v := .agg #[.slice sa ns cs, .bool tw.s, .slice tw.a1 tw.n1 tw.c1, .slice tw.a2 tw.n2 tw.c2]) (by simp [results, Tryz.results8, go_sem, x0, x1, x2, x3]) rfl ⟨_, rfl, ⟨(sa, ns, cs), tw, rfl, unhide HST, unhide HRF⟩, unhide HBF⟩

end Go.Proofs.YtaacibgmdeoikaaGreatDoor
