/- plain.Fs: pairs made a row of fractions. -/
import Derived.Test.YtdicbnchkfclaaaDoorB7
import Derived.Test.YtdicbnchkfclaaaDoorB6
namespace Go.Proofs.YtdicbnchkfclaaaDoor
open Go.RowKit Go.Sort Go.Shelf

theorem Tryd.infoR : (Tryd.prog.info? 36).map (fun i => (i.zero, i.size, i.bytes)) = some (some (.agg zR), 3, 56) := by kernel_rfl

theorem ownsR_kept {w w' : World} {B : Nat} {v : Value} {n : Nat} {xs : List Value} (h : w.ownsRow B 36 3 v n xs) (hk : ∀ k o, B ≤ k → w.heap[k]? = some o → w'.heap[k]? = some o) : w'.ownsRow B 36 3 v n xs := by
  obtain ⟨h1, h2 | ⟨g, cap, cur, e, hb, hh, hr⟩⟩ := h
  · exact ⟨h1, .inl h2⟩
  · exact ⟨h1, .inr ⟨g, cap, cur, e, hb, hk g _ hb hh, hr⟩⟩
theorem ownsR_block {w : World} {B : Nat} {v : Value} {n : Nat} {xs : List Value} (h : w.ownsRow B 36 3 v n xs) : ∀ k, v.ownBlock = some k → B ≤ k ∧ k < w.heap.size := by
  intro k hk
  obtain ⟨h1, ⟨rfl, _⟩ | ⟨g, cap, cur, rfl, hb, hh, hr⟩⟩ := h
  · cases hk
  · have : g = k := Option.some.inj hk
    subst this
    exact ⟨hb, (Array.getElem?_eq_some_iff.1 hh).1⟩

structure FsAt (w wr : World) (B : Nat) (v : Value) (ts : List Tri) (qs : List Rat) : Prop where
  own : wr.ownsRow B 36 3 v ts.length (tcells ts)
  no : ∀ g, v.ownBlock = some g → Wordless wr g
  rat : ∀ j, j < ts.length → RatIs wr (ts[j]!).val qs[j]!
  bl : Below w.heap.size w wr
  base : w.heap.size ≤ B

theorem FsAt.keep {w wr w' : World} {B : Nat} {v : Value} {ts : List Tri} {qs : List Rat} (h : FsAt w wr B v ts qs) (hb : Below wr.heap.size wr w') : FsAt w w' B v ts qs := by
  refine ⟨ownsR_kept h.own fun k o _ ho => ?_, fun g hg => (h.no g hg).below (ownsR_block h.own g hg).2 hb, fun j hj => (h.rat j hj).below hb, below_step h.bl hb, h.base⟩
  rw [hb.block k (Array.getElem?_eq_some_iff.1 ho).1]; exact ho

theorem tri_of {w : World} {v : Value} {q : Rat} (h : RatIs w v q) : ∃ t : Tri, v = t.val ∧ RatIs w t.val q := by
  have h' := h
  obtain ⟨ov, un, rfl, ho, hu⟩ := h'
  obtain ⟨y1, y2, y3, rfl, _, _⟩ := ho
  obtain ⟨y4, y5, y6, rfl, _, _⟩ := hu
  exact ⟨⟨_, y1, y4, y2, y3, y5, y6⟩, rfl, h⟩

theorem news_tri (w : World) (t : Tri) (T : TypeId) : ∀ j u, t.cells[j]? = some u → (w.alloc (.cells #[.bool t.s, .slice t.a1 t.n1 t.c1, .slice t.a2 t.n2 t.c2] T)).cell? ((⟨w.heap.size, 0, none⟩ : Addr).add j) = some u :=
  World.news_of_block (cs := #[.bool t.s, .slice t.a1 t.n1 t.c1, .slice t.a2 t.n2 t.c2]) (t := T) (fr := (0, 0)) (heap_alloc_new w _)

theorem tri_one (t : Tri) : ∀ u ∈ t.cells, u.oneCell' = true := by
  intro u hu
  simp only [Tri.cells, List.mem_cons, List.not_mem_nil, or_false] at hu
  rcases hu with rfl | rfl | rfl <;> rfl

theorem FsAt.push {w wr w' : World} {B g cap : Nat} {v : Value} {ts : List Tri} {t : Tri} {qs : List Rat} (h : FsAt w wr B v ts qs) (ht : RatIs wr t.val qs[ts.length]!)
    (own : w'.ownsRow B 36 3 (.slice (some ⟨g, 0, none⟩) (ts.length + 1) cap) (ts.length + 1) (tcells ts ++ t.cells)) (hg : wr.grownBy w' v.ownBlock) (hn : Wordless w' g) (hB : B ≤ wr.heap.size) :
    FsAt w w' B (.slice (some ⟨g, 0, none⟩) (ts.length + 1) cap) (ts ++ [t]) qs := by
  refine ⟨by rw [tcells_append, List.length_append]; exact own, fun k hk => ?_, fun j hj => ?_, Below.grown h.bl hg (Nat.le_trans h.base hB) (fun k hk => Nat.le_trans h.base (ownsR_block h.own k hk).1), h.base⟩
  · have : g = k := Option.some.inj hk
    rw [← this]; exact hn
  · rw [List.length_append] at hj
    by_cases hj2 : j < ts.length
    · have e : (ts ++ [t])[j]! = ts[j]! := by rw [List.getElem!_eq_getElem?_getD, List.getElem!_eq_getElem?_getD, List.getElem?_append_left hj2]
      rw [e]; exact (h.rat j hj2).far hg h.no
    · have e : j = ts.length := by simp at hj; omega
      subst e
      have e : (ts ++ [t])[ts.length]! = t := by rw [List.getElem!_eq_getElem?_getD, List.getElem?_append_right (Nat.le_refl _), Nat.sub_self]; rfl
      rw [e]; exact ht.far hg h.no

theorem FsAt.start (w : World) (qs : List Rat) : FsAt w w w.heap.size (.slice none 0 0) [] qs :=
  ⟨World.ownsRow_nil _ _ _ _, fun g hg => absurd (show (none : Option Nat) = some g from hg) (by simp), fun j hj => absurd hj (Nat.not_lt_zero _), Below.refl _ _, Nat.le_refl _⟩

set_option maxHeartbeats 4000000 in
set_option maxRecDepth 100000 in
theorem fs_any (v : Value) (ps : List (Int × Int)) (w : World) (h : PairsAre w v ps) (hl : ps.length ≤ 1099511627776) :
    Calls Tryd.prog 29 #[v] w fun e w' => ∃ v, e = .returned v ∧ LawIs w' v (pqs ps) ∧ Below w.heap.size w w' := by
  obtain ⟨a, c, rfl, h1, h2, h4, h3⟩ := h
  obtain ⟨ti, hi, hz0, hz1, hz2⟩ := info_parts Tryd.infoR
  have H3 := hide h3
  have H4 := hide h4
  have HI := hide hi
  have HZ := hide hz0
  clear h3 h4 hi hz0
  go_enter Tryd.func29, Tryd.ntmps29
  go_wp2_with fail
  go_loopw [3, 8] (fun vo vi wr => ∃ (i : Nat) (ts : List Tri), vi = .int .i64 i ∧ i ≤ ps.length ∧ ts.length = i ∧ FsAt w wr w.heap.size vo ts (pqs ps)) (fun _ vi _ => ps.length - (intOf vi).toNat)
  case atStart => exact ⟨0, [], rfl, Nat.zero_le _, rfl, FsAt.start w _⟩
  case round =>
    obtain ⟨i, ts, rfl, hi, hts, T⟩ := hrel
    by_cases hlt : i < ps.length
    · obtain ⟨b, o, rfl, hblt, hcs⟩ := unhide H3 (by omega)
      have ⟨k0, k1⟩ := hcs i hlt
      have ⟨i1, i2⟩ := unhide H4 i hlt
      rw [← T.bl.cell (p := ⟨b, o + i * 2, none⟩) hblt] at k0
      rw [← T.bl.cell (p := ⟨b, o + i * 2 + 1, none⟩) hblt] at k1
      obtain ⟨x, hx⟩ : ∃ x, (ps[i]!).1 = x := ⟨_, rfl⟩
      obtain ⟨y, hy⟩ : ∃ y, (ps[i]!).2 = y := ⟨_, rfl⟩
      have epq : (pqs ps)[ts.length]! = Rat.divInt x (if y = 0 then 1 else y) := by
        rw [hts, ← hx, ← hy]
        simp [pqs, pq, hlt]
      rw [hx] at k0 i1
      rw [hy] at k1 i2
      have T1 := T.keep (alloc_below wr (.cells #[.int .i64 x, .int .i64 y] 46))
      have HF := hide (f_any x y i1.1 i1.2 i2.1 i2.2 (wr.alloc (.cells #[.int .i64 x, .int .i64 y] 46)))
      have hi0 : (0 : Int) ≤ (i : Int) := by omega
      have hi1 : (i : Int) < (ps.length : Int) := by omega
      have HT1 := hide T1
      have HE := hide epq
      have HTS := hide hts
      clear T T1 hcs H3 H4 epq i1 i2 hts hx hy
      go_wp2_with fail
      refine (unhide HF).mono ?_
      rintro e w2 ⟨v2, rfl, hv2, hb2⟩
      obtain ⟨t, rfl, hr2⟩ := tri_of hv2
      rw [← unhide HE] at hr2
      have T2 := ((unhide HT1).keep hb2).keep (alloc_below w2 (.cells #[.bool t.s, .slice t.a1 t.n1 t.c1, .slice t.a2 t.n2 t.c2] 36))
      have hr3 := hr2.below (alloc_below w2 (.cells #[.bool t.s, .slice t.a1 t.n1 t.c1, .slice t.a2 t.n2 t.c2] 36))
      have hlen56 : (ts.length + 1) * 56 ≤ 140737488355328 := by have := unhide HTS; omega
      have hlen63 : ts.length + 1 ≤ maxLen := by have := unhide HTS; unfold maxLen; omega
      have hbase : w.heap.size ≤ (w2.alloc (.cells #[.bool t.s, .slice t.a1 t.n1 t.c1, .slice t.a2 t.n2 t.c2] 36)).heap.size := T2.bl.size
      have hsz2 : (w2.alloc (.cells #[.bool t.s, .slice t.a1 t.n1 t.c1, .slice t.a2 t.n2 t.c2] 36)).heap.size = w2.heap.size + 1 := by rw [alloc_heap, Array.size_push]
      have HT2 := hide T2
      have HR3 := hide hr3
      have HBA := hide hbase
      have HSZ := hide hsz2
      have HL56 := hide hlen56
      have HL63 := hide hlen63
      simp only [Tri.val]
      clear T2 hr3 hr2 hbase hsz2 hlen56 hlen63 hv2 hb2 HT1 HF
      go_wp2_with (at_builtin; go_loud (refine wpList_append_tri _ rfl _ _ _ rfl w.heap.size 36 ti 56 Tryd.underlying23 (unhide HI) (unhide HZ) hz1 hz2 _ ts.length (tcells ts) rfl (unhide HT2).own (unhide HT2).no ⟨w2.heap.size, 0, none⟩ 1 1 t.cells rfl rfl (news_tri w2 t _) (tri_one t) t.notWord (by decide) (unhide HL63) (unhide HL56) (unhide HBA) (w2.heap.size + 1) (unhide HSZ) ?_; intro g cap w4 hown4 hgrow hat hlt4 hno4))
      have FIN := hide ((unhide HT2).push (unhide HR3) hown4 hgrow hno4 (unhide HBA))
      clear hown4 hgrow hat hno4 HT2 HR3
      go_wp2_with fail
      exact ⟨⟨i + 1, ts ++ [t], by go_num, hlt, by rw [List.length_append, unhide HTS]; rfl, unhide FIN⟩, by simp [intOf]; omega⟩
    · obtain rfl : i = ps.length := by omega
      have L := law_of_owns T.own (by rw [hts, pqs_length]) T.rat
      have HB := hide T.bl
      have HL := hide L
      clear T H3 H4 L
      go_wp2
      (try simp only [Exit.inBlock, Exit.then])
      exact bodyPost_ret (v := u3) (by simp [results, Tryd.results29, go_sem]) rfl ⟨_, rfl, unhide HL, unhide HB⟩
end Go.Proofs.YtdicbnchkfclaaaDoor
/- Whether a row of fractions may be a law. -/
namespace Go.Proofs.YtdicbnchkfclaaaDoor
open Go.RowKit Go.Sort Go.Shelf

/-- What Check says: 0, or the error's number. -/
def chk (qs : List Rat) : Int :=
  if qs.length < 1 ∨ 101 < qs.length then 4 else if ∃ j, j < qs.length ∧ qs[j]!.num < 0 then 1 else if qsum qs qs.length = 1 then 0 else 10
def errV (k : Int) : Value := if k = 0 then .nilIface else .iface 68 (.int .i64 k)

theorem sg_zero {x y : Int} : Wd.sg x y = 0 ↔ x = y := by
  unfold Wd.sg
  split
  · constructor
    · intro h; omega
    · intro h; omega
  · split
    · simp [*]
    · constructor
      · intro h; omega
      · intro h; omega

theorem sg_range (x y : Int) : -1 ≤ Wd.sg x y ∧ Wd.sg x y ≤ 1 := by
  unfold Wd.sg; split
  · decide
  · split <;> decide

set_option maxHeartbeats 4000000 in
set_option maxRecDepth 100000 in
theorem check_any (v : Value) (qs : List Rat) (J : Nat) (w : World) (h : LawIs w v qs) (hq : ∀ j, j < qs.length → RS qs[j]! J) (hJ : (qs.length * (J + 1) + 1 + J) + (qs.length * (J + 1) + 1 + J) + 1 ≤ KK) :
    Calls Tryd.prog 35 #[v] w fun e w' => e = .returned (errV (chk qs)) ∧ Below w.heap.size w w' := by
  have HL := hide h
  have HQ := hide hq
  have hh := h
  obtain ⟨a, c, rfl, h1, h2, h3⟩ := hh
  have H3 := hide h3
  clear h3 h hq
  by_cases hlen : qs.length < 1 ∨ 101 < qs.length
  · have hc : chk qs = 4 := by unfold chk; rw [if_pos hlen]
    rw [hc]
    clear hc H3 HL HQ hJ
    by_cases hz : qs.length < 1
    · have d1 : decide ((qs.length : Int) < 1) = true := decide_eq_true (by omega)
      go_enter Tryd.func35, Tryd.ntmps35
      go_wp2
      go_ret
      exact ⟨rfl, Below.refl _ _⟩
    · have d1 : decide ((qs.length : Int) < 1) = false := decide_eq_false (by omega)
      have d2 : decide ((101 : Int) < (qs.length : Int)) = true := decide_eq_true (by omega)
      go_enter Tryd.func35, Tryd.ntmps35
      go_wp2
      go_ret
      exact ⟨rfl, Below.refl _ _⟩
  · have d1 : decide ((qs.length : Int) < 1) = false := decide_eq_false (by omega)
    have d2 : decide ((101 : Int) < (qs.length : Int)) = false := decide_eq_false (by omega)
    have HC : Hid (chk qs = if ∃ j, j < qs.length ∧ qs[j]!.num < 0 then 1 else if qsum qs qs.length = 1 then 0 else 10) := by show chk qs = _; unfold chk; rw [if_neg hlen]
    go_enter Tryd.func35, Tryd.ntmps35
    go_wp2_with fail
    go_loopw [16] (fun vi wr => ∃ (i : Nat), vi = .int .i64 i ∧ i ≤ qs.length ∧ (∀ j, j < i → 0 ≤ qs[j]!.num) ∧ Below w.heap.size w wr) (fun vi _ => qs.length - (intOf vi).toNat)
    case atStart => exact ⟨0, rfl, Nat.zero_le _, fun j hj => absurd hj (Nat.not_lt_zero _), Below.refl _ _⟩
    case round =>
      obtain ⟨i, rfl, hi, hpos, bl⟩ := hrel
      have HP := hide hpos
      have HBL := hide bl
      by_cases hlt : i < qs.length
      · obtain ⟨b, o, rfl, hblt, hcs⟩ := unhide H3 (by omega)
        obtain ⟨s', b1, b2, m1, e1, m2, e2, k0, k1, k2, r⟩ := hcs i hlt
        rw [← bl.cell (p := ⟨b, o + i * 3, none⟩) hblt] at k0
        rw [← bl.cell (p := ⟨b, o + i * 3 + 1, none⟩) hblt] at k1
        rw [← bl.cell (p := ⟨b, o + i * 3 + 2, none⟩) hblt] at k2
        have hb1 : Below wr.heap.size wr (wr.alloc (.cells #[.bool s', .slice b1 m1 e1, .slice b2 m2 e2] 36)) := alloc_below _ _
        have HSG := hide (sign_any _ qs[i]! (wr.alloc (.cells #[.bool s', .slice b1 m1 e1, .slice b2 m2 e2] 36)) ((r.below bl).below hb1))
        have hi0 : (0 : Int) ≤ (i : Int) := by omega
        have hi1 : (i : Int) < (qs.length : Int) := by omega
        have HB1 := hide (below_step bl hb1)
        obtain ⟨q, hqq⟩ : ∃ q, qs[i]! = q := ⟨_, rfl⟩
        rw [hqq] at HSG
        have HQQ := hide hqq
        have bd := sign_bd q.num
        obtain ⟨bda, bdb⟩ := bd
        by_cases hneg : q.num < 0
        · have hsn : q.num.sign = -1 := Int.sign_eq_neg_one_of_neg hneg
          rw [hsn] at HSG
          have hck : chk qs = 1 := by rw [unhide HC, if_pos ⟨i, hlt, by rw [hqq]; exact hneg⟩]
          have HCK := hide hck
          clear hpos r hcs hb1 bl H3 HQ HL hqq hck hsn bda bdb hJ HC
          go_wp2_with fail
          refine (unhide HSG).mono ?_
          rintro e w5 ⟨rfl, hb5⟩
          go_wp2
          go_ret
          exact ⟨by rw [unhide HCK]; rfl, below_step (unhide HB1) hb5⟩
        · have hsn : 0 ≤ q.num.sign := by
            rcases Int.lt_trichotomy q.num 0 with h | h | h
            · omega
            · rw [h]; decide
            · rw [Int.sign_eq_one_of_pos h]; decide
          generalize q.num.sign = x at *
          have hd3 : decide (x < 0) = false := decide_eq_false (by omega)
          have hnn : ∀ j, j < i + 1 → 0 ≤ qs[j]!.num := fun j hj => by
            rcases Nat.lt_or_ge j i with h | h
            · exact unhide HP j h
            · obtain rfl : j = i := by omega
              rw [unhide HQQ]; omega
          have HNN := hide hnn
          clear hpos r hcs hb1 bl H3 HQ HL hqq hnn hsn bda bdb hJ HC
          go_wp2_with fail
          refine (unhide HSG).mono ?_
          rintro e w5 ⟨rfl, hb5⟩
          have HB5 := hide (below_step (unhide HB1) hb5)
          clear hb5
          go_wp2_with fail
          exact ⟨⟨i + 1, by go_num, hlt, unhide HNN, unhide HB5⟩, by simp [intOf]; omega⟩
      · obtain rfl : i = qs.length := by omega
        have HSM := hide (sumR_any _ qs J wr ((unhide HL).below bl) (unhide HQ) hJ)
        have hno : ¬ ∃ j, j < qs.length ∧ qs[j]!.num < 0 := fun ⟨j, hj, hn⟩ => by have := unhide HP j hj; omega
        have hck : chk qs = if qsum qs qs.length = 1 then 0 else 10 := by rw [unhide HC, if_neg hno]
        have HCK := hide hck
        have hsr := qsum_RS (unhide HQ) qs.length (Nat.le_refl _)
        have s1 : Sm ((qsum qs qs.length).num.natAbs : Int) := sm_of hsr.1 (by omega)
        have s2 : Sm ((qsum qs qs.length).den : Int) := sm_of hsr.2 (by omega)
        clear hpos H3 HL bl hno hck hsr hJ HC HP HQ
        go_wp2_with fail
        refine (unhide HSM).mono ?_
        rintro e w5 ⟨v5, rfl, hv5, hb5⟩
        have HB5 := hide (below_step (unhide HBL) hb5)
        go_wp2_with fail
        refine (whole_any 1 (by decide) (by decide) w5).mono ?_
        rintro e w6 ⟨v6, rfl, hv6, hb6⟩
        have HB6 := hide (below_step (unhide HB5) hb6)
        have HCM := hide (cmpR_any _ _ _ _ w6 (hv5.below hb6) hv6 s1 (sm_word (by decide)) s2 (sm_word (by decide)))
        obtain ⟨g, hg⟩ : ∃ g, Wd.sg ((qsum qs qs.length).num * ((1 : Int) : Rat).den) (((1 : Int) : Rat).num * (qsum qs qs.length).den) = g := ⟨_, rfl⟩
        rw [hg] at HCM
        have hgr := sg_range ((qsum qs qs.length).num * ((1 : Int) : Rat).den) (((1 : Int) : Rat).num * (qsum qs qs.length).den)
        rw [hg] at hgr
        obtain ⟨hgr0, hgr1⟩ := hgr
        have hgz : g = 0 ↔ qsum qs qs.length = 1 := by rw [← hg, sg_zero, ← Rat.eq_iff_mul_eq_mul]; rfl
        have v5s : ∃ x0 x1 x2, v5 = .agg #[x0, x1, x2] := by obtain ⟨ov, un, rfl, _⟩ := hv5; exact ⟨_, _, _, rfl⟩
        obtain ⟨x0, x1, x2, rfl⟩ := v5s
        clear hv5 hb5 hv6 hb6 hg s1 s2
        by_cases hone : qsum qs qs.length = 1
        · obtain rfl := hgz.2 hone
          rw [if_pos hone] at HCK
          clear hgz hone
          go_wp2_with fail
          refine (unhide HCM).mono ?_
          rintro e w7 ⟨rfl, hb7⟩
          go_wp2
          go_ret
          exact ⟨by rw [unhide HCK]; rfl, below_step (unhide HB6) hb7⟩
        · have hgn : (g != 0) = true := by rw [bne_iff_ne]; exact fun h => hone (hgz.1 h)
          rw [if_neg hone] at HCK
          clear hgz hone
          go_wp2_with fail
          refine (unhide HCM).mono ?_
          rintro e w7 ⟨rfl, hb7⟩
          go_wp2
          go_ret
          exact ⟨by rw [unhide HCK]; rfl, below_step (unhide HB6) hb7⟩
end Go.Proofs.YtdicbnchkfclaaaDoor
