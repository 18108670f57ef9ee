/- Hidden states: what is taken from elsewhere. -/
import Derived.Test.YtfnbjenneodcdaaGreatDoorT10
import Derived.Test.YtfnbjenneodcdaaGreatDoorM52
namespace Go.Proofs.YtfnbjenneodcdaaGreatDoor
open Go.RowKit Go.Sort Go.Shelf

theorem rows_len {w : World} {l : Sl} {P : List (List Rat)} (h : RowsAre w l.val P) : l.n = P.length := by
  obtain ⟨a, c, e, _⟩ := h
  injection e
/-- One row. -/
theorem RowsAre.at {w : World} {l : Sl} {P : List (List Rat)} (h : RowsAre w l.val P) {i : Nat} (hi : i < P.length) : ∃ (b o : Nat) (m : Sl), l.a = some ⟨b, o, none⟩ ∧ b < w.heap.size ∧ w.cell? ⟨b, o + i, none⟩ = some (.slice m.a m.n m.c) ∧ LawIs w m.val P[i]! := by
  obtain ⟨a, c, e, _, _, h3⟩ := h
  obtain ⟨b, o, ea, hlt, hc⟩ := h3 (by omega)
  obtain ⟨m, k0, r⟩ := hc i hi
  have e1 : l.a = a := by injection e
  exact ⟨b, o, m, by rw [e1, ea], hlt, k0, r⟩
theorem prows_len {w : World} {l : Sl} {pss : List (List (Int × Int))} (h : PRowsAre w l.val pss) : l.n = pss.length := by
  obtain ⟨a, c, e, _⟩ := h
  injection e
/-- Rows of rows that lie beyond B. -/
def RowsFr (B : Nat) (w : World) (v : Value) (ks : List (List Rat)) : Prop := ∃ (a : Option Addr) (c : Nat), v = .slice a ks.length c ∧ ks.length ≤ c ∧ c ≤ 9223372036854775807 ∧
  (0 < ks.length → ∃ b o, a = some ⟨b, o, none⟩ ∧ B ≤ b ∧ b < w.heap.size ∧ ∀ j, j < ks.length → ∃ l : Sl, w.cell? ⟨b, o + j, none⟩ = some (.slice l.a l.n l.c) ∧ LawIs w l.val ks[j]! ∧ ∀ ad, l.a = some ad → B ≤ ad.block)
theorem RowsFr.below {B : Nat} {w w' : World} {v : Value} {ks : List (List Rat)} (h : RowsFr B w v ks) (hb : Below w.heap.size w w') : RowsFr B w' v ks := by
  obtain ⟨a, c, e, h1, h2, h3⟩ := h
  refine ⟨a, c, e, h1, h2, fun hp => ?_⟩
  obtain ⟨b, o, ea, hB, hlt, hc⟩ := h3 hp
  refine ⟨b, o, ea, hB, Nat.lt_of_lt_of_le hlt hb.size, fun j hj => ?_⟩
  obtain ⟨l, c0, r, hl⟩ := hc j hj
  refine ⟨l, ?_, r.below hb, hl⟩
  rw [hb.cell (p := ⟨b, o + j, none⟩) hlt]
  exact c0
/-- They stay where a block below is written. -/
theorem RowsFr.far {B R : Nat} {w w' : World} {v : Value} {ks : List (List Rat)} (h : RowsFr B w v ks) (hg : w.grownBy w' (some R)) (hno : ∀ g, some R = some g → Wordless w g) (hR : R < B) : RowsAre w' v ks := by
  obtain ⟨a, c, e, h1, h2, h3⟩ := h
  refine ⟨a, c, e, h1, h2, fun hp => ?_⟩
  obtain ⟨b, o, ea, hB, hlt, hc⟩ := h3 hp
  refine ⟨b, o, ea, Nat.lt_of_lt_of_le hlt hg.size, fun j hj => ?_⟩
  obtain ⟨l, c0, r, hl⟩ := hc j hj
  refine ⟨l, ?_, r.far hg hno (fun _ ad ea he => ?_)⟩
  · rw [hg.cell_far ⟨b, o + j, none⟩ hlt (fun e => by injection e with e; simp only at e; omega)]
    exact c0
  · have := hl ad ea
    injection he with he
    omega
/-- All rows of a list lie beyond B. -/
def HiAt (B : Nat) (ts : List Sl) : Prop := ∀ j, j < ts.length → ∀ ad, (ts[j]!).a = some ad → B ≤ ad.block
theorem HiAt.push {B : Nat} {ts : List Sl} {m : Sl} (h : HiAt B ts) (hm : ∀ ad, m.a = some ad → B ≤ ad.block) : HiAt B (ts ++ [m]) := fun j hj ad e => by
  rw [List.length_append] at hj
  by_cases hj2 : j < ts.length
  · rw [List.getElem!_eq_getElem?_getD, List.getElem?_append_left hj2, ← List.getElem!_eq_getElem?_getD] at e
    exact h j hj2 ad e
  · obtain rfl : j = ts.length := by simp at hj; omega
    rw [List.getElem!_eq_getElem?_getD, List.getElem?_append_right (Nat.le_refl _), Nat.sub_self] at e
    exact hm ad e
theorem rows_fr {w wr : World} {v : Value} {ps : List Sl} {ks : List (List Rat)} (h : RsAt w wr v ps ks) (hl : ps.length = ks.length) (hi : HiAt w.heap.size ps) : RowsFr w.heap.size wr v ks := by
  rcases h.own.2 with ⟨rfl, e⟩ | ⟨g, cap, cur, rfl, hb, hh, hc1, hc2, hs, ht⟩
  · exact ⟨none, 0, by rw [← hl, e], by omega, by decide, fun hp => by omega⟩
  · refine ⟨_, cap, by rw [hl], by omega, by unfold maxLen at hc2; exact hc2, fun _ => ⟨g, 0, rfl, hb, (Array.getElem?_eq_some_iff.1 hh).1, fun j hj => ⟨ps[j]!, ?_, h.rat j (by omega), hi j (by omega)⟩⟩⟩
    simp only [World.cell?, hh, Nat.zero_add]
    have e : (cur.toList.take (ps.length * 1))[j]? = (sv ps)[j]? := by rw [ht]
    rw [List.getElem?_take_of_lt (by omega), sv_get ps j (by omega)] at e
    simpa [Sl.val] using e
theorem grown_set (W : World) (b i : Nat) (v : Value) : W.grownBy (W.setCell ⟨b, i, none⟩ v) (some b) :=
  ⟨rfl, rfl, rfl, Nat.le_of_eq (by simp [World.setCell]), fun k _ hne => Below.heap_setCell _ _ _ _ (fun e => hne (by rw [e]))⟩
theorem grown_step {W V : World} {b i : Nat} {v : Value} (h : W.grownBy V (some b)) : W.grownBy (V.setCell ⟨b, i, none⟩ v) (some b) := by
  obtain ⟨a1, a2, a3, a4, a5⟩ := h
  exact ⟨a1, a2, a3, by simpa [World.setCell] using a4, fun k hk hne => by rw [Below.heap_setCell _ _ _ _ (fun e => hne (by rw [e]))]; exact a5 k hk hne⟩
set_option maxHeartbeats 8000000 in
set_option maxRecDepth 100000 in
set_option linter.unusedSimpArgs false in
theorem prows_fr (v : Value) (pss : List (List (Int × Int))) (w : World) (h : PRowsAre w v pss) (sm : SmP pss) :
    Calls Tryz.prog 44 #[v] w fun e w' => ∃ v, e = .returned v ∧ RowsFr w.heap.size w' v (pqss pss) ∧ Below w.heap.size w w' := by
  obtain ⟨a, c, rfl, h1, h2, h3⟩ := h
  obtain ⟨ti, hi, hz0, hz1, hz2⟩ := info_parts Tryz.infoS
  have H3 := hide h3
  have hsl := sm.1
  have HSM := hide sm
  have HI := hide hi
  have HZ := hide hz0
  clear h3 hi hz0 sm
  go_enter Tryz.func44, Tryz.ntmps44
  go_wp2_with fail
  go_loopw [3, 8] (fun vo vi wr => ∃ (i : Nat) (ts : List Sl), vi = .int .i64 i ∧ i ≤ pss.length ∧ ts.length = i ∧ RsAt w wr vo ts (pqss pss) ∧ HiAt w.heap.size ts) (fun _ vi _ => pss.length - (intOf vi).toNat)
  case atStart => exact ⟨0, [], rfl, Nat.zero_le _, rfl, RsAt.start w _ _ (Below.refl _ _), fun j hj => absurd hj (Nat.not_lt_zero _)⟩
  case round =>
    obtain ⟨i, ts, rfl, hi, hts, T, hHi⟩ := hrel
    have HHI := hide hHi
    clear hHi
    have hwr := T.bl.size
    by_cases hlt : i < pss.length
    · obtain ⟨b, o, rfl, hblt, hcs⟩ := unhide H3 (by omega)
      obtain ⟨l, k0, hpl⟩ := hcs i hlt
      rw [← T.bl.cell (p := ⟨b, o + i, none⟩) hblt] at k0
      have HF := hide (fs_own l.val _ wr (hpl.below T.bl) (by have := (unhide HSM).2 i hlt; omega))
      have epq : (pqss pss)[ts.length]! = pqs pss[i]! := by rw [hts]; exact pqss_get hlt
      have hown1 := ownsS_block T.own
      have hi0 : (0 : Int) ≤ (i : Int) := by omega
      have hi1 : (i : Int) < (pss.length : Int) := by omega
      have HT1 := hide T
      have HE := hide epq
      have HTS := hide hts
      have HOW := hide hown1
      clear T hcs epq hts hpl hown1
      go_wp2_with fail
      refine (unhide HF).mono ?_
      rintro e w2 ⟨v2, rfl, hv2, hb2, hf2⟩
      obtain ⟨m, rfl, hm, hmn⟩ := sl_of hv2
      rw [← unhide HE] at hm
      simp only [Sl.val]
      have hmf : ∀ ad, m.a = some ad → wr.heap.size ≤ ad.block := fun ad e => by
        rcases hf2 with h | ⟨g, n, cap, h, hg⟩
        · have : m.a = none := by injection h
          rw [this] at e; cases e
        · have : m.a = some ⟨g, 0, none⟩ := by injection h
          rw [this] at e
          injection e with e
          rw [← e]; exact hg
      have bL := alloc_below w2 (.cells #[.slice m.a m.n m.c] 41)
      have T2 := ((unhide HT1).keep hb2).keep bL
      have hm3 := hm.below bL
      have hlen24 : (ts.length + 1) * 24 ≤ 140737488355328 := by have := unhide HTS; omega
      have hlen63 : ts.length + 1 ≤ maxLen := by have := unhide HTS; unfold maxLen; omega
      have hbase : w.heap.size ≤ (w2.alloc (.cells #[.slice m.a m.n m.c] 41)).heap.size := T2.bl.size
      have hsz2 : (w2.alloc (.cells #[.slice m.a m.n m.c] 41)).heap.size = w2.heap.size + 1 := by rw [alloc_heap, Array.size_push]
      have HT2 := hide T2
      have HM3 := hide hm3
      have HBA := hide hbase
      have HSZ := hide hsz2
      have HL24 := hide hlen24
      have HL63 := hide hlen63
      have HMF := hide hmf
      clear T2 hm3 hm hbase hsz2 hlen24 hlen63 hv2 hb2 hf2 HT1 HF hmn bL hmf k0
      go_wp2_with (at_builtin; go_loud (refine wpList_append_sl _ rfl _ _ _ rfl w.heap.size 41 ti 24 Tryz.underlying51 (unhide HI) (unhide HZ) hz1 hz2 _ ts.length (sv ts) rfl (unhide HT2).own (unhide HT2).no ⟨w2.heap.size, 0, none⟩ 1 1 [m.val] rfl rfl (news_sl w2 m _) (sv_one m) (sv_notWord m) (by decide) (unhide HL63) (unhide HL24) (unhide HBA) (w2.heap.size + 1) (unhide HSZ) ?_; intro g cap w4 hown4 hgrow hat hlt4 hno4))
      have FIN := hide ((unhide HT2).push (p := m) (unhide HM3) (fun _ ad e he => by have h1 := (unhide HOW _ he).2; have h2 := unhide HMF ad e; omega) hown4 hgrow (by rw [unhide HSZ]; exact hat) hno4)
      clear hown4 hgrow hat hno4 HT2 HM3
      go_wp2_with fail
      exact ⟨⟨i + 1, ts ++ [m], by go_num, hlt, by rw [List.length_append, unhide HTS]; rfl, unhide FIN, (unhide HHI).push (fun ad e => Nat.le_trans hwr (unhide HMF ad e))⟩, by simp [intOf]; omega⟩
    · obtain rfl : i = pss.length := by omega
      have L := rows_fr T (by rw [hts, pqss_length]) (unhide HHI)
      have HB := hide T.bl
      have HL := hide L
      clear T L
      go_wp2
      (try simp only [Exit.inBlock, Exit.then])
      exact bodyPost_ret (v := u3) (by simp [results, Tryz.results44, go_sem]) rfl ⟨_, rfl, unhide HL, unhide HB⟩
theorem law_two {w : World} {g : Nat} {ta tb : Tri} {qa qb : Rat} (h : w.heap[g]? = some (.cells #[.bool ta.s, .slice ta.a1 ta.n1 ta.c1, .slice ta.a2 ta.n2 ta.c2, .bool tb.s, .slice tb.a1 tb.n1 tb.c1, .slice tb.a2 tb.n2 tb.c2] 26)) (ra : RatIs w ta.val qa) (rb : RatIs w tb.val qb) : LawIs w (.slice (some ⟨g, 0, none⟩) 2 2) [qa, qb] := by
  refine ⟨_, 2, rfl, Nat.le_refl _, by decide, fun _ => ⟨g, 0, rfl, (Array.getElem?_eq_some_iff.1 h).1, fun j hj => ?_⟩⟩
  match j, hj with
  | 0, _ => exact ⟨ta.s, ta.a1, ta.a2, ta.n1, ta.c1, ta.n2, ta.c2, by simp [World.cell?, h], by simp [World.cell?, h], by simp [World.cell?, h], ra⟩
  | 1, _ => exact ⟨tb.s, tb.a1, tb.a2, tb.n1, tb.c1, tb.n2, tb.c2, by simp [World.cell?, h], by simp [World.cell?, h], by simp [World.cell?, h], rb⟩
theorem rows_two {w : World} {g a b : Nat} {ka kb : List Rat} (h : w.heap[g]? = some (.cells #[.slice (some ⟨a, 0, none⟩) 2 2, .slice (some ⟨b, 0, none⟩) 2 2] 41)) (ra : LawIs w (.slice (some ⟨a, 0, none⟩) 2 2) ka) (rb : LawIs w (.slice (some ⟨b, 0, none⟩) 2 2) kb) : RowsAre w (.slice (some ⟨g, 0, none⟩) 2 2) [ka, kb] := by
  refine ⟨_, 2, rfl, Nat.le_refl _, by decide, fun _ => ⟨g, 0, rfl, (Array.getElem?_eq_some_iff.1 h).1, fun j hj => ?_⟩⟩
  match j, hj with
  | 0, _ => exact ⟨(some ⟨a, 0, none⟩, 2, 2), by simp [World.cell?, h], ra⟩
  | 1, _ => exact ⟨(some ⟨b, 0, none⟩, 2, 2), by simp [World.cell?, h], rb⟩

end Go.Proofs.YtfnbjenneodcdaaGreatDoor
