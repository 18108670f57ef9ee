/- Hidden states: what is taken from elsewhere. -/
import Derived.Test.YtfnbjenneodcdaaGreatDoorT10
import Derived.Test.YtfnbjenneodcdaaGreatDoorM52
namespace Go.Proofs.YtfnbjenneodcdaaGreatDoor
open Go.RowKit Go.Sort Go.Shelf

theorem rows_len {w : World} {l : Sl} {P : List (List Rat)} (h : RowsAre w l.val P) : l.n = P.length := by
  obtain ⟨a, c, e, _⟩ := h
  injection e
/-- One row. -/
theorem RowsAre.at {w : World} {l : Sl} {P : List (List Rat)} (h : RowsAre w l.val P) {i : Nat} (hi : i < P.length) : ∃ (b o : Nat) (m : Sl), l.a = some ⟨b, o, none⟩ ∧ b < w.heap.size ∧ w.cell? ⟨b, o + i, none⟩ = some (.slice m.a m.n m.c) ∧ LawIs w m.val P[i]! := by
  obtain ⟨a, c, e, _, _, h3⟩ := h
  obtain ⟨b, o, ea, hlt, hc⟩ := h3 (by omega)
  obtain ⟨m, k0, r⟩ := hc i hi
  have e1 : l.a = a := by injection e
  exact ⟨b, o, m, by rw [e1, ea], hlt, k0, r⟩
theorem prows_len {w : World} {l : Sl} {pss : List (List (Int × Int))} (h : PRowsAre w l.val pss) : l.n = pss.length := by
  obtain ⟨a, c, e, _⟩ := h
  injection e
/-- Rows of rows that lie beyond B. -/
def RowsFr (B : Nat) (w : World) (v : Value) (ks : List (List Rat)) : Prop := ∃ (a : Option Addr) (c : Nat), v = .slice a ks.length c ∧ ks.length ≤ c ∧ c ≤ 9223372036854775807 ∧
  (0 < ks.length → ∃ b o, a = some ⟨b, o, none⟩ ∧ B ≤ b ∧ b < w.heap.size ∧ ∀ j, j < ks.length → ∃ l : Sl, w.cell? ⟨b, o + j, none⟩ = some (.slice l.a l.n l.c) ∧ LawIs w l.val ks[j]! ∧ ∀ ad, l.a = some ad → B ≤ ad.block)
theorem RowsFr.below {B : Nat} {w w' : World} {v : Value} {ks : List (List Rat)} (h : RowsFr B w v ks) (hb : Below w.heap.size w w') : RowsFr B w' v ks := by
  obtain ⟨a, c, e, h1, h2, h3⟩ := h
  refine ⟨a, c, e, h1, h2, fun hp => ?_⟩
  obtain ⟨b, o, ea, hB, hlt, hc⟩ := h3 hp
  refine ⟨b, o, ea, hB, Nat.lt_of_lt_of_le hlt hb.size, fun j hj => ?_⟩
  obtain ⟨l, c0, r, hl⟩ := hc j hj
  refine ⟨l, ?_, r.below hb, hl⟩
  rw [hb.cell (p := ⟨b, o + j, none⟩) hlt]
  exact c0
/-- They stay where a block below is written. -/
theorem RowsFr.far {B R : Nat} {w w' : World} {v : Value} {ks : List (List Rat)} (h : RowsFr B w v ks) (hg : w.grownBy w' (some R)) (hno : ∀ g, some R = some g → Wordless w g) (hR : R < B) : RowsAre w' v ks := by
  obtain ⟨a, c, e, h1, h2, h3⟩ := h
  refine ⟨a, c, e, h1, h2, fun hp => ?_⟩
  obtain ⟨b, o, ea, hB, hlt, hc⟩ := h3 hp
  refine ⟨b, o, ea, Nat.lt_of_lt_of_le hlt hg.size, fun j hj => ?_⟩
  obtain ⟨l, c0, r, hl⟩ := hc j hj
  refine ⟨l, ?_, r.far hg hno (fun _ ad ea he => ?_)⟩
  · rw [hg.cell_far ⟨b, o + j, none⟩ hlt (fun e => by injection e with e; simp only at e; omega)]
    exact c0
  · have := hl ad ea
    injection he with he
    omega
/-- All rows of a list lie beyond B. -/
def HiAt (B : Nat) (ts : List Sl) : Prop := ∀ j, j < ts.length → ∀ ad, (ts[j]!).a = some ad → B ≤ ad.block
theorem HiAt.push {B : Nat} {ts : List Sl} {m : Sl} (h : HiAt B ts) (hm : ∀ ad, m.a = some ad → B ≤ ad.block) : HiAt B (ts ++ [m]) := fun j hj ad e => by
  rw [List.length_append] at hj
  by_cases hj2 : j < ts.length
  · rw [List.getElem!_eq_getElem?_getD, List.getElem?_append_left hj2, ← List.getElem!_eq_getElem?_getD] at e
    exact h j hj2 ad e
  · obtain rfl : j = ts.length := by simp at hj; omega
    rw [List.getElem!_eq_getElem?_getD, List.getElem?_append_right (Nat.le_refl _), Nat.sub_self] at e
    exact hm ad e
theorem rows_fr {w wr : World} {v : Value} {ps : List Sl} {ks : List (List Rat)} (h : RsAt w wr v ps ks) (hl : ps.length = ks.length) (hi : HiAt w.heap.size ps) : RowsFr w.heap.size wr v ks := by
  rcases h.own.2 with ⟨rfl, e⟩ | ⟨g, cap, cur, rfl, hb, hh, hc1, hc2, hs, ht⟩
  · exact ⟨none, 0, by rw [← hl, e], by omega, by decide, fun hp => by omega⟩
  · refine ⟨_, cap, by rw [hl], by omega, by unfold maxLen at hc2; exact hc2, fun _ => ⟨g, 0, rfl, hb, (Array.getElem?_eq_some_iff.1 hh).1, fun j hj => ⟨ps[j]!, ?_, h.rat j (by omega), hi j (by omega)⟩⟩⟩
    simp only [World.cell?, hh, Nat.zero_add]
    have e : (cur.toList.take (ps.length * 1))[j]? = (sv ps)[j]? := by rw [ht]
    rw [List.getElem?_take_of_lt (by omega), sv_get ps j (by omega)] at e
    simpa [Sl.val] using e
theorem grown_set (W : World) (b i : Nat) (v : Value) : W.grownBy (W.setCell ⟨b, i, none⟩ v) (some b) :=
  ⟨rfl, rfl, rfl, Nat.le_of_eq (by simp [World.setCell]), fun k _ hne => Below.heap_setCell _ _ _ _ (fun e => hne (by rw [e]))⟩
theorem grown_step {W V : World} {b i : Nat} {v : Value} (h : W.grownBy V (some b)) : W.grownBy (V.setCell ⟨b, i, none⟩ v) (some b) := by
  obtain ⟨a1, a2, a3, a4, a5⟩ := h
  exact ⟨a1, a2, a3, by simpa [World.setCell] using a4, fun k hk hne => by rw [Below.heap_setCell _ _ _ _ (fun e => hne (by rw [e]))]; exact a5 k hk hne⟩
set_option maxHeartbeats 8000000 in
set_option maxRecDepth 100000 in
set_option linter.unusedSimpArgs false in
theorem prows_fr (v : Value) (pss : List (List (Int × Int))) (w : World) (h : PRowsAre w v pss) (sm : SmP pss) :
    Calls Tryz.prog 44 #[v] w fun e w' => ∃ v, e = .returned v ∧ RowsFr w.heap.size w' v (pqss pss) ∧ Below w.heap.size w w' := by
  obtain ⟨a, c, rfl, h1, h2, h3⟩ := h
  obtain ⟨ti, hi, hz0, hz1, hz2⟩ := info_parts Tryz.infoS
  have H3 := hide h3
  have hsl := sm.1
  have HSM := hide sm
  have HI := hide hi
  have HZ := hide hz0
  clear h3 hi hz0 sm
  go_enter Tryz.func44, Tryz.ntmps44
  go_wp2_with fail
  go_loopw [3, 8] (fun vo vi wr => ∃ (i : Nat) (ts : List Sl), vi = .int .i64 i ∧ i ≤ pss.length ∧ ts.length = i ∧ RsAt w wr vo ts (pqss pss) ∧ HiAt w.heap.size ts) (fun _ vi _ => pss.length - (intOf vi).toNat)
  case atStart => exact ⟨0, [], rfl, Nat.zero_le _, rfl, RsAt.start w _ _ (Below.refl _ _), fun j hj => absurd hj (Nat.not_lt_zero _)⟩
  case round =>
    obtain ⟨i, ts, rfl, hi, hts, T, hHi⟩ := hrel
    have HHI := hide hHi
    clear hHi
    have hwr := T.bl.size
    by_cases hlt : i < pss.length
    · obtain ⟨b, o, rfl, hblt, hcs⟩ := unhide H3 (by omega)
      obtain ⟨l, k0, hpl⟩ := hcs i hlt
      rw [← T.bl.cell (p := ⟨b, o + i, none⟩) hblt] at k0
      have HF := hide (fs_own l.val _ wr (hpl.below T.bl) (by have := (unhide HSM).2 i hlt; omega))
      have epq : (pqss pss)[ts.length]! = pqs pss[i]! := by rw [hts]; exact pqss_get hlt
      have hown1 := ownsS_block T.own
      have hi0 : (0 : Int) ≤ (i : Int) := by omega
      have hi1 : (i : Int) < (pss.length : Int) := by omega
      have HT1 := hide T
      have HE := hide epq
      have HTS := hide hts
      have HOW := hide hown1
      clear T hcs epq hts hpl hown1
      go_wp2_with fail
      refine (unhide HF).mono ?_
      rintro e w2 ⟨v2, rfl, hv2, hb2, hf2⟩
      obtain ⟨m, rfl, hm, hmn⟩ := sl_of hv2
      rw [← unhide HE] at hm
      simp only [Sl.val]
      have hmf : ∀ ad, m.a = some ad → wr.heap.size ≤ ad.block := fun ad e => by
        rcases hf2 with h | ⟨g, n, cap, h, hg⟩
        · have : m.a = none := by injection h
          rw [this] at e; cases e
        · have : m.a = some ⟨g, 0, none⟩ := by injection h
          rw [this] at e
          injection e with e
          rw [← e]; exact hg
      have bL := alloc_below w2 (.cells #[.slice m.a m.n m.c] 41)
      have T2 := ((unhide HT1).keep hb2).keep bL
      have hm3 := hm.below bL
      have hlen24 : (ts.length + 1) * 24 ≤ 140737488355328 := by have := unhide HTS; omega
      have hlen63 : ts.length + 1 ≤ maxLen := by have := unhide HTS; unfold maxLen; omega
      have hbase : w.heap.size ≤ (w2.alloc (.cells #[.slice m.a m.n m.c] 41)).heap.size := T2.bl.size
      have hsz2 : (w2.alloc (.cells #[.slice m.a m.n m.c] 41)).heap.size = w2.heap.size + 1 := by rw [alloc_heap, Array.size_push]
      have HT2 := hide T2
      have HM3 := hide hm3
      have HBA := hide hbase
      have HSZ := hide hsz2
      have HL24 := hide hlen24
      have HL63 := hide hlen63
      have HMF := hide hmf
      clear T2 hm3 hm hbase hsz2 hlen24 hlen63 hv2 hb2 hf2 HT1 HF hmn bL hmf k0
      go_wp2_with (at_builtin; go_loud (refine wpList_append_sl _ rfl _ _ _ rfl w.heap.size 41 ti 24 Tryz.underlying51 (unhide HI) (unhide HZ) hz1 hz2 _ ts.length (sv ts) rfl (unhide HT2).own (unhide HT2).no ⟨w2.heap.size, 0, none⟩ 1 1 [m.val] rfl rfl (news_sl w2 m _) (sv_one m) (sv_notWord m) (by decide) (unhide HL63) (unhide HL24) (unhide HBA) (w2.heap.size + 1) (unhide HSZ) ?_; intro g cap w4 hown4 hgrow hat hlt4 hno4))
      have FIN := hide ((unhide HT2).push (p := m) (unhide HM3) (fun _ ad e he => by have h1 := (unhide HOW _ he).2; have h2 := unhide HMF ad e; omega) hown4 hgrow (by rw [unhide HSZ]; exact hat) hno4)
      clear hown4 hgrow hat hno4 HT2 HM3
      go_wp2_with fail
      exact ⟨⟨i + 1, ts ++ [m], by go_num, hlt, by rw [List.length_append, unhide HTS]; rfl, unhide FIN, (unhide HHI).push (fun ad e => Nat.le_trans hwr (unhide HMF ad e))⟩, by simp [intOf]; omega⟩
    · obtain rfl : i = pss.length := by omega
      have L := rows_fr T (by rw [hts, pqss_length]) (unhide HHI)
      have HB := hide T.bl
      have HL := hide L
      clear T L
      go_wp2
      (try simp only [Exit.inBlock, Exit.then])
      exact bodyPost_ret (v := u3) (by simp [results, Tryz.results44, go_sem]) rfl ⟨_, rfl, unhide HL, unhide HB⟩
theorem law_two {w : World} {g : Nat} {ta tb : Tri} {qa qb : Rat} (h : w.heap[g]? = some (.cells #[.bool ta.s, .slice ta.a1 ta.n1 ta.c1, .slice ta.a2 ta.n2 ta.c2, .bool tb.s, .slice tb.a1 tb.n1 tb.c1, .slice tb.a2 tb.n2 tb.c2] 26)) (ra : RatIs w ta.val qa) (rb : RatIs w tb.val qb) : LawIs w (.slice (some ⟨g, 0, none⟩) 2 2) [qa, qb] := by
  refine ⟨_, 2, rfl, Nat.le_refl _, by decide, fun _ => ⟨g, 0, rfl, (Array.getElem?_eq_some_iff.1 h).1, fun j hj => ?_⟩⟩
  match j, hj with
  | 0, _ => exact ⟨ta.s, ta.a1, ta.a2, ta.n1, ta.c1, ta.n2, ta.c2, by simp [World.cell?, h], by simp [World.cell?, h], by simp [World.cell?, h], ra⟩
  | 1, _ => exact ⟨tb.s, tb.a1, tb.a2, tb.n1, tb.c1, tb.n2, tb.c2, by simp [World.cell?, h], by simp [World.cell?, h], by simp [World.cell?, h], rb⟩
theorem rows_two {w : World} {g a b : Nat} {ka kb : List Rat} (h : w.heap[g]? = some (.cells #[.slice (some ⟨a, 0, none⟩) 2 2, .slice (some ⟨b, 0, none⟩) 2 2] 41)) (ra : LawIs w (.slice (some ⟨a, 0, none⟩) 2 2) ka) (rb : LawIs w (.slice (some ⟨b, 0, none⟩) 2 2) kb) : RowsAre w (.slice (some ⟨g, 0, none⟩) 2 2) [ka, kb] := by
  refine ⟨_, 2, rfl, Nat.le_refl _, by decide, fun _ => ⟨g, 0, rfl, (Array.getElem?_eq_some_iff.1 h).1, fun j hj => ?_⟩⟩
  match j, hj with
  | 0, _ => exact ⟨(some ⟨a, 0, none⟩, 2, 2), by simp [World.cell?, h], ra⟩
  | 1, _ => exact ⟨(some ⟨b, 0, none⟩, 2, 2), by simp [World.cell?, h], rb⟩

end Go.Proofs.YtfnbjenneodcdaaGreatDoor
/- Hidden states in memory; what may be; Check. -/
namespace Go.Proofs.YtfnbjenneodcdaaGreatDoor
open Go.RowKit Go.Sort Go.Shelf

/-- Hidden states as the mathematics has them. -/
def hm (fs : List Rat) (P G : List (List Rat)) : Blf.Hm := ⟨fs.length, fun i => fs[i]!, fun i k => (P[i]!)[k]!, fun i k => (G[i]!)[k]!⟩
def hmval (sf sp sg : Sl) : Value := .agg #[.slice sf.a sf.n sf.c, .slice sp.a sp.n sp.c, .slice sg.a sg.n sg.c]
def HmIs (w : World) (v : Value) (fs : List Rat) (P G : List (List Rat)) : Prop := ∃ sf sp sg : Sl, v = hmval sf sp sg ∧ LawIs w sf.val fs ∧ RowsAre w sp.val P ∧ RowsAre w sg.val G
theorem HmIs.below {w w' : World} {v : Value} {fs : List Rat} {P G : List (List Rat)} (h : HmIs w v fs P G) (hb : Below w.heap.size w w') : HmIs w' v fs P G := by
  obtain ⟨sf, sp, sg, e, h1, h2, h3⟩ := h
  exact ⟨sf, sp, sg, e, h1.below hb, h2.below hb, h3.below hb⟩
/-- Their box. -/
def HBox (w : World) (b : Nat) (sf sp sg : Sl) (fs : List Rat) (P G : List (List Rat)) : Prop := w.heap[b]? = some (.cells #[.slice sf.a sf.n sf.c, .slice sp.a sp.n sp.c, .slice sg.a sg.n sg.c] 53) ∧ LawIs w sf.val fs ∧ RowsAre w sp.val P ∧ RowsAre w sg.val G
theorem HBox.new {w : World} {sf sp sg : Sl} {fs : List Rat} {P G : List (List Rat)} (h1 : LawIs w sf.val fs) (h2 : RowsAre w sp.val P) (h3 : RowsAre w sg.val G) : HBox (w.alloc (.cells #[.slice sf.a sf.n sf.c, .slice sp.a sp.n sp.c, .slice sg.a sg.n sg.c] 53)) w.heap.size sf sp sg fs P G := ⟨heap_alloc_new w _, h1.below (alloc_below w _), h2.below (alloc_below w _), h3.below (alloc_below w _)⟩
theorem HBox.lt {w : World} {sf sp sg : Sl} {fs : List Rat} {P G : List (List Rat)} {b : Nat} (h : HBox w b sf sp sg fs P G) : b < w.heap.size := (Array.getElem?_eq_some_iff.1 h.1).1
theorem HBox.keep {w : World} {sf sp sg : Sl} {fs : List Rat} {P G : List (List Rat)} {w' : World} {b : Nat} (h : HBox w b sf sp sg fs P G) (hb : Below w.heap.size w w') : HBox w' b sf sp sg fs P G := ⟨by rw [hb.block _ h.lt]; exact h.1, h.2.1.below hb, h.2.2.1.below hb, h.2.2.2.below hb⟩
theorem HBox.cells {w : World} {sf sp sg : Sl} {fs : List Rat} {P G : List (List Rat)} {b : Nat} (h : HBox w b sf sp sg fs P G) : ∀ W', Below w.heap.size w W' → W'.cell? ⟨b, 0, none⟩ = some (.slice sf.a sf.n sf.c) ∧ W'.cell? ⟨b, 1, none⟩ = some (.slice sp.a sp.n sp.c) ∧ W'.cell? ⟨b, 2, none⟩ = some (.slice sg.a sg.n sg.c) := fun W' hb => by
  have h' := (h.keep hb).1
  simp [World.cell?, h']
theorem HBox.hm {w : World} {sf sp sg : Sl} {fs : List Rat} {P G : List (List Rat)} {b : Nat} (h : HBox w b sf sp sg fs P G) : HmIs w (hmval sf sp sg) fs P G := ⟨sf, sp, sg, rfl, h.2.1, h.2.2.1, h.2.2.2⟩
/-- What Check says: 0, or the error's number. -/
def hst (n : Nat) (P G : List (List Rat)) (j : Nat) : Int := if shc n P[j]! = 0 then (if 1 ≤ (G[j]!).length ∧ (G[j]!).length ≤ 8 then shc (G[0]!).length G[j]! else 4) else shc n P[j]!
def hcd (n : Nat) (P G : List (List Rat)) : Nat → Int
  | 0 => 0
  | j + 1 => if hcd n P G j = 0 then hst n P G j else hcd n P G j
def hcode (fs : List Rat) (P G : List (List Rat)) : Int := if 1 ≤ fs.length ∧ fs.length ≤ 8 then (if P.length = fs.length ∧ G.length = fs.length then (if shc fs.length fs = 0 then hcd fs.length P G fs.length else shc fs.length fs) else 3) else 4
theorem hcd_stays {n : Nat} {P G : List (List Rat)} {i : Nat} (h : hcd n P G i ≠ 0) : ∀ d, hcd n P G (i + d) = hcd n P G i
  | 0 => rfl
  | d + 1 => by
    have ih := hcd_stays h d
    show (if hcd n P G (i + d) = 0 then _ else hcd n P G (i + d)) = _
    rw [ih, if_neg h]
theorem hcd_zero {n : Nat} {P G : List (List Rat)} : ∀ {m : Nat}, hcd n P G m = 0 → ∀ j, j < m → hst n P G j = 0
  | m + 1, h, j, hj => by
    have h : (if hcd n P G m = 0 then hst n P G m else hcd n P G m) = 0 := h
    by_cases e : hcd n P G m = 0
    · rw [if_pos e] at h
      by_cases ej : j = m
      · rw [ej]; exact h
      · exact hcd_zero e j (by omega)
    · rw [if_neg e] at h; exact absurd h e
theorem hcd_end {n : Nat} {P G : List (List Rat)} {j m : Nat} {k : Int} (hj : j < m) (h0 : hcd n P G j = 0) (h1 : hst n P G j = k) (hk : k ≠ 0) : hcd n P G m = k := by
  have e : hcd n P G (j + 1) = k := by
    show (if hcd n P G j = 0 then _ else _) = _
    rw [if_pos h0, h1]
  have := hcd_stays (n := n) (P := P) (G := G) (i := j + 1) (by rw [e]; exact hk) (m - (j + 1))
  rw [show j + 1 + (m - (j + 1)) = m by omega, e] at this
  exact this
/-- Hidden states that may be. -/
structure GoodH (fs : List Rat) (P G : List (List Rat)) : Prop where
  n1 : 1 ≤ fs.length
  n8 : fs.length ≤ 8
  pl : P.length = fs.length
  gl : G.length = fs.length
  px : ∀ i, i < fs.length → (P[i]!).length = fs.length
  gx : ∀ i, i < fs.length → (G[i]!).length = (G[0]!).length
  k1 : 1 ≤ (G[0]!).length
  k8 : (G[0]!).length ≤ 8
  ok : Blf.Ok (hm fs P G) (G[0]!).length
theorem shc_parts {n : Nat} {qs : List Rat} (h : shc n qs = 0) : qs.length = n ∧ (∀ j, j < n → 0 ≤ qs[j]!) ∧ Bth.ps (fun j => qs[j]!) n = 1 := by
  unfold shc at h
  by_cases e : qs.length = n
  rotate_left
  · rw [if_neg e] at h; exact absurd h (by decide)
  rw [if_pos e] at h
  have hp := chk_parts h
  refine ⟨e, fun j hj => hp.1 j (by omega), ?_⟩
  have h2 := hp.2
  rw [qsum_ps, e] at h2
  exact h2
theorem goodH_of {fs : List Rat} {P G : List (List Rat)} (h : hcode fs P G = 0) : GoodH fs P G := by
  unfold hcode at h
  by_cases a : 1 ≤ fs.length ∧ fs.length ≤ 8
  rotate_left
  · rw [if_neg a] at h; exact absurd h (by decide)
  rw [if_pos a] at h
  by_cases c : P.length = fs.length ∧ G.length = fs.length
  rotate_left
  · rw [if_neg c] at h; exact absurd h (by decide)
  rw [if_pos c] at h
  by_cases d : shc fs.length fs = 0
  rotate_left
  · rw [if_neg d] at h; exact absurd h d
  rw [if_pos d] at h
  have hs := hcd_zero h
  have hx : ∀ i, i < fs.length → shc fs.length P[i]! = 0 ∧ (1 ≤ (G[i]!).length ∧ (G[i]!).length ≤ 8) ∧ shc (G[0]!).length G[i]! = 0 := fun i hi => by
    have := hs i hi
    unfold hst at this
    by_cases e : shc fs.length P[i]! = 0
    rotate_left
    · rw [if_neg e] at this; exact absurd this e
    rw [if_pos e] at this
    by_cases e2 : 1 ≤ (G[i]!).length ∧ (G[i]!).length ≤ 8
    rotate_left
    · rw [if_neg e2] at this; exact absurd this (by decide)
    rw [if_pos e2] at this
    exact ⟨e, e2, this⟩
  have h0 := (hx 0 a.1).2.1
  exact ⟨a.1, a.2, c.1, c.2, fun i hi => (shc_parts (hx i hi).1).1, fun i hi => (shc_parts (hx i hi).2.2).1, h0.1, h0.2, (shc_parts d).2.1, fun i j hi hj => (shc_parts (hx i hi).1).2.1 j hj, fun i s hi hs => (shc_parts (hx i hi).2.2).2.1 s hs, (shc_parts d).2.2, fun i hi => (shc_parts (hx i hi).1).2.2, fun i hi => (shc_parts (hx i hi).2.2).2.2⟩
/-- Numbers as great as pairs make them, and not too many. -/
structure SmHm (fs : List Rat) (P G : List (List Rat)) : Prop where
  nf : fs.length ≤ 1000
  np : P.length ≤ 1000
  ng : G.length ≤ 1000
  pn : ∀ i, i < P.length → (P[i]!).length ≤ 1000
  gn : ∀ i, i < G.length → (G[i]!).length ≤ 1000
  rf : ∀ i, i < fs.length → RS fs[i]! 1
  rp : ∀ i k, i < P.length → k < (P[i]!).length → RS (P[i]!)[k]! 1
  rg : ∀ i k, i < G.length → k < (G[i]!).length → RS (G[i]!)[k]! 1
/-- Plain hidden states. -/
def PHmIs (w : World) (v : Value) (ps : List (Int × Int)) (pp pg : List (List (Int × Int))) : Prop := ∃ sf sp sg : Sl, v = hmval sf sp sg ∧ PairsAre w sf.val ps ∧ PRowsAre w sp.val pp ∧ PRowsAre w sg.val pg
theorem PHmIs.below {w w' : World} {v : Value} {ps : List (Int × Int)} {pp pg : List (List (Int × Int))} (h : PHmIs w v ps pp pg) (hb : Below w.heap.size w w') : PHmIs w' v ps pp pg := by
  obtain ⟨sf, sp, sg, e, h1, h2, h3⟩ := h
  exact ⟨sf, sp, sg, e, h1.below hb, h2.below hb, h3.below hb⟩
theorem prows_sm {w : World} {v : Value} {pss : List (List (Int × Int))} (hp : PRowsAre w v pss) (h1 : tot pss ≤ 30) : (pqss pss).length ≤ 1000 ∧ (∀ i, i < (pqss pss).length → ((pqss pss)[i]!).length ≤ 1000) ∧ ∀ i k, i < (pqss pss).length → k < ((pqss pss)[i]!).length → RS ((pqss pss)[i]!)[k]! 1 := by
  have hlen : pss.length ≤ 30 := by unfold tot at h1; omega
  have hrow : ∀ i, i < pss.length → (pss[i]!).length ≤ 30 := fun i hi => by
    have := lsum_one pss hi
    unfold tot at h1; omega
  refine ⟨by rw [pqss_length]; omega, fun i hi => ?_, fun i k hi hk => ?_⟩
  · rw [pqss_length] at hi
    rw [pqss_get hi, pqs_length]
    have := hrow i hi
    omega
  · rw [pqss_length] at hi
    rw [pqss_get hi] at hk ⊢
    obtain ⟨a, c, _, _, _, h3⟩ := hp
    obtain ⟨b, o, _, _, hc⟩ := h3 (by omega)
    obtain ⟨l', _, hl'⟩ := hc i hi
    exact pqs_RS hl' k hk
theorem smHm_of {w : World} {v : Value} {ps : List (Int × Int)} {pp pg : List (List (Int × Int))} (h : PHmIs w v ps pp pg) (h1 : tot pp ≤ 30) (h2 : tot pg ≤ 30) (h3 : ps.length ≤ 4) : SmHm (pqs ps) (pqss pp) (pqss pg) := by
  obtain ⟨sf, sp, sg, _, hf, hp, hg⟩ := h
  have a := prows_sm hp h1
  have b := prows_sm hg h2
  exact ⟨by rw [pqs_length]; omega, a.1, b.1, a.2.1, b.2.1, pqs_RS hf, a.2.2, b.2.2⟩

end Go.Proofs.YtfnbjenneodcdaaGreatDoor
