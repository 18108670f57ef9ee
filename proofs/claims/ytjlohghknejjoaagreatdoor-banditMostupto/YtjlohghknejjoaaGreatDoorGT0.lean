/- What is taken from elsewhere for arms. -/
import Derived.Test.YtjlohghknejjoaaGreatDoorIE
import Derived.Test.YtjlohghknejjoaaGreatDoorI13
import Derived.Test.YtjlohghknejjoaaGreatDoorM51
namespace Go.Proofs.YtjlohghknejjoaaGreatDoor
open Go.RowKit Go.Sort Go.Shelf

/-- A row of rows of pairs. -/
def PRowsAre (w : World) (v : Value) (pss : List (List (Int × Int))) : Prop := ∃ (a : Option Addr) (c : Nat), v = .slice a pss.length c ∧ pss.length ≤ c ∧ c ≤ 9223372036854775807 ∧
  (0 < pss.length → ∃ b o, a = some ⟨b, o, none⟩ ∧ b < w.heap.size ∧ ∀ j, j < pss.length → ∃ l : Sl, w.cell? ⟨b, o + j, none⟩ = some (.slice l.a l.n l.c) ∧ PairsAre w l.val pss[j]!)
theorem PRowsAre.below {w w' : World} {v : Value} {ps : List (List (Int × Int))} (h : PRowsAre w v ps) (hb : Below w.heap.size w w') : PRowsAre w' v ps := by
  obtain ⟨a, c, e, h1, h2, h3⟩ := h
  refine ⟨a, c, e, h1, h2, fun hp => ?_⟩
  obtain ⟨b, o, ea, hlt, hc⟩ := h3 hp
  refine ⟨b, o, ea, Nat.lt_of_lt_of_le hlt hb.size, fun j hj => ?_⟩
  obtain ⟨l, k, p⟩ := hc j hj
  refine ⟨l, ?_, p.below hb⟩
  rw [hb.cell (p := ⟨b, o + j, none⟩) hlt]
  exact k
/-- Not greater than a call may read. -/
def SmP (pss : List (List (Int × Int))) : Prop := pss.length ≤ 1048576 ∧ ∀ j, j < pss.length → (pss[j]!).length ≤ 1048576
/-- The rows that they make. -/
def pqss (pss : List (List (Int × Int))) : List (List Rat) := pss.map pqs
theorem pqss_length (pss : List (List (Int × Int))) : (pqss pss).length = pss.length := by simp [pqss]
theorem pqss_get {pss : List (List (Int × Int))} {j : Nat} (h : j < pss.length) : (pqss pss)[j]! = pqs pss[j]! := by simp [pqss, h]
/-- The lengths of the first k rows together. -/
def lsum (pss : List (List (Int × Int))) : Nat → Nat
  | 0 => 0
  | k + 1 => lsum pss k + (pss[k]!).length
theorem lsum_le {pss : List (List (Int × Int))} (sm : SmP pss) : ∀ k, k ≤ pss.length → lsum pss k ≤ k * 1048576
  | 0, _ => Nat.zero_le _
  | k + 1, h => by
    have := lsum_le sm k (by omega)
    have := sm.2 k (by omega)
    show lsum pss k + _ ≤ _
    rw [Nat.succ_mul]
    omega
theorem lsum_mono (pss : List (List (Int × Int))) : ∀ {a b : Nat}, a ≤ b → lsum pss a ≤ lsum pss b
  | a, 0, h => by obtain rfl : a = 0 := by omega
                  exact Nat.le_refl _
  | a, b + 1, h => by
    by_cases e : a = b + 1
    · rw [e]; exact Nat.le_refl _
    · have := lsum_mono pss (a := a) (b := b) (by omega)
      show lsum pss a ≤ lsum pss b + _
      omega
theorem lsum_one (pss : List (List (Int × Int))) {j : Nat} (h : j < pss.length) : (pss[j]!).length ≤ lsum pss pss.length := by
  have := lsum_mono pss (a := j + 1) (b := pss.length) h
  have e : lsum pss (j + 1) = lsum pss j + (pss[j]!).length := rfl
  omega
def tot (pss : List (List (Int × Int))) : Nat := pss.length + lsum pss pss.length
def WideP (pss : List (List (Int × Int))) (m : Nat) : Prop := m < tot pss
set_option maxHeartbeats 8000000 in
set_option maxRecDepth 100000 in
set_option linter.unusedSimpArgs false in
theorem wide_any (v : Value) (pss : List (List (Int × Int))) (m : Nat) (w : World) (h : PRowsAre w v pss) (sm : SmP pss) (_hm : m ≤ 1000) :
    Calls Tryz.prog 6 #[v, .int .i64 (m : Int)] w (AskPost w (WideP pss m)) := by
  obtain ⟨a, c, rfl, h1, h2, h3⟩ := h
  have H3 := hide h3
  have HSM := hide sm
  have hsl := sm.1
  clear h3 sm
  go_enter Tryz.func6, Tryz.ntmps6
  go_wp2_with fail
  go_loopw [5, 6] (fun vn vi wr => ∃ (i x : Nat), vn = .int .i64 (x : Int) ∧ vi = .int .i64 (i : Int) ∧ i ≤ pss.length ∧ x = pss.length + lsum pss i ∧ Below w.heap.size w wr) (fun _ vi _ => pss.length - (intOf vi).toNat)
  case atStart => exact ⟨0, pss.length, rfl, rfl, Nat.zero_le _, rfl, Below.refl _ _⟩
  case round =>
    obtain ⟨i, x, rfl, rfl, hi, hx, hb⟩ := hrel
    have HB := hide hb
    have HX := hide hx
    have hxb : x ≤ 1048576 + 1048576 * 1048576 := by
      have a := lsum_le (unhide HSM) i hi
      have b : i * 1048576 ≤ 1048576 * 1048576 := Nat.mul_le_mul_right _ (by omega)
      omega
    by_cases hlt : i < pss.length
    · obtain ⟨b, o, rfl, hblt, hcs⟩ := unhide H3 (by omega)
      obtain ⟨l, k0, hpl⟩ := hcs i hlt
      rw [← hb.cell (p := ⟨b, o + i, none⟩) hblt] at k0
      have hln := pairs_len hpl
      have hlb := (unhide HSM).2 i hlt
      rw [← hln] at hlb
      have HLN := hide hln
      obtain ⟨y, hy⟩ : ∃ y, l.n = y := ⟨_, rfl⟩
      rw [hy] at k0 hlb
      have HY := hide hy
      have e1 : (i : Int) < (pss.length : Int) := by omega
      have e0 : (0 : Int) ≤ (i : Int) := by omega
      have e5 : IntKind.i64.wrap ((x : Int) + (y : Int)) = ((x + y : Nat) : Int) := by rw [IntKind.wrap_i64]; omega
      clear hb hx hcs hpl hln hy
      go_wp2_with fail
      exact ⟨⟨i + 1, x + y, by first | rfl | go_num, by go_num, hlt, by have a := unhide HX; have b := unhide HLN; have c := unhide HY; show x + y = pss.length + (lsum pss i + _); omega, unhide HB⟩, by simp [intOf]; omega⟩
    · obtain rfl : i = pss.length := by omega
      have e1 : ¬ (pss.length : Int) < (pss.length : Int) := by omega
      by_cases hw : m < x
      · have e6 : (m : Int) < (x : Int) := by omega
        have HW : Hid (WideP pss m) := by show m < tot pss; unfold tot; omega
        clear hb hx hw
        go_wp2
        go_ret
        exact ⟨Or.inl ⟨unhide HW, rfl⟩, unhide HB⟩
      · have e6 : ¬ (m : Int) < (x : Int) := by omega
        have HW : Hid (¬ WideP pss m) := by show ¬ (m < tot pss); unfold tot; omega
        clear hb hx hw
        go_wp2
        go_ret
        exact ⟨Or.inr ⟨unhide HW, rfl⟩, unhide HB⟩
/-- A row of rows of the call's own, whose rows lie elsewhere. -/
structure HdAt (w wr : World) (G n c : Nat) (ls : Nat → Sl) : Prop where
  out : wr.heap[G]? = some (.cells (hdl n c ls).toArray 29)
  gl : w.heap.size ≤ G
  bl : Below w.heap.size w wr
theorem HdAt.lt {w wr : World} {G n c : Nat} {ls : Nat → Sl} (h : HdAt w wr G n c ls) : G < wr.heap.size := (Array.getElem?_eq_some_iff.1 h.out).1
theorem HdAt.push {w wr : World} {G n c : Nat} {ls : Nat → Sl} (h : HdAt w wr G n c ls) (l : Sl) : HdAt w (wr.setCell ⟨G, c, none⟩ (.slice l.a l.n l.c)) G n (c + 1) (upl ls c l) := by
  have o1 := hdl_write h.out c (.slice l.a l.n l.c)
  have e : ∀ i, i < c → ls i = upl ls c l i := fun i hi => by unfold upl; rw [if_neg (by omega)]
  have ev : Value.slice l.a l.n l.c = Sl.val (upl ls c l c) := by unfold upl; rw [if_pos rfl]; rfl
  have o2 : (hdl n c ls).set c (.slice l.a l.n l.c) = hdl n (c + 1) (upl ls c l) := by rw [ev, ← hdl_push, hdl_congr e]
  rw [o2] at o1
  exact ⟨o1, h.gl, h.bl.setCell h.gl _⟩
theorem HdAt.rows {w wr : World} {G n : Nat} {ls : Nat → Sl} {ks : List (List Rat)} (h : HdAt w wr G n n ls) (hk : ks.length = n) (hn : n ≤ 1000) (hl : ∀ i, i < n → LawIs wr (ls i).val ks[i]!) : RowsAre wr (.slice (some ⟨G, 0, none⟩) n n) ks := by
  refine ⟨some ⟨G, 0, none⟩, n, by rw [hk], by omega, by omega, fun hp => ⟨G, 0, rfl, h.lt, fun j hj => ⟨ls j, ?_, hl j (by omega)⟩⟩⟩
  rw [Nat.zero_add]
  exact hdl_cell h.out (by omega) (by omega)
theorem HdAt.keep {w wr w' : World} {G n c : Nat} {ls : Nat → Sl} (h : HdAt w wr G n c ls) (hb : Below wr.heap.size wr w') : HdAt w w' G n c ls := ⟨by rw [hb.block _ h.lt]; exact h.out, h.gl, below_step h.bl hb⟩
theorem pqs_get {l : List (Int × Int)} {t : Nat} (h : t < l.length) : (pqs l)[t]! = pq l[t]! := by simp [pqs, h]
theorem pqs_RS {w : World} {v : Value} {qs : List (Int × Int)} (h : PairsAre w v qs) (t : Nat) (ht : t < (pqs qs).length) : RS (pqs qs)[t]! 1 := by
  rw [pqs_length] at ht
  obtain ⟨_, _, _, _, _, h6, _⟩ := h
  rw [pqs_get ht]
  exact pq_RS (h6 t ht).1 (h6 t ht).2
theorem rows_len {w : World} {l : Sl} {P : List (List Rat)} (h : RowsAre w l.val P) : l.n = P.length := by
  obtain ⟨a, c, e, _⟩ := h
  injection e
/-- One row. -/
theorem RowsAre.at {w : World} {l : Sl} {P : List (List Rat)} (h : RowsAre w l.val P) {i : Nat} (hi : i < P.length) : ∃ (b o : Nat) (m : Sl), l.a = some ⟨b, o, none⟩ ∧ b < w.heap.size ∧ w.cell? ⟨b, o + i, none⟩ = some (.slice m.a m.n m.c) ∧ LawIs w m.val P[i]! := by
  obtain ⟨a, c, e, _, _, h3⟩ := h
  obtain ⟨b, o, ea, hlt, hc⟩ := h3 (by omega)
  obtain ⟨m, k0, r⟩ := hc i hi
  have e1 : l.a = a := by injection e
  exact ⟨b, o, m, by rw [e1, ea], hlt, k0, r⟩
/-- What Check says of rows, of a chain: 0, or the error's number. -/
def rcd (n : Nat) (P : List (List Rat)) : Nat → Int
  | 0 => 0
  | j + 1 => if rcd n P j = 0 then shc n P[j]! else rcd n P j
theorem rcd_stays {n : Nat} {P : List (List Rat)} {i : Nat} (h : rcd n P i ≠ 0) : ∀ d, rcd n P (i + d) = rcd n P i
  | 0 => rfl
  | d + 1 => by
    have ih := rcd_stays h d
    show (if rcd n P (i + d) = 0 then _ else rcd n P (i + d)) = _
    rw [ih, if_neg h]
theorem rcd_zero {n : Nat} {P : List (List Rat)} : ∀ {m : Nat}, rcd n P m = 0 → ∀ j, j < m → shc n P[j]! = 0
  | m + 1, h, j, hj => by
    have h : (if rcd n P m = 0 then shc n P[m]! else rcd n P m) = 0 := h
    by_cases e : rcd n P m = 0
    · rw [if_pos e] at h
      by_cases ej : j = m
      · rw [ej]; exact h
      · exact rcd_zero e j (by omega)
    · rw [if_neg e] at h; exact absurd h e
theorem rcd_end {n : Nat} {P : List (List Rat)} {j : Nat} {k : Int} (hj : j < P.length) (h0 : rcd n P j = 0) (h1 : shc n P[j]! = k) (hk : k ≠ 0) : rcd n P P.length = k := by
  have e : rcd n P (j + 1) = k := by
    show (if rcd n P j = 0 then _ else _) = _
    rw [if_pos h0, h1]
  have := rcd_stays (n := n) (P := P) (i := j + 1) (by rw [e]; exact hk) (P.length - (j + 1))
  rw [show j + 1 + (P.length - (j + 1)) = P.length by omega, e] at this
  exact this
theorem prows_len {w : World} {l : Sl} {pss : List (List (Int × Int))} (h : PRowsAre w l.val pss) : l.n = pss.length := by
  obtain ⟨a, c, e, _⟩ := h
  injection e
/-- A row of truths that is read. -/
def BRow (w : World) (v : Value) (n : Nat) (f : Nat → Bool) : Prop := ∃ (a : Option Addr) (c : Nat), v = .slice a n c ∧ n ≤ c ∧ c ≤ 9223372036854775807 ∧ (0 < n → ∃ b o, a = some ⟨b, o, none⟩ ∧ b < w.heap.size ∧ ∀ j, j < n → w.cell? ⟨b, o + j, none⟩ = some (.bool (f j)))
theorem BRow.below {w w' : World} {v : Value} {n : Nat} {f : Nat → Bool} (h : BRow w v n f) (hb : Below w.heap.size w w') : BRow w' v n f := by
  obtain ⟨a, c, e, h1, h2, h3⟩ := h
  refine ⟨a, c, e, h1, h2, fun hp => ?_⟩
  obtain ⟨b, o, ea, hlt, hc⟩ := h3 hp
  exact ⟨b, o, ea, Nat.lt_of_lt_of_le hlt hb.size, fun j hj => by rw [hb.cell (p := ⟨b, o + j, none⟩) hlt]; exact hc j hj⟩
/-- Rows of rows that lie beyond B. -/
def RowsFr (B : Nat) (w : World) (v : Value) (ks : List (List Rat)) : Prop := ∃ (a : Option Addr) (c : Nat), v = .slice a ks.length c ∧ ks.length ≤ c ∧ c ≤ 9223372036854775807 ∧
  (0 < ks.length → ∃ b o, a = some ⟨b, o, none⟩ ∧ B ≤ b ∧ b < w.heap.size ∧ ∀ j, j < ks.length → ∃ l : Sl, w.cell? ⟨b, o + j, none⟩ = some (.slice l.a l.n l.c) ∧ LawIs w l.val ks[j]! ∧ ∀ ad, l.a = some ad → B ≤ ad.block)
/-- All rows of a list lie beyond B. -/
def HiAt (B : Nat) (ts : List Sl) : Prop := ∀ j, j < ts.length → ∀ ad, (ts[j]!).a = some ad → B ≤ ad.block
theorem HiAt.push {B : Nat} {ts : List Sl} {m : Sl} (h : HiAt B ts) (hm : ∀ ad, m.a = some ad → B ≤ ad.block) : HiAt B (ts ++ [m]) := fun j hj ad e => by
  rw [List.length_append] at hj
  by_cases hj2 : j < ts.length
  · rw [List.getElem!_eq_getElem?_getD, List.getElem?_append_left hj2, ← List.getElem!_eq_getElem?_getD] at e
    exact h j hj2 ad e
  · obtain rfl : j = ts.length := by simp at hj; omega
    rw [List.getElem!_eq_getElem?_getD, List.getElem?_append_right (Nat.le_refl _), Nat.sub_self] at e
    exact hm ad e
theorem rows_fr {w wr : World} {v : Value} {ps : List Sl} {ks : List (List Rat)} (h : RsAt w wr v ps ks) (hl : ps.length = ks.length) (hi : HiAt w.heap.size ps) : RowsFr w.heap.size wr v ks := by
  rcases h.own.2 with ⟨rfl, e⟩ | ⟨g, cap, cur, rfl, hb, hh, hc1, hc2, hs, ht⟩
  · exact ⟨none, 0, by rw [← hl, e], by omega, by decide, fun hp => by omega⟩
  · refine ⟨_, cap, by rw [hl], by omega, by unfold maxLen at hc2; exact hc2, fun _ => ⟨g, 0, rfl, hb, (Array.getElem?_eq_some_iff.1 hh).1, fun j hj => ⟨ps[j]!, ?_, h.rat j (by omega), hi j (by omega)⟩⟩⟩
    simp only [World.cell?, hh, Nat.zero_add]
    have e : (cur.toList.take (ps.length * 1))[j]? = (sv ps)[j]? := by rw [ht]
    rw [List.getElem?_take_of_lt (by omega), sv_get ps j (by omega)] at e
    simpa [Sl.val] using e
theorem grown_step {W V : World} {b i : Nat} {v : Value} (h : W.grownBy V (some b)) : W.grownBy (V.setCell ⟨b, i, none⟩ v) (some b) := by
  obtain ⟨a1, a2, a3, a4, a5⟩ := h
  exact ⟨a1, a2, a3, by simpa [World.setCell] using a4, fun k hk hne => by rw [Below.heap_setCell _ _ _ _ (fun e => hne (by rw [e]))]; exact a5 k hk hne⟩
set_option maxHeartbeats 8000000 in
set_option maxRecDepth 100000 in
set_option linter.unusedSimpArgs false in
theorem prows_fr (v : Value) (pss : List (List (Int × Int))) (w : World) (h : PRowsAre w v pss) (sm : SmP pss) :
    Calls Tryz.prog 20 #[v] w fun e w' => ∃ v, e = .returned v ∧ RowsFr w.heap.size w' v (pqss pss) ∧ Below w.heap.size w w' := by
  obtain ⟨a, c, rfl, h1, h2, h3⟩ := h
  obtain ⟨ti, hi, hz0, hz1, hz2⟩ := info_parts Tryz.infoS
  have H3 := hide h3
  have hsl := sm.1
  have HSM := hide sm
  have HI := hide hi
  have HZ := hide hz0
  clear h3 hi hz0 sm
  go_enter Tryz.func20, Tryz.ntmps20
  go_wp2_with fail
  go_loopw [3, 8] (fun vo vi wr => ∃ (i : Nat) (ts : List Sl), vi = .int .i64 i ∧ i ≤ pss.length ∧ ts.length = i ∧ RsAt w wr vo ts (pqss pss) ∧ HiAt w.heap.size ts) (fun _ vi _ => pss.length - (intOf vi).toNat)
  case atStart => exact ⟨0, [], rfl, Nat.zero_le _, rfl, RsAt.start w _ _ (Below.refl _ _), fun j hj => absurd hj (Nat.not_lt_zero _)⟩
  case round =>
    obtain ⟨i, ts, rfl, hi, hts, T, hHi⟩ := hrel
    have HHI := hide hHi
    clear hHi
    have hwr := T.bl.size
    by_cases hlt : i < pss.length
    · obtain ⟨b, o, rfl, hblt, hcs⟩ := unhide H3 (by omega)
      obtain ⟨l, k0, hpl⟩ := hcs i hlt
      rw [← T.bl.cell (p := ⟨b, o + i, none⟩) hblt] at k0
      have HF := hide (fs_own l.val _ wr (hpl.below T.bl) (by have := (unhide HSM).2 i hlt; omega))
      have epq : (pqss pss)[ts.length]! = pqs pss[i]! := by rw [hts]; exact pqss_get hlt
      have hown1 := ownsS_block T.own
      have hi0 : (0 : Int) ≤ (i : Int) := by omega
      have hi1 : (i : Int) < (pss.length : Int) := by omega
      have HT1 := hide T
      have HE := hide epq
      have HTS := hide hts
      have HOW := hide hown1
      clear T hcs epq hts hpl hown1
      go_wp2_with fail
      refine (unhide HF).mono ?_
      rintro e w2 ⟨v2, rfl, hv2, hb2, hf2⟩
      obtain ⟨m, rfl, hm, hmn⟩ := sl_of hv2
      rw [← unhide HE] at hm
      simp only [Sl.val]
      have hmf : ∀ ad, m.a = some ad → wr.heap.size ≤ ad.block := fun ad e => by
        rcases hf2 with h | ⟨g, n, cap, h, hg⟩
        · have : m.a = none := by injection h
          rw [this] at e; cases e
        · have : m.a = some ⟨g, 0, none⟩ := by injection h
          rw [this] at e
          injection e with e
          rw [← e]; exact hg
      have bL := alloc_below w2 (.cells #[.slice m.a m.n m.c] 29)
      have T2 := ((unhide HT1).keep hb2).keep bL
      have hm3 := hm.below bL
      have hlen24 : (ts.length + 1) * 24 ≤ 140737488355328 := by have := unhide HTS; omega
      have hlen63 : ts.length + 1 ≤ maxLen := by have := unhide HTS; unfold maxLen; omega
      have hbase : w.heap.size ≤ (w2.alloc (.cells #[.slice m.a m.n m.c] 29)).heap.size := T2.bl.size
      have hsz2 : (w2.alloc (.cells #[.slice m.a m.n m.c] 29)).heap.size = w2.heap.size + 1 := by rw [alloc_heap, Array.size_push]
      have HT2 := hide T2
      have HM3 := hide hm3
      have HBA := hide hbase
      have HSZ := hide hsz2
      have HL24 := hide hlen24
      have HL63 := hide hlen63
      have HMF := hide hmf
      clear T2 hm3 hm hbase hsz2 hlen24 hlen63 hv2 hb2 hf2 HT1 HF hmn bL hmf k0
      go_wp2_with (at_builtin; go_loud (refine wpList_append_sl _ rfl _ _ _ rfl w.heap.size 29 ti 24 Tryz.underlying30 (unhide HI) (unhide HZ) hz1 hz2 _ ts.length (sv ts) rfl (unhide HT2).own (unhide HT2).no ⟨w2.heap.size, 0, none⟩ 1 1 [m.val] rfl rfl (news_sl w2 m _) (sv_one m) (sv_notWord m) (by decide) (unhide HL63) (unhide HL24) (unhide HBA) (w2.heap.size + 1) (unhide HSZ) ?_; intro g cap w4 hown4 hgrow hat hlt4 hno4))
      have FIN := hide ((unhide HT2).push (p := m) (unhide HM3) (fun _ ad e he => by have h1 := (unhide HOW _ he).2; have h2 := unhide HMF ad e; omega) hown4 hgrow (by rw [unhide HSZ]; exact hat) hno4)
      clear hown4 hgrow hat hno4 HT2 HM3
      go_wp2_with fail
      exact ⟨⟨i + 1, ts ++ [m], by go_num, hlt, by rw [List.length_append, unhide HTS]; rfl, unhide FIN, (unhide HHI).push (fun ad e => Nat.le_trans hwr (unhide HMF ad e))⟩, by simp [intOf]; omega⟩
    · obtain rfl : i = pss.length := by omega
      have L := rows_fr T (by rw [hts, pqss_length]) (unhide HHI)
      have HB := hide T.bl
      have HL := hide L
      clear T L
      go_wp2
      (try simp only [Exit.inBlock, Exit.then])
      exact bodyPost_ret (v := u3) (by simp [results, Tryz.results20, go_sem]) rfl ⟨_, rfl, unhide HL, unhide HB⟩
/-- The cells of a row of truths. -/
def brow (lf : Nat → Bool) (n : Nat) : List Value := (List.range n).map fun j => .bool (lf j)
theorem brow_get (lf : Nat → Bool) {n j : Nat} (h : j < n) : (brow lf n)[j]? = some (.bool (lf j)) := by simp [brow, h]
def updB (f : Nat → Bool) (j : Nat) (v : Bool) : Nat → Bool := fun i => if i = j then v else f i
theorem brow_set (lf : Nat → Bool) {n j : Nat} (v : Bool) : (brow lf n).set j (.bool v) = brow (updB lf j v) n := by
  apply List.ext_getElem?
  intro i
  unfold brow updB
  rw [List.getElem?_set]
  by_cases h : j = i
  · subst h
    by_cases hj : j < n <;> simp [hj]
  · by_cases hi : i < n <;> simp [h, hi, Ne.symm h]
theorem brow_congr {f g : Nat → Bool} {n : Nat} (h : ∀ j, j < n → f j = g j) : brow f n = brow g n := by
  unfold brow
  exact List.map_congr_left fun j hj => by rw [h j (List.mem_range.1 hj)]
/-- Block G is the row. -/
def OwnB (w : World) (G n : Nat) (lf : Nat → Bool) : Prop := w.heap[G]? = some (.cells (brow lf n).toArray 4)
theorem OwnB.lt {w : World} {G n : Nat} {lf : Nat → Bool} (h : OwnB w G n lf) : G < w.heap.size := (Array.getElem?_eq_some_iff.1 h).1
theorem OwnB.keep {w w' : World} {G n : Nat} {lf : Nat → Bool} (h : OwnB w G n lf) (hb : Below w.heap.size w w') : OwnB w' G n lf := by
  unfold OwnB; rw [hb.block G h.lt]; exact h
theorem OwnB.cell {w : World} {G n : Nat} {lf : Nat → Bool} (h : OwnB w G n lf) {j : Nat} (hj : j < n) : w.cell? ⟨G, j, none⟩ = some (.bool (lf j)) := by
  unfold OwnB at h
  simp only [World.cell?, h]
  have := brow_get lf hj
  simpa using this
theorem OwnB.free {w : World} {G n : Nat} {lf : Nat → Bool} (h : OwnB w G n lf) (j : Nat) : w.frozen? ⟨G, j, none⟩ = false := by
  unfold OwnB at h; simp [World.frozen?, h]
theorem OwnB.set {w : World} {G n : Nat} {lf : Nat → Bool} (h : OwnB w G n lf) (j : Nat) (v : Bool) : OwnB (w.setCell ⟨G, j, none⟩ (.bool v)) G n (updB lf j v) := by
  unfold OwnB at h ⊢
  rw [setCell_eq]
  simp only [mapBlock, Array.getElem?_modify, h, if_true, Option.map_some, onCells]
  rw [← brow_set]
  simp
theorem OwnB.congr {w : World} {G n : Nat} {f g : Nat → Bool} (h : OwnB w G n f) (e : ∀ j, j < n → f j = g j) : OwnB w G n g := by
  unfold OwnB at h ⊢; rw [← brow_congr e]; exact h
theorem Tryz.infoB : (Tryz.prog.info? 4).map (fun i => (i.zero, i.size, i.bytes)) = some (some (.bool false), 1, 1) := by kernel_rfl
theorem make_bools (k : Nat) (h1 : k ≤ 1099511627776) (w : World) :
    (Instr.makeSlice 48 (.int .i64 (k : Int)) (.int .i64 (k : Int))).run Tryz.prog w = .ok (.slice (some ⟨w.heap.size, 0, none⟩) k k) (w.alloc (.cells (brow (fun _ => false) k).toArray 4)) := by
  obtain ⟨i, hi, hz0, hz1, hz2⟩ := info_parts Tryz.infoB
  have e : madeCells (Value.bool false).cells ((k : Int).toNat * i.size) = (brow (fun _ => false) k).toArray := by
    rw [hz1]
    apply Array.ext
    · simp [madeCells, brow]
    · intro j h1 h2
      simp [madeCells, brow, Value.cells, Nat.mod_one]
  rw [run_make w 48 4 i (.bool false) Tryz.underlying48 hi hz0 .i64 .i64 k k (by omega) (Int.le_refl _) (by rw [hz2]; omega) (by omega), e]
  simp
theorem make_ownB (w : World) (k : Nat) : OwnB (w.alloc (.cells (brow (fun _ => false) k).toArray 4)) w.heap.size k (fun _ => false) := heap_alloc_new w _
theorem brow_notWord (f : Nat → Bool) (n : Nat) : ∀ u ∈ brow f n, notWord u := by
  intro u hu
  obtain ⟨i, _, rfl⟩ := List.mem_map.1 hu
  trivial
theorem brow_noWord {f : Nat → Bool} {n : Nat} {T : TypeId} {fr : Nat × Nat} : NoWord (.cells (brow f n).toArray T fr) := by
  intro cs T' fr' e j x
  injection e with e
  subst e
  intro hx
  obtain ⟨hlt, hx⟩ := Array.getElem?_eq_some_iff.1 hx
  exact brow_notWord f n (.int .u64 x) (by rw [← hx]; simp)
theorem RatIs.bools {w : World} {g n j : Nat} {b : Bool} {f : Nat → Bool} {v : Value} {q : Rat} (h : RatIs w v q) (hg : OwnB w g n f) : RatIs (w.setCell ⟨g, j, none⟩ (.bool b)) v q :=
  h.other hg brow_noWord (by simp [World.setCell]) (fun k hk => Below.heap_setCell _ _ _ _ hk)
end Go.Proofs.YtjlohghknejjoaaGreatDoor
