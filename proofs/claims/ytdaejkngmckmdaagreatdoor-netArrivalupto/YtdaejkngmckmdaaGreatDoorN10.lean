/- Rows of rows of pairs; plain.Rows; how wide they are. -/
import Derived.Test.YtdaejkngmckmdaaGreatDoorN9
namespace Go.Proofs.YtdaejkngmckmdaaGreatDoor
open Go.RowKit Go.Sort Go.Shelf

/-- A row of the call's own, or none. -/
def Fresh (w : World) (v : Value) : Prop := v = .slice none 0 0 ∨ ∃ g n cap, v = .slice (some ⟨g, 0, none⟩) n cap ∧ w.heap.size ≤ g
theorem fresh_of {w wr : World} {v : Value} {n : Nat} {xs : List Value} {T : TypeId} {k : Nat} (h : wr.ownsRow w.heap.size T k v n xs) : Fresh w v := by
  rcases h.2 with ⟨rfl, _⟩ | ⟨g, cap, cur, rfl, hb, _⟩
  · exact Or.inl rfl
  · exact Or.inr ⟨g, _, cap, rfl, hb⟩
def FsPost (w : World) (qs : List Rat) (e : Ending) (w' : World) : Prop := ∃ v, e = .returned v ∧ LawIs w' v qs ∧ Below w.heap.size w w' ∧ Fresh w v

set_option maxHeartbeats 4000000 in
set_option maxRecDepth 100000 in
theorem fs_own (v : Value) (ps : List (Int × Int)) (w : World) (h : PairsAre w v ps) (hl : ps.length ≤ 1099511627776) :
    Calls Tryz.prog 6 #[v] w (FsPost w (pqs ps)) := by
  obtain ⟨a, c, rfl, h1, h2, h4, h3⟩ := h
  obtain ⟨ti, hi, hz0, hz1, hz2⟩ := info_parts Tryz.infoR
  have H3 := hide h3
  have H4 := hide h4
  have HI := hide hi
  have HZ := hide hz0
  clear h3 h4 hi hz0
  go_enter Tryz.func6, Tryz.ntmps6
  go_wp2_with fail
  go_loopw [3, 8] (fun vo vi wr => ∃ (i : Nat) (ts : List Tri), vi = .int .i64 i ∧ i ≤ ps.length ∧ ts.length = i ∧ FsAt w wr w.heap.size vo ts (pqs ps)) (fun _ vi _ => ps.length - (intOf vi).toNat)
  case atStart => exact ⟨0, [], rfl, Nat.zero_le _, rfl, FsAt.start w _⟩
  case round =>
    obtain ⟨i, ts, rfl, hi, hts, T⟩ := hrel
    by_cases hlt : i < ps.length
    · obtain ⟨b, o, rfl, hblt, hcs⟩ := unhide H3 (by omega)
      have ⟨k0, k1⟩ := hcs i hlt
      have ⟨i1, i2⟩ := unhide H4 i hlt
      rw [← T.bl.cell (p := ⟨b, o + i * 2, none⟩) hblt] at k0
      rw [← T.bl.cell (p := ⟨b, o + i * 2 + 1, none⟩) hblt] at k1
      obtain ⟨x, hx⟩ : ∃ x, (ps[i]!).1 = x := ⟨_, rfl⟩
      obtain ⟨y, hy⟩ : ∃ y, (ps[i]!).2 = y := ⟨_, rfl⟩
      have epq : (pqs ps)[ts.length]! = Rat.divInt x (if y = 0 then 1 else y) := by
        rw [hts, ← hx, ← hy]
        simp [pqs, pq, hlt]
      rw [hx] at k0 i1
      rw [hy] at k1 i2
      have T1 := T.keep (alloc_below wr (.cells #[.int .i64 x, .int .i64 y] 56))
      have HF := hide (f_any x y i1.1 i1.2 i2.1 i2.2 (wr.alloc (.cells #[.int .i64 x, .int .i64 y] 56)))
      have hi0 : (0 : Int) ≤ (i : Int) := by omega
      have hi1 : (i : Int) < (ps.length : Int) := by omega
      have HT1 := hide T1
      have HE := hide epq
      have HTS := hide hts
      clear T T1 hcs H3 H4 epq i1 i2 hts hx hy
      go_wp2_with fail
      refine (unhide HF).mono ?_
      rintro e w2 ⟨v2, rfl, hv2, hb2⟩
      obtain ⟨t, rfl, hr2⟩ := tri_of hv2
      rw [← unhide HE] at hr2
      have T2 := ((unhide HT1).keep hb2).keep (alloc_below w2 (.cells #[.bool t.s, .slice t.a1 t.n1 t.c1, .slice t.a2 t.n2 t.c2] 39))
      have hr3 := hr2.below (alloc_below w2 (.cells #[.bool t.s, .slice t.a1 t.n1 t.c1, .slice t.a2 t.n2 t.c2] 39))
      have hlen56 : (ts.length + 1) * 56 ≤ 140737488355328 := by have := unhide HTS; omega
      have hlen63 : ts.length + 1 ≤ maxLen := by have := unhide HTS; unfold maxLen; omega
      have hbase : w.heap.size ≤ (w2.alloc (.cells #[.bool t.s, .slice t.a1 t.n1 t.c1, .slice t.a2 t.n2 t.c2] 39)).heap.size := T2.bl.size
      have hsz2 : (w2.alloc (.cells #[.bool t.s, .slice t.a1 t.n1 t.c1, .slice t.a2 t.n2 t.c2] 39)).heap.size = w2.heap.size + 1 := by rw [alloc_heap, Array.size_push]
      have HT2 := hide T2
      have HR3 := hide hr3
      have HBA := hide hbase
      have HSZ := hide hsz2
      have HL56 := hide hlen56
      have HL63 := hide hlen63
      simp only [Tri.val]
      clear T2 hr3 hr2 hbase hsz2 hlen56 hlen63 hv2 hb2 HT1 HF
      go_wp2_with (at_builtin; go_loud (refine wpList_append_tri _ rfl _ _ _ rfl w.heap.size 39 ti 56 Tryz.underlying26 (unhide HI) (unhide HZ) hz1 hz2 _ ts.length (tcells ts) rfl (unhide HT2).own (unhide HT2).no ⟨w2.heap.size, 0, none⟩ 1 1 t.cells rfl rfl (news_tri w2 t _) (tri_one t) t.notWord (by decide) (unhide HL63) (unhide HL56) (unhide HBA) (w2.heap.size + 1) (unhide HSZ) ?_; intro g cap w4 hown4 hgrow hat hlt4 hno4))
      have FIN := hide ((unhide HT2).push (unhide HR3) hown4 hgrow hno4 (unhide HBA))
      clear hown4 hgrow hat hno4 HT2 HR3
      go_wp2_with fail
      exact ⟨⟨i + 1, ts ++ [t], by go_num, hlt, by rw [List.length_append, unhide HTS]; rfl, unhide FIN⟩, by simp [intOf]; omega⟩
    · obtain rfl : i = ps.length := by omega
      have L := law_of_owns T.own (by rw [hts, pqs_length]) T.rat
      have HB := hide T.bl
      have HL := hide L
      have HF : Hid (Fresh w u3) := fresh_of T.own
      clear T H3 H4 L
      go_wp2
      (try simp only [Exit.inBlock, Exit.then])
      exact bodyPost_ret (v := u3) (by simp [results, Tryz.results6, go_sem]) rfl ⟨_, rfl, unhide HL, unhide HB, unhide HF⟩

theorem pairs_len {w : World} {l : Sl} {ps : List (Int × Int)} (h : PairsAre w l.val ps) : l.n = ps.length := by
  obtain ⟨a, c, e, _⟩ := h
  injection e
/-- A row of rows of pairs. -/
def PRowsAre (w : World) (v : Value) (pss : List (List (Int × Int))) : Prop := ∃ (a : Option Addr) (c : Nat), v = .slice a pss.length c ∧ pss.length ≤ c ∧ c ≤ 9223372036854775807 ∧
  (0 < pss.length → ∃ b o, a = some ⟨b, o, none⟩ ∧ b < w.heap.size ∧ ∀ j, j < pss.length → ∃ l : Sl, w.cell? ⟨b, o + j, none⟩ = some (.slice l.a l.n l.c) ∧ PairsAre w l.val pss[j]!)
theorem PRowsAre.below {w w' : World} {v : Value} {ps : List (List (Int × Int))} (h : PRowsAre w v ps) (hb : Below w.heap.size w w') : PRowsAre w' v ps := by
  obtain ⟨a, c, e, h1, h2, h3⟩ := h
  refine ⟨a, c, e, h1, h2, fun hp => ?_⟩
  obtain ⟨b, o, ea, hlt, hc⟩ := h3 hp
  refine ⟨b, o, ea, Nat.lt_of_lt_of_le hlt hb.size, fun j hj => ?_⟩
  obtain ⟨l, k, p⟩ := hc j hj
  refine ⟨l, ?_, p.below hb⟩
  rw [hb.cell (p := ⟨b, o + j, none⟩) hlt]
  exact k
/-- Not greater than a call may read. -/
def SmP (pss : List (List (Int × Int))) : Prop := pss.length ≤ 1048576 ∧ ∀ j, j < pss.length → (pss[j]!).length ≤ 1048576
/-- The rows that they make. -/
def pqss (pss : List (List (Int × Int))) : List (List Rat) := pss.map pqs
theorem pqss_length (pss : List (List (Int × Int))) : (pqss pss).length = pss.length := by simp [pqss]
theorem pqss_get {pss : List (List (Int × Int))} {j : Nat} (h : j < pss.length) : (pqss pss)[j]! = pqs pss[j]! := by simp [pqss, h]

set_option maxHeartbeats 8000000 in
set_option maxRecDepth 100000 in
set_option linter.unusedSimpArgs false in
theorem prows_any (v : Value) (pss : List (List (Int × Int))) (w : World) (h : PRowsAre w v pss) (sm : SmP pss) :
    Calls Tryz.prog 7 #[v] w fun e w' => ∃ v, e = .returned v ∧ RowsAre w' v (pqss pss) ∧ Below w.heap.size w w' := by
  obtain ⟨a, c, rfl, h1, h2, h3⟩ := h
  obtain ⟨ti, hi, hz0, hz1, hz2⟩ := info_parts Tryz.infoS
  have H3 := hide h3
  have hsl := sm.1
  have HSM := hide sm
  have HI := hide hi
  have HZ := hide hz0
  clear h3 hi hz0 sm
  go_enter Tryz.func7, Tryz.ntmps7
  go_wp2_with fail
  go_loopw [3, 8] (fun vo vi wr => ∃ (i : Nat) (ts : List Sl), vi = .int .i64 i ∧ i ≤ pss.length ∧ ts.length = i ∧ RsAt w wr vo ts (pqss pss)) (fun _ vi _ => pss.length - (intOf vi).toNat)
  case atStart => exact ⟨0, [], rfl, Nat.zero_le _, rfl, RsAt.start w _ _ (Below.refl _ _)⟩
  case round =>
    obtain ⟨i, ts, rfl, hi, hts, T⟩ := hrel
    by_cases hlt : i < pss.length
    · obtain ⟨b, o, rfl, hblt, hcs⟩ := unhide H3 (by omega)
      obtain ⟨l, k0, hpl⟩ := hcs i hlt
      rw [← T.bl.cell (p := ⟨b, o + i, none⟩) hblt] at k0
      have HF := hide (fs_own l.val _ wr (hpl.below T.bl) (by have := (unhide HSM).2 i hlt; omega))
      have epq : (pqss pss)[ts.length]! = pqs pss[i]! := by rw [hts]; exact pqss_get hlt
      have hown1 := ownsS_block T.own
      have hi0 : (0 : Int) ≤ (i : Int) := by omega
      have hi1 : (i : Int) < (pss.length : Int) := by omega
      have HT1 := hide T
      have HE := hide epq
      have HTS := hide hts
      have HOW := hide hown1
      clear T hcs epq hts hpl hown1
      go_wp2_with fail
      refine (unhide HF).mono ?_
      rintro e w2 ⟨v2, rfl, hv2, hb2, hf2⟩
      obtain ⟨m, rfl, hm, hmn⟩ := sl_of hv2
      rw [← unhide HE] at hm
      simp only [Sl.val]
      have hmf : ∀ ad, m.a = some ad → wr.heap.size ≤ ad.block := fun ad e => by
        rcases hf2 with h | ⟨g, n, cap, h, hg⟩
        · have : m.a = none := by injection h
          rw [this] at e; cases e
        · have : m.a = some ⟨g, 0, none⟩ := by injection h
          rw [this] at e
          injection e with e
          rw [← e]; exact hg
      have bL := alloc_below w2 (.cells #[.slice m.a m.n m.c] 26)
      have T2 := ((unhide HT1).keep hb2).keep bL
      have hm3 := hm.below bL
      have hlen24 : (ts.length + 1) * 24 ≤ 140737488355328 := by have := unhide HTS; omega
      have hlen63 : ts.length + 1 ≤ maxLen := by have := unhide HTS; unfold maxLen; omega
      have hbase : w.heap.size ≤ (w2.alloc (.cells #[.slice m.a m.n m.c] 26)).heap.size := T2.bl.size
      have hsz2 : (w2.alloc (.cells #[.slice m.a m.n m.c] 26)).heap.size = w2.heap.size + 1 := by rw [alloc_heap, Array.size_push]
      have HT2 := hide T2
      have HM3 := hide hm3
      have HBA := hide hbase
      have HSZ := hide hsz2
      have HL24 := hide hlen24
      have HL63 := hide hlen63
      have HMF := hide hmf
      clear T2 hm3 hm hbase hsz2 hlen24 hlen63 hv2 hb2 hf2 HT1 HF hmn bL hmf k0
      go_wp2_with (at_builtin; go_loud (refine wpList_append_sl _ rfl _ _ _ rfl w.heap.size 26 ti 24 Tryz.underlying28 (unhide HI) (unhide HZ) hz1 hz2 _ ts.length (sv ts) rfl (unhide HT2).own (unhide HT2).no ⟨w2.heap.size, 0, none⟩ 1 1 [m.val] rfl rfl (news_sl w2 m _) (sv_one m) (sv_notWord m) (by decide) (unhide HL63) (unhide HL24) (unhide HBA) (w2.heap.size + 1) (unhide HSZ) ?_; intro g cap w4 hown4 hgrow hat hlt4 hno4))
      have FIN := hide ((unhide HT2).push (p := m) (unhide HM3) (fun _ ad e he => by have h1 := (unhide HOW _ he).2; have h2 := unhide HMF ad e; omega) hown4 hgrow (by rw [unhide HSZ]; exact hat) hno4)
      clear hown4 hgrow hat hno4 HT2 HM3
      go_wp2_with fail
      exact ⟨⟨i + 1, ts ++ [m], by go_num, hlt, by rw [List.length_append, unhide HTS]; rfl, unhide FIN⟩, by simp [intOf]; omega⟩
    · obtain rfl : i = pss.length := by omega
      have L := T.rows (by rw [hts, pqss_length])
      have HB := hide T.bl
      have HL := hide L
      clear T L
      go_wp2
      (try simp only [Exit.inBlock, Exit.then])
      exact bodyPost_ret (v := u3) (by simp [results, Tryz.results7, go_sem]) rfl ⟨_, rfl, unhide HL, unhide HB⟩

/-- The lengths of the first k rows together. -/
def lsum (pss : List (List (Int × Int))) : Nat → Nat
  | 0 => 0
  | k + 1 => lsum pss k + (pss[k]!).length
theorem lsum_le {pss : List (List (Int × Int))} (sm : SmP pss) : ∀ k, k ≤ pss.length → lsum pss k ≤ k * 1048576
  | 0, _ => Nat.zero_le _
  | k + 1, h => by
    have := lsum_le sm k (by omega)
    have := sm.2 k (by omega)
    show lsum pss k + _ ≤ _
    rw [Nat.succ_mul]
    omega
theorem lsum_mono (pss : List (List (Int × Int))) : ∀ {a b : Nat}, a ≤ b → lsum pss a ≤ lsum pss b
  | a, 0, h => by obtain rfl : a = 0 := by omega
                  exact Nat.le_refl _
  | a, b + 1, h => by
    by_cases e : a = b + 1
    · rw [e]; exact Nat.le_refl _
    · have := lsum_mono pss (a := a) (b := b) (by omega)
      show lsum pss a ≤ lsum pss b + _
      omega
theorem lsum_one (pss : List (List (Int × Int))) {j : Nat} (h : j < pss.length) : (pss[j]!).length ≤ lsum pss pss.length := by
  have := lsum_mono pss (a := j + 1) (b := pss.length) h
  have e : lsum pss (j + 1) = lsum pss j + (pss[j]!).length := rfl
  omega
def tot (pss : List (List (Int × Int))) : Nat := pss.length + lsum pss pss.length
def WideP (pss : List (List (Int × Int))) (m : Nat) : Prop := m < tot pss

set_option maxHeartbeats 8000000 in
set_option maxRecDepth 100000 in
set_option linter.unusedSimpArgs false in
theorem wide_any (v : Value) (pss : List (List (Int × Int))) (m : Nat) (w : World) (h : PRowsAre w v pss) (sm : SmP pss) (_hm : m ≤ 1000) :
    Calls Tryz.prog 5 #[v, .int .i64 (m : Int)] w (AskPost w (WideP pss m)) := by
  obtain ⟨a, c, rfl, h1, h2, h3⟩ := h
  have H3 := hide h3
  have HSM := hide sm
  have hsl := sm.1
  clear h3 sm
  go_enter Tryz.func5, Tryz.ntmps5
  go_wp2_with fail
  go_loopw [5, 6] (fun vn vi wr => ∃ (i x : Nat), vn = .int .i64 (x : Int) ∧ vi = .int .i64 (i : Int) ∧ i ≤ pss.length ∧ x = pss.length + lsum pss i ∧ Below w.heap.size w wr) (fun _ vi _ => pss.length - (intOf vi).toNat)
  case atStart => exact ⟨0, pss.length, rfl, rfl, Nat.zero_le _, rfl, Below.refl _ _⟩
  case round =>
    obtain ⟨i, x, rfl, rfl, hi, hx, hb⟩ := hrel
    have HB := hide hb
    have HX := hide hx
    have hxb : x ≤ 1048576 + 1048576 * 1048576 := by
      have a := lsum_le (unhide HSM) i hi
      have b : i * 1048576 ≤ 1048576 * 1048576 := Nat.mul_le_mul_right _ (by omega)
      omega
    by_cases hlt : i < pss.length
    · obtain ⟨b, o, rfl, hblt, hcs⟩ := unhide H3 (by omega)
      obtain ⟨l, k0, hpl⟩ := hcs i hlt
      rw [← hb.cell (p := ⟨b, o + i, none⟩) hblt] at k0
      have hln := pairs_len hpl
      have hlb := (unhide HSM).2 i hlt
      rw [← hln] at hlb
      have HLN := hide hln
      obtain ⟨y, hy⟩ : ∃ y, l.n = y := ⟨_, rfl⟩
      rw [hy] at k0 hlb
      have HY := hide hy
      have e1 : (i : Int) < (pss.length : Int) := by omega
      have e0 : (0 : Int) ≤ (i : Int) := by omega
      have e5 : IntKind.i64.wrap ((x : Int) + (y : Int)) = ((x + y : Nat) : Int) := by rw [IntKind.wrap_i64]; omega
      clear hb hx hcs hpl hln hy
      go_wp2_with fail
      exact ⟨⟨i + 1, x + y, by first | rfl | go_num, by go_num, hlt, by have a := unhide HX; have b := unhide HLN; have c := unhide HY; show x + y = pss.length + (lsum pss i + _); omega, unhide HB⟩, by simp [intOf]; omega⟩
    · obtain rfl : i = pss.length := by omega
      have e1 : ¬ (pss.length : Int) < (pss.length : Int) := by omega
      by_cases hw : m < x
      · have e6 : (m : Int) < (x : Int) := by omega
        have HW : Hid (WideP pss m) := by show m < tot pss; unfold tot; omega
        clear hb hx hw
        go_wp2
        go_ret
        exact ⟨Or.inl ⟨unhide HW, rfl⟩, unhide HB⟩
      · have e6 : ¬ (m : Int) < (x : Int) := by omega
        have HW : Hid (¬ WideP pss m) := by show ¬ (m < tot pss); unfold tot; omega
        clear hb hx hw
        go_wp2
        go_ret
        exact ⟨Or.inr ⟨unhide HW, rfl⟩, unhide HB⟩
end Go.Proofs.YtdaejkngmckmdaaGreatDoor
