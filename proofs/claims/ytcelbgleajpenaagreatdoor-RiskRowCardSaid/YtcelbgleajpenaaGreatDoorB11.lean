/- Rows of texts: plain.Texts, the document's Texts; what the laws ask of a row. -/
import Derived.Test.YtcelbgleajpenaaGreatDoorBI
import Derived.Test.YtcelbgleajpenaaGreatDoorB3
import Derived.Laws.CopyOwn
namespace Go.Proofs.YtcelbgleajpenaaGreatDoor
open Go.RowKit Go.Sort Go.Shelf

def strs (ts : List (List UInt8)) : List Value := ts.map fun t => .string ⟨t.toArray⟩
theorem strs_append (ts : List (List UInt8)) (t : List UInt8) : strs (ts ++ [t]) = strs ts ++ [.string ⟨t.toArray⟩] := by simp [strs]
theorem Tryz.infoS : (Tryz.prog.info? 9).map (fun i => (i.zero, i.size, i.bytes)) = some (some (.string ⟨#[]⟩), 1, 16) := by kernel_rfl
theorem ownsS_kept {w w' : World} {B : Nat} {v : Value} {n : Nat} {xs : List Value} (h : w.ownsRow B 9 1 v n xs) (hk : ∀ k o, B ≤ k → w.heap[k]? = some o → w'.heap[k]? = some o) : w'.ownsRow B 9 1 v n xs := by
  obtain ⟨h1, h2 | ⟨g, cap, cur, e, hb, hh, hr⟩⟩ := h
  · exact ⟨h1, .inl h2⟩
  · exact ⟨h1, .inr ⟨g, cap, cur, e, hb, hk g _ hb hh, hr⟩⟩
theorem ownsS_block {w : World} {B : Nat} {v : Value} {n : Nat} {xs : List Value} (h : w.ownsRow B 9 1 v n xs) : ∀ k, v.ownBlock = some k → B ≤ k ∧ k < w.heap.size := by
  intro k hk
  obtain ⟨h1, ⟨rfl, _⟩ | ⟨g, cap, cur, rfl, hb, hh, hr⟩⟩ := h
  · cases hk
  · have : g = k := Option.some.inj hk
    subst this
    exact ⟨hb, (Array.getElem?_eq_some_iff.1 hh).1⟩
/-- A row of texts, of the call's own. -/
structure TsAt (w wr : World) (B : Nat) (v : Value) (ts : List (List UInt8)) : Prop where
  own : wr.ownsRow B 9 1 v ts.length (strs ts)
  bl : Below w.heap.size w wr
  base : w.heap.size ≤ B
theorem TsAt.keep {w wr w' : World} {B : Nat} {v : Value} {ts : List (List UInt8)} (h : TsAt w wr B v ts) (hb : Below wr.heap.size wr w') : TsAt w w' B v ts := by
  refine ⟨ownsS_kept h.own fun k o _ ho => ?_, bstep h.bl hb, h.base⟩
  rw [hb.block k (Array.getElem?_eq_some_iff.1 ho).1]; exact ho
theorem TsAt.push {w wr w' : World} {B g cap : Nat} {v : Value} {ts : List (List UInt8)} {t : List UInt8} (h : TsAt w wr B v ts)
    (own : w'.ownsRow B 9 1 (.slice (some ⟨g, 0, none⟩) (ts.length + 1) cap) (ts.length + 1) (strs ts ++ [.string ⟨t.toArray⟩])) (hg : wr.grownBy w' v.ownBlock) (hB : B ≤ wr.heap.size) :
    TsAt w w' B (.slice (some ⟨g, 0, none⟩) (ts.length + 1) cap) (ts ++ [t]) :=
  ⟨by rw [strs_append, List.length_append]; exact own, Below.grown h.bl hg (Nat.le_trans h.base hB) (fun k hk => Nat.le_trans h.base (ownsS_block h.own k hk).1), h.base⟩
theorem TsAt.start (w : World) : TsAt w w w.heap.size (.slice none 0 0) [] := ⟨World.ownsRow_nil _ _ _ _, Below.refl _ _, Nat.le_refl _⟩
/-- A row of texts, as it is read. -/
def SRow (w : World) (v : Value) (ts : List (List UInt8)) : Prop := ∃ (a : Option Addr) (c : Nat), v = .slice a ts.length c ∧ ts.length ≤ c ∧ c ≤ 9223372036854775807 ∧ (0 < ts.length → ∃ b o, a = some ⟨b, o, none⟩ ∧ b < w.heap.size ∧ ∀ j, j < ts.length → w.cell? ⟨b, o + j, none⟩ = some (.string ⟨(ts[j]!).toArray⟩))
theorem SRow.below {w w' : World} {v : Value} {ts : List (List UInt8)} (h : SRow w v ts) (hb : Below w.heap.size w w') : SRow w' v ts := by
  obtain ⟨a, c, e, h1, h2, h3⟩ := h
  refine ⟨a, c, e, h1, h2, fun hp => ?_⟩
  obtain ⟨b, o, ea, hlt, hc⟩ := h3 hp
  exact ⟨b, o, ea, Nat.lt_of_lt_of_le hlt hb.size, fun j hj => by rw [hb.cell (p := ⟨b, o + j, none⟩) hlt]; exact hc j hj⟩
theorem srow_of {w : World} {B : Nat} {v : Value} {ts : List (List UInt8)} (h : w.ownsRow B 9 1 v ts.length (strs ts)) : SRow w v ts := by
  have h' := h
  obtain ⟨h1, ⟨rfl, h0⟩ | ⟨g, cap, cur, rfl, hb, hh, hnc, hcm, hcs, htake⟩⟩ := h'
  · exact ⟨none, 0, by rw [h0], by omega, by decide, fun hp => by omega⟩
  · refine ⟨some ⟨g, 0, none⟩, cap, rfl, hnc, hcm, fun _ => ⟨g, 0, rfl, (Array.getElem?_eq_some_iff.1 hh).1, fun j hj => ?_⟩⟩
    have hc := h.cells (g := g) rfl j (.string ⟨(ts[j]!).toArray⟩) (by simp [strs, hj])
    by_cases hj0 : j = 0
    · subst hj0; simpa [Addr.add] using hc
    · simpa [Addr.add, hj0] using hc
theorem news_str (w : World) (s : ByteArray) (T : TypeId) : ∀ j u, [Value.string s][j]? = some u → (w.alloc (.cells #[.string s] T)).cell? ((⟨w.heap.size, 0, none⟩ : Addr).add j) = some u :=
  World.news_of_block (cs := #[.string s]) (t := T) (fr := (0, 0)) (heap_alloc_new w _)
theorem one_str (s : ByteArray) : ∀ u ∈ [Value.string s], u.oneCell' = true := by
  intro u hu
  simp only [List.mem_singleton] at hu
  subst hu; rfl
def txts (qs : List Rat) : List (List UInt8) := qs.map qtext
theorem txts_length (qs : List Rat) : (txts qs).length = qs.length := by simp [txts]
theorem txts_take {qs : List Rat} {i : Nat} (h : i < qs.length) : txts (qs.take (i + 1)) = txts (qs.take i) ++ [qtext qs[i]!] := by
  unfold txts
  rw [List.take_add_one, List.map_append]
  congr 1
  simp [h]
theorem txts_len {qs : List Rat} {i : Nat} (h : i ≤ qs.length) : (txts (qs.take i)).length = i := by rw [txts_length, List.length_take]; omega
set_option maxHeartbeats 8000000 in
set_option maxRecDepth 100000 in
set_option linter.unusedSimpArgs false in
theorem refTexts_any (v : Value) (qs : List Rat) (J : Nat) (w : World) (h : RList w v qs) (hq : ∀ j, j < qs.length → RS qs[j]! J) (hJ : J ≤ 200000) (hl : qs.length ≤ 1000000) :
    Calls Tryz.prog 56 #[v] w fun e w' => ∃ v, e = .returned v ∧ SRow w' v (txts qs) ∧ Below w.heap.size w w' := by
  obtain ⟨a, c, rfl, h1, h2, h3⟩ := h
  obtain ⟨ti, hi, hz0, hz1, hz2⟩ := info_parts Tryz.infoS
  obtain ⟨n, hn⟩ : ∃ n, qs.length = n := ⟨_, rfl⟩
  rw [hn] at h1 h3 hl ⊢
  have H3 := hide h3
  have HI := hide hi
  have HZ := hide hz0
  have HQ := hide hq
  have HJ := hide hJ
  have HL := hide hl
  have HN := hide hn
  clear hz0
  clear h3 hi hq hJ hl hn
  go_enter Tryz.func56, Tryz.ntmps56
  go_wp2_with fail
  go_loopw [3, 8] (fun vo vi wr => ∃ (i : Nat), vi = .int .i64 (i : Int) ∧ i ≤ n ∧ TsAt w wr w.heap.size vo (txts (qs.take i))) (fun _ vi _ => n - (intOf vi).toNat)
  case atStart => exact ⟨0, rfl, Nat.zero_le _, TsAt.start w⟩
  case round =>
    obtain ⟨i, rfl, hi, T⟩ := hrel
    have hnn := unhide HN
    by_cases hlt : i < n
    · obtain ⟨b, o, rfl, hblt, hcs⟩ := unhide H3 (by omega)
      obtain ⟨x, k0, kx⟩ := hcs i hlt
      rw [← T.bl.cell (p := ⟨b, o + i, none⟩) hblt] at k0
      have HF := hide (refTextz_any x 0 J qs[i]! wr (kx.below T.bl) (unhide HQ i (by omega)) (unhide HJ))
      have HT1 := hide T
      clear kx
      have hi0 : (0 : Int) ≤ (i : Int) := by omega
      have hi1 : (i : Int) < (n : Int) := by omega
      obtain ⟨tx, htx⟩ : ∃ t, qtext qs[i]! = t := ⟨_, rfl⟩
      have HTX := hide htx
      rw [htx] at HF
      obtain ⟨ts, hts⟩ : ∃ t, txts (qs.take i) = t := ⟨_, rfl⟩
      have hlen : ts.length = i := by rw [← hts]; exact txts_len (by omega)
      have HLE := hide hlen
      have HTS := hide hts
      rw [hts] at HT1
      clear T hcs htx hlen hts hnn
      go_wp2_with fail
      refine (unhide HF).mono ?_
      rintro e w2 ⟨rfl, hb2⟩
      have T2 := ((unhide HT1).keep hb2).keep (abelow w2 (.cells #[.string ⟨tx.toArray⟩] 9))
      have hlen16 : (ts.length + 1) * 16 ≤ 140737488355328 := by have := unhide HLE; have := unhide HL; omega
      have hlen63 : ts.length + 1 ≤ maxLen := by have := unhide HLE; have := unhide HL; unfold maxLen; omega
      have HT2 := hide T2
      have HBA := hide T2.bl.size
      have HL16 := hide hlen16
      have HL63 := hide hlen63
      clear T2 hlen16 hlen63 hb2 HT1 HF
      go_wp2_with (at_builtin; go_loud (refine wpList_append_lies _ rfl _ _ _ rfl w.heap.size 9 ti (.string ⟨#[]⟩) 1 16 Tryz.underlying99 (unhide HI) (unhide HZ) hz1 hz2 rfl (by decide) _ ts.length (strs ts) rfl (unhide HT2).own ⟨w2.heap.size, 0, none⟩ 1 1 [.string ⟨tx.toArray⟩] rfl rfl (news_str w2 _ _) (one_str _) (by decide) (unhide HL63) (unhide HL16) (unhide HBA) (w2.heap.size + 1) (bsize _ _) ?_; intro g cap w4 hown4 hgrow hat hlt4))
      have FIN : Hid (TsAt w w4 w.heap.size (.slice (some ⟨g, 0, none⟩) (ts.length + 1) cap) (txts (qs.take (i + 1)))) := by
        have := (unhide HT2).push hown4 hgrow (unhide HBA)
        show TsAt _ _ _ _ _
        rw [txts_take (by rw [unhide HN]; exact hlt), unhide HTS, unhide HTX]
        exact this
      clear hown4 hgrow hat hlt4 HT2
      go_wp2_with fail
      exact ⟨⟨i + 1, by go_num, hlt, unhide FIN⟩, by simp [intOf]; omega⟩
    · obtain rfl : i = n := by omega
      have e : qs.take i = qs := List.take_of_length_le (by omega)
      rw [e] at T
      have HB := hide T.bl
      have HR := hide (srow_of T.own)
      clear T H3 e hnn
      go_wp2
      (try simp only [Exit.inBlock, Exit.then])
      exact bodyPost_ret (v := u3) (by simp [results, Tryz.results56, go_sem]) rfl ⟨_, rfl, unhide HR, unhide HB⟩
set_option maxHeartbeats 8000000 in
set_option maxRecDepth 100000 in
set_option linter.unusedSimpArgs false in
theorem ptexts_any (v : Value) (qs : List Rat) (J : Nat) (w : World) (h : LawIs w v qs) (hq : ∀ j, j < qs.length → RS qs[j]! J) (hJ : J ≤ 200000) (hl : qs.length ≤ 1000000) (htab : Tab w) :
    Calls Tryz.prog 55 #[v] w fun e w' => ∃ v, e = .returned v ∧ SRow w' v (txts qs) ∧ Below w.heap.size w w' := by
  obtain ⟨a, c, rfl, h1, h2, h3⟩ := h
  obtain ⟨ti, hi, hz0, hz1, hz2⟩ := info_parts Tryz.infoS
  obtain ⟨n, hn⟩ : ∃ n, qs.length = n := ⟨_, rfl⟩
  rw [hn] at h1 h3 hl ⊢
  have H3 := hide h3
  have HI := hide hi
  have HZ := hide hz0
  have HQ := hide hq
  have HJ := hide hJ
  have HL := hide hl
  have HN := hide hn
  have HTB := hide htab
  clear h3 hi hq hJ hl hn hz0 htab
  go_enter Tryz.func55, Tryz.ntmps55
  go_wp2_with fail
  go_loopw [3, 8] (fun vo vi wr => ∃ (i : Nat), vi = .int .i64 (i : Int) ∧ i ≤ n ∧ TsAt w wr w.heap.size vo (txts (qs.take i))) (fun _ vi _ => n - (intOf vi).toNat)
  case atStart => exact ⟨0, rfl, Nat.zero_le _, TsAt.start w⟩
  case round =>
    obtain ⟨i, rfl, hi, T⟩ := hrel
    have hnn := unhide HN
    by_cases hlt : i < n
    · obtain ⟨b, o, rfl, hblt, hcs⟩ := unhide H3 (by omega)
      obtain ⟨s, a1, a2, n1, c1, n2, c2, k0, k1, k2, kx⟩ := hcs i hlt
      rw [← T.bl.cell (p := ⟨b, o + i * 3, none⟩) hblt] at k0
      rw [← T.bl.cell (p := ⟨b, o + i * 3 + 1, none⟩) hblt] at k1
      rw [← T.bl.cell (p := ⟨b, o + i * 3 + 2, none⟩) hblt] at k2
      have HF := hide (textR_any (.agg #[.bool s, .slice a1 n1 c1, .slice a2 n2 c2]) qs[i]! (wr.alloc (.cells #[.bool s, .slice a1 n1 c1, .slice a2 n2 c2] 37)) ((kx.below T.bl).below (abelow _ _)) J (unhide HQ i (by omega)) (Nat.le_trans (unhide HJ) (by decide)) (tab_below (unhide HTB) (bstep T.bl (abelow _ _))))
      have HT1 := hide (T.keep (abelow wr (.cells #[.bool s, .slice a1 n1 c1, .slice a2 n2 c2] 37)))
      clear kx
      have hi0 : (0 : Int) ≤ (i : Int) := by omega
      have hi1 : (i : Int) < (n : Int) := by omega
      obtain ⟨tx, htx⟩ : ∃ t, qtext qs[i]! = t := ⟨_, rfl⟩
      have HTX := hide htx
      rw [htx] at HF
      obtain ⟨ts, hts⟩ : ∃ t, txts (qs.take i) = t := ⟨_, rfl⟩
      have hlen : ts.length = i := by rw [← hts]; exact txts_len (by omega)
      have HLE := hide hlen
      have HTS := hide hts
      rw [hts] at HT1
      clear T hcs htx hlen hts hnn
      go_wp2_with fail
      refine (unhide HF).mono ?_
      rintro e w2 ⟨rfl, hb2⟩
      have T2 := ((unhide HT1).keep hb2).keep (abelow w2 (.cells #[.string ⟨tx.toArray⟩] 9))
      have hlen16 : (ts.length + 1) * 16 ≤ 140737488355328 := by have := unhide HLE; have := unhide HL; omega
      have hlen63 : ts.length + 1 ≤ maxLen := by have := unhide HLE; have := unhide HL; unfold maxLen; omega
      have HT2 := hide T2
      have HBA := hide T2.bl.size
      have HL16 := hide hlen16
      have HL63 := hide hlen63
      clear T2 hlen16 hlen63 hb2 HT1 HF
      go_wp2_with (at_builtin; go_loud (refine wpList_append_lies _ rfl _ _ _ rfl w.heap.size 9 ti (.string ⟨#[]⟩) 1 16 Tryz.underlying99 (unhide HI) (unhide HZ) hz1 hz2 rfl (by decide) _ ts.length (strs ts) rfl (unhide HT2).own ⟨w2.heap.size, 0, none⟩ 1 1 [.string ⟨tx.toArray⟩] rfl rfl (news_str w2 _ _) (one_str _) (by decide) (unhide HL63) (unhide HL16) (unhide HBA) (w2.heap.size + 1) (bsize _ _) ?_; intro g cap w4 hown4 hgrow hat hlt4))
      have FIN : Hid (TsAt w w4 w.heap.size (.slice (some ⟨g, 0, none⟩) (ts.length + 1) cap) (txts (qs.take (i + 1)))) := by
        have := (unhide HT2).push hown4 hgrow (unhide HBA)
        show TsAt _ _ _ _ _
        rw [txts_take (by rw [unhide HN]; exact hlt), unhide HTS, unhide HTX]
        exact this
      clear hown4 hgrow hat hlt4 HT2
      go_wp2_with fail
      exact ⟨⟨i + 1, by go_num, hlt, unhide FIN⟩, by simp [intOf]; omega⟩
    · obtain rfl : i = n := by omega
      have e : qs.take i = qs := List.take_of_length_le (by omega)
      rw [e] at T
      have HB := hide T.bl
      have HR := hide (srow_of T.own)
      clear T H3 e hnn
      go_wp2
      (try simp only [Exit.inBlock, Exit.then])
      exact bodyPost_ret (v := u3) (by simp [results, Tryz.results55, go_sem]) rfl ⟨_, rfl, unhide HR, unhide HB⟩
set_option maxHeartbeats 8000000 in
set_option maxRecDepth 100000 in
set_option linter.unusedSimpArgs false in
theorem same_any (v u : Value) (ts : List (List UInt8)) (w : World) (h : SRow w v ts) (h' : SRow w u ts) (hl : ts.length ≤ 1000000) :
    Calls Tryz.prog 54 #[v, u] w fun e w' => e = .returned (.bool true) ∧ Below w.heap.size w w' := by
  obtain ⟨a, c, rfl, h1, h2, h3⟩ := h
  obtain ⟨a', c', rfl, h1', h2', h3'⟩ := h'
  obtain ⟨n, hn⟩ : ∃ n, ts.length = n := ⟨_, rfl⟩
  rw [hn] at h1 h3 h1' h3' hl ⊢
  have H3 := hide h3
  have H3' := hide h3'
  have HL := hide hl
  have e0 : ((n : Int) != (n : Int)) = false := by simp
  clear h3 h3' hn hl
  go_enter Tryz.func54, Tryz.ntmps54
  go_wp2_with fail
  go_loopw [5] (fun vi wr => ∃ (i k : Nat), vi = .int .i64 (i : Int) ∧ i ≤ n ∧ wr = w.drewN k) (fun vi _ => n - (intOf vi).toNat)
  case atStart => exact ⟨0, 0, rfl, Nat.zero_le _, rfl⟩
  case round =>
    obtain ⟨i, k, rfl, hi, hw⟩ := hrel
    subst hw
    by_cases hlt : i < n
    · obtain ⟨b, o, rfl, hblt, hcs⟩ := unhide H3 (by omega)
      obtain ⟨b', o', rfl, hblt', hcs'⟩ := unhide H3' (by omega)
      have k0 := hcs i hlt
      have k1 := hcs' i hlt
      obtain ⟨s, hs⟩ : ∃ s : ByteArray, ⟨(ts[i]!).toArray⟩ = s := ⟨_, rfl⟩
      rw [hs] at k0 k1
      have hi0 : (0 : Int) ≤ (i : Int) := by omega
      have hi1 : (i : Int) < (n : Int) := by omega
      have f3 : IntKind.i64.wrap ((i : Int) + 1) = (i : Int) + 1 := by have := unhide HL; rw [IntKind.wrap_i64]; omega
      clear hcs hcs' hs
      go_wp2_with fail
      go_quiet (fail)
      go_wp2_with fail
      exact ⟨⟨i + 1, k + nq, by go_num, hlt, by first | rfl | trivial | simp⟩, by simp [intOf]; omega⟩
    · obtain rfl : i = n := by omega
      have f1 : ¬ (i : Int) < (i : Int) := by omega
      go_wp2
      (try simp only [Exit.inBlock, Exit.then])
      (try go_wp2)
      go_ret
      exact ⟨rfl, bdrew w k⟩
set_option maxHeartbeats 8000000 in
set_option maxRecDepth 100000 in
set_option linter.unusedSimpArgs false in
theorem list_ok (v u : Value) (qs : List Rat) (J : Nat) (w : World) (h : LawIs w v qs) (h' : RList w u qs) (hq : ∀ j, j < qs.length → RS qs[j]! J) (hJ : J ≤ 200000) (hl : qs.length ≤ 1000000) (htab : Tab w) :
    Calls Tryz.prog 19 #[v, .nilIface, u, .int .i64 0] w fun e w' => e = .returned (.bool true) ∧ Below w.heap.size w w' := by
  have HP := hide (ptexts_any v qs J w h hq hJ hl htab)
  have HR : Hid (∀ W, Below w.heap.size w W → Calls Tryz.prog 56 #[u] W fun e w' => ∃ v, e = .returned v ∧ SRow w' v (txts qs) ∧ Below W.heap.size W w') := fun W hW => refTexts_any u qs J W (h'.below hW) hq hJ hl
  have HL : Hid ((txts qs).length ≤ 1000000) := by show _ ≤ _; rw [txts_length]; exact hl
  clear h h' hq hJ hl htab
  go_enter Tryz.func19, Tryz.ntmps19
  go_wp2_with fail
  refine (unhide HP).mono ?_
  rintro e w1 ⟨v1, rfl, hv1, hb1⟩
  have HV1 := hide hv1
  have HB1 := hide hb1
  have HR1 := hide (unhide HR _ hb1)
  clear hv1 hb1 HP HR
  go_wp2_with fail
  refine (unhide HR1).mono ?_
  rintro e w2 ⟨v2, rfl, hv2, hb2⟩
  have HS := hide (same_any v1 v2 (txts qs) w2 ((unhide HV1).below hb2) hv2 (unhide HL))
  have HB2 := hide (bstep (unhide HB1) hb2)
  clear hv2 hb2 HR1
  go_wp2_with fail
  refine (unhide HS).mono ?_
  rintro e w3 ⟨rfl, hb3⟩
  have HB3 := hide (bstep (unhide HB2) hb3)
  clear hb3 HS
  go_wp2
  go_ret
  exact ⟨rfl, unhide HB3⟩
set_option maxHeartbeats 8000000 in
set_option maxRecDepth 100000 in
set_option linter.unusedSimpArgs false in
theorem list_err (a : Option Addr) (c : Nat) (u : Value) (k : Int) (hk : k ≠ 0) (w : World) (hg : ErrTy w) :
    Calls Tryz.prog 19 #[.slice a 0 c, .iface 27 (.int .i64 k), u, .int .i64 k] w fun e w' => e = .returned (.bool true) ∧ Below w.heap.size w w' := by
  have HT := hide (tell_errno k w hg)
  have kz : (k != 0) = true := by simpa using hk
  clear hg hk
  go_enter Tryz.func19, Tryz.ntmps19
  go_wp2_with fail
  refine (unhide HT).mono ?_
  rintro e w1 ⟨rfl, hb⟩
  go_wp2
  go_ret
  exact ⟨rfl, hb⟩
end Go.Proofs.YtcelbgleajpenaaGreatDoor
/- Shares and Trim, the program's and the document's. -/
namespace Go.Proofs.YtcelbgleajpenaaGreatDoor
open Go.RowKit Go.Sort Go.Shelf

theorem list_of {α : Type} [Inhabited α] {P : Nat → α → Prop} : ∀ {n : Nat}, (∀ j, j < n → ∃ x, P j x) → ∃ l : List α, l.length = n ∧ ∀ j, j < n → P j l[j]!
  | 0, _ => ⟨[], rfl, fun j hj => absurd hj (Nat.not_lt_zero _)⟩
  | n + 1, h => by
    obtain ⟨l, hl, hp⟩ := list_of (n := n) (fun j hj => h j (by omega))
    obtain ⟨x, hx⟩ := h n (by omega)
    refine ⟨l ++ [x], by simp [hl], fun j hj => ?_⟩
    by_cases e : j < n
    · have : (l ++ [x])[j]! = l[j]! := by rw [List.getElem!_eq_getElem?_getD, List.getElem!_eq_getElem?_getD, List.getElem?_append_left (by omega)]
      rw [this]; exact hp j e
    · have e : j = l.length := by omega
      subst e
      have : (l ++ [x])[l.length]! = x := by rw [List.getElem!_eq_getElem?_getD, List.getElem?_append_right (Nat.le_refl _), Nat.sub_self]; rfl
      rw [this, hl]; exact hx
theorem addr_plus (b o j : Nat) : (⟨b, o, none⟩ : Addr).add j = ⟨b, o + j, none⟩ := by
  by_cases hj : j = 0
  · subst hj; simp [Addr.add]
  · simp [Addr.add, hj]
theorem run_copy_three {P : Program} (w : World) (dT sT ty elem : TypeId) (g n dCap : Nat) (a : Addr) (sCap : Nat) (cur : Array Value) (t : TypeId) (cs : List Value)
    (hu : P.underlying dT = some (.slice elem)) (hs : (P.info? elem).map (·.size) = some 3) (hg : w.heap[g]? = some (.cells cur t (0, 0))) (hn : cs.length = n * 3)
    (hsrc : ∀ j v, cs[j]? = some v → w.cell? (a.add j) = some v) (hfit : cs.length ≤ cur.size) (h1 : ∀ v ∈ cs, v.oneCell' = true) :
    (Builtin.copy_ #[dT, sT] ty #[.slice (some ⟨g, 0, none⟩) n dCap, .slice (some a) n sCap]).run P w = .ok (goInt n) (w.setRow g (cs ++ cur.toList.drop cs.length).toArray) := by
  have hl := run_loadCells_list (P := P) w a cs hsrc
  have hst := run_storeCells_at P g 0 t cs 0 cur w hg (by simpa using hfit) h1
  rw [hn] at hl
  cases hq : P.info? elem with
  | none => simp [hq] at hs
  | some i =>
    have hi : i.size = 3 := by simpa [hq] using hs
    simp [Builtin.copy_, run_underlying hu, Builtin.lenOf, Builtin.firstCells, sizeOf, typeInfo, hq, hi, hl, hst]
theorem Tryz.size3 : (Tryz.prog.info? 37).map (·.size) = some 3 := by kernel_rfl
theorem setRow_grown (w : World) (g : Nat) (cs : Array Value) : w.grownBy (w.setRow g cs) (some g) :=
  ⟨rfl, rfl, rfl, by simp [World.setRow], fun k hk hne => setRow_other w g k cs (fun e => hne (by rw [e]))⟩
theorem tlen_pos' (qs : List Rat) : ∀ {n}, 0 < n → 0 < tlen qs n
  | 0, h => absurd h (by decide)
  | 1, _ => Nat.one_pos
  | n + 2, _ => by
    unfold tlen
    split
    · exact tlen_pos' qs (by omega)
    · omega
/-- A law copied into a new row. -/
theorem copy3_law {w W : World} {g n c : Nat} {a : Option Addr} {qs : List Rat} (own : SumsAt w W g (List.replicate n zTri) (List.replicate n 0)) (hn : 0 < n) (hc : n ≤ 1000000) (h : LawIs W (.slice a n c) qs) (hl : qs.length = n) :
    ∃ W', (Builtin.copy_ #[63, 63] 3 #[.slice (some ⟨g, 0, none⟩) n n, .slice a n c]).run Tryz.prog W = .ok (.int .i64 n) W' ∧ LawIs W' (.slice (some ⟨g, 0, none⟩) n n) qs ∧ Below w.heap.size w W' := by
  obtain ⟨a', c', e, h1, h2, h3⟩ := h
  injection e with e1 e2 e3
  subst e1 e3
  obtain ⟨b, o, rfl, hlt, hcs⟩ := h3 (by omega)
  obtain ⟨us, hul, hus⟩ := list_of (α := Tri) (n := n) (P := fun j t => W.cell? ⟨b, o + j * 3, none⟩ = some (.bool t.s) ∧ W.cell? ⟨b, o + j * 3 + 1, none⟩ = some (.slice t.a1 t.n1 t.c1) ∧ W.cell? ⟨b, o + j * 3 + 2, none⟩ = some (.slice t.a2 t.n2 t.c2) ∧ RatIs W t.val qs[j]!) (fun j hj => by
    obtain ⟨s, a1, a2, n1, c1, n2, c2, k0, k1, k2, r⟩ := hcs j (by omega)
    exact ⟨⟨s, a1, a2, n1, c1, n2, c2⟩, k0, k1, k2, r⟩)
  have hlen : (tcells us).length = n * 3 := by rw [tcells_length, hul]
  have hsz : (tcells (List.replicate n zTri)).toArray.size = n * 3 := by simp [tcells_length]
  have hr := run_copy_three (P := Tryz.prog) W 63 63 3 37 g n n ⟨b, o, none⟩ c _ _ (tcells us) Tryz.underlying63 Tryz.size3 own.row hlen
    (fun j v hv => by
      have hj : j < n * 3 := by
        rcases Nat.lt_or_ge j (n * 3) with h | h
        · exact h
        · rw [List.getElem?_eq_none (by rw [hlen]; exact h)] at hv; cases hv
      obtain ⟨q, r, rfl, hr3⟩ : ∃ q r, j = q * 3 + r ∧ r < 3 := ⟨j / 3, j % 3, by omega, by omega⟩
      rw [tcells_get us q r (by omega) hr3] at hv
      obtain ⟨k0, k1, k2, _⟩ := hus q (by omega)
      have ea : ((⟨b, o, none⟩ : Addr).add (q * 3 + r)) = ⟨b, o + q * 3 + r, none⟩ := by rw [addr_plus, Nat.add_assoc]
      rw [ea]
      match r, hr3 with
      | 0, _ => rw [Nat.add_zero, k0]; exact hv
      | 1, _ => rw [k1]; exact hv
      | 2, _ => rw [k2]; exact hv)
    (by rw [hlen, hsz]; exact Nat.le_refl _)
    (fun v hv => by
      obtain ⟨t, _, ht⟩ := List.mem_flatMap.1 hv
      exact tri_one t v ht)
  have hd : ((tcells (List.replicate n zTri)).toArray.toList.drop (tcells us).length) = [] := List.drop_eq_nil_of_le (by rw [hlen]; simp [tcells_length])
  rw [hd, List.append_nil] at hr
  have hb := below_setRow own.bl own.gl (tcells us).toArray
  have hno : ∀ k, (some g : Option Nat) = some k → Wordless W k := fun k e => by
    obtain rfl := Option.some.inj e
    exact sums_wordless own
  have S : SumsAt w (W.setRow g (tcells us).toArray) g us qs := ⟨setRow_heap _ _ _ _ _ _ own.row, by omega, fun j hj => (hus j (by omega)).2.2.2.far (setRow_grown W g _) hno, hb, own.gl⟩
  have L := S.law (by omega)
  rw [hul] at L
  exact ⟨_, hr, L, hb⟩
set_option maxHeartbeats 8000000 in
set_option maxRecDepth 100000 in
set_option linter.unusedSimpArgs false in
theorem trim_any (v : Value) (qs : List Rat) (w : World) (h : LawIs w v qs) (hp : 0 < qs.length) (hc : qs.length ≤ 1000) :
    Calls Tryz.prog 112 #[v] w fun e w' => ∃ v, e = .returned v ∧ LawIs w' v (qs.take (tlen qs qs.length)) ∧ Below w.heap.size w w' := by
  have h' := h
  obtain ⟨a, c, rfl, -⟩ := h'
  obtain ⟨m, hm⟩ : ∃ m, tlen qs qs.length = m := ⟨_, rfl⟩
  have hml : m ≤ qs.length := by rw [← hm]; exact tlen_le qs _
  have hm0 : 0 < m := by rw [← hm]; exact tlen_pos' qs hp
  have HT := hide (trimmedL_any a c qs w h hp)
  rw [hm] at HT ⊢
  have HL := hide (h.take m hml)
  have htl : (qs.take m).length = m := by rw [List.length_take]; omega
  have HTL := hide htl
  have HM := hide (And.intro hm0 (show m ≤ 1000 by omega))
  clear h hp hc hm hml hm0 htl
  go_enter Tryz.func112, Tryz.ntmps112
  go_wp2_with fail
  refine (unhide HT).mono ?_
  rintro e w1 ⟨rfl, hb1⟩
  have qmk := make_tri (m : Int) (by omega) (by have := (unhide HM).2; omega) w1
  have S0 := SumsAt.start w w1 m hb1
  have bA := abelow w1 (.cells (tcells (List.replicate m zTri)).toArray 37)
  have e1 : (m : Int).toNat = m := by omega
  rw [e1] at qmk
  obtain ⟨W2, hW2⟩ : ∃ W, w1.alloc (.cells (tcells (List.replicate m zTri)).toArray 37) = W := ⟨_, rfl⟩
  obtain ⟨g, hg⟩ : ∃ g, w1.heap.size = g := ⟨_, rfl⟩
  rw [hW2, hg] at qmk S0
  rw [hW2] at bA
  obtain ⟨W3, qcp, hL3, hB3⟩ := copy3_law S0 (unhide HM).1 (by have := (unhide HM).2; omega) (((unhide HL).below hb1).below bA) (unhide HTL)
  have HL3 := hide hL3
  have HB3 := hide hB3
  clear hb1 S0 bA hW2 hg hL3 hB3 e1 HT
  go_wp2
  (try go_ret)
  exact ⟨_, rfl, unhide HL3, unhide HB3⟩
end Go.Proofs.YtcelbgleajpenaaGreatDoor
/- The document's Trim. -/
namespace Go.Proofs.YtcelbgleajpenaaGreatDoor
open Go.RowKit Go.Sort Go.Shelf

theorem sign_zero {x : Int} : (x.sign == 0) = decide (x = 0) := by
  by_cases h : x = 0
  · subst h; rfl
  · rw [decide_eq_false h, beq_eq_false_iff_ne]
    exact fun e => h (Int.sign_eq_zero_iff_zero.1 e)
theorem tlen_step (qs : List Rat) {n : Nat} (h : 1 < n) : tlen qs n = if qs[n - 1]!.num = 0 then tlen qs (n - 1) else n := by
  obtain ⟨m, rfl⟩ : ∃ m, n = m + 2 := ⟨n - 2, by omega⟩
  rw [tlen]; rfl
theorem ptrs_one (gs : List Nat) : ∀ u ∈ ptrs gs, u.oneCell' = true := by
  intro u hu
  obtain ⟨g, _, rfl⟩ := List.mem_map.1 hu
  rfl
theorem ptrs_are (gs : List Nat) : ∀ u ∈ ptrs gs, isPtr u := by
  intro u hu
  obtain ⟨g, _, rfl⟩ := List.mem_map.1 hu
  trivial
set_option maxHeartbeats 8000000 in
set_option maxRecDepth 100000 in
set_option linter.unusedSimpArgs false in
theorem refTrim_any (v : Value) (qs : List Rat) (w : World) (h : RList w v qs) (hp : 0 < qs.length) (hc : qs.length ≤ 1000) :
    Calls Tryz.prog 73 #[v] w fun e w' => ∃ v, e = .returned v ∧ RList w' v (qs.take (tlen qs qs.length)) ∧ Below w.heap.size w w' := by
  obtain ⟨a, c, rfl, h1, h2, h3⟩ := h
  obtain ⟨b, o, rfl, hblt, hcs⟩ := h3 hp
  obtain ⟨n, hn⟩ : ∃ n, qs.length = n := ⟨_, rfl⟩
  rw [hn] at h1 hcs hp hc ⊢
  obtain ⟨gs, hgl, hgs⟩ := list_of (α := Nat) (n := n) hcs
  obtain ⟨ti, hi, hz0, hz1, hz2⟩ := info_parts Tryz.infoP
  have own1 : (w.alloc (.cells #[] 31)).ownsRow w.heap.size 31 1 (.slice (some ⟨w.heap.size, 0, none⟩) 0 0) 0 [] := World.ownsRow_made w #[] 0 (Nat.le_refl _) (by unfold maxLen; decide) rfl
  have bA := abelow w (.cells #[] 31)
  have no1 : ∀ g, (Value.slice (some ⟨w.heap.size, 0, none⟩) 0 0).ownBlock = some g → Ptrly (w.alloc (.cells #[] 31)) g := fun g e => by
    obtain rfl : w.heap.size = g := Option.some.inj e
    exact ptrly_of (heap_alloc_new w _) (fun u hu => by simp at hu)
  have nw : ∀ j u, (ptrs gs)[j]? = some u → (w.alloc (.cells #[] 31)).cell? ((⟨b, o, none⟩ : Addr).add j) = some u := fun j u hu => by
    have hj : j < n := by
      rcases Nat.lt_or_ge j n with h | h
      · exact h
      · rw [List.getElem?_eq_none (by rw [ptrs_length, hgl]; exact h)] at hu; cases hu
    have hk := (hgs j hj).1
    rw [← bA.cell (p := ⟨b, o + j, none⟩) hblt] at hk
    have e : u = .pointer (some ⟨gs[j]!, 0, none⟩) := by
      simp [ptrs, show j < gs.length by omega] at hu
      rw [← hu]
      simp [show j < gs.length by omega]
    rw [e]
    by_cases hj0 : j = 0
    · subst hj0; simpa [Addr.add] using hk
    · simpa [Addr.add, hj0] using hk
  have rat1 : ∀ j, j < gs.length → BRz (w.alloc (.cells #[] 31)) gs[j]! 0 qs[j]! := fun j hj => (hgs j (by omega)).2.below bA
  have HI := hide hi
  have HZ := hide hz0
  have HOWN := hide own1
  have HNO := hide no1
  have HNW := hide nw
  have HRA := hide rat1
  have HBA := hide bA
  have HGL := hide hgl
  have HN := hide hn
  have HP := hide hp
  have HC := hide hc
  have HBS : Hid (w.heap.size ≤ (w.alloc (.cells #[] 31)).heap.size) := bA.size
  have HL63 : Hid (0 + n ≤ maxLen) := by show _ ≤ _; unfold maxLen; omega
  have HL8 : Hid ((0 + n) * 8 ≤ 140737488355328) := by show _ ≤ _; omega
  have HPL : Hid ((ptrs gs).length = n * 1) := by show _ = _; rw [ptrs_length, hgl, Nat.mul_one]
  clear h1 h2 h3 hcs hgs hi hz0 own1 no1 nw rat1 bA hgl hn hp hc hblt
  go_enter Tryz.func73, Tryz.ntmps73
  go_wp2_with (at_builtin; go_loud (refine wpList_append_ptr _ rfl _ _ _ rfl w.heap.size 31 ti 8 Tryz.underlying29 (unhide HI) (unhide HZ) hz1 hz2 _ 0 [] rfl (unhide HOWN) (unhide HNO) ⟨b, o, none⟩ n c (ptrs gs) rfl (unhide HPL) (unhide HNW) (ptrs_one gs) (ptrs_are gs) (unhide HP) (unhide HL63) (unhide HL8) (unhide HBS) _ rfl ?_; intro g cap w4 hown4 hgrow hat hlt4 hno4))
  rw [List.nil_append, Nat.zero_add] at hown4
  have hR : RList w4 (.slice (some ⟨g, 0, none⟩) n cap) qs := by
    have hgl := unhide HGL
    rw [← hgl] at hown4 ⊢
    exact rlist_of hown4 (by rw [hgl, unhide HN]) (fun j hj => (unhide HRA j hj).far hgrow (unhide HNO))
  have hB4 : Below w.heap.size w w4 := Below.grown (unhide HBA) hgrow (unhide HBS) (fun k hk => by
    obtain rfl : w.heap.size = k := Option.some.inj hk
    exact Nat.le_refl _)
  have HR := hide hR
  have HB4 := hide hB4
  obtain ⟨a', c', e9, r1, r2, r3⟩ := hR
  injection e9 with e91 e92 e93
  subst e91 e93
  obtain ⟨b9, o9, e94, rlt, rcs⟩ := r3 (by rw [unhide HN]; exact unhide HP)
  injection e94 with e94
  injection e94 with e95 e96
  subst e95 e96
  have HRC := hide rcs
  have hnc : n ≤ cap := by rw [unhide HN] at r1; exact r1
  have HNC := hide hnc
  have HCP := hide r2
  clear hown4 hgrow hat hno4 hB4 r1 r2 r3 rcs hnc e92
  (try simp only [Nat.zero_add])
  go_wp2_with fail
  go_loopw [0] (fun v wr => ∃ (m : Nat), v = .slice (some ⟨g, 0, none⟩) m cap ∧ 0 < m ∧ m ≤ n ∧ tlen qs m = tlen qs n ∧ wr = w4) (fun v _ => match v with | .slice _ m _ => m | _ => 0)
  case atStart => exact ⟨n, rfl, unhide HP, Nat.le_refl _, rfl, rfl⟩
  case round =>
    obtain ⟨m, rfl, hm0, hmn, htl, hw⟩ := hrel
    subst hw
    have hnc := unhide HNC
    have hC := unhide HC
    by_cases hm1 : m = 1
    · subst hm1
      have HTL : Hid (tlen qs n = 1) := by show _ = _; rw [← htl]; rfl
      have HRT := hide ((show RList wr (.slice (some ⟨g, 0, none⟩) qs.length cap) qs by rw [unhide HN]; exact unhide HR).take (n := 1) (by rw [unhide HN]; exact hmn))
      clear htl hm0 hmn hnc hC
      go_wp2
      (try simp only [Exit.inBlock, Exit.then])
      (try go_wp2)
      go_ret
      exact ⟨_, rfl, by rw [unhide HTL]; exact unhide HRT, unhide HB4⟩
    · have hm2 : 1 < m := by omega
      have hd : decide ((1 : Int) < (m : Int)) = true := decide_eq_true (by omega)
      obtain ⟨x, k0, kx⟩ := unhide HRC (m - 1) (by rw [unhide HN]; omega)
      rw [Nat.zero_add] at k0
      have HSG := hide (signz_any x 0 qs[m - 1]! wr kx)
      have etl := tlen_step qs hm2
      have esz := sign_zero (x := qs[m - 1]!.num)
      obtain ⟨z, hz⟩ : ∃ z, qs[m - 1]!.num.sign = z := ⟨_, rfl⟩
      rw [hz] at HSG esz
      obtain ⟨m1, hm1'⟩ : ∃ m1, m - 1 = m1 := ⟨_, rfl⟩
      rw [hm1'] at k0 etl esz
      have f1 : IntKind.i64.wrap ((m : Int) - 1) = (m1 : Int) := by rw [IntKind.wrap_i64]; omega
      have f2 : (0 : Int) ≤ (m1 : Int) := by omega
      have f3 : (m1 : Int) < (m : Int) := by omega
      have f4 : (m1 : Int) ≤ (cap : Int) := by omega
      have HM : Hid (0 < m1 ∧ m1 ≤ n ∧ m1 < m) := ⟨by omega, by omega, by omega⟩
      by_cases hq0 : qs[m1]!.num = 0
      · rw [if_pos hq0] at etl
        rw [decide_eq_true hq0] at esz
        have HTL : Hid (tlen qs m1 = tlen qs n) := by show _ = _; rw [← etl]; exact htl
        clear kx etl htl hz hq0 hm1' hm1 hm0 hmn hnc hC
        go_wp2_with fail
        refine (unhide HSG).mono ?_
        rintro e w5 ⟨rfl, hw⟩
        have hw := hw.symm
        subst hw
        clear HSG
        go_wp2_with fail
        exact ⟨⟨m1, rfl, (unhide HM).1, (unhide HM).2.1, unhide HTL, by first | rfl | trivial⟩, (unhide HM).2.2⟩
      · rw [if_neg hq0] at etl
        rw [decide_eq_false hq0] at esz
        have HTL : Hid (tlen qs n = m) := by show _ = _; rw [← htl, etl]
        have HRT := hide ((show RList wr (.slice (some ⟨g, 0, none⟩) qs.length cap) qs by rw [unhide HN]; exact unhide HR).take (n := m) (by rw [unhide HN]; exact hmn))
        clear kx etl htl hz hq0 hm1' hm1 hm0 hmn hnc hC
        go_wp2_with fail
        refine (unhide HSG).mono ?_
        rintro e w5 ⟨rfl, hw⟩
        have hw := hw.symm
        subst hw
        clear HSG
        go_wp2
        (try simp only [Exit.inBlock, Exit.then])
        (try go_wp2)
        go_ret
        exact ⟨_, rfl, by rw [unhide HTL]; exact unhide HRT, unhide HB4⟩
end Go.Proofs.YtcelbgleajpenaaGreatDoor
