/- Rows of texts: plain.Texts, the document's Texts; what the laws ask of a row. -/
import Derived.Test.YtcelbgleajpenaaGreatDoorBI
namespace Go.Proofs.YtcelbgleajpenaaGreatDoor
open Go.RowKit Go.Sort Go.Shelf

def strs (ts : List (List UInt8)) : List Value := ts.map fun t => .string ⟨t.toArray⟩
theorem strs_append (ts : List (List UInt8)) (t : List UInt8) : strs (ts ++ [t]) = strs ts ++ [.string ⟨t.toArray⟩] := by simp [strs]
theorem Tryz.infoS : (Tryz.prog.info? 9).map (fun i => (i.zero, i.size, i.bytes)) = some (some (.string ⟨#[]⟩), 1, 16) := by kernel_rfl
theorem ownsS_kept {w w' : World} {B : Nat} {v : Value} {n : Nat} {xs : List Value} (h : w.ownsRow B 9 1 v n xs) (hk : ∀ k o, B ≤ k → w.heap[k]? = some o → w'.heap[k]? = some o) : w'.ownsRow B 9 1 v n xs := by
  obtain ⟨h1, h2 | ⟨g, cap, cur, e, hb, hh, hr⟩⟩ := h
  · exact ⟨h1, .inl h2⟩
  · exact ⟨h1, .inr ⟨g, cap, cur, e, hb, hk g _ hb hh, hr⟩⟩
theorem ownsS_block {w : World} {B : Nat} {v : Value} {n : Nat} {xs : List Value} (h : w.ownsRow B 9 1 v n xs) : ∀ k, v.ownBlock = some k → B ≤ k ∧ k < w.heap.size := by
  intro k hk
  obtain ⟨h1, ⟨rfl, _⟩ | ⟨g, cap, cur, rfl, hb, hh, hr⟩⟩ := h
  · cases hk
  · have : g = k := Option.some.inj hk
    subst this
    exact ⟨hb, (Array.getElem?_eq_some_iff.1 hh).1⟩
/-- A row of texts, of the call's own. -/
structure TsAt (w wr : World) (B : Nat) (v : Value) (ts : List (List UInt8)) : Prop where
  own : wr.ownsRow B 9 1 v ts.length (strs ts)
  bl : Below w.heap.size w wr
  base : w.heap.size ≤ B
theorem TsAt.keep {w wr w' : World} {B : Nat} {v : Value} {ts : List (List UInt8)} (h : TsAt w wr B v ts) (hb : Below wr.heap.size wr w') : TsAt w w' B v ts := by
  refine ⟨ownsS_kept h.own fun k o _ ho => ?_, bstep h.bl hb, h.base⟩
  rw [hb.block k (Array.getElem?_eq_some_iff.1 ho).1]; exact ho
theorem TsAt.push {w wr w' : World} {B g cap : Nat} {v : Value} {ts : List (List UInt8)} {t : List UInt8} (h : TsAt w wr B v ts)
    (own : w'.ownsRow B 9 1 (.slice (some ⟨g, 0, none⟩) (ts.length + 1) cap) (ts.length + 1) (strs ts ++ [.string ⟨t.toArray⟩])) (hg : wr.grownBy w' v.ownBlock) (hB : B ≤ wr.heap.size) :
    TsAt w w' B (.slice (some ⟨g, 0, none⟩) (ts.length + 1) cap) (ts ++ [t]) :=
  ⟨by rw [strs_append, List.length_append]; exact own, Below.grown h.bl hg (Nat.le_trans h.base hB) (fun k hk => Nat.le_trans h.base (ownsS_block h.own k hk).1), h.base⟩
theorem TsAt.start (w : World) : TsAt w w w.heap.size (.slice none 0 0) [] := ⟨World.ownsRow_nil _ _ _ _, Below.refl _ _, Nat.le_refl _⟩
/-- A row of texts, as it is read. -/
def SRow (w : World) (v : Value) (ts : List (List UInt8)) : Prop := ∃ (a : Option Addr) (c : Nat), v = .slice a ts.length c ∧ ts.length ≤ c ∧ c ≤ 9223372036854775807 ∧ (0 < ts.length → ∃ b o, a = some ⟨b, o, none⟩ ∧ b < w.heap.size ∧ ∀ j, j < ts.length → w.cell? ⟨b, o + j, none⟩ = some (.string ⟨(ts[j]!).toArray⟩))
theorem SRow.below {w w' : World} {v : Value} {ts : List (List UInt8)} (h : SRow w v ts) (hb : Below w.heap.size w w') : SRow w' v ts := by
  obtain ⟨a, c, e, h1, h2, h3⟩ := h
  refine ⟨a, c, e, h1, h2, fun hp => ?_⟩
  obtain ⟨b, o, ea, hlt, hc⟩ := h3 hp
  exact ⟨b, o, ea, Nat.lt_of_lt_of_le hlt hb.size, fun j hj => by rw [hb.cell (p := ⟨b, o + j, none⟩) hlt]; exact hc j hj⟩
theorem srow_of {w : World} {B : Nat} {v : Value} {ts : List (List UInt8)} (h : w.ownsRow B 9 1 v ts.length (strs ts)) : SRow w v ts := by
  have h' := h
  obtain ⟨h1, ⟨rfl, h0⟩ | ⟨g, cap, cur, rfl, hb, hh, hnc, hcm, hcs, htake⟩⟩ := h'
  · exact ⟨none, 0, by rw [h0], by omega, by decide, fun hp => by omega⟩
  · refine ⟨some ⟨g, 0, none⟩, cap, rfl, hnc, hcm, fun _ => ⟨g, 0, rfl, (Array.getElem?_eq_some_iff.1 hh).1, fun j hj => ?_⟩⟩
    have hc := h.cells (g := g) rfl j (.string ⟨(ts[j]!).toArray⟩) (by simp [strs, hj])
    by_cases hj0 : j = 0
    · subst hj0; simpa [Addr.add] using hc
    · simpa [Addr.add, hj0] using hc
theorem news_str (w : World) (s : ByteArray) (T : TypeId) : ∀ j u, [Value.string s][j]? = some u → (w.alloc (.cells #[.string s] T)).cell? ((⟨w.heap.size, 0, none⟩ : Addr).add j) = some u :=
  World.news_of_block (cs := #[.string s]) (t := T) (fr := (0, 0)) (heap_alloc_new w _)
theorem one_str (s : ByteArray) : ∀ u ∈ [Value.string s], u.oneCell' = true := by
  intro u hu
  simp only [List.mem_singleton] at hu
  subst hu; rfl
def txts (qs : List Rat) : List (List UInt8) := qs.map qtext
theorem txts_length (qs : List Rat) : (txts qs).length = qs.length := by simp [txts]
theorem txts_take {qs : List Rat} {i : Nat} (h : i < qs.length) : txts (qs.take (i + 1)) = txts (qs.take i) ++ [qtext qs[i]!] := by
  unfold txts
  rw [List.take_add_one, List.map_append]
  congr 1
  simp [h]
theorem txts_len {qs : List Rat} {i : Nat} (h : i ≤ qs.length) : (txts (qs.take i)).length = i := by rw [txts_length, List.length_take]; omega
set_option maxHeartbeats 8000000 in
set_option maxRecDepth 100000 in
set_option linter.unusedSimpArgs false in
theorem refTexts_any (v : Value) (qs : List Rat) (J : Nat) (w : World) (h : RList w v qs) (hq : ∀ j, j < qs.length → RS qs[j]! J) (hJ : J ≤ 200000) (hl : qs.length ≤ 1000000) :
    Calls Tryz.prog 56 #[v] w fun e w' => ∃ v, e = .returned v ∧ SRow w' v (txts qs) ∧ Below w.heap.size w w' := by
  obtain ⟨a, c, rfl, h1, h2, h3⟩ := h
  obtain ⟨ti, hi, hz0, hz1, hz2⟩ := info_parts Tryz.infoS
  obtain ⟨n, hn⟩ : ∃ n, qs.length = n := ⟨_, rfl⟩
  rw [hn] at h1 h3 hl ⊢
  have H3 := hide h3
  have HI := hide hi
  have HZ := hide hz0
  have HQ := hide hq
  have HJ := hide hJ
  have HL := hide hl
  have HN := hide hn
  clear hz0
  clear h3 hi hq hJ hl hn
  go_enter Tryz.func56, Tryz.ntmps56
  go_wp2_with fail
  go_loopw [3, 8] (fun vo vi wr => ∃ (i : Nat), vi = .int .i64 (i : Int) ∧ i ≤ n ∧ TsAt w wr w.heap.size vo (txts (qs.take i))) (fun _ vi _ => n - (intOf vi).toNat)
  case atStart => exact ⟨0, rfl, Nat.zero_le _, TsAt.start w⟩
  case round =>
    obtain ⟨i, rfl, hi, T⟩ := hrel
    have hnn := unhide HN
    by_cases hlt : i < n
    · obtain ⟨b, o, rfl, hblt, hcs⟩ := unhide H3 (by omega)
      obtain ⟨x, k0, kx⟩ := hcs i hlt
      rw [← T.bl.cell (p := ⟨b, o + i, none⟩) hblt] at k0
      have HF := hide (refTextz_any x 0 J qs[i]! wr (kx.below T.bl) (unhide HQ i (by omega)) (unhide HJ))
      have HT1 := hide T
      clear kx
      have hi0 : (0 : Int) ≤ (i : Int) := by omega
      have hi1 : (i : Int) < (n : Int) := by omega
      obtain ⟨tx, htx⟩ : ∃ t, qtext qs[i]! = t := ⟨_, rfl⟩
      have HTX := hide htx
      rw [htx] at HF
      obtain ⟨ts, hts⟩ : ∃ t, txts (qs.take i) = t := ⟨_, rfl⟩
      have hlen : ts.length = i := by rw [← hts]; exact txts_len (by omega)
      have HLE := hide hlen
      have HTS := hide hts
      rw [hts] at HT1
      clear T hcs htx hlen hts hnn
      go_wp2_with fail
      refine (unhide HF).mono ?_
      rintro e w2 ⟨rfl, hb2⟩
      have T2 := ((unhide HT1).keep hb2).keep (abelow w2 (.cells #[.string ⟨tx.toArray⟩] 9))
      have hlen16 : (ts.length + 1) * 16 ≤ 140737488355328 := by have := unhide HLE; have := unhide HL; omega
      have hlen63 : ts.length + 1 ≤ maxLen := by have := unhide HLE; have := unhide HL; unfold maxLen; omega
      have HT2 := hide T2
      have HBA := hide T2.bl.size
      have HL16 := hide hlen16
      have HL63 := hide hlen63
      clear T2 hlen16 hlen63 hb2 HT1 HF
      go_wp2_with (at_builtin; go_loud (refine wpList_append_lies _ rfl _ _ _ rfl w.heap.size 9 ti (.string ⟨#[]⟩) 1 16 Tryz.underlying99 (unhide HI) (unhide HZ) hz1 hz2 rfl (by decide) _ ts.length (strs ts) rfl (unhide HT2).own ⟨w2.heap.size, 0, none⟩ 1 1 [.string ⟨tx.toArray⟩] rfl rfl (news_str w2 _ _) (one_str _) (by decide) (unhide HL63) (unhide HL16) (unhide HBA) (w2.heap.size + 1) (bsize _ _) ?_; intro g cap w4 hown4 hgrow hat hlt4))
      have FIN : Hid (TsAt w w4 w.heap.size (.slice (some ⟨g, 0, none⟩) (ts.length + 1) cap) (txts (qs.take (i + 1)))) := by
        have := (unhide HT2).push hown4 hgrow (unhide HBA)
        show TsAt _ _ _ _ _
        rw [txts_take (by rw [unhide HN]; exact hlt), unhide HTS, unhide HTX]
        exact this
      clear hown4 hgrow hat hlt4 HT2
      go_wp2_with fail
      exact ⟨⟨i + 1, by go_num, hlt, unhide FIN⟩, by simp [intOf]; omega⟩
    · obtain rfl : i = n := by omega
      have e : qs.take i = qs := List.take_of_length_le (by omega)
      rw [e] at T
      have HB := hide T.bl
      have HR := hide (srow_of T.own)
      clear T H3 e hnn
      go_wp2
      (try simp only [Exit.inBlock, Exit.then])
      exact bodyPost_ret (v := u3) (by simp [results, Tryz.results56, go_sem]) rfl ⟨_, rfl, unhide HR, unhide HB⟩
set_option maxHeartbeats 8000000 in
set_option maxRecDepth 100000 in
set_option linter.unusedSimpArgs false in
theorem ptexts_any (v : Value) (qs : List Rat) (J : Nat) (w : World) (h : LawIs w v qs) (hq : ∀ j, j < qs.length → RS qs[j]! J) (hJ : J ≤ 200000) (hl : qs.length ≤ 1000000) (htab : Tab w) :
    Calls Tryz.prog 55 #[v] w fun e w' => ∃ v, e = .returned v ∧ SRow w' v (txts qs) ∧ Below w.heap.size w w' := by
  obtain ⟨a, c, rfl, h1, h2, h3⟩ := h
  obtain ⟨ti, hi, hz0, hz1, hz2⟩ := info_parts Tryz.infoS
  obtain ⟨n, hn⟩ : ∃ n, qs.length = n := ⟨_, rfl⟩
  rw [hn] at h1 h3 hl ⊢
  have H3 := hide h3
  have HI := hide hi
  have HZ := hide hz0
  have HQ := hide hq
  have HJ := hide hJ
  have HL := hide hl
  have HN := hide hn
  have HTB := hide htab
  clear h3 hi hq hJ hl hn hz0 htab
  go_enter Tryz.func55, Tryz.ntmps55
  go_wp2_with fail
  go_loopw [3, 8] (fun vo vi wr => ∃ (i : Nat), vi = .int .i64 (i : Int) ∧ i ≤ n ∧ TsAt w wr w.heap.size vo (txts (qs.take i))) (fun _ vi _ => n - (intOf vi).toNat)
  case atStart => exact ⟨0, rfl, Nat.zero_le _, TsAt.start w⟩
  case round =>
    obtain ⟨i, rfl, hi, T⟩ := hrel
    have hnn := unhide HN
    by_cases hlt : i < n
    · obtain ⟨b, o, rfl, hblt, hcs⟩ := unhide H3 (by omega)
      obtain ⟨s, a1, a2, n1, c1, n2, c2, k0, k1, k2, kx⟩ := hcs i hlt
      rw [← T.bl.cell (p := ⟨b, o + i * 3, none⟩) hblt] at k0
      rw [← T.bl.cell (p := ⟨b, o + i * 3 + 1, none⟩) hblt] at k1
      rw [← T.bl.cell (p := ⟨b, o + i * 3 + 2, none⟩) hblt] at k2
      have HF := hide (textR_any (.agg #[.bool s, .slice a1 n1 c1, .slice a2 n2 c2]) qs[i]! (wr.alloc (.cells #[.bool s, .slice a1 n1 c1, .slice a2 n2 c2] 37)) ((kx.below T.bl).below (abelow _ _)) J (unhide HQ i (by omega)) (Nat.le_trans (unhide HJ) (by decide)) (tab_below (unhide HTB) (bstep T.bl (abelow _ _))))
      have HT1 := hide (T.keep (abelow wr (.cells #[.bool s, .slice a1 n1 c1, .slice a2 n2 c2] 37)))
      clear kx
      have hi0 : (0 : Int) ≤ (i : Int) := by omega
      have hi1 : (i : Int) < (n : Int) := by omega
      obtain ⟨tx, htx⟩ : ∃ t, qtext qs[i]! = t := ⟨_, rfl⟩
      have HTX := hide htx
      rw [htx] at HF
      obtain ⟨ts, hts⟩ : ∃ t, txts (qs.take i) = t := ⟨_, rfl⟩
      have hlen : ts.length = i := by rw [← hts]; exact txts_len (by omega)
      have HLE := hide hlen
      have HTS := hide hts
      rw [hts] at HT1
      clear T hcs htx hlen hts hnn
      go_wp2_with fail
      refine (unhide HF).mono ?_
      rintro e w2 ⟨rfl, hb2⟩
      have T2 := ((unhide HT1).keep hb2).keep (abelow w2 (.cells #[.string ⟨tx.toArray⟩] 9))
      have hlen16 : (ts.length + 1) * 16 ≤ 140737488355328 := by have := unhide HLE; have := unhide HL; omega
      have hlen63 : ts.length + 1 ≤ maxLen := by have := unhide HLE; have := unhide HL; unfold maxLen; omega
      have HT2 := hide T2
      have HBA := hide T2.bl.size
      have HL16 := hide hlen16
      have HL63 := hide hlen63
      clear T2 hlen16 hlen63 hb2 HT1 HF
      go_wp2_with (at_builtin; go_loud (refine wpList_append_lies _ rfl _ _ _ rfl w.heap.size 9 ti (.string ⟨#[]⟩) 1 16 Tryz.underlying99 (unhide HI) (unhide HZ) hz1 hz2 rfl (by decide) _ ts.length (strs ts) rfl (unhide HT2).own ⟨w2.heap.size, 0, none⟩ 1 1 [.string ⟨tx.toArray⟩] rfl rfl (news_str w2 _ _) (one_str _) (by decide) (unhide HL63) (unhide HL16) (unhide HBA) (w2.heap.size + 1) (bsize _ _) ?_; intro g cap w4 hown4 hgrow hat hlt4))
      have FIN : Hid (TsAt w w4 w.heap.size (.slice (some ⟨g, 0, none⟩) (ts.length + 1) cap) (txts (qs.take (i + 1)))) := by
        have := (unhide HT2).push hown4 hgrow (unhide HBA)
        show TsAt _ _ _ _ _
        rw [txts_take (by rw [unhide HN]; exact hlt), unhide HTS, unhide HTX]
        exact this
      clear hown4 hgrow hat hlt4 HT2
      go_wp2_with fail
      exact ⟨⟨i + 1, by go_num, hlt, unhide FIN⟩, by simp [intOf]; omega⟩
    · obtain rfl : i = n := by omega
      have e : qs.take i = qs := List.take_of_length_le (by omega)
      rw [e] at T
      have HB := hide T.bl
      have HR := hide (srow_of T.own)
      clear T H3 e hnn
      go_wp2
      (try simp only [Exit.inBlock, Exit.then])
      exact bodyPost_ret (v := u3) (by simp [results, Tryz.results55, go_sem]) rfl ⟨_, rfl, unhide HR, unhide HB⟩
set_option maxHeartbeats 8000000 in
set_option maxRecDepth 100000 in
set_option linter.unusedSimpArgs false in
theorem same_any (v u : Value) (ts : List (List UInt8)) (w : World) (h : SRow w v ts) (h' : SRow w u ts) (hl : ts.length ≤ 1000000) :
    Calls Tryz.prog 54 #[v, u] w fun e w' => e = .returned (.bool true) ∧ Below w.heap.size w w' := by
  obtain ⟨a, c, rfl, h1, h2, h3⟩ := h
  obtain ⟨a', c', rfl, h1', h2', h3'⟩ := h'
  obtain ⟨n, hn⟩ : ∃ n, ts.length = n := ⟨_, rfl⟩
  rw [hn] at h1 h3 h1' h3' hl ⊢
  have H3 := hide h3
  have H3' := hide h3'
  have HL := hide hl
  have e0 : ((n : Int) != (n : Int)) = false := by simp
  clear h3 h3' hn hl
  go_enter Tryz.func54, Tryz.ntmps54
  go_wp2_with fail
  go_loopw [5] (fun vi wr => ∃ (i k : Nat), vi = .int .i64 (i : Int) ∧ i ≤ n ∧ wr = w.drewN k) (fun vi _ => n - (intOf vi).toNat)
  case atStart => exact ⟨0, 0, rfl, Nat.zero_le _, rfl⟩
  case round =>
    obtain ⟨i, k, rfl, hi, hw⟩ := hrel
    subst hw
    by_cases hlt : i < n
    · obtain ⟨b, o, rfl, hblt, hcs⟩ := unhide H3 (by omega)
      obtain ⟨b', o', rfl, hblt', hcs'⟩ := unhide H3' (by omega)
      have k0 := hcs i hlt
      have k1 := hcs' i hlt
      obtain ⟨s, hs⟩ : ∃ s : ByteArray, ⟨(ts[i]!).toArray⟩ = s := ⟨_, rfl⟩
      rw [hs] at k0 k1
      have hi0 : (0 : Int) ≤ (i : Int) := by omega
      have hi1 : (i : Int) < (n : Int) := by omega
      have f3 : IntKind.i64.wrap ((i : Int) + 1) = (i : Int) + 1 := by have := unhide HL; rw [IntKind.wrap_i64]; omega
      clear hcs hcs' hs
      go_wp2_with fail
      go_quiet (fail)
      go_wp2_with fail
      exact ⟨⟨i + 1, k + nq, by go_num, hlt, by first | rfl | trivial | simp⟩, by simp [intOf]; omega⟩
    · obtain rfl : i = n := by omega
      have f1 : ¬ (i : Int) < (i : Int) := by omega
      go_wp2
      (try simp only [Exit.inBlock, Exit.then])
      (try go_wp2)
      go_ret
      exact ⟨rfl, bdrew w k⟩
set_option maxHeartbeats 8000000 in
set_option maxRecDepth 100000 in
set_option linter.unusedSimpArgs false in
theorem list_ok (v u : Value) (qs : List Rat) (J : Nat) (w : World) (h : LawIs w v qs) (h' : RList w u qs) (hq : ∀ j, j < qs.length → RS qs[j]! J) (hJ : J ≤ 200000) (hl : qs.length ≤ 1000000) (htab : Tab w) :
    Calls Tryz.prog 19 #[v, .nilIface, u, .int .i64 0] w fun e w' => e = .returned (.bool true) ∧ Below w.heap.size w w' := by
  have HP := hide (ptexts_any v qs J w h hq hJ hl htab)
  have HR : Hid (∀ W, Below w.heap.size w W → Calls Tryz.prog 56 #[u] W fun e w' => ∃ v, e = .returned v ∧ SRow w' v (txts qs) ∧ Below W.heap.size W w') := fun W hW => refTexts_any u qs J W (h'.below hW) hq hJ hl
  have HL : Hid ((txts qs).length ≤ 1000000) := by show _ ≤ _; rw [txts_length]; exact hl
  clear h h' hq hJ hl htab
  go_enter Tryz.func19, Tryz.ntmps19
  go_wp2_with fail
  refine (unhide HP).mono ?_
  rintro e w1 ⟨v1, rfl, hv1, hb1⟩
  have HV1 := hide hv1
  have HB1 := hide hb1
  have HR1 := hide (unhide HR _ hb1)
  clear hv1 hb1 HP HR
  go_wp2_with fail
  refine (unhide HR1).mono ?_
  rintro e w2 ⟨v2, rfl, hv2, hb2⟩
  have HS := hide (same_any v1 v2 (txts qs) w2 ((unhide HV1).below hb2) hv2 (unhide HL))
  have HB2 := hide (bstep (unhide HB1) hb2)
  clear hv2 hb2 HR1
  go_wp2_with fail
  refine (unhide HS).mono ?_
  rintro e w3 ⟨rfl, hb3⟩
  have HB3 := hide (bstep (unhide HB2) hb3)
  clear hb3 HS
  go_wp2
  go_ret
  exact ⟨rfl, unhide HB3⟩
set_option maxHeartbeats 8000000 in
set_option maxRecDepth 100000 in
set_option linter.unusedSimpArgs false in
theorem list_err (a : Option Addr) (c : Nat) (u : Value) (k : Int) (hk : k ≠ 0) (w : World) (hg : ErrTy w) :
    Calls Tryz.prog 19 #[.slice a 0 c, .iface 27 (.int .i64 k), u, .int .i64 k] w fun e w' => e = .returned (.bool true) ∧ Below w.heap.size w w' := by
  have HT := hide (tell_errno k w hg)
  have kz : (k != 0) = true := by simpa using hk
  clear hg hk
  go_enter Tryz.func19, Tryz.ntmps19
  go_wp2_with fail
  refine (unhide HT).mono ?_
  rintro e w1 ⟨rfl, hb⟩
  go_wp2
  go_ret
  exact ⟨rfl, hb⟩
end Go.Proofs.YtcelbgleajpenaaGreatDoor
