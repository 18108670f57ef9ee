/- Chains: plain.Stop. -/
import Derived.Test.YtgpolilpgkhlkaaDoorT11
namespace Go.Proofs.YtgpolilpgkhlkaaDoor
open Go.RowKit Go.Sort Go.Shelf

/-- Rows of rows that lie beyond B. -/
def RowsFr (B : Nat) (w : World) (v : Value) (ks : List (List Rat)) : Prop := ∃ (a : Option Addr) (c : Nat), v = .slice a ks.length c ∧ ks.length ≤ c ∧ c ≤ 9223372036854775807 ∧
  (0 < ks.length → ∃ b o, a = some ⟨b, o, none⟩ ∧ B ≤ b ∧ b < w.heap.size ∧ ∀ j, j < ks.length → ∃ l : Sl, w.cell? ⟨b, o + j, none⟩ = some (.slice l.a l.n l.c) ∧ LawIs w l.val ks[j]! ∧ ∀ ad, l.a = some ad → B ≤ ad.block)
theorem RowsFr.below {B : Nat} {w w' : World} {v : Value} {ks : List (List Rat)} (h : RowsFr B w v ks) (hb : Below w.heap.size w w') : RowsFr B w' v ks := by
  obtain ⟨a, c, e, h1, h2, h3⟩ := h
  refine ⟨a, c, e, h1, h2, fun hp => ?_⟩
  obtain ⟨b, o, ea, hB, hlt, hc⟩ := h3 hp
  refine ⟨b, o, ea, hB, Nat.lt_of_lt_of_le hlt hb.size, fun j hj => ?_⟩
  obtain ⟨l, c0, r, hl⟩ := hc j hj
  refine ⟨l, ?_, r.below hb, hl⟩
  rw [hb.cell (p := ⟨b, o + j, none⟩) hlt]
  exact c0
/-- They stay where a block below is written. -/
theorem RowsFr.far {B R : Nat} {w w' : World} {v : Value} {ks : List (List Rat)} (h : RowsFr B w v ks) (hg : w.grownBy w' (some R)) (hno : ∀ g, some R = some g → Wordless w g) (hR : R < B) : RowsAre w' v ks := by
  obtain ⟨a, c, e, h1, h2, h3⟩ := h
  refine ⟨a, c, e, h1, h2, fun hp => ?_⟩
  obtain ⟨b, o, ea, hB, hlt, hc⟩ := h3 hp
  refine ⟨b, o, ea, Nat.lt_of_lt_of_le hlt hg.size, fun j hj => ?_⟩
  obtain ⟨l, c0, r, hl⟩ := hc j hj
  refine ⟨l, ?_, r.far hg hno (fun _ ad ea he => ?_)⟩
  · rw [hg.cell_far ⟨b, o + j, none⟩ hlt (fun e => by injection e with e; simp only at e; omega)]
    exact c0
  · have := hl ad ea
    injection he with he
    omega
/-- All rows of a list lie beyond B. -/
def HiAt (B : Nat) (ts : List Sl) : Prop := ∀ j, j < ts.length → ∀ ad, (ts[j]!).a = some ad → B ≤ ad.block
theorem HiAt.push {B : Nat} {ts : List Sl} {m : Sl} (h : HiAt B ts) (hm : ∀ ad, m.a = some ad → B ≤ ad.block) : HiAt B (ts ++ [m]) := fun j hj ad e => by
  rw [List.length_append] at hj
  by_cases hj2 : j < ts.length
  · rw [List.getElem!_eq_getElem?_getD, List.getElem?_append_left hj2, ← List.getElem!_eq_getElem?_getD] at e
    exact h j hj2 ad e
  · obtain rfl : j = ts.length := by simp at hj; omega
    rw [List.getElem!_eq_getElem?_getD, List.getElem?_append_right (Nat.le_refl _), Nat.sub_self] at e
    exact hm ad e
theorem rows_fr {w wr : World} {v : Value} {ps : List Sl} {ks : List (List Rat)} (h : RsAt w wr v ps ks) (hl : ps.length = ks.length) (hi : HiAt w.heap.size ps) : RowsFr w.heap.size wr v ks := by
  rcases h.own.2 with ⟨rfl, e⟩ | ⟨g, cap, cur, rfl, hb, hh, hc1, hc2, hs, ht⟩
  · exact ⟨none, 0, by rw [← hl, e], by omega, by decide, fun hp => by omega⟩
  · refine ⟨_, cap, by rw [hl], by omega, by unfold maxLen at hc2; exact hc2, fun _ => ⟨g, 0, rfl, hb, (Array.getElem?_eq_some_iff.1 hh).1, fun j hj => ⟨ps[j]!, ?_, h.rat j (by omega), hi j (by omega)⟩⟩⟩
    simp only [World.cell?, hh, Nat.zero_add]
    have e : (cur.toList.take (ps.length * 1))[j]? = (sv ps)[j]? := by rw [ht]
    rw [List.getElem?_take_of_lt (by omega), sv_get ps j (by omega)] at e
    simpa [Sl.val] using e
theorem grown_set (W : World) (b i : Nat) (v : Value) : W.grownBy (W.setCell ⟨b, i, none⟩ v) (some b) :=
  ⟨rfl, rfl, rfl, Nat.le_of_eq (by simp [World.setCell]), fun k _ hne => Below.heap_setCell _ _ _ _ (fun e => hne (by rw [e]))⟩
theorem grown_step {W V : World} {b i : Nat} {v : Value} (h : W.grownBy V (some b)) : W.grownBy (V.setCell ⟨b, i, none⟩ v) (some b) := by
  obtain ⟨a1, a2, a3, a4, a5⟩ := h
  exact ⟨a1, a2, a3, by simpa [World.setCell] using a4, fun k hk hne => by rw [Below.heap_setCell _ _ _ _ (fun e => hne (by rw [e]))]; exact a5 k hk hne⟩
theorem grown_set5 (W : World) (b : Nat) (x0 x1 x2 x3 x4 : Value) : W.grownBy (((((W.setCell ⟨b, 0, none⟩ x0).setCell ⟨b, 1, none⟩ x1).setCell ⟨b, 2, none⟩ x2).setCell ⟨b, 3, none⟩ x3).setCell ⟨b, 4, none⟩ x4) (some b) :=
  grown_step (grown_step (grown_step (grown_step (grown_set W b 0 x0))))
set_option maxHeartbeats 8000000 in
set_option maxRecDepth 100000 in
set_option linter.unusedSimpArgs false in
theorem prows_fr (v : Value) (pss : List (List (Int × Int))) (w : World) (h : PRowsAre w v pss) (sm : SmP pss) :
    Calls Tryd.prog 28 #[v] w fun e w' => ∃ v, e = .returned v ∧ RowsFr w.heap.size w' v (pqss pss) ∧ Below w.heap.size w w' := by
  obtain ⟨a, c, rfl, h1, h2, h3⟩ := h
  obtain ⟨ti, hi, hz0, hz1, hz2⟩ := info_parts Tryd.infoS
  have H3 := hide h3
  have hsl := sm.1
  have HSM := hide sm
  have HI := hide hi
  have HZ := hide hz0
  clear h3 hi hz0 sm
  go_enter Tryd.func28, Tryd.ntmps28
  go_wp2_with fail
  go_loopw [3, 8] (fun vo vi wr => ∃ (i : Nat) (ts : List Sl), vi = .int .i64 i ∧ i ≤ pss.length ∧ ts.length = i ∧ RsAt w wr vo ts (pqss pss) ∧ HiAt w.heap.size ts) (fun _ vi _ => pss.length - (intOf vi).toNat)
  case atStart => exact ⟨0, [], rfl, Nat.zero_le _, rfl, RsAt.start w _ _ (Below.refl _ _), fun j hj => absurd hj (Nat.not_lt_zero _)⟩
  case round =>
    obtain ⟨i, ts, rfl, hi, hts, T, hHi⟩ := hrel
    have HHI := hide hHi
    clear hHi
    have hwr := T.bl.size
    by_cases hlt : i < pss.length
    · obtain ⟨b, o, rfl, hblt, hcs⟩ := unhide H3 (by omega)
      obtain ⟨l, k0, hpl⟩ := hcs i hlt
      rw [← T.bl.cell (p := ⟨b, o + i, none⟩) hblt] at k0
      have HF := hide (fs_own l.val _ wr (hpl.below T.bl) (by have := (unhide HSM).2 i hlt; omega))
      have epq : (pqss pss)[ts.length]! = pqs pss[i]! := by rw [hts]; exact pqss_get hlt
      have hown1 := ownsS_block T.own
      have hi0 : (0 : Int) ≤ (i : Int) := by omega
      have hi1 : (i : Int) < (pss.length : Int) := by omega
      have HT1 := hide T
      have HE := hide epq
      have HTS := hide hts
      have HOW := hide hown1
      clear T hcs epq hts hpl hown1
      go_wp2_with fail
      refine (unhide HF).mono ?_
      rintro e w2 ⟨v2, rfl, hv2, hb2, hf2⟩
      obtain ⟨m, rfl, hm, hmn⟩ := sl_of hv2
      rw [← unhide HE] at hm
      simp only [Sl.val]
      have hmf : ∀ ad, m.a = some ad → wr.heap.size ≤ ad.block := fun ad e => by
        rcases hf2 with h | ⟨g, n, cap, h, hg⟩
        · have : m.a = none := by injection h
          rw [this] at e; cases e
        · have : m.a = some ⟨g, 0, none⟩ := by injection h
          rw [this] at e
          injection e with e
          rw [← e]; exact hg
      have bL := alloc_below w2 (.cells #[.slice m.a m.n m.c] 31)
      have T2 := ((unhide HT1).keep hb2).keep bL
      have hm3 := hm.below bL
      have hlen24 : (ts.length + 1) * 24 ≤ 140737488355328 := by have := unhide HTS; omega
      have hlen63 : ts.length + 1 ≤ maxLen := by have := unhide HTS; unfold maxLen; omega
      have hbase : w.heap.size ≤ (w2.alloc (.cells #[.slice m.a m.n m.c] 31)).heap.size := T2.bl.size
      have hsz2 : (w2.alloc (.cells #[.slice m.a m.n m.c] 31)).heap.size = w2.heap.size + 1 := by rw [alloc_heap, Array.size_push]
      have HT2 := hide T2
      have HM3 := hide hm3
      have HBA := hide hbase
      have HSZ := hide hsz2
      have HL24 := hide hlen24
      have HL63 := hide hlen63
      have HMF := hide hmf
      clear T2 hm3 hm hbase hsz2 hlen24 hlen63 hv2 hb2 hf2 HT1 HF hmn bL hmf k0
      go_wp2_with (at_builtin; go_loud (refine wpList_append_sl _ rfl _ _ _ rfl w.heap.size 31 ti 24 Tryd.underlying30 (unhide HI) (unhide HZ) hz1 hz2 _ ts.length (sv ts) rfl (unhide HT2).own (unhide HT2).no ⟨w2.heap.size, 0, none⟩ 1 1 [m.val] rfl rfl (news_sl w2 m _) (sv_one m) (sv_notWord m) (by decide) (unhide HL63) (unhide HL24) (unhide HBA) (w2.heap.size + 1) (unhide HSZ) ?_; intro g cap w4 hown4 hgrow hat hlt4 hno4))
      have FIN := hide ((unhide HT2).push (p := m) (unhide HM3) (fun _ ad e he => by have h1 := (unhide HOW _ he).2; have h2 := unhide HMF ad e; omega) hown4 hgrow (by rw [unhide HSZ]; exact hat) hno4)
      clear hown4 hgrow hat hno4 HT2 HM3
      go_wp2_with fail
      exact ⟨⟨i + 1, ts ++ [m], by go_num, hlt, by rw [List.length_append, unhide HTS]; rfl, unhide FIN, (unhide HHI).push (fun ad e => Nat.le_trans hwr (unhide HMF ad e))⟩, by simp [intOf]; omega⟩
    · obtain rfl : i = pss.length := by omega
      have L := rows_fr T (by rw [hts, pqss_length]) (unhide HHI)
      have HB := hide T.bl
      have HL := hide L
      clear T L
      go_wp2
      (try simp only [Exit.inBlock, Exit.then])
      exact bodyPost_ret (v := u3) (by simp [results, Tryd.results28, go_sem]) rfl ⟨_, rfl, unhide HL, unhide HB⟩

set_option maxHeartbeats 16000000 in
set_option maxRecDepth 100000 in
set_option linter.unusedSimpArgs false in
theorem pstop_any (v : Value) (pss : List (List (Int × Int))) (ps : List (Int × Int)) (x y : Int) (w : World) (h : PChainIs w v pss ps x y) (sm : SmP pss) (hl : ps.length ≤ 1048576) :
    Calls Tryd.prog 9 #[v] w fun e w' => ∃ v, e = .returned v ∧ ChainIs w' v (pqss pss) (pqs ps) (pq (x, y)) ∧ Below w.heap.size w w' := by
  obtain ⟨l, m, rfl, hP, hT, hx, hy⟩ := h
  have hpn := prows_len hP
  have htn := pairs_len hT
  obtain ⟨np, hnp⟩ : ∃ n, pss.length = n := ⟨_, rfl⟩
  obtain ⟨nt, hnt⟩ : ∃ n, ps.length = n := ⟨_, rfl⟩
  rw [hnp] at hpn
  rw [hnt] at htn
  have HNP := hide hnp
  have HNT := hide hnt
  have HX := hide hx
  have HY := hide hy
  have HSP := hide sm
  have HLT : Hid (ps.length ≤ 1099511627776) := by show _ ≤ _; omega
  unfold pcv
  simp only [Sl.val] at hP hT
  rw [hpn] at hP
  rw [htn] at hT
  rw [hpn, htn]
  have b0 := alloc_below w (.cells #[.slice l.a np l.c, .slice m.a nt m.c, .int .i64 x, .int .i64 y] 27)
  have n0 := heap_alloc_new w (.cells #[.slice l.a np l.c, .slice m.a nt m.c, .int .i64 x, .int .i64 y] 27)
  obtain ⟨W0, hW0⟩ : ∃ W, w.alloc (.cells #[.slice l.a np l.c, .slice m.a nt m.c, .int .i64 x, .int .i64 y] 27) = W := ⟨_, rfl⟩
  obtain ⟨bx, hbx⟩ : ∃ b, w.heap.size = b := ⟨_, rfl⟩
  rw [hW0] at b0 n0
  rw [hbx] at n0
  have b1 := alloc_below W0 (.cells #[.slice none 0 0, .slice none 0 0, .bool false, .slice none 0 0, .slice none 0 0] 37)
  have n1 := heap_alloc_new W0 (.cells #[.slice none 0 0, .slice none 0 0, .bool false, .slice none 0 0, .slice none 0 0] 37)
  obtain ⟨W1, hW1⟩ : ∃ W, W0.alloc (.cells #[.slice none 0 0, .slice none 0 0, .bool false, .slice none 0 0, .slice none 0 0] 37) = W := ⟨_, rfl⟩
  obtain ⟨R, hR⟩ : ∃ R, W0.heap.size = R := ⟨_, rfl⟩
  rw [hW1] at b1 n1
  rw [hR] at n1
  have n0' := heap_kept n0 b1
  have HRZ := hide n1
  have HRL : Hid (R < W1.heap.size) := (Array.getElem?_eq_some_iff.1 n1).1
  have hbl : bx < W1.heap.size := (Array.getElem?_eq_some_iff.1 n0').1
  have HRG : Hid (w.heap.size ≤ R) := by show _ ≤ R; rw [← hR]; exact b0.size
  have HB1 := hide (below_step b0 b1)
  have HPR := hide ((hP.below b0).below b1)
  have HPT := hide ((hT.below b0).below b1)
  have HCC : Hid (∀ W, Below W1.heap.size W1 W → (fun w' : World => w'.cell? ⟨bx, 0, none⟩ = some (.slice l.a np l.c) ∧ w'.cell? ⟨bx, 1, none⟩ = some (.slice m.a nt m.c) ∧ w'.cell? ⟨bx, 2, none⟩ = some (.int .i64 x) ∧ w'.cell? ⟨bx, 3, none⟩ = some (.int .i64 y)) W) := fun W hW => by
    have h' := heap_kept n0' hW
    simp [World.cell?, h']
  clear hP hT hx hy sm hpn htn hnp hnt b0 b1 n0 n1 n0' hbl
  go_enter Tryd.func9, Tryd.ntmps9
  go_wp2_with fail
  clear hW0 hbx hW1 hR
  refine wp_region_till (fun w' : World => w'.cell? ⟨bx, 0, none⟩ = some (.slice l.a np l.c) ∧ w'.cell? ⟨bx, 1, none⟩ = some (.slice m.a nt m.c) ∧ w'.cell? ⟨bx, 2, none⟩ = some (.int .i64 x) ∧ w'.cell? ⟨bx, 3, none⟩ = some (.int .i64 y)) 10 (by kernel_rfl) ?_
  have bd0 : Below W1.heap.size W1 W1.drew := (Below.refl _ _).drew
  have hC0 : (fun w' : World => w'.cell? ⟨bx, 0, none⟩ = some (.slice l.a np l.c) ∧ w'.cell? ⟨bx, 1, none⟩ = some (.slice m.a nt m.c) ∧ w'.cell? ⟨bx, 2, none⟩ = some (.int .i64 x) ∧ w'.cell? ⟨bx, 3, none⟩ = some (.int .i64 y)) W1.drew := unhide HCC _ bd0
  refine wpTill_pure (i := 0) (v := ?_) rfl (by kernel_rfl) (by kernel_rfl) (by kernel_rfl) (by kernel_rfl) (fun _ _ _ h => h) (Or.inl ⟨by rfl, ?_⟩) (fun _ => hC0) ?_
  rotate_left
  · intro w hSw; clear hSw; go_simp; (try with_reducible rfl)
  (try simp only [List.getElem_toArray, List.getElem_cons_succ, List.getElem_cons_zero])
  (try simp only [Act.put, List.setIfInBounds_toArray, List.set_cons_zero, List.set_cons_succ])
  refine wpTill_take (i := 1) (v := ?_) rfl (by kernel_rfl) (by kernel_rfl) (by kernel_rfl) (by kernel_rfl) (by kernel_rfl) (by kernel_rfl) (fun _ _ _ h => h) (Or.inl ⟨by rfl, ?_⟩) hC0 ?_
  rotate_left
  · intro w hSw; (try dsimp only at hSw); obtain ⟨z0, z1, z2, z3⟩ := hSw; go_simp; (try with_reducible rfl)
  (try simp only [List.getElem_toArray, List.getElem_cons_succ, List.getElem_cons_zero])
  (try simp only [Act.put, List.setIfInBounds_toArray, List.set_cons_zero, List.set_cons_succ])
  refine wpTill_pure (i := 3) (v := ?_) rfl (by kernel_rfl) (by kernel_rfl) (by kernel_rfl) (by kernel_rfl) (fun _ _ _ h => h) (Or.inl ⟨by rfl, ?_⟩) (fun _ => hC0) ?_
  rotate_left
  · intro w hSw; clear hSw; go_simp; (try with_reducible rfl)
  (try simp only [List.getElem_toArray, List.getElem_cons_succ, List.getElem_cons_zero])
  (try simp only [Act.put, List.setIfInBounds_toArray, List.set_cons_zero, List.set_cons_succ])
  refine wpTill_take (i := 4) (v := ?_) rfl (by kernel_rfl) (by kernel_rfl) (by kernel_rfl) (by kernel_rfl) (by kernel_rfl) (by kernel_rfl) (fun _ _ _ h => h) (Or.inl ⟨by rfl, ?_⟩) hC0 ?_
  rotate_left
  · intro w hSw; (try dsimp only at hSw); obtain ⟨z0, z1, z2, z3⟩ := hSw; go_simp; (try with_reducible rfl)
  (try simp only [List.getElem_toArray, List.getElem_cons_succ, List.getElem_cons_zero])
  (try simp only [Act.put, List.setIfInBounds_toArray, List.set_cons_zero, List.set_cons_succ])
  refine wpTill_pure (i := 6) (v := ?_) rfl (by kernel_rfl) (by kernel_rfl) (by kernel_rfl) (by kernel_rfl) (fun _ _ _ h => h) (Or.inl ⟨by rfl, ?_⟩) (fun _ => hC0) ?_
  rotate_left
  · intro w hSw; clear hSw; go_simp; (try with_reducible rfl)
  (try simp only [List.getElem_toArray, List.getElem_cons_succ, List.getElem_cons_zero])
  (try simp only [Act.put, List.setIfInBounds_toArray, List.set_cons_zero, List.set_cons_succ])
  refine wpTill_take (i := 7) (v := ?_) rfl (by kernel_rfl) (by kernel_rfl) (by kernel_rfl) (by kernel_rfl) (by kernel_rfl) (by kernel_rfl) (fun _ _ _ h => h) (Or.inl ⟨by rfl, ?_⟩) hC0 ?_
  rotate_left
  · intro w hSw; (try dsimp only at hSw); obtain ⟨z0, z1, z2, z3⟩ := hSw; go_simp; (try with_reducible rfl)
  (try simp only [List.getElem_toArray, List.getElem_cons_succ, List.getElem_cons_zero])
  (try simp only [Act.put, List.setIfInBounds_toArray, List.set_cons_zero, List.set_cons_succ])
  refine wpTill_one (k := 2) (by kernel_rfl) rfl (fun K hK => ?_)
  (try simp only [List.getElem_toArray, List.getElem_cons_succ, List.getElem_cons_zero])
  go_simp
  refine (prows_fr (.slice l.a np l.c) pss _ ((unhide HPR).below bd0) (unhide HSP)).mono ?_
  rintro e xw_1 ⟨xv_1, rfl, hv_1, hb_1⟩
  have cc_1 := below_step bd0 hb_1
  have hC_1 : (fun w' : World => w'.cell? ⟨bx, 0, none⟩ = some (.slice l.a np l.c) ∧ w'.cell? ⟨bx, 1, none⟩ = some (.slice m.a nt m.c) ∧ w'.cell? ⟨bx, 2, none⟩ = some (.int .i64 x) ∧ w'.cell? ⟨bx, 3, none⟩ = some (.int .i64 y)) xw_1 := unhide HCC _ cc_1
  refine hK.out _ _ (fun _ => hC_1) ?_
  clear hK K
  (try simp only [Act.put, List.setIfInBounds_toArray, List.set_cons_zero, List.set_cons_succ])
  have HV1 := hide hv_1
  obtain ⟨a1, c1, rfl, _⟩ := hv_1
  rw [pqss_length, unhide HNP] at HV1 ⊢
  refine wpTill_one (k := 5) (by kernel_rfl) rfl (fun K hK => ?_)
  (try simp only [List.getElem_toArray, List.getElem_cons_succ, List.getElem_cons_zero])
  go_simp
  refine (fs_own (.slice m.a nt m.c) ps _ ((unhide HPT).below cc_1) (unhide HLT)).mono ?_
  rintro e xw_2 ⟨xv_2, rfl, hv_2, hb_2, hf_2⟩
  have cc_2 := below_step cc_1 hb_2
  have hC_2 : (fun w' : World => w'.cell? ⟨bx, 0, none⟩ = some (.slice l.a np l.c) ∧ w'.cell? ⟨bx, 1, none⟩ = some (.slice m.a nt m.c) ∧ w'.cell? ⟨bx, 2, none⟩ = some (.int .i64 x) ∧ w'.cell? ⟨bx, 3, none⟩ = some (.int .i64 y)) xw_2 := unhide HCC _ cc_2
  refine hK.out _ _ (fun _ => hC_2) ?_
  clear hK K
  (try simp only [Act.put, List.setIfInBounds_toArray, List.set_cons_zero, List.set_cons_succ])
  have HV2 := hide hv_2
  have HF2 := hide hf_2
  obtain ⟨a2, c2, rfl, _⟩ := hv_2
  rw [pqs_length, unhide HNT] at HV2 HF2 ⊢
  clear hf_2
  refine wpTill_one (k := 8) (by kernel_rfl) rfl (fun K hK => ?_)
  (try simp only [List.getElem_toArray, List.getElem_cons_succ, List.getElem_cons_zero])
  go_simp
  refine (f_any x y (unhide HX).1 (unhide HX).2 (unhide HY).1 (unhide HY).2 _).mono ?_
  rintro e xw_3 ⟨xv_3, rfl, hv_3, hb_3⟩
  have cc_3 := below_step cc_2 hb_3
  have hC_3 : (fun w' : World => w'.cell? ⟨bx, 0, none⟩ = some (.slice l.a np l.c) ∧ w'.cell? ⟨bx, 1, none⟩ = some (.slice m.a nt m.c) ∧ w'.cell? ⟨bx, 2, none⟩ = some (.int .i64 x) ∧ w'.cell? ⟨bx, 3, none⟩ = some (.int .i64 y)) xw_3 := unhide HCC _ cc_3
  refine hK.out _ _ (fun _ => hC_3) ?_
  clear hK K
  (try simp only [Act.put, List.setIfInBounds_toArray, List.set_cons_zero, List.set_cons_succ])
  obtain ⟨t3, rfl, r3⟩ := tri_of hv_3
  simp only [Tri.val]
  refine wpTill_pure (i := 9) (v := ?_) rfl (by kernel_rfl) (by kernel_rfl) (by kernel_rfl) (by kernel_rfl) (fun _ _ _ h => h) (Or.inl ⟨by rfl, ?_⟩) (fun _ => hC_3) ?_
  rotate_left
  · intro w hSw; clear hSw; go_simp; (try with_reducible rfl)
  (try simp only [List.getElem_toArray, List.getElem_cons_succ, List.getElem_cons_zero])
  (try simp only [Act.put, List.setIfInBounds_toArray, List.set_cons_zero, List.set_cons_succ])
  have hRb : xw_3.heap[R]? = some (.cells #[.slice none 0 0, .slice none 0 0, .bool false, .slice none 0 0, .slice none 0 0] 37) := by rw [cc_3.block _ (unhide HRL)]; exact unhide HRZ
  have y0 : xw_3.cell? ⟨R, 0, none⟩ = some (.slice none 0 0) := by simp [World.cell?, hRb]
  have y1 : xw_3.cell? ⟨R, 1, none⟩ = some (.slice none 0 0) := by simp [World.cell?, hRb]
  have y2 : xw_3.cell? ⟨R, 2, none⟩ = some (.bool false) := by simp [World.cell?, hRb]
  have y3 : xw_3.cell? ⟨R, 3, none⟩ = some (.slice none 0 0) := by simp [World.cell?, hRb]
  have y4 : xw_3.cell? ⟨R, 4, none⟩ = some (.slice none 0 0) := by simp [World.cell?, hRb]
  have l0 : xw_3.frozen? ⟨R, 0, none⟩ = false := by simp [World.frozen?, hRb]
  have l1 : xw_3.frozen? ⟨R, 1, none⟩ = false := by simp [World.frozen?, hRb]
  have l2 : xw_3.frozen? ⟨R, 2, none⟩ = false := by simp [World.frozen?, hRb]
  have l3 : xw_3.frozen? ⟨R, 3, none⟩ = false := by simp [World.frozen?, hRb]
  have l4 : xw_3.frozen? ⟨R, 4, none⟩ = false := by simp [World.frozen?, hRb]
  have hno : ∀ g, some R = some g → Wordless xw_3 g := fun g e => by
    injection e with e
    rw [← e]
    exact wordless_of hRb (fun u hu => by
      have hu : u ∈ [Value.slice none 0 0, .slice none 0 0, .bool false, .slice none 0 0, .slice none 0 0] := by simpa using hu
      simp only [List.mem_cons, List.not_mem_nil, or_false] at hu
      rcases hu with rfl | rfl | rfl | rfl | rfl <;> trivial)
  have hgr := grown_set5 xw_3 R (.slice a1 np c1) (.slice a2 nt c2) (.bool t3.s) (.slice t3.a1 t3.n1 t3.c1) (.slice t3.a2 t3.n2 t3.c2)
  have hlo1 : W1.heap.size ≤ xw_1.heap.size := cc_1.size
  have G1 := (((unhide HV1).below hb_2).below hb_3).far (B := W1.heap.size) (R := R) hgr hno (unhide HRL)
  have G2 : LawIs _ (Sl.val (a2, nt, c2)) (pqs ps) := (((unhide HV2).below hb_3) : LawIs xw_3 (Sl.val (a2, nt, c2)) (pqs ps)).far hgr hno (fun _ ad e he => by
    have e : a2 = some ad := e
    injection he with he
    have hRl := unhide HRL
    rcases unhide HF2 with h | ⟨g, n, cap, h, hg⟩
    · injection h with h1
      rw [h1] at e; cases e
    · injection h with h1
      rw [h1] at e
      injection e with e
      rw [← e] at he
      simp only at he
      omega)
  have G3 := r3.far hgr hno
  have FB := (((((below_step (unhide HB1) cc_3).setCell (p := ⟨R, 0, none⟩) (unhide HRG) (.slice a1 np c1)).setCell (p := ⟨R, 1, none⟩) (unhide HRG) (.slice a2 nt c2)).setCell (p := ⟨R, 2, none⟩) (unhide HRG) (.bool t3.s)).setCell (p := ⟨R, 3, none⟩) (unhide HRG) (.slice t3.a1 t3.n1 t3.c1)).setCell (p := ⟨R, 4, none⟩) (unhide HRG) (.slice t3.a2 t3.n2 t3.c2)
  obtain ⟨W9, hW9⟩ : ∃ W, (((((xw_3.setCell ⟨R, 0, none⟩ (.slice a1 np c1)).setCell ⟨R, 1, none⟩ (.slice a2 nt c2)).setCell ⟨R, 2, none⟩ (.bool t3.s)).setCell ⟨R, 3, none⟩ (.slice t3.a1 t3.n1 t3.c1)).setCell ⟨R, 4, none⟩ (.slice t3.a2 t3.n2 t3.c2)) = W := ⟨_, rfl⟩
  rw [hW9] at G1 G2 G3 FB
  have HG1 := hide G1
  have HG2 := hide G2
  have HG3 := hide G3
  have HFB := hide FB
  clear G1 G2 G3 FB hgr hno hv_3 r3
  refine wpTill_one (k := 10) (by kernel_rfl) rfl (fun K hK => ?_)
  (try simp only [List.getElem_toArray, List.getElem_cons_succ, List.getElem_cons_zero])
  go_simp
  refine hK.out _ _ (fun h => absurd (h.symm.trans (by kernel_rfl)) Bool.false_ne_true) ?_
  clear hK K
  (try simp only [Act.put, List.setIfInBounds_toArray, List.set_cons_zero, List.set_cons_succ])
  refine wpTill_done (by kernel_rfl) ?_ _
  clear hC0 hC_1 hC_2 hC_3 cc_1 cc_2 cc_3 bd0 hb_1 hb_2 hb_3 y0 y1 y2 y3 y4 l0 l1 l2 l3 l4 HCC hlo1
  have z : W9.cell? ⟨R, 0, none⟩ = some (.slice a1 np c1) ∧ W9.cell? ⟨R, 1, none⟩ = some (.slice a2 nt c2) ∧ W9.cell? ⟨R, 2, none⟩ = some (.bool t3.s) ∧ W9.cell? ⟨R, 3, none⟩ = some (.slice t3.a1 t3.n1 t3.c1) ∧ W9.cell? ⟨R, 4, none⟩ = some (.slice t3.a2 t3.n2 t3.c2) := by
    rw [← hW9]
    simp [World.cell?, setCell_eq, mapBlock, onCells, Array.getElem?_modify, hRb]
  obtain ⟨z0, z1, z2, z3, z4⟩ := z
  clear hW9 hRb
  go_wp2
  (try simp only [Exit.inBlock, Exit.then])
  exact bodyPost_ret (v := .agg #[.slice a1 np c1, .slice a2 nt c2, .bool t3.s, .slice t3.a1 t3.n1 t3.c1, .slice t3.a2 t3.n2 t3.c2]) (by simp [results, Tryd.results9, go_sem, z0, z1, z2, z3, z4]) rfl ⟨_, rfl, ⟨(a1, np, c1), (a2, nt, c2), t3, rfl, unhide HG1, unhide HG2, unhide HG3⟩, unhide HFB⟩

end Go.Proofs.YtgpolilpgkhlkaaDoor
