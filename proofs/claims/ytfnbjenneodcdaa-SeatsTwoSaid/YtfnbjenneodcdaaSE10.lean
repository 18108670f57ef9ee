/- plain.Fares; fares that few ask for. -/
import Derived.Test.YtfnbjenneodcdaaSE6
namespace Go.Proofs.Ytfnbjenneodcdaa
open Go.RowKit Go.Sort Go.Shelf

set_option maxHeartbeats 1000000 in
theorem law_own (v : Value) (ps : List (Int × Int)) (w : World) (h : PairsAre w v ps) (hl : ps.length ≤ 1099511627776) :
    Calls Try.prog 8 #[v] w (FsPost w (pqs ps)) := by
  have HF := hide (fs_own v ps w h hl)
  clear h
  go_enter Try.func8, Try.ntmps8
  go_wp2_with fail
  refine (unhide HF).mono ?_
  rintro e w2 ⟨v2, rfl, hv2, hb2, hf2⟩
  have HV := hide hv2
  obtain ⟨a, c, rfl, _, _, _⟩ := hv2
  go_wp2
  go_ret
  exact ⟨_, rfl, unhide HV, hb2, hf2⟩
set_option maxHeartbeats 16000000 in
set_option maxRecDepth 100000 in
set_option linter.unusedSimpArgs false in
theorem fares_any (v : Value) (ps : List (Int × List (Int × Int))) (w : World) (h : PFaresAre w v ps) (hl : ps.length ≤ 1000) (hll : ∀ j, j < ps.length → (ps[j]!).2.length ≤ 1000) :
    Calls Try.prog 4 #[v] w fun e w' => ∃ v, e = .returned v ∧ FaresAre w' v (frOf ps) ∧ Below w.heap.size w w' := by
  obtain ⟨a, c, rfl, h1, h2, h4, h3⟩ := h
  obtain ⟨ti, hi, hz0, hz1, hz2⟩ := info_parts Try.infoF
  have H3 := hide h3
  have HLL := hide hll
  have HI := hide hi
  have HZ := hide hz0
  clear h3 h4 hi hz0 hll
  go_enter Try.func4, Try.ntmps4
  go_wp2_with fail
  go_loopw [3, 8] (fun vo vi wr => ∃ (i : Nat) (ts : List (Int × Sl)), vi = .int .i64 i ∧ i ≤ ps.length ∧ ts.length = i ∧ FrsAt w wr vo ts (frOf ps)) (fun _ vi _ => ps.length - (intOf vi).toNat)
  case atStart => exact ⟨0, [], rfl, Nat.zero_le _, rfl, FrsAt.start w _ _ (Below.refl _ _)⟩
  case round =>
    obtain ⟨i, ts, rfl, hi, hts, T⟩ := hrel
    by_cases hlt : i < ps.length
    · obtain ⟨b, o, rfl, hblt, hcs⟩ := unhide H3 (by omega)
      obtain ⟨l, ⟨k0, k1⟩, hpl⟩ := hcs i hlt
      rw [← T.bl.cell (p := ⟨b, o + i * 2, none⟩) hblt] at k0
      rw [← T.bl.cell (p := ⟨b, o + i * 2 + 1, none⟩) hblt] at k1
      obtain ⟨x, hx⟩ : ∃ x, (ps[i]!).1 = x := ⟨_, rfl⟩
      have epq : (frOf ps)[ts.length]! = (x, pqs (ps[i]!).2) := by
        rw [hts, frOf_get hlt, ← hx]
      rw [hx] at k0
      have bA := alloc_below wr (.cells #[.int .i64 x, .slice l.a l.n l.c] 24)
      have T1 := T.keep bA
      have hpl2 := hpl.below (below_step T.bl bA)
      have hnew := heap_alloc_new wr (.cells #[.int .i64 x, .slice l.a l.n l.c] 24)
      have hne : ∀ e : (u3).ownBlock = some wr.heap.size, False := fun e => Nat.lt_irrefl _ (ownsF_block T.own _ e).2
      obtain ⟨W2, hW2⟩ : ∃ W, wr.alloc (.cells #[.int .i64 x, .slice l.a l.n l.c] 24) = W := ⟨_, rfl⟩
      obtain ⟨bk, hbk⟩ : ∃ g, wr.heap.size = g := ⟨_, rfl⟩
      rw [hW2] at T1 hnew hpl2
      rw [hbk] at hnew hne
      have hbl : bk < W2.heap.size := (Array.getElem?_eq_some_iff.1 hnew).1
      have HC : Hid (∀ W, Below W2.heap.size W2 W → (fun w' : World => w'.cell? ⟨bk, 0, none⟩ = some (.int .i64 x) ∧ w'.cell? ⟨bk, 1, none⟩ = some (.slice l.a l.n l.c)) W) := fun W hb => by
        have h' : W.heap[bk]? = some (.cells #[.int .i64 x, .slice l.a l.n l.c] 24) := by rw [hb.block _ hbl]; exact hnew
        simp [World.cell?, h']
      have HLW : Hid (∀ W, Below W2.heap.size W2 W → Calls Try.prog 8 #[.slice l.a l.n l.c] W (FsPost W (pqs (ps[i]!).2))) := fun W hb => law_own l.val _ W (hpl2.below hb) (by have := unhide HLL i hlt; omega)
      have hi0 : (0 : Int) ≤ (i : Int) := by omega
      have hi1 : (i : Int) < (ps.length : Int) := by omega
      have HT1 := hide T1
      have HE := hide epq
      have HTS := hide hts
      have HBK := hide hbl
      have HNE := hide hne
      have ⟨c0, c1⟩ := unhide HC _ (Below.refl _ _)
      clear T T1 hcs H3 epq hts hx bA hne hnew hbl hpl hpl2 HLL
      go_wp2_with fail
      clear hW2 hbk k0 k1 c0 c1
      refine wp_region_hold (fun w' : World => w'.cell? ⟨bk, 0, none⟩ = some (.int .i64 x) ∧ w'.cell? ⟨bk, 1, none⟩ = some (.slice l.a l.n l.c)) (by kernel_rfl) ?_
      have bd0 : Below W2.heap.size W2 W2.drew := (Below.refl _ _).drew
      have hC0 : (fun w' : World => w'.cell? ⟨bk, 0, none⟩ = some (.int .i64 x) ∧ w'.cell? ⟨bk, 1, none⟩ = some (.slice l.a l.n l.c)) W2.drew := unhide HC _ bd0
      refine wpHold_take (i := 0) (v := ?_) rfl (by kernel_rfl) (by kernel_rfl) (by kernel_rfl) (fun _ _ _ h => h) (Or.inl ⟨by rfl, ?_⟩) hC0 ?_
      rotate_left
      · intro w hSw; clear hSw; go_simp; (try with_reducible rfl)
      (try simp only [List.getElem_toArray, List.getElem_cons_succ, List.getElem_cons_zero])
      (try simp only [Act.put, List.setIfInBounds_toArray, List.set_cons_zero, List.set_cons_succ])
      refine wpHold_take (i := 1) (v := ?_) rfl (by kernel_rfl) (by kernel_rfl) (by kernel_rfl) (fun _ _ _ h => h) (Or.inl ⟨by rfl, ?_⟩) hC0 ?_
      rotate_left
      · intro w hSw; clear hSw; go_simp; (try with_reducible rfl)
      (try simp only [List.getElem_toArray, List.getElem_cons_succ, List.getElem_cons_zero])
      (try simp only [Act.put, List.setIfInBounds_toArray, List.set_cons_zero, List.set_cons_succ])
      refine wpHold_take (i := 2) (v := ?_) rfl (by kernel_rfl) (by kernel_rfl) (by kernel_rfl) (fun _ _ _ h => h) (Or.inl ⟨by rfl, ?_⟩) hC0 ?_
      rotate_left
      · intro w hSw; (try dsimp only at hSw); obtain ⟨c0, c1⟩ := hSw; go_simp; (try with_reducible rfl)
      (try simp only [List.getElem_toArray, List.getElem_cons_succ, List.getElem_cons_zero])
      (try simp only [Act.put, List.setIfInBounds_toArray, List.set_cons_zero, List.set_cons_succ])
      refine wpHold_take (i := 3) (v := ?_) rfl (by kernel_rfl) (by kernel_rfl) (by kernel_rfl) (fun _ _ _ h => h) (Or.inl ⟨by rfl, ?_⟩) hC0 ?_
      rotate_left
      · intro w hSw; clear hSw; go_simp; (try with_reducible rfl)
      (try simp only [List.getElem_toArray, List.getElem_cons_succ, List.getElem_cons_zero])
      (try simp only [Act.put, List.setIfInBounds_toArray, List.set_cons_zero, List.set_cons_succ])
      refine wpHold_take (i := 4) (v := ?_) rfl (by kernel_rfl) (by kernel_rfl) (by kernel_rfl) (fun _ _ _ h => h) (Or.inl ⟨by rfl, ?_⟩) hC0 ?_
      rotate_left
      · intro w hSw; (try dsimp only at hSw); obtain ⟨c0, c1⟩ := hSw; go_simp; (try with_reducible rfl)
      (try simp only [List.getElem_toArray, List.getElem_cons_succ, List.getElem_cons_zero])
      (try simp only [Act.put, List.setIfInBounds_toArray, List.set_cons_zero, List.set_cons_succ])
      refine wpHold_one (k := 5) (by kernel_rfl) rfl (fun K hK => ?_)
      (try simp only [List.getElem_toArray, List.getElem_cons_succ, List.getElem_cons_zero])
      go_simp
      refine (unhide HLW _ bd0).mono ?_
      rintro e xw_2 ⟨xv_2, rfl, hv_2, hb_2, hf_2⟩
      have cc_2 := below_step bd0 hb_2
      have hC_2 : (fun w' : World => w'.cell? ⟨bk, 0, none⟩ = some (.int .i64 x) ∧ w'.cell? ⟨bk, 1, none⟩ = some (.slice l.a l.n l.c)) xw_2 := unhide HC _ cc_2
      refine hK.out _ _ hC_2 ?_
      clear hK K
      (try simp only [Act.put, List.setIfInBounds_toArray, List.set_cons_zero, List.set_cons_succ])
      obtain ⟨m, rfl, hm, hmn⟩ := sl_of hv_2
      clear hv_2 hmn
      simp only [Sl.val]
      have hmf : ∀ ad, m.a = some ad → W2.heap.size ≤ ad.block := fun ad e => by
        rcases hf_2 with h | ⟨g, n, cap, h, hg⟩
        · have : m.a = none := by injection h
          rw [this] at e; cases e
        · have : m.a = some ⟨g, 0, none⟩ := by injection h
          rw [this] at e
          injection e with e
          rw [← e]; exact hg
      refine wpHold_take (i := 6) (v := ?_) rfl (by kernel_rfl) (by kernel_rfl) (by kernel_rfl) (fun _ _ _ h => h) (Or.inl ⟨by rfl, ?_⟩) hC_2 ?_
      rotate_left
      · intro w hSw; clear hSw; go_simp; (try with_reducible rfl)
      (try simp only [List.getElem_toArray, List.getElem_cons_succ, List.getElem_cons_zero])
      (try simp only [Act.put, List.setIfInBounds_toArray, List.set_cons_zero, List.set_cons_succ])
      refine wpHold_one (k := 7) (by kernel_rfl) rfl (fun K hK => ?_)
      (try simp only [List.getElem_toArray, List.getElem_cons_succ, List.getElem_cons_zero])
      go_simp
      have bL := alloc_below xw_2 (.cells #[.int .i64 x, .slice m.a m.n m.c] 39)
      have cc_3 := below_step cc_2 bL
      have hC_3 : (fun w' : World => w'.cell? ⟨bk, 0, none⟩ = some (.int .i64 x) ∧ w'.cell? ⟨bk, 1, none⟩ = some (.slice l.a l.n l.c)) (xw_2.alloc (.cells #[.int .i64 x, .slice m.a m.n m.c] 39)) := unhide HC _ cc_3
      refine hK.out _ _ hC_3 ?_
      clear hK K
      (try simp only [Act.put, List.setIfInBounds_toArray, List.set_cons_zero, List.set_cons_succ])
      have T3 := (unhide HT1).keep cc_3
      have hm3 := hm.below bL
      have hlen64 : (ts.length + 1) * 32 ≤ 140737488355328 := by have := unhide HTS; omega
      have hlen63 : ts.length + 1 ≤ maxLen := by have := unhide HTS; unfold maxLen; omega
      have hsz2 : (xw_2.alloc (.cells #[.int .i64 x, .slice m.a m.n m.c] 39)).heap.size = xw_2.heap.size + 1 := by rw [alloc_heap, Array.size_push]
      have hown1 := ownsF_block (unhide HT1).own
      have hsz1 := cc_2.size
      refine wpHold_one (k := 8) (by kernel_rfl) rfl (fun K hK => ?_)
      refine step_append_fare _ rfl _ _ _ rfl w.heap.size 39 ti 32 Try.underlying25 (unhide HI) (unhide HZ) hz1 hz2 _ ts.length (fcells ts) rfl T3.own T3.no ⟨xw_2.heap.size, 0, none⟩ 1 1 (fc (x, m)) rfl rfl (news_fare xw_2 (x, m) _) (fc_one (x, m)) (fc_notU (x, m)) (by decide) hlen63 hlen64 T3.bl.size (xw_2.heap.size + 1) hsz2 ?_
      intro g cap w4 hown4 hgrow hat hlt4 hno4
      have FIN := T3.push (p := (x, m)) (by rw [unhide HE]; exact ⟨rfl, hm3⟩) (fun _ ad e he => by have h1 := (hown1 _ he).2; have h2 := hmf ad e; omega) hown4 hgrow (by rw [hsz2]; exact hat) hno4
      have hC_4 : (fun w' : World => w'.cell? ⟨bk, 0, none⟩ = some (.int .i64 x) ∧ w'.cell? ⟨bk, 1, none⟩ = some (.slice l.a l.n l.c)) w4 := by
        have far : ∀ k, w4.cell? ⟨bk, k, none⟩ = (xw_2.alloc (.cells #[.int .i64 x, .slice m.a m.n m.c] 39)).cell? ⟨bk, k, none⟩ := fun k => hgrow.cell_far ⟨bk, k, none⟩ (Nat.lt_of_lt_of_le (unhide HBK) cc_3.size) (fun e => unhide HNE e.symm)
        simp only [far]; exact hC_3
      refine hK.out _ _ hC_4 ?_
      clear hK K
      (try simp only [Act.put, List.setIfInBounds_toArray, List.set_cons_zero, List.set_cons_succ])
      refine wpHold_one (k := 9) (by kernel_rfl) rfl (fun K hK => ?_)
      (try simp only [List.getElem_toArray, List.getElem_cons_succ, List.getElem_cons_zero])
      go_simp
      refine hK.out _ _ hC_4 ?_
      clear hK K
      (try simp only [Act.put, List.setIfInBounds_toArray, List.set_cons_zero, List.set_cons_succ])
      refine wpHold_done (by kernel_rfl) ?_ _
      have HFIN := hide FIN
      clear FIN hown4 hgrow hat hno4 T3 hm3 HT1 hC_4 hC_3 HC HE hown1 hsz1 hmf hC_2 hC0
      go_wp2_with fail
      exact ⟨⟨i + 1, ts ++ [(x, m)], by go_num, hlt, by rw [List.length_append, unhide HTS]; rfl, unhide HFIN⟩, by simp [intOf]; omega⟩
    · obtain rfl : i = ps.length := by omega
      have L := T.fares (by rw [hts, frOf_length])
      have HB := hide T.bl
      have HL := hide L
      clear T H3 L
      go_wp2
      (try simp only [Exit.inBlock, Exit.then])
      exact bodyPost_ret (v := u3) (by simp [results, Try.results4, go_sem]) rfl ⟨_, rfl, unhide HL, unhide HB⟩

/-- Few ask for them. -/
def Short (ps : List (Int × List (Int × Int))) : Prop := (∀ j, j < ps.length → (ps[j]!).2.length ≤ 6) ∧ ps.length ≤ 4
end Go.Proofs.Ytfnbjenneodcdaa
