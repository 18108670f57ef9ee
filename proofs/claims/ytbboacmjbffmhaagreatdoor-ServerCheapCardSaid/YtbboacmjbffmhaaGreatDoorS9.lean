/- plain.Classes. -/
import Derived.Test.YtbboacmjbffmhaaGreatDoorS2
import Derived.Test.YtbboacmjbffmhaaGreatDoorA16
import Derived.Test.YtbboacmjbffmhaaGreatDoorX2
namespace Go.Proofs.YtbboacmjbffmhaaGreatDoor
open Go.RowKit Go.Sort Go.Shelf

/-- A row of the call's own, or none. -/
def Fresh (w : World) (v : Value) : Prop := v = .slice none 0 0 ∨ ∃ g n cap, v = .slice (some ⟨g, 0, none⟩) n cap ∧ w.heap.size ≤ g
theorem fresh_of {w wr : World} {v : Value} {n : Nat} {xs : List Value} {T : TypeId} {k : Nat} (h : wr.ownsRow w.heap.size T k v n xs) : Fresh w v := by
  rcases h.2 with ⟨rfl, _⟩ | ⟨g, cap, cur, rfl, hb, _⟩
  · exact Or.inl rfl
  · exact Or.inr ⟨g, _, cap, rfl, hb⟩
def FsPost (w : World) (qs : List Rat) (e : Ending) (w' : World) : Prop := ∃ v, e = .returned v ∧ LawIs w' v qs ∧ Below w.heap.size w w' ∧ Fresh w v

set_option maxHeartbeats 4000000 in
set_option maxRecDepth 100000 in
theorem fs_own (v : Value) (ps : List (Int × Int)) (w : World) (h : PairsAre w v ps) (hl : ps.length ≤ 1099511627776) :
    Calls Tryz.prog 5 #[v] w (FsPost w (pqs ps)) := by
  obtain ⟨a, c, rfl, h1, h2, h4, h3⟩ := h
  obtain ⟨ti, hi, hz0, hz1, hz2⟩ := info_parts Tryz.infoR
  have H3 := hide h3
  have H4 := hide h4
  have HI := hide hi
  have HZ := hide hz0
  clear h3 h4 hi hz0
  go_enter Tryz.func5, Tryz.ntmps5
  go_wp2_with fail
  go_loopw [3, 8] (fun vo vi wr => ∃ (i : Nat) (ts : List Tri), vi = .int .i64 i ∧ i ≤ ps.length ∧ ts.length = i ∧ FsAt w wr w.heap.size vo ts (pqs ps)) (fun _ vi _ => ps.length - (intOf vi).toNat)
  case atStart => exact ⟨0, [], rfl, Nat.zero_le _, rfl, FsAt.start w _⟩
  case round =>
    obtain ⟨i, ts, rfl, hi, hts, T⟩ := hrel
    by_cases hlt : i < ps.length
    · obtain ⟨b, o, rfl, hblt, hcs⟩ := unhide H3 (by omega)
      have ⟨k0, k1⟩ := hcs i hlt
      have ⟨i1, i2⟩ := unhide H4 i hlt
      rw [← T.bl.cell (p := ⟨b, o + i * 2, none⟩) hblt] at k0
      rw [← T.bl.cell (p := ⟨b, o + i * 2 + 1, none⟩) hblt] at k1
      obtain ⟨x, hx⟩ : ∃ x, (ps[i]!).1 = x := ⟨_, rfl⟩
      obtain ⟨y, hy⟩ : ∃ y, (ps[i]!).2 = y := ⟨_, rfl⟩
      have epq : (pqs ps)[ts.length]! = Rat.divInt x (if y = 0 then 1 else y) := by
        rw [hts, ← hx, ← hy]
        simp [pqs, pq, hlt]
      rw [hx] at k0 i1
      rw [hy] at k1 i2
      have T1 := T.keep (alloc_below wr (.cells #[.int .i64 x, .int .i64 y] 25))
      have HF := hide (f_any x y i1.1 i1.2 i2.1 i2.2 (wr.alloc (.cells #[.int .i64 x, .int .i64 y] 25)))
      have hi0 : (0 : Int) ≤ (i : Int) := by omega
      have hi1 : (i : Int) < (ps.length : Int) := by omega
      have HT1 := hide T1
      have HE := hide epq
      have HTS := hide hts
      clear T T1 hcs H3 H4 epq i1 i2 hts hx hy
      go_wp2_with fail
      refine (unhide HF).mono ?_
      rintro e w2 ⟨v2, rfl, hv2, hb2⟩
      obtain ⟨t, rfl, hr2⟩ := tri_of hv2
      rw [← unhide HE] at hr2
      have T2 := ((unhide HT1).keep hb2).keep (alloc_below w2 (.cells #[.bool t.s, .slice t.a1 t.n1 t.c1, .slice t.a2 t.n2 t.c2] 42))
      have hr3 := hr2.below (alloc_below w2 (.cells #[.bool t.s, .slice t.a1 t.n1 t.c1, .slice t.a2 t.n2 t.c2] 42))
      have hlen56 : (ts.length + 1) * 56 ≤ 140737488355328 := by have := unhide HTS; omega
      have hlen63 : ts.length + 1 ≤ maxLen := by have := unhide HTS; unfold maxLen; omega
      have hbase : w.heap.size ≤ (w2.alloc (.cells #[.bool t.s, .slice t.a1 t.n1 t.c1, .slice t.a2 t.n2 t.c2] 42)).heap.size := T2.bl.size
      have hsz2 : (w2.alloc (.cells #[.bool t.s, .slice t.a1 t.n1 t.c1, .slice t.a2 t.n2 t.c2] 42)).heap.size = w2.heap.size + 1 := by rw [alloc_heap, Array.size_push]
      have HT2 := hide T2
      have HR3 := hide hr3
      have HBA := hide hbase
      have HSZ := hide hsz2
      have HL56 := hide hlen56
      have HL63 := hide hlen63
      simp only [Tri.val]
      clear T2 hr3 hr2 hbase hsz2 hlen56 hlen63 hv2 hb2 HT1 HF
      go_wp2_with (at_builtin; go_loud (refine wpList_append_tri _ rfl _ _ _ rfl w.heap.size 42 ti 56 Tryz.underlying30 (unhide HI) (unhide HZ) hz1 hz2 _ ts.length (tcells ts) rfl (unhide HT2).own (unhide HT2).no ⟨w2.heap.size, 0, none⟩ 1 1 t.cells rfl rfl (news_tri w2 t _) (tri_one t) t.notWord (by decide) (unhide HL63) (unhide HL56) (unhide HBA) (w2.heap.size + 1) (unhide HSZ) ?_; intro g cap w4 hown4 hgrow hat hlt4 hno4))
      have FIN := hide ((unhide HT2).push (unhide HR3) hown4 hgrow hno4 (unhide HBA))
      clear hown4 hgrow hat hno4 HT2 HR3
      go_wp2_with fail
      exact ⟨⟨i + 1, ts ++ [t], by go_num, hlt, by rw [List.length_append, unhide HTS]; rfl, unhide FIN⟩, by simp [intOf]; omega⟩
    · obtain rfl : i = ps.length := by omega
      have L := law_of_owns T.own (by rw [hts, pqs_length]) T.rat
      have HB := hide T.bl
      have HL := hide L
      have HF : Hid (Fresh w u3) := fresh_of T.own
      clear T H3 H4 L
      go_wp2
      (try simp only [Exit.inBlock, Exit.then])
      exact bodyPost_ret (v := u3) (by simp [results, Tryz.results5, go_sem]) rfl ⟨_, rfl, unhide HL, unhide HB, unhide HF⟩

set_option maxHeartbeats 1000000 in
theorem law_own (v : Value) (ps : List (Int × Int)) (w : World) (h : PairsAre w v ps) (hl : ps.length ≤ 1099511627776) :
    Calls Tryz.prog 16 #[v] w (FsPost w (pqs ps)) := by
  have HF := hide (fs_own v ps w h hl)
  clear h
  go_enter Tryz.func16, Tryz.ntmps16
  go_wp2_with fail
  refine (unhide HF).mono ?_
  rintro e w2 ⟨v2, rfl, hv2, hb2, hf2⟩
  have HV := hide hv2
  obtain ⟨a, c, rfl, _, _, _⟩ := hv2
  go_wp2
  go_ret
  exact ⟨_, rfl, unhide HV, hb2, hf2⟩

/-- A row of plain classes. -/
def ClsAre (w : World) (v : Value) (ps : List ((Int × Int) × List (Int × Int))) : Prop := ∃ (a : Option Addr) (c : Nat), v = .slice a ps.length c ∧ ps.length ≤ c ∧ c ≤ 9223372036854775807 ∧ (∀ j, j < ps.length → I64 (ps[j]!).1.1 ∧ I64 (ps[j]!).1.2) ∧
  (0 < ps.length → ∃ b o, a = some ⟨b, o, none⟩ ∧ b < w.heap.size ∧ ∀ j, j < ps.length → ∃ l : Sl, (w.cell? ⟨b, o + j * 3, none⟩ = some (.int .i64 (ps[j]!).1.1) ∧ w.cell? ⟨b, o + j * 3 + 1, none⟩ = some (.int .i64 (ps[j]!).1.2) ∧ w.cell? ⟨b, o + j * 3 + 2, none⟩ = some (.slice l.a l.n l.c)) ∧ PairsAre w l.val (ps[j]!).2)
theorem ClsAre.below {w w' : World} {v : Value} {ps : List ((Int × Int) × List (Int × Int))} (h : ClsAre w v ps) (hb : Below w.heap.size w w') : ClsAre w' v ps := by
  obtain ⟨a, c, e, h1, h2, h4, h3⟩ := h
  refine ⟨a, c, e, h1, h2, h4, fun hp => ?_⟩
  obtain ⟨b, o, ea, hlt, hc⟩ := h3 hp
  refine ⟨b, o, ea, Nat.lt_of_lt_of_le hlt hb.size, fun j hj => ?_⟩
  obtain ⟨l, k, p⟩ := hc j hj
  refine ⟨l, ?_, p.below hb⟩
  rw [hb.cell (p := ⟨b, o + j * 3, none⟩) hlt, hb.cell (p := ⟨b, o + j * 3 + 1, none⟩) hlt, hb.cell (p := ⟨b, o + j * 3 + 2, none⟩) hlt]
  exact k
theorem pairs_len {w : World} {l : Sl} {ps : List (Int × Int)} (h : PairsAre w l.val ps) : l.n = ps.length := by
  obtain ⟨a, c, e, _⟩ := h
  injection e
/-- The classes that they make. -/
def csOf (ps : List ((Int × Int) × List (Int × Int))) : List (Rat × List Rat) := ps.map fun p => (pq p.1, pqs p.2)
theorem csOf_length (ps : List ((Int × Int) × List (Int × Int))) : (csOf ps).length = ps.length := by simp [csOf]
theorem csOf_get {ps : List ((Int × Int) × List (Int × Int))} {j : Nat} (h : j < ps.length) : (csOf ps)[j]! = (pq (ps[j]!).1, pqs (ps[j]!).2) := by simp [csOf, h]

set_option maxHeartbeats 8000000 in
set_option maxRecDepth 100000 in
set_option linter.unusedSimpArgs false in
theorem classes_any (v : Value) (ps : List ((Int × Int) × List (Int × Int))) (w : World) (h : ClsAre w v ps) (hl : ps.length ≤ 1000) (hll : ∀ j, j < ps.length → (ps[j]!).2.length ≤ 1000) :
    Calls Tryz.prog 4 #[v] w fun e w' => ∃ v, e = .returned v ∧ ClassesAre w' v (csOf ps) ∧ Below w.heap.size w w' := by
  obtain ⟨a, c, rfl, h1, h2, h4, h3⟩ := h
  obtain ⟨ti, hi, hz0, hz1, hz2⟩ := info_parts Tryz.infoC
  have H3 := hide h3
  have H4 := hide h4
  have HLL := hide hll
  have HI := hide hi
  have HZ := hide hz0
  clear h3 h4 hi hz0 hll
  go_enter Tryz.func4, Tryz.ntmps4
  go_wp2_with fail
  go_loopw [3, 8] (fun vo vi wr => ∃ (i : Nat) (ts : List (Tri × Sl)), vi = .int .i64 i ∧ i ≤ ps.length ∧ ts.length = i ∧ CsAt w wr vo ts (csOf ps)) (fun _ vi _ => ps.length - (intOf vi).toNat)
  case atStart => exact ⟨0, [], rfl, Nat.zero_le _, rfl, CsAt.start w _ _ (Below.refl _ _)⟩
  case round =>
    obtain ⟨i, ts, rfl, hi, hts, T⟩ := hrel
    by_cases hlt : i < ps.length
    · obtain ⟨b, o, rfl, hblt, hcs⟩ := unhide H3 (by omega)
      obtain ⟨l, ⟨k0, k1, k2⟩, hpl⟩ := hcs i hlt
      have ⟨i1, i2⟩ := unhide H4 i hlt
      rw [← T.bl.cell (p := ⟨b, o + i * 3, none⟩) hblt] at k0
      rw [← T.bl.cell (p := ⟨b, o + i * 3 + 1, none⟩) hblt] at k1
      rw [← T.bl.cell (p := ⟨b, o + i * 3 + 2, none⟩) hblt] at k2
      obtain ⟨x, hx⟩ : ∃ x, (ps[i]!).1.1 = x := ⟨_, rfl⟩
      obtain ⟨y, hy⟩ : ∃ y, (ps[i]!).1.2 = y := ⟨_, rfl⟩
      have epq : (csOf ps)[ts.length]! = (Rat.divInt x (if y = 0 then 1 else y), pqs (ps[i]!).2) := by
        rw [hts, csOf_get hlt, ← hx, ← hy]
        rfl
      rw [hx] at k0 i1
      rw [hy] at k1 i2
      have bA := alloc_below wr (.cells #[.int .i64 x, .int .i64 y, .slice l.a l.n l.c] 27)
      have T1 := T.keep bA
      have hpl2 := hpl.below (below_step T.bl bA)
      have hnew := heap_alloc_new wr (.cells #[.int .i64 x, .int .i64 y, .slice l.a l.n l.c] 27)
      have hne : ∀ e : (u3).ownBlock = some wr.heap.size, False := fun e => Nat.lt_irrefl _ (ownsC_block T.own _ e).2
      obtain ⟨W2, hW2⟩ : ∃ W, wr.alloc (.cells #[.int .i64 x, .int .i64 y, .slice l.a l.n l.c] 27) = W := ⟨_, rfl⟩
      obtain ⟨bk, hbk⟩ : ∃ g, wr.heap.size = g := ⟨_, rfl⟩
      rw [hW2] at T1 hnew hpl2
      rw [hbk] at hnew hne
      have hbl : bk < W2.heap.size := (Array.getElem?_eq_some_iff.1 hnew).1
      have HC : Hid (∀ W, Below W2.heap.size W2 W → (fun w' : World => w'.cell? ⟨bk, 0, none⟩ = some (.int .i64 x) ∧ w'.cell? ⟨bk, 1, none⟩ = some (.int .i64 y) ∧ w'.cell? ⟨bk, 2, none⟩ = some (.slice l.a l.n l.c)) W) := fun W hb => by
        have h' : W.heap[bk]? = some (.cells #[.int .i64 x, .int .i64 y, .slice l.a l.n l.c] 27) := by rw [hb.block _ hbl]; exact hnew
        simp [World.cell?, h']
      have HLW : Hid (∀ W, Below W2.heap.size W2 W → Calls Tryz.prog 16 #[.slice l.a l.n l.c] W (FsPost W (pqs (ps[i]!).2))) := fun W hb => law_own l.val _ W (hpl2.below hb) (by have := unhide HLL i hlt; omega)
      have HX := hide i1
      have HY := hide i2
      have hi0 : (0 : Int) ≤ (i : Int) := by omega
      have hi1 : (i : Int) < (ps.length : Int) := by omega
      have HT1 := hide T1
      have HE := hide epq
      have HTS := hide hts
      have HBK := hide hbl
      have HNE := hide hne
      have ⟨c0, c1, c2⟩ := unhide HC _ (Below.refl _ _)
      clear T T1 hcs H3 H4 epq i1 i2 hts hx hy bA hne hnew hbl hpl hpl2 HLL
      go_wp2_with fail
      refine wp_region_hold (fun w' : World => w'.cell? ⟨bk, 0, none⟩ = some (.int .i64 x) ∧ w'.cell? ⟨bk, 1, none⟩ = some (.int .i64 y) ∧ w'.cell? ⟨bk, 2, none⟩ = some (.slice l.a l.n l.c)) (by kernel_rfl) ?_
      have bd0 : Below W2.heap.size W2 W2.drew := (Below.refl _ _).drew
      have hC0 : (fun w' : World => w'.cell? ⟨bk, 0, none⟩ = some (.int .i64 x) ∧ w'.cell? ⟨bk, 1, none⟩ = some (.int .i64 y) ∧ w'.cell? ⟨bk, 2, none⟩ = some (.slice l.a l.n l.c)) W2.drew := unhide HC _ bd0
      refine wpHold_take (i := 0) (v := ?_) rfl (by kernel_rfl) (by kernel_rfl) (by kernel_rfl) (fun _ _ _ h => h) (Or.inl ⟨by rfl, ?_⟩) hC0 ?_
      rotate_left
      · intro w hSw; clear hSw; go_simp; (try with_reducible rfl)
      (try simp only [List.getElem_toArray, List.getElem_cons_succ, List.getElem_cons_zero])
      (try simp only [Act.put, List.setIfInBounds_toArray, List.set_cons_zero, List.set_cons_succ])
      refine wpHold_take (i := 1) (v := ?_) rfl (by kernel_rfl) (by kernel_rfl) (by kernel_rfl) (fun _ _ _ h => h) (Or.inl ⟨by rfl, ?_⟩) hC0 ?_
      rotate_left
      · intro w hSw; clear hSw; go_simp; (try with_reducible rfl)
      (try simp only [List.getElem_toArray, List.getElem_cons_succ, List.getElem_cons_zero])
      (try simp only [Act.put, List.setIfInBounds_toArray, List.set_cons_zero, List.set_cons_succ])
      refine wpHold_take (i := 2) (v := ?_) rfl (by kernel_rfl) (by kernel_rfl) (by kernel_rfl) (fun _ _ _ h => h) (Or.inl ⟨by rfl, ?_⟩) hC0 ?_
      rotate_left
      · intro w hSw; (try dsimp only at hSw); obtain ⟨c0, c1, c2⟩ := hSw; go_simp; (try with_reducible rfl)
      (try simp only [List.getElem_toArray, List.getElem_cons_succ, List.getElem_cons_zero])
      (try simp only [Act.put, List.setIfInBounds_toArray, List.set_cons_zero, List.set_cons_succ])
      refine wpHold_take (i := 4) (v := ?_) rfl (by kernel_rfl) (by kernel_rfl) (by kernel_rfl) (fun _ _ _ h => h) (Or.inl ⟨by rfl, ?_⟩) hC0 ?_
      rotate_left
      · intro w hSw; clear hSw; go_simp; (try with_reducible rfl)
      (try simp only [List.getElem_toArray, List.getElem_cons_succ, List.getElem_cons_zero])
      (try simp only [Act.put, List.setIfInBounds_toArray, List.set_cons_zero, List.set_cons_succ])
      refine wpHold_take (i := 5) (v := ?_) rfl (by kernel_rfl) (by kernel_rfl) (by kernel_rfl) (fun _ _ _ h => h) (Or.inl ⟨by rfl, ?_⟩) hC0 ?_
      rotate_left
      · intro w hSw; (try dsimp only at hSw); obtain ⟨c0, c1, c2⟩ := hSw; go_simp; (try with_reducible rfl)
      (try simp only [List.getElem_toArray, List.getElem_cons_succ, List.getElem_cons_zero])
      (try simp only [Act.put, List.setIfInBounds_toArray, List.set_cons_zero, List.set_cons_succ])
      refine wpHold_one (k := 3) (by kernel_rfl) rfl (fun K hK => ?_)
      (try simp only [List.getElem_toArray, List.getElem_cons_succ, List.getElem_cons_zero])
      go_simp
      refine (f_any x y (unhide HX).1 (unhide HX).2 (unhide HY).1 (unhide HY).2 _).mono ?_
      rintro e xw_1 ⟨xv_1, rfl, hv_1, hb_1⟩
      have cc_1 := below_step bd0 hb_1
      have hC_1 : (fun w' : World => w'.cell? ⟨bk, 0, none⟩ = some (.int .i64 x) ∧ w'.cell? ⟨bk, 1, none⟩ = some (.int .i64 y) ∧ w'.cell? ⟨bk, 2, none⟩ = some (.slice l.a l.n l.c)) xw_1 := unhide HC _ cc_1
      refine hK.out _ _ hC_1 ?_
      clear hK K
      (try simp only [Act.put, List.setIfInBounds_toArray, List.set_cons_zero, List.set_cons_succ])
      refine wpHold_one (k := 6) (by kernel_rfl) rfl (fun K hK => ?_)
      (try simp only [List.getElem_toArray, List.getElem_cons_succ, List.getElem_cons_zero])
      go_simp
      refine (unhide HLW _ cc_1).mono ?_
      rintro e xw_2 ⟨xv_2, rfl, hv_2, hb_2, hf_2⟩
      have cc_2 := below_step cc_1 hb_2
      have hC_2 : (fun w' : World => w'.cell? ⟨bk, 0, none⟩ = some (.int .i64 x) ∧ w'.cell? ⟨bk, 1, none⟩ = some (.int .i64 y) ∧ w'.cell? ⟨bk, 2, none⟩ = some (.slice l.a l.n l.c)) xw_2 := unhide HC _ cc_2
      refine hK.out _ _ hC_2 ?_
      clear hK K
      (try simp only [Act.put, List.setIfInBounds_toArray, List.set_cons_zero, List.set_cons_succ])
      obtain ⟨t, rfl, ht0⟩ := tri_of hv_1
      have ht := ht0.below hb_2
      obtain ⟨m, rfl, hm, hmn⟩ := sl_of hv_2
      clear hv_1 hv_2 ht0 hmn
      simp only [Tri.val, Sl.val]
      have hmf : ∀ ad, m.a = some ad → xw_1.heap.size ≤ ad.block := fun ad e => by
        rcases hf_2 with h | ⟨g, n, cap, h, hg⟩
        · have : m.a = none := by injection h
          rw [this] at e; cases e
        · have : m.a = some ⟨g, 0, none⟩ := by injection h
          rw [this] at e
          injection e with e
          rw [← e]; exact hg
      refine wpHold_take (i := 7) (v := ?_) rfl (by kernel_rfl) (by kernel_rfl) (by kernel_rfl) (fun _ _ _ h => h) (Or.inl ⟨by rfl, ?_⟩) hC_2 ?_
      rotate_left
      · intro w hSw; clear hSw; go_simp; (try with_reducible rfl)
      (try simp only [List.getElem_toArray, List.getElem_cons_succ, List.getElem_cons_zero])
      (try simp only [Act.put, List.setIfInBounds_toArray, List.set_cons_zero, List.set_cons_succ])
      refine wpHold_one (k := 8) (by kernel_rfl) rfl (fun K hK => ?_)
      (try simp only [List.getElem_toArray, List.getElem_cons_succ, List.getElem_cons_zero])
      go_simp
      have bL := alloc_below xw_2 (.cells #[.bool t.s, .slice t.a1 t.n1 t.c1, .slice t.a2 t.n2 t.c2, .slice m.a m.n m.c] 45)
      have cc_3 := below_step cc_2 bL
      have hC_3 : (fun w' : World => w'.cell? ⟨bk, 0, none⟩ = some (.int .i64 x) ∧ w'.cell? ⟨bk, 1, none⟩ = some (.int .i64 y) ∧ w'.cell? ⟨bk, 2, none⟩ = some (.slice l.a l.n l.c)) (xw_2.alloc (.cells #[.bool t.s, .slice t.a1 t.n1 t.c1, .slice t.a2 t.n2 t.c2, .slice m.a m.n m.c] 45)) := unhide HC _ cc_3
      refine hK.out _ _ hC_3 ?_
      clear hK K
      (try simp only [Act.put, List.setIfInBounds_toArray, List.set_cons_zero, List.set_cons_succ])
      have T3 := (unhide HT1).keep cc_3
      have ht3 := ht.below bL
      have hm3 := hm.below bL
      have hlen64 : (ts.length + 1) * 80 ≤ 140737488355328 := by have := unhide HTS; omega
      have hlen63 : ts.length + 1 ≤ maxLen := by have := unhide HTS; unfold maxLen; omega
      have hsz2 : (xw_2.alloc (.cells #[.bool t.s, .slice t.a1 t.n1 t.c1, .slice t.a2 t.n2 t.c2, .slice m.a m.n m.c] 45)).heap.size = xw_2.heap.size + 1 := by rw [alloc_heap, Array.size_push]
      have hown1 := ownsC_block (unhide HT1).own
      have hsz1 := cc_1.size
      refine wpHold_one (k := 9) (by kernel_rfl) rfl (fun K hK => ?_)
      refine step_append_class _ rfl _ _ _ rfl w.heap.size 45 ti 80 Tryz.underlying28 (unhide HI) (unhide HZ) hz1 hz2 _ ts.length (ccells ts) rfl T3.own T3.no ⟨xw_2.heap.size, 0, none⟩ 1 1 (cc (t, m)) rfl rfl (news_class xw_2 (t, m) _) (cc_one (t, m)) (cc_notWord (t, m)) (by decide) hlen63 hlen64 T3.bl.size (xw_2.heap.size + 1) hsz2 ?_
      intro g cap w4 hown4 hgrow hat hlt4 hno4
      have FIN := T3.push (p := (t, m)) (by rw [unhide HE]; exact ⟨ht3, hm3⟩) (fun _ ad e he => by have h1 := (hown1 _ he).2; have h2 := hmf ad e; omega) hown4 hgrow (by rw [hsz2]; exact hat) hno4
      have hC_4 : (fun w' : World => w'.cell? ⟨bk, 0, none⟩ = some (.int .i64 x) ∧ w'.cell? ⟨bk, 1, none⟩ = some (.int .i64 y) ∧ w'.cell? ⟨bk, 2, none⟩ = some (.slice l.a l.n l.c)) w4 := by
        have far : ∀ k, w4.cell? ⟨bk, k, none⟩ = (xw_2.alloc (.cells #[.bool t.s, .slice t.a1 t.n1 t.c1, .slice t.a2 t.n2 t.c2, .slice m.a m.n m.c] 45)).cell? ⟨bk, k, none⟩ := fun k => hgrow.cell_far ⟨bk, k, none⟩ (Nat.lt_of_lt_of_le (unhide HBK) cc_3.size) (fun e => unhide HNE e.symm)
        simp only [far]; exact hC_3
      refine hK.out _ _ hC_4 ?_
      clear hK K
      (try simp only [Act.put, List.setIfInBounds_toArray, List.set_cons_zero, List.set_cons_succ])
      refine wpHold_one (k := 10) (by kernel_rfl) rfl (fun K hK => ?_)
      (try simp only [List.getElem_toArray, List.getElem_cons_succ, List.getElem_cons_zero])
      go_simp
      refine hK.out _ _ hC_4 ?_
      clear hK K
      (try simp only [Act.put, List.setIfInBounds_toArray, List.set_cons_zero, List.set_cons_succ])
      refine wpHold_done (by kernel_rfl) ?_ _
      have HFIN := hide FIN
      clear FIN hown4 hgrow hat hno4 T3 ht3 hm3 HT1 hC_4 hC_3 HC HE hown1 hsz1 hmf
      go_wp2_with fail
      exact ⟨⟨i + 1, ts ++ [(t, m)], by go_num, hlt, by rw [List.length_append, unhide HTS]; rfl, unhide HFIN⟩, by simp [intOf]; omega⟩
    · obtain rfl : i = ps.length := by omega
      have L := T.classes (by rw [hts, csOf_length])
      have HB := hide T.bl
      have HL := hide L
      clear T H3 H4 L
      go_wp2
      (try simp only [Exit.inBlock, Exit.then])
      exact bodyPost_ret (v := u3) (by simp [results, Tryz.results4, go_sem]) rfl ⟨_, rfl, unhide HL, unhide HB⟩
end Go.Proofs.YtbboacmjbffmhaaGreatDoor
