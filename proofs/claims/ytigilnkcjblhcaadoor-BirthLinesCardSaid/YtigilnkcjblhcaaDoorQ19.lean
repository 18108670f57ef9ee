/- plain.Kinds. -/
import Derived.Test.YtigilnkcjblhcaaDoorQ18
import Derived.Test.YtigilnkcjblhcaaDoorA16
namespace Go.Proofs.YtigilnkcjblhcaaDoor
open Go.RowKit Go.Sort Go.Shelf

theorem step_append_kind {P : Program} (w : World) {ops : Array Oper} {o : Oper} {a : Act} {K : Act → World → Prop} {Q : Exit → Act → World → Prop} {E : Prop} (hgd : o.guard = none) (s x : Operand) (t : TypeId)
    (ho : o.op = .call { callee := .builtin .append, args := #[s, x], argTypes := #[t, t] })
    (base : Nat) (e : TypeId) (i : TypeInfo) (bytes : Nat) (ht : P.underlying t = some (.slice e)) (hi : P.info? e = some i) (hz : i.zero = some (.agg zK))
    (hsize : i.size = 4) (hby : i.bytes = bytes)
    (v : Value) (n : Nat) (xs : List Value) (hs : a.eval s = v) (hown : w.ownsRow base e 4 v n xs) (hno : ∀ g, v.ownBlock = some g → Unword w g)
    (ad : Addr) (m c : Nat) (news : List Value) (hx : a.eval x = .slice (some ad) m c) (hl : news.length = m * 4) (hnews : ∀ j u, news[j]? = some u → w.cell? (ad.add j) = some u) (h1 : ∀ u ∈ news, u.oneCell' = true) (h1w : ∀ u ∈ news, Go.Proofs.YtigilnkcjblhcaaDoor.notU u)
    (hm : 0 < m) (h63 : n + m ≤ maxLen) (hbytes : (n + m) * bytes ≤ 140737488355328) (hbase : base ≤ w.heap.size) (H : Nat) (hH : w.heap.size = H)
    (h : ∀ g cap w', w'.ownsRow base e 4 (.slice (some ⟨g, 0, none⟩) (n + m) cap) (n + m) (xs ++ news) → w.grownBy w' v.ownBlock → (v.ownBlock = some g ∨ g = H) → g < w'.heap.size → Unword w' g → K (a.put o.dst (.slice (some ⟨g, 0, none⟩) (n + m) cap)) w') :
    if Region.wanted o (yielded ops a.tmps) = true then Oper.wp P o a w K Q else E := by
  have hw : Region.wanted o (yielded ops a.tmps) = true := by simp [Region.wanted, hgd]
  rw [if_pos hw]
  obtain ⟨g, cap, w', hr, h2, h3, h4, h5⟩ := run_append_lies (P := P) w t o.type base e i _ 4 bytes ht hi hz hsize hby (by decide) (by omega) v n xs hown ad m c news hl hnews h1 hm h63 hbytes hbase H hH
  have h6 := append_unword ht hi hz hsize hby hown hno hl hnews h1 h1w hm h63 hbytes hr
  unfold Oper.wp execOp
  simp only [ho, resolve, invoke, builtin, Sem.run_bind, Sem.run_pure, Result.andThen_ok, List.map_toArray, List.map_cons, List.map_nil, hs, hx, hr]
  exact h g cap w' h2 h3 h4 h5 h6

/-- A row of plain kinds. -/
def TripAre (w : World) (v : Value) (ps : List ((Int × Int) × Int)) : Prop := ∃ (a : Option Addr) (c : Nat), v = .slice a ps.length c ∧ ps.length ≤ c ∧ c ≤ 9223372036854775807 ∧ (∀ j, j < ps.length → I64 (ps[j]!).1.1 ∧ I64 (ps[j]!).1.2) ∧
  (0 < ps.length → ∃ b o, a = some ⟨b, o, none⟩ ∧ b < w.heap.size ∧ ∀ j, j < ps.length → w.cell? ⟨b, o + j * 3, none⟩ = some (.int .i64 (ps[j]!).1.1) ∧ w.cell? ⟨b, o + j * 3 + 1, none⟩ = some (.int .i64 (ps[j]!).1.2) ∧ w.cell? ⟨b, o + j * 3 + 2, none⟩ = some (.int .i64 (ps[j]!).2))
theorem TripAre.below {w w' : World} {v : Value} {ps : List ((Int × Int) × Int)} (h : TripAre w v ps) (hb : Below w.heap.size w w') : TripAre w' v ps := by
  obtain ⟨a, c, e, h1, h2, h4, h3⟩ := h
  refine ⟨a, c, e, h1, h2, h4, fun hp => ?_⟩
  obtain ⟨b, o, ea, hlt, hc⟩ := h3 hp
  refine ⟨b, o, ea, Nat.lt_of_lt_of_le hlt hb.size, fun j hj => ?_⟩
  rw [hb.cell (p := ⟨b, o + j * 3, none⟩) hlt, hb.cell (p := ⟨b, o + j * 3 + 1, none⟩) hlt, hb.cell (p := ⟨b, o + j * 3 + 2, none⟩) hlt]
  exact hc j hj
/-- The kinds that they make. -/
def ksOf (ps : List ((Int × Int) × Int)) : List (Rat × Int) := ps.map fun p => (pq p.1, p.2)
theorem ksOf_length (ps : List ((Int × Int) × Int)) : (ksOf ps).length = ps.length := by simp [ksOf]
theorem ksOf_get {ps : List ((Int × Int) × Int)} {j : Nat} (h : j < ps.length) : (ksOf ps)[j]! = (pq (ps[j]!).1, (ps[j]!).2) := by simp [ksOf, h]

set_option maxHeartbeats 8000000 in
set_option maxRecDepth 100000 in
set_option linter.unusedSimpArgs false in
theorem kinds_any (v : Value) (ps : List ((Int × Int) × Int)) (w : World) (h : TripAre w v ps) (hl : ps.length ≤ 1000) :
    Calls Tryd.prog 22 #[v] w fun e w' => ∃ v, e = .returned v ∧ KindsAre w' v (ksOf ps) ∧ Below w.heap.size w w' := by
  obtain ⟨a, c, rfl, h1, h2, h4, h3⟩ := h
  obtain ⟨ti, hi, hz0, hz1, hz2⟩ := info_parts Tryd.infoK
  have H3 := hide h3
  have H4 := hide h4
  have HI := hide hi
  have HZ := hide hz0
  clear h3 h4 hi hz0
  go_enter Tryd.func22, Tryd.ntmps22
  go_wp2_with fail
  go_loopw [3, 8] (fun vo vi wr => ∃ (i : Nat) (ts : List (Tri × Int)), vi = .int .i64 i ∧ i ≤ ps.length ∧ ts.length = i ∧ KsAt w wr vo ts (ksOf ps)) (fun _ vi _ => ps.length - (intOf vi).toNat)
  case atStart => exact ⟨0, [], rfl, Nat.zero_le _, rfl, KsAt.start w _⟩
  case round =>
    obtain ⟨i, ts, rfl, hi, hts, T⟩ := hrel
    by_cases hlt : i < ps.length
    · obtain ⟨b, o, rfl, hblt, hcs⟩ := unhide H3 (by omega)
      have ⟨k0, k1, k2⟩ := hcs i hlt
      have ⟨i1, i2⟩ := unhide H4 i hlt
      rw [← T.bl.cell (p := ⟨b, o + i * 3, none⟩) hblt] at k0
      rw [← T.bl.cell (p := ⟨b, o + i * 3 + 1, none⟩) hblt] at k1
      rw [← T.bl.cell (p := ⟨b, o + i * 3 + 2, none⟩) hblt] at k2
      obtain ⟨x, hx⟩ : ∃ x, (ps[i]!).1.1 = x := ⟨_, rfl⟩
      obtain ⟨y, hy⟩ : ∃ y, (ps[i]!).1.2 = y := ⟨_, rfl⟩
      obtain ⟨z, hz⟩ : ∃ z, (ps[i]!).2 = z := ⟨_, rfl⟩
      have epq : (ksOf ps)[ts.length]! = (Rat.divInt x (if y = 0 then 1 else y), z) := by
        rw [hts, ksOf_get hlt, ← hx, ← hy, ← hz]
        rfl
      rw [hx] at k0 i1
      rw [hy] at k1 i2
      rw [hz] at k2
      have bA := alloc_below wr (.cells #[.int .i64 x, .int .i64 y, .int .i64 z] 60)
      have T1 := T.keep bA
      have hnew := heap_alloc_new wr (.cells #[.int .i64 x, .int .i64 y, .int .i64 z] 60)
      have hne : ∀ e : (u3).ownBlock = some wr.heap.size, False := fun e => Nat.lt_irrefl _ (ownsK_block T.own _ e).2
      obtain ⟨W2, hW2⟩ : ∃ W, wr.alloc (.cells #[.int .i64 x, .int .i64 y, .int .i64 z] 60) = W := ⟨_, rfl⟩
      obtain ⟨bk, hbk⟩ : ∃ g, wr.heap.size = g := ⟨_, rfl⟩
      rw [hW2] at T1 hnew
      rw [hbk] at hnew hne
      have hbl : bk < W2.heap.size := (Array.getElem?_eq_some_iff.1 hnew).1
      have HC : Hid (∀ W, Below W2.heap.size W2 W → (fun w' : World => w'.cell? ⟨bk, 0, none⟩ = some (.int .i64 x) ∧ w'.cell? ⟨bk, 1, none⟩ = some (.int .i64 y) ∧ w'.cell? ⟨bk, 2, none⟩ = some (.int .i64 z)) W) := fun W hb => by
        have h' : W.heap[bk]? = some (.cells #[.int .i64 x, .int .i64 y, .int .i64 z] 60) := by rw [hb.block _ hbl]; exact hnew
        simp [World.cell?, h']
      have HX := hide i1
      have HY := hide i2
      have hi0 : (0 : Int) ≤ (i : Int) := by omega
      have hi1 : (i : Int) < (ps.length : Int) := by omega
      have HT1 := hide T1
      have HE := hide epq
      have HTS := hide hts
      have HBK := hide hbl
      have HNE := hide hne
      have ⟨c0, c1, c2⟩ := unhide HC _ (Below.refl _ _)
      clear T T1 hcs H3 H4 epq i1 i2 hts hx hy hz bA hne hnew hbl
      go_wp2_with fail
      refine wp_region_hold (fun w' : World => w'.cell? ⟨bk, 0, none⟩ = some (.int .i64 x) ∧ w'.cell? ⟨bk, 1, none⟩ = some (.int .i64 y) ∧ w'.cell? ⟨bk, 2, none⟩ = some (.int .i64 z)) (by kernel_rfl) ?_
      have bd0 : Below W2.heap.size W2 W2.drew := (Below.refl _ _).drew
      have hC0 : (fun w' : World => w'.cell? ⟨bk, 0, none⟩ = some (.int .i64 x) ∧ w'.cell? ⟨bk, 1, none⟩ = some (.int .i64 y) ∧ w'.cell? ⟨bk, 2, none⟩ = some (.int .i64 z)) W2.drew := unhide HC _ bd0
      refine wpHold_take (i := 0) (v := ?_) rfl (by kernel_rfl) (by kernel_rfl) (by kernel_rfl) (fun _ _ _ h => h) (Or.inl ⟨by rfl, ?_⟩) hC0 ?_
      rotate_left
      · intro w hSw; clear hSw; go_simp; (try with_reducible rfl)
      (try simp only [List.getElem_toArray, List.getElem_cons_succ, List.getElem_cons_zero])
      (try simp only [Act.put, List.setIfInBounds_toArray, List.set_cons_zero, List.set_cons_succ])
      refine wpHold_take (i := 1) (v := ?_) rfl (by kernel_rfl) (by kernel_rfl) (by kernel_rfl) (fun _ _ _ h => h) (Or.inl ⟨by rfl, ?_⟩) hC0 ?_
      rotate_left
      · intro w hSw; clear hSw; go_simp; (try with_reducible rfl)
      (try simp only [List.getElem_toArray, List.getElem_cons_succ, List.getElem_cons_zero])
      (try simp only [Act.put, List.setIfInBounds_toArray, List.set_cons_zero, List.set_cons_succ])
      refine wpHold_take (i := 2) (v := ?_) rfl (by kernel_rfl) (by kernel_rfl) (by kernel_rfl) (fun _ _ _ h => h) (Or.inl ⟨by rfl, ?_⟩) hC0 ?_
      rotate_left
      · intro w hSw; (try dsimp only at hSw); obtain ⟨c0, c1, c2⟩ := hSw; go_simp; (try with_reducible rfl)
      (try simp only [List.getElem_toArray, List.getElem_cons_succ, List.getElem_cons_zero])
      (try simp only [Act.put, List.setIfInBounds_toArray, List.set_cons_zero, List.set_cons_succ])
      refine wpHold_take (i := 4) (v := ?_) rfl (by kernel_rfl) (by kernel_rfl) (by kernel_rfl) (fun _ _ _ h => h) (Or.inl ⟨by rfl, ?_⟩) hC0 ?_
      rotate_left
      · intro w hSw; clear hSw; go_simp; (try with_reducible rfl)
      (try simp only [List.getElem_toArray, List.getElem_cons_succ, List.getElem_cons_zero])
      (try simp only [Act.put, List.setIfInBounds_toArray, List.set_cons_zero, List.set_cons_succ])
      refine wpHold_take (i := 5) (v := ?_) rfl (by kernel_rfl) (by kernel_rfl) (by kernel_rfl) (fun _ _ _ h => h) (Or.inl ⟨by rfl, ?_⟩) hC0 ?_
      rotate_left
      · intro w hSw; (try dsimp only at hSw); obtain ⟨c0, c1, c2⟩ := hSw; go_simp; (try with_reducible rfl)
      (try simp only [List.getElem_toArray, List.getElem_cons_succ, List.getElem_cons_zero])
      (try simp only [Act.put, List.setIfInBounds_toArray, List.set_cons_zero, List.set_cons_succ])
      refine wpHold_one (k := 3) (by kernel_rfl) rfl (fun K hK => ?_)
      (try simp only [List.getElem_toArray, List.getElem_cons_succ, List.getElem_cons_zero])
      go_simp
      refine (f_any x y (unhide HX).1 (unhide HX).2 (unhide HY).1 (unhide HY).2 _).mono ?_
      rintro e xw_1 ⟨xv_1, rfl, hv_1, hb_1⟩
      have cc_1 := below_step bd0 hb_1
      have hC_1 : (fun w' : World => w'.cell? ⟨bk, 0, none⟩ = some (.int .i64 x) ∧ w'.cell? ⟨bk, 1, none⟩ = some (.int .i64 y) ∧ w'.cell? ⟨bk, 2, none⟩ = some (.int .i64 z)) xw_1 := unhide HC _ cc_1
      refine hK.out _ _ hC_1 ?_
      clear hK K
      (try simp only [Act.put, List.setIfInBounds_toArray, List.set_cons_zero, List.set_cons_succ])
      obtain ⟨t, rfl, ht⟩ := tri_of hv_1
      clear hv_1
      simp only [Tri.val]
      refine wpHold_take (i := 6) (v := ?_) rfl (by kernel_rfl) (by kernel_rfl) (by kernel_rfl) (fun _ _ _ h => h) (Or.inl ⟨by rfl, ?_⟩) hC_1 ?_
      rotate_left
      · intro w hSw; clear hSw; go_simp; (try with_reducible rfl)
      (try simp only [List.getElem_toArray, List.getElem_cons_succ, List.getElem_cons_zero])
      (try simp only [Act.put, List.setIfInBounds_toArray, List.set_cons_zero, List.set_cons_succ])
      refine wpHold_one (k := 7) (by kernel_rfl) rfl (fun K hK => ?_)
      (try simp only [List.getElem_toArray, List.getElem_cons_succ, List.getElem_cons_zero])
      go_simp
      have bL := alloc_below xw_1 (.cells #[.bool t.s, .slice t.a1 t.n1 t.c1, .slice t.a2 t.n2 t.c2, .int .i64 z] 56)
      have cc_2 := below_step cc_1 bL
      have hC_2 : (fun w' : World => w'.cell? ⟨bk, 0, none⟩ = some (.int .i64 x) ∧ w'.cell? ⟨bk, 1, none⟩ = some (.int .i64 y) ∧ w'.cell? ⟨bk, 2, none⟩ = some (.int .i64 z)) (xw_1.alloc (.cells #[.bool t.s, .slice t.a1 t.n1 t.c1, .slice t.a2 t.n2 t.c2, .int .i64 z] 56)) := unhide HC _ cc_2
      refine hK.out _ _ hC_2 ?_
      clear hK K
      (try simp only [Act.put, List.setIfInBounds_toArray, List.set_cons_zero, List.set_cons_succ])
      have T3 := (unhide HT1).keep cc_2
      have ht3 := ht.below bL
      have hlen64 : (ts.length + 1) * 64 ≤ 140737488355328 := by have := unhide HTS; omega
      have hlen63 : ts.length + 1 ≤ maxLen := by have := unhide HTS; unfold maxLen; omega
      have hsz2 : (xw_1.alloc (.cells #[.bool t.s, .slice t.a1 t.n1 t.c1, .slice t.a2 t.n2 t.c2, .int .i64 z] 56)).heap.size = xw_1.heap.size + 1 := by rw [alloc_heap, Array.size_push]
      refine wpHold_one (k := 8) (by kernel_rfl) rfl (fun K hK => ?_)
      refine step_append_kind _ rfl _ _ _ rfl w.heap.size 56 ti 64 Tryd.underlying57 (unhide HI) (unhide HZ) hz1 hz2 _ ts.length (kcells ts) rfl T3.own T3.no ⟨xw_1.heap.size, 0, none⟩ 1 1 (kc (t, z)) rfl rfl (news_kind xw_1 (t, z) _) (kc_one (t, z)) (kc_notU (t, z)) (by decide) hlen63 hlen64 T3.bl.size (xw_1.heap.size + 1) hsz2 ?_
      intro g cap w4 hown4 hgrow hat hlt4 hno4
      have FIN := T3.push (p := (t, z)) (by rw [unhide HE]; exact ⟨ht3, rfl⟩) hown4 hgrow hno4
      have hC_4 : (fun w' : World => w'.cell? ⟨bk, 0, none⟩ = some (.int .i64 x) ∧ w'.cell? ⟨bk, 1, none⟩ = some (.int .i64 y) ∧ w'.cell? ⟨bk, 2, none⟩ = some (.int .i64 z)) w4 := by
        have far : ∀ k, w4.cell? ⟨bk, k, none⟩ = (xw_1.alloc (.cells #[.bool t.s, .slice t.a1 t.n1 t.c1, .slice t.a2 t.n2 t.c2, .int .i64 z] 56)).cell? ⟨bk, k, none⟩ := fun k => hgrow.cell_far ⟨bk, k, none⟩ (Nat.lt_of_lt_of_le (unhide HBK) cc_2.size) (fun e => unhide HNE e.symm)
        simp only [far]; exact hC_2
      refine hK.out _ _ hC_4 ?_
      clear hK K
      (try simp only [Act.put, List.setIfInBounds_toArray, List.set_cons_zero, List.set_cons_succ])
      refine wpHold_one (k := 9) (by kernel_rfl) rfl (fun K hK => ?_)
      (try simp only [List.getElem_toArray, List.getElem_cons_succ, List.getElem_cons_zero])
      go_simp
      refine hK.out _ _ hC_4 ?_
      clear hK K
      (try simp only [Act.put, List.setIfInBounds_toArray, List.set_cons_zero, List.set_cons_succ])
      refine wpHold_done (by kernel_rfl) ?_ _
      have HFIN := hide FIN
      clear FIN hown4 hgrow hat hno4 T3 ht3 HT1 hC_4 hC_2 HC HE
      go_wp2_with fail
      exact ⟨⟨i + 1, ts ++ [(t, z)], by go_num, hlt, by rw [List.length_append, unhide HTS]; rfl, unhide HFIN⟩, by simp [intOf]; omega⟩
    · obtain rfl : i = ps.length := by omega
      have L := T.kinds (by rw [hts, ksOf_length])
      have HB := hide T.bl
      have HL := hide L
      clear T H3 H4 L
      go_wp2
      (try simp only [Exit.inBlock, Exit.then])
      exact bodyPost_ret (v := u3) (by simp [results, Tryd.results22, go_sem]) rfl ⟨_, rfl, unhide HL, unhide HB⟩
end Go.Proofs.YtigilnkcjblhcaaDoor
