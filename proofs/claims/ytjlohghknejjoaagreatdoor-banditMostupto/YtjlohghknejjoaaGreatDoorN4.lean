/- Equations: rows and right sides joined. -/
import Derived.Test.YtjlohghknejjoaaGreatDoorN3
namespace Go.Proofs.YtjlohghknejjoaaGreatDoor
open Go.RowKit Go.Sort Go.Shelf

theorem run_copy_tri {P : Program} (w : World) (dT sT ty elem : TypeId) (g dLen dCap : Nat) (a : Addr) (sLen sCap : Nat) (cur : Array Value) (t : TypeId) (cs : List Value)
    (hu : P.underlying dT = some (.slice elem)) (hs : (P.info? elem).map (·.size) = some 3)
    (hg : w.heap[g]? = some (.cells cur t (0, 0))) (hn : cs.length = Nat.min sLen dLen * 3)
    (hsrc : ∀ j v, cs[j]? = some v → w.cell? (a.add j) = some v) (hfit : cs.length ≤ cur.size) (h1 : ∀ v ∈ cs, v.oneCell' = true) :
    (Builtin.copy_ #[dT, sT] ty #[.slice (some ⟨g, 0, none⟩) dLen dCap, .slice (some a) sLen sCap]).run P w =
      .ok (goInt (Nat.min sLen dLen)) (w.setRow g (cs ++ cur.toList.drop cs.length).toArray) := by
  have hl := run_loadCells_list (P := P) w a cs hsrc
  have hst := run_storeCells_at P g 0 t cs 0 cur w hg (by simpa using hfit) h1
  cases hq : P.info? elem with
  | none => simp [hq] at hs
  | some i =>
    have hi : i.size = 3 := by simpa [hq] using hs
    have hl' : (loadCells a (Nat.min sLen dLen * 3)).run P w = .ok cs.toArray w := by rw [← hn]; exact hl
    simp [Builtin.copy_, run_underlying hu, Builtin.lenOf, Builtin.firstCells, sizeOf, typeInfo, hq, hi, hl', hst]

theorem tcells_two (a b : List Tri) : tcells (a ++ b) = tcells a ++ tcells b := by simp [tcells]
theorem tcells_one (ts : List Tri) : ∀ u ∈ tcells ts, u.oneCell' = true := by
  intro u hu
  obtain ⟨t, _, h⟩ := List.mem_flatMap.1 hu
  simp only [Tri.cells, List.mem_cons, List.not_mem_nil, or_false] at h
  rcases h with rfl | rfl | rfl <;> rfl
/-- A row's cells as a list. -/
theorem law_tris {w : World} {l : Sl} {qs : List Rat} (h : LawIs w l.val qs) (hp : 0 < qs.length) : ∃ (b o c : Nat) (ts : List Tri), l = (some ⟨b, o, none⟩, qs.length, c) ∧ b < w.heap.size ∧ ts.length = qs.length ∧ (∀ j v, (tcells ts)[j]? = some v → w.cell? ⟨b, o + j, none⟩ = some v) ∧ ∀ j, j < qs.length → RatIs w (ts[j]!).val qs[j]! := by
  obtain ⟨a, c, e, h1, h2, h3⟩ := h
  obtain ⟨b, o, rfl, hlt, hc⟩ := h3 hp
  have ht : ∀ j, ∃ t : Tri, j < qs.length → (∀ k v, k < 3 → t.cells[k]? = some v → w.cell? ⟨b, o + (j * 3 + k), none⟩ = some v) ∧ RatIs w t.val qs[j]! := fun j => by
    by_cases hj : j < qs.length
    · obtain ⟨s, a1, a2, n1, c1, n2, c2, k0, k1, k2, r⟩ := hc j hj
      refine ⟨⟨s, a1, a2, n1, c1, n2, c2⟩, fun _ => ⟨fun k v hk hv => ?_, r⟩⟩
      match k, hk with
      | 0, _ => rw [← hv]; exact k0
      | 1, _ => rw [← hv]; exact k1
      | 2, _ => rw [← hv]; exact k2
    · exact ⟨zTri, fun h => absurd h hj⟩
  obtain ⟨f, hf⟩ := Classical.axiomOfChoice ht
  have gl : ∀ j, j < qs.length → ((List.range qs.length).map f)[j]! = f j := fun j hj => by simp [hj]
  refine ⟨b, o, c, (List.range qs.length).map f, ?_, hlt, by simp, fun j v hv => ?_, fun j hj => by rw [gl j hj]; exact (hf j hj).2⟩
  · obtain ⟨x, y, z⟩ := l
    injection e with e1 e2 e3
    subst e1 e2 e3
    rfl
  · have hjl : j < (tcells ((List.range qs.length).map f)).length := (List.getElem?_eq_some_iff.1 hv).1
    have hlen : (tcells ((List.range qs.length).map f)).length = qs.length * 3 := by rw [tcells_length]; simp
    have hd : j / 3 < qs.length := by omega
    have hm : j % 3 < 3 := Nat.mod_lt _ (by decide)
    have ej : j / 3 * 3 + j % 3 = j := by omega
    have g := tcells_get ((List.range qs.length).map f) (j / 3) (j % 3) (by simpa using hd) hm
    rw [ej, gl _ hd, hv] at g
    have := (hf _ hd).1 (j % 3) v hm g.symm
    rw [ej] at this
    exact this

/-- A row written whole. -/
theorem MatAt.put {w wr : World} {G n c m : Nat} {bs : Nat → Nat} {uss : Nat → List Tri} {M : Nat → Nat → Rat} (h : MatAt w wr G n c m bs uss M) {i : Nat} (hi : i < c) (vs : List Tri) (hv : vs.length = m) (f : Nat → Rat) (hr : ∀ j, j < m → RatIs wr (vs[j]!).val (f j)) :
    MatAt w (wr.setRow (bs i) (tcells vs).toArray) G n c m bs (fun k => if k = i then vs else uss k) (fun a b => if a = i then f b else M a b) := by
  have far : ∀ g, g ≠ bs i → (wr.setRow (bs i) (tcells vs).toArray).heap[g]? = wr.heap[g]? := fun g hg => setRow_other wr (bs i) g _ hg
  have keep : ∀ {v : Value} {q : Rat}, RatIs wr v q → RatIs (wr.setRow (bs i) (tcells vs).toArray) v q := fun {v q} hq => hq.other (h.blk i hi) sums_noWord (by simp) (fun k hk => far k hk)
  refine ⟨?_, h.gl, below_setRow h.bl (h.low i hi) _, fun k hk => ?_, h.low, fun k hk => ?_, fun a b ha hb => ?_, h.apart⟩
  · rw [far _ (Ne.symm (h.ne hi))]; exact h.out
  · by_cases e : k = i
    · subst e
      simp only [if_true]
      exact setRow_heap wr (bs k) _ _ _ _ (h.blk k hk)
    · simp only [e, if_false]
      rw [far _ (h.apart k i hk hi e)]; exact h.blk k hk
  · by_cases e : k = i
    · simp only [e, if_true]; exact hv
    · simp only [e, if_false]; exact h.len k hk
  · by_cases e : a = i
    · simp only [e, if_true]; exact keep (hr b hb)
    · simp only [e, if_false]; exact keep (h.rat a b ha hb)

/-- Rows with what stands on the right behind them. -/
def aug (ks : List (List Rat)) (qs : List Rat) (n i j : Nat) : Rat := if j < n then (ks[i]!)[j]! else qs[i]!

/-- What joined says. -/
def JoinedPost (w : World) (n : Nat) (A : Nat → Nat → Rat) (e : Ending) (w' : World) : Prop := ∃ (G : Nat) (bs : Nat → Nat) (uss : Nat → List Tri), e = .returned (.slice (some ⟨G, 0, none⟩) n n) ∧ MatAt w w' G n n (n + 1) bs uss A

theorem Tryz.size3 : (Tryz.prog.info? 37).map (·.size) = some 3 := by kernel_rfl

set_option maxHeartbeats 8000000 in
set_option maxRecDepth 100000 in
set_option linter.unusedSimpArgs false in
theorem joined_any (v vr : Value) (ks : List (List Rat)) (qs : List Rat) (w : World) (n : Nat) (h : RowsAre w v ks) (hr : LawIs w vr qs) (hn : ks.length = n) (hs : ∀ j, j < n → (ks[j]!).length = n) (hq : qs.length = n) (hn2 : n ≤ 100) :
    Calls Tryz.prog 100 #[v, vr] w (JoinedPost w n (aug ks qs n)) := by
  obtain ⟨a, c, rfl, h1, h2, h3⟩ := h
  obtain ⟨ar, cr, rfl, r1, r2, r3⟩ := hr
  rw [hn] at h1 h3 ⊢
  rw [hq] at r1 r3 ⊢
  have H3 := hide h3
  have HR3 := hide r3
  have HS := hide hs
  have HN := hide hn
  have HQL := hide hq
  have qmk := make_rows (n : Int) (by omega) (by omega) (inB (n + 1) (fun _ => 0)) w
  rw [Int.toNat_natCast] at qmk
  have S0 := MatAt.start w w n (n + 1) (fun _ => 0) (fun _ => []) (aug ks qs n) (Below.refl _ _)
  obtain ⟨W0, hW0⟩ : ∃ W, w.alloc (.cells (hdl n 0 (inB (n + 1) (fun _ => 0))).toArray 29) = W := ⟨_, rfl⟩
  obtain ⟨G, hG⟩ : ∃ G, w.heap.size = G := ⟨_, rfl⟩
  rw [hW0, hG] at qmk S0
  have HS0 := hide S0
  clear S0 hW0 hG h3 r3 hs hn hq
  go_enter Tryz.func100, Tryz.ntmps100
  go_wp2_with fail
  clear qmk
  go_loopw [13] (fun vi wr => ∃ (i : Nat) (bs : Nat → Nat) (uss : Nat → List Tri), vi = .int .i64 (i : Int) ∧ i ≤ n ∧ MatAt w wr G n i (n + 1) bs uss (aug ks qs n)) (fun vi _ => n - (intOf vi).toNat)
  case atStart => exact ⟨0, _, _, rfl, Nat.zero_le _, unhide HS0⟩
  case round =>
    obtain ⟨i, bs, uss, rfl, hi, hM⟩ := hrel
    clear HS0
    have HM := hide hM
    by_cases hlt : i < n
    · obtain ⟨b, o, rfl, hblt, hcs⟩ := unhide H3 (by omega)
      obtain ⟨l, k0, hl⟩ := hcs i hlt
      obtain ⟨br, or, rfl, hbr, hcr⟩ := unhide HR3 (by omega)
      obtain ⟨xs, xp1, xp2, xn1, xd1, xn2, xd2, xk0, xk1, xk2, xr⟩ := hcr i hlt
      obtain ⟨tr, rfl, rfl, rfl, rfl, rfl, rfl, rfl⟩ : ∃ t : Tri, xs = t.s ∧ xp1 = t.a1 ∧ xp2 = t.a2 ∧ xn1 = t.n1 ∧ xd1 = t.c1 ∧ xn2 = t.n2 ∧ xd2 = t.c2 := ⟨⟨xs, xp1, xp2, xn1, xd1, xn2, xd2⟩, rfl, rfl, rfl, rfl, rfl, rfl, rfl⟩
      have HBL := hide hM.bl
      rw [← hM.bl.cell (p := ⟨b, o + i, none⟩) hblt] at k0
      have hln := unhide HS i hlt
      obtain ⟨bl, ol, cl, ts, hle, hbl, htl, htc, htr⟩ := law_tris hl (by omega)
      have P1 := hM.push hlt
      have qm2 := make_ratios ((n : Int) + 1) (by omega) (by omega) wr
      have en : ((n : Int) + 1).toNat = n + 1 := by omega
      rw [en] at qm2
      have kz := hdl_cell0 (hM.keep (alloc_below wr (.cells (tcells (List.replicate (n + 1) zTri)).toArray 37))).out (Nat.le_refl i) hlt
      have kf := hdl_free (hM.keep (alloc_below wr (.cells (tcells (List.replicate (n + 1) zTri)).toArray 37))).out i
      obtain ⟨W1, hW1⟩ : ∃ W, wr.alloc (.cells (tcells (List.replicate (n + 1) zTri)).toArray 37) = W := ⟨_, rfl⟩
      obtain ⟨g, hg⟩ : ∃ g, wr.heap.size = g := ⟨_, rfl⟩
      rw [hW1, hg] at P1 qm2
      rw [hW1] at kz kf
      obtain ⟨W2, hW2⟩ : ∃ W, W1.setCell ⟨G, i, none⟩ (.slice (some ⟨g, 0, none⟩) (n + 1) (n + 1)) = W := ⟨_, rfl⟩
      rw [hW2] at P1
      have kh := P1.head (i := i) (by omega) hlt
      simp only [if_true] at kh
      have hlen2 : (ks[i]!).length = n := hln
      have LT := hide htl
      have cpy : (Builtin.copy_ #[29, 29] 3 #[.slice (some ⟨g, 0, none⟩) (n + 1) (n + 1), .slice l.a l.n l.c]).run Tryz.prog W2 = .ok (.int .i64 (n : Int)) (W2.setRow g (tcells (ts ++ [zTri])).toArray) := by
        have hrow := P1.blk i (by omega)
        simp only [if_true] at hrow
        have cp := run_copy_tri (P := Tryz.prog) W2 29 29 3 37 g (n + 1) (n + 1) ⟨bl, ol, none⟩ n cl _ 37 (tcells ts) Tryz.underlying29 Tryz.size3 hrow
          (by rw [tcells_length, htl, hlen2, show Nat.min n (n + 1) = n from Nat.min_eq_left (by omega)])
          (fun j v hv => by
            have := (P1.bl.cell (p := ⟨bl, ol + j, none⟩) hbl).trans (htc j v hv)
            by_cases hj0 : j = 0
            · subst hj0; simpa [Addr.add] using this
            · simpa [Addr.add, hj0] using this)
          (by rw [tcells_length, htl, hlen2, List.size_toArray, tcells_length, List.length_replicate]; omega)
          (fun v hv => tcells_one ts v hv)
        rw [show Nat.min n (n + 1) = n from Nat.min_eq_left (by omega)] at cp
        rw [hle]
        have e : tcells ts ++ (tcells (List.replicate (n + 1) zTri)).toArray.toList.drop (tcells ts).length = tcells (ts ++ [zTri]) := by
          rw [tcells_two, tcells_length, htl, hlen2]
          congr 1
          rw [List.replicate_succ', tcells_two]
          show List.drop (n * 3) (tcells (List.replicate n zTri) ++ tcells [zTri]) = _
          rw [List.drop_append_of_le_length (by rw [tcells_length, List.length_replicate]; omega), List.drop_eq_nil_of_le (by rw [tcells_length, List.length_replicate]; omega)]
          rfl
        rw [e] at cp
        show (Builtin.copy_ #[29, 29] 3 #[.slice (some ⟨g, 0, none⟩) (n + 1) (n + 1), .slice (some ⟨bl, ol, none⟩) (ks[i]!).length cl]).run Tryz.prog W2 = _
        rw [hlen2]
        exact cp
      have P2 := P1.put (i := i) (by omega) (ts ++ [zTri]) (by rw [List.length_append, htl, hlen2]; rfl) (fun j => if j < n then (ks[i]!)[j]! else 0) (fun j hj => by
        by_cases e : j < n
        · have g1 : (ts ++ [zTri])[j]! = ts[j]! := by rw [List.getElem!_eq_getElem?_getD, List.getElem!_eq_getElem?_getD, List.getElem?_append_left (by omega)]
          rw [if_pos e, g1]
          exact (htr j (by omega)).below P1.bl
        · have e2 : j = ts.length := by omega
          have g1 : (ts ++ [zTri])[ts.length]! = zTri := by rw [List.getElem!_eq_getElem?_getD, List.getElem?_append_right (Nat.le_refl _), Nat.sub_self]; rfl
          rw [if_neg e, e2, g1]
          exact rat_zero _)
      simp only [if_true] at P2
      obtain ⟨W3, hW3⟩ : ∃ W, W2.setRow g (tcells (ts ++ [zTri])).toArray = W := ⟨_, rfl⟩
      rw [hW3] at P2 cpy
      have kh3 := P2.head (i := i) (by omega) hlt
      simp only [if_true] at kh3
      have HP2 := hide P2
      have hln' : l.n = n := by rw [hle]; exact hlen2
      rw [hln'] at k0 cpy
      have HRI := hide (xr.below P2.bl)
      have hgl := P2.ltG
      have HCC : Hid (∀ W, Below W3.heap.size W3 W → (fun w' : World => w'.cell? ⟨G, i, none⟩ = some (.slice (some ⟨g, 0, none⟩) (n + 1) (n + 1)) ∧ (w'.cell? ⟨br, or + i * 3, none⟩ = some (.bool tr.s) ∧ w'.cell? ⟨br, or + i * 3 + 1, none⟩ = some (.slice tr.a1 tr.n1 tr.c1) ∧ w'.cell? ⟨br, or + i * 3 + 2, none⟩ = some (.slice tr.a2 tr.n2 tr.c2))) W) := fun W hW => by
        refine ⟨by rw [hW.cell (p := ⟨G, i, none⟩) hgl]; exact kh3, ?_⟩
        have bc := below_step P2.bl hW
        rw [bc.cell (p := ⟨br, or + i * 3, none⟩) hbr, bc.cell (p := ⟨br, or + i * 3 + 1, none⟩) hbr, bc.cell (p := ⟨br, or + i * 3 + 2, none⟩) hbr]; exact ⟨xk0, xk1, xk2⟩
      have e1 : (i : Int) < (n : Int) := by omega
      have e0 : (0 : Int) ≤ (i : Int) := by omega
      have e5 : (n : Int) < (n : Int) + 1 := by omega
      have e6 : (0 : Int) ≤ (n : Int) := by omega
      clear hM P1 P2 hcs hcr hl htl htc htr hle hlen2 hln xr xk0 xk1 xk2 kh3 hW3 hgl en
      go_wp2_with fail
      refine wp_region_till (fun w' : World => w'.cell? ⟨G, i, none⟩ = some (.slice (some ⟨g, 0, none⟩) (n + 1) (n + 1)) ∧ (w'.cell? ⟨br, or + i * 3, none⟩ = some (.bool tr.s) ∧ w'.cell? ⟨br, or + i * 3 + 1, none⟩ = some (.slice tr.a1 tr.n1 tr.c1) ∧ w'.cell? ⟨br, or + i * 3 + 2, none⟩ = some (.slice tr.a2 tr.n2 tr.c2))) 11 (by kernel_rfl) ?_
      have bd0 : Below W3.heap.size W3 W3.drew := (Below.refl _ _).drew
      obtain ⟨Wx, hWx⟩ : ∃ W, W3.drew = W := ⟨_, rfl⟩
      rw [hWx] at bd0 ⊢
      have hC0 : (fun w' : World => w'.cell? ⟨G, i, none⟩ = some (.slice (some ⟨g, 0, none⟩) (n + 1) (n + 1)) ∧ (w'.cell? ⟨br, or + i * 3, none⟩ = some (.bool tr.s) ∧ w'.cell? ⟨br, or + i * 3 + 1, none⟩ = some (.slice tr.a1 tr.n1 tr.c1) ∧ w'.cell? ⟨br, or + i * 3 + 2, none⟩ = some (.slice tr.a2 tr.n2 tr.c2))) Wx := unhide HCC _ bd0
      refine wpTill_pure (i := 0) (v := ?_) rfl (by kernel_rfl) (by kernel_rfl) (by kernel_rfl) (by kernel_rfl) (fun _ _ _ h => h) (Or.inl ⟨by rfl, ?_⟩) (fun _ => hC0) ?_
      rotate_left
      · intro w hSw; clear hSw; go_simp; (try with_reducible rfl)
      (try simp only [List.getElem_toArray, List.getElem_cons_succ, List.getElem_cons_zero])
      (try simp only [Act.put, List.setIfInBounds_toArray, List.set_cons_zero, List.set_cons_succ])
      refine wpTill_pure (i := 1) (v := ?_) rfl (by kernel_rfl) (by kernel_rfl) (by kernel_rfl) (by kernel_rfl) (fun _ _ _ h => h) (Or.inl ⟨by rfl, ?_⟩) (fun _ => hC0) ?_
      rotate_left
      · intro w hSw; clear hSw; go_simp; (try with_reducible rfl)
      (try simp only [List.getElem_toArray, List.getElem_cons_succ, List.getElem_cons_zero])
      (try simp only [Act.put, List.setIfInBounds_toArray, List.set_cons_zero, List.set_cons_succ])
      refine wpTill_pure (i := 2) (v := ?_) rfl (by kernel_rfl) (by kernel_rfl) (by kernel_rfl) (by kernel_rfl) (fun _ _ _ h => h) (Or.inl ⟨by rfl, ?_⟩) (fun _ => hC0) ?_
      rotate_left
      · intro w hSw; clear hSw; go_simp; (try with_reducible rfl)
      (try simp only [List.getElem_toArray, List.getElem_cons_succ, List.getElem_cons_zero])
      (try simp only [Act.put, List.setIfInBounds_toArray, List.set_cons_zero, List.set_cons_succ])
      refine wpTill_take (i := 3) (v := ?_) rfl (by kernel_rfl) (by kernel_rfl) (by kernel_rfl) (by kernel_rfl) (by kernel_rfl) (by kernel_rfl) (fun _ _ _ h => h) (Or.inl ⟨by rfl, ?_⟩) hC0 ?_
      rotate_left
      · intro w hSw; (try dsimp only at hSw); obtain ⟨z0, z1, z2, z3⟩ := hSw; go_simp; (try with_reducible rfl)
      (try simp only [List.getElem_toArray, List.getElem_cons_succ, List.getElem_cons_zero])
      (try simp only [Act.put, List.setIfInBounds_toArray, List.set_cons_zero, List.set_cons_succ])
      refine wpTill_pure (i := 4) (v := ?_) rfl (by kernel_rfl) (by kernel_rfl) (by kernel_rfl) (by kernel_rfl) (fun _ _ _ h => h) (Or.inl ⟨by rfl, ?_⟩) (fun _ => hC0) ?_
      rotate_left
      · intro w hSw; clear hSw; go_simp; (try with_reducible rfl)
      (try simp only [List.getElem_toArray, List.getElem_cons_succ, List.getElem_cons_zero])
      (try simp only [Act.put, List.setIfInBounds_toArray, List.set_cons_zero, List.set_cons_succ])
      refine wpTill_pure (i := 5) (v := ?_) rfl (by kernel_rfl) (by kernel_rfl) (by kernel_rfl) (by kernel_rfl) (fun _ _ _ h => h) (Or.inl ⟨by rfl, ?_⟩) (fun _ => hC0) ?_
      rotate_left
      · intro w hSw; clear hSw; go_simp; (try with_reducible rfl)
      (try simp only [List.getElem_toArray, List.getElem_cons_succ, List.getElem_cons_zero])
      (try simp only [Act.put, List.setIfInBounds_toArray, List.set_cons_zero, List.set_cons_succ])
      refine wpTill_pure (i := 6) (v := ?_) rfl (by kernel_rfl) (by kernel_rfl) (by kernel_rfl) (by kernel_rfl) (fun _ _ _ h => h) (Or.inl ⟨by rfl, ?_⟩) (fun _ => hC0) ?_
      rotate_left
      · intro w hSw; clear hSw; go_simp; (try with_reducible rfl)
      (try simp only [List.getElem_toArray, List.getElem_cons_succ, List.getElem_cons_zero])
      (try simp only [Act.put, List.setIfInBounds_toArray, List.set_cons_zero, List.set_cons_succ])
      refine wpTill_pure (i := 7) (v := ?_) rfl (by kernel_rfl) (by kernel_rfl) (by kernel_rfl) (by kernel_rfl) (fun _ _ _ h => h) (Or.inl ⟨by rfl, ?_⟩) (fun _ => hC0) ?_
      rotate_left
      · intro w hSw; clear hSw; go_simp; (try with_reducible rfl)
      (try simp only [List.getElem_toArray, List.getElem_cons_succ, List.getElem_cons_zero])
      (try simp only [Act.put, List.setIfInBounds_toArray, List.set_cons_zero, List.set_cons_succ])
      refine wpTill_pure (i := 8) (v := ?_) rfl (by kernel_rfl) (by kernel_rfl) (by kernel_rfl) (by kernel_rfl) (fun _ _ _ h => h) (Or.inl ⟨by rfl, ?_⟩) (fun _ => hC0) ?_
      rotate_left
      · intro w hSw; clear hSw; go_simp; (try with_reducible rfl)
      (try simp only [List.getElem_toArray, List.getElem_cons_succ, List.getElem_cons_zero])
      (try simp only [Act.put, List.setIfInBounds_toArray, List.set_cons_zero, List.set_cons_succ])
      refine wpTill_take (i := 9) (v := ?_) rfl (by kernel_rfl) (by kernel_rfl) (by kernel_rfl) (by kernel_rfl) (by kernel_rfl) (by kernel_rfl) (fun _ _ _ h => h) (Or.inl ⟨by rfl, ?_⟩) hC0 ?_
      rotate_left
      · intro w hSw; (try dsimp only at hSw); obtain ⟨z0, z1, z2, z3⟩ := hSw; go_simp; (try with_reducible rfl)
      (try simp only [List.getElem_toArray, List.getElem_cons_succ, List.getElem_cons_zero])
      (try simp only [Act.put, List.setIfInBounds_toArray, List.set_cons_zero, List.set_cons_succ])
      refine wpTill_pure (i := 10) (v := ?_) rfl (by kernel_rfl) (by kernel_rfl) (by kernel_rfl) (by kernel_rfl) (fun _ _ _ h => h) (Or.inl ⟨by rfl, ?_⟩) (fun _ => hC0) ?_
      rotate_left
      · intro w hSw; clear hSw; go_simp; (try with_reducible rfl)
      (try simp only [List.getElem_toArray, List.getElem_cons_succ, List.getElem_cons_zero])
      (try simp only [Act.put, List.setIfInBounds_toArray, List.set_cons_zero, List.set_cons_succ])
      have S8 := (unhide HP2).keep bd0
      have ⟨⟨y0, y1, y2⟩, l0, l1, l2⟩ := S8.cells (i := i) (j := n) (by omega) (by omega)
      have FZ := S8.set (i := i) (j := n) (by omega) (by omega) tr _ ((unhide HRI).below bd0)
      simp only [if_true] at y0 y1 y2 l0 l1 l2 FZ
      obtain ⟨W9, hW9⟩ : ∃ W, ((Wx.setCell ⟨g, n * 3, none⟩ (.bool tr.s)).setCell ⟨g, n * 3 + 1, none⟩ (.slice tr.a1 tr.n1 tr.c1)).setCell ⟨g, n * 3 + 2, none⟩ (.slice tr.a2 tr.n2 tr.c2) = W := ⟨_, rfl⟩
      rw [hW9] at FZ
      have HFM := hide (FZ.congr (N := aug ks qs n) (fun a b ha hb => by
        unfold upm aug
        dsimp only
        by_cases e : a = i
        · by_cases e2 : b = n
          · rw [if_pos ⟨e, e2⟩, if_neg (by omega), e]
          · rw [if_neg (fun x => e2 x.2), if_pos e, if_pos (by omega), if_pos (by omega), e]
        · rw [if_neg (fun x => e x.1), if_neg e, if_neg e]))
      clear S8 FZ
      refine wpTill_one (k := 11) (by kernel_rfl) rfl (fun K hK => ?_)
      (try simp only [List.getElem_toArray, List.getElem_cons_succ, List.getElem_cons_zero])
      go_simp
      refine hK.out _ _ (fun h => absurd (h.symm.trans (by kernel_rfl)) Bool.false_ne_true) ?_
      clear hK K
      (try simp only [Act.put, List.setIfInBounds_toArray, List.set_cons_zero, List.set_cons_succ])
      refine wpTill_done (by kernel_rfl) ?_ _
      clear l0 l1 l2 y0 y1 y2 hW9 hWx hC0 bd0 HCC HP2 HRI HM
      go_wp2_with fail
      exact ⟨⟨i + 1, _, _, by go_num, hlt, unhide HFM⟩, by simp [intOf]; omega⟩
    · obtain rfl : i = n := by omega
      have e1 : ¬ (i : Int) < (i : Int) := by omega
      clear hM
      go_wp2
      go_ret
      exact ⟨G, bs, uss, rfl, unhide HM⟩

end Go.Proofs.YtjlohghknejjoaaGreatDoor
