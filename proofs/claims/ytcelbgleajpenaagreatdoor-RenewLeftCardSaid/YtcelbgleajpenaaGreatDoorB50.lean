/- The document's Trim. -/
import Derived.Test.YtcelbgleajpenaaGreatDoorB43
import Derived.Test.YtcelbgleajpenaaGreatDoorA17
import Derived.Test.YtcelbgleajpenaaGreatDoorA18
import Derived.Laws.CopyOwn
namespace Go.Proofs.YtcelbgleajpenaaGreatDoor
open Go.RowKit Go.Sort Go.Shelf

theorem list_of {α : Type} [Inhabited α] {P : Nat → α → Prop} : ∀ {n : Nat}, (∀ j, j < n → ∃ x, P j x) → ∃ l : List α, l.length = n ∧ ∀ j, j < n → P j l[j]!
  | 0, _ => ⟨[], rfl, fun j hj => absurd hj (Nat.not_lt_zero _)⟩
  | n + 1, h => by
    obtain ⟨l, hl, hp⟩ := list_of (n := n) (fun j hj => h j (by omega))
    obtain ⟨x, hx⟩ := h n (by omega)
    refine ⟨l ++ [x], by simp [hl], fun j hj => ?_⟩
    by_cases e : j < n
    · have : (l ++ [x])[j]! = l[j]! := by rw [List.getElem!_eq_getElem?_getD, List.getElem!_eq_getElem?_getD, List.getElem?_append_left (by omega)]
      rw [this]; exact hp j e
    · have e : j = l.length := by omega
      subst e
      have : (l ++ [x])[l.length]! = x := by rw [List.getElem!_eq_getElem?_getD, List.getElem?_append_right (Nat.le_refl _), Nat.sub_self]; rfl
      rw [this, hl]; exact hx
theorem addr_plus (b o j : Nat) : (⟨b, o, none⟩ : Addr).add j = ⟨b, o + j, none⟩ := by
  by_cases hj : j = 0
  · subst hj; simp [Addr.add]
  · simp [Addr.add, hj]
theorem run_copy_three {P : Program} (w : World) (dT sT ty elem : TypeId) (g n dCap : Nat) (a : Addr) (sCap : Nat) (cur : Array Value) (t : TypeId) (cs : List Value)
    (hu : P.underlying dT = some (.slice elem)) (hs : (P.info? elem).map (·.size) = some 3) (hg : w.heap[g]? = some (.cells cur t (0, 0))) (hn : cs.length = n * 3)
    (hsrc : ∀ j v, cs[j]? = some v → w.cell? (a.add j) = some v) (hfit : cs.length ≤ cur.size) (h1 : ∀ v ∈ cs, v.oneCell' = true) :
    (Builtin.copy_ #[dT, sT] ty #[.slice (some ⟨g, 0, none⟩) n dCap, .slice (some a) n sCap]).run P w = .ok (goInt n) (w.setRow g (cs ++ cur.toList.drop cs.length).toArray) := by
  have hl := run_loadCells_list (P := P) w a cs hsrc
  have hst := run_storeCells_at P g 0 t cs 0 cur w hg (by simpa using hfit) h1
  rw [hn] at hl
  cases hq : P.info? elem with
  | none => simp [hq] at hs
  | some i =>
    have hi : i.size = 3 := by simpa [hq] using hs
    simp [Builtin.copy_, run_underlying hu, Builtin.lenOf, Builtin.firstCells, sizeOf, typeInfo, hq, hi, hl, hst]
theorem Tryz.size3 : (Tryz.prog.info? 37).map (·.size) = some 3 := by kernel_rfl
theorem setRow_grown (w : World) (g : Nat) (cs : Array Value) : w.grownBy (w.setRow g cs) (some g) :=
  ⟨rfl, rfl, rfl, by simp [World.setRow], fun k hk hne => setRow_other w g k cs (fun e => hne (by rw [e]))⟩
theorem tlen_pos' (qs : List Rat) : ∀ {n}, 0 < n → 0 < tlen qs n
  | 0, h => absurd h (by decide)
  | 1, _ => Nat.one_pos
  | n + 2, _ => by
    unfold tlen
    split
    · exact tlen_pos' qs (by omega)
    · omega
/-- A law copied into a new row. -/
theorem copy3_law {w W : World} {g n c : Nat} {a : Option Addr} {qs : List Rat} (own : SumsAt w W g (List.replicate n zTri) (List.replicate n 0)) (hn : 0 < n) (hc : n ≤ 1000000) (h : LawIs W (.slice a n c) qs) (hl : qs.length = n) :
    ∃ W', (Builtin.copy_ #[63, 63] 3 #[.slice (some ⟨g, 0, none⟩) n n, .slice a n c]).run Tryz.prog W = .ok (.int .i64 n) W' ∧ LawIs W' (.slice (some ⟨g, 0, none⟩) n n) qs ∧ Below w.heap.size w W' := by
  obtain ⟨a', c', e, h1, h2, h3⟩ := h
  injection e with e1 e2 e3
  subst e1 e3
  obtain ⟨b, o, rfl, hlt, hcs⟩ := h3 (by omega)
  obtain ⟨us, hul, hus⟩ := list_of (α := Tri) (n := n) (P := fun j t => W.cell? ⟨b, o + j * 3, none⟩ = some (.bool t.s) ∧ W.cell? ⟨b, o + j * 3 + 1, none⟩ = some (.slice t.a1 t.n1 t.c1) ∧ W.cell? ⟨b, o + j * 3 + 2, none⟩ = some (.slice t.a2 t.n2 t.c2) ∧ RatIs W t.val qs[j]!) (fun j hj => by
    obtain ⟨s, a1, a2, n1, c1, n2, c2, k0, k1, k2, r⟩ := hcs j (by omega)
    exact ⟨⟨s, a1, a2, n1, c1, n2, c2⟩, k0, k1, k2, r⟩)
  have hlen : (tcells us).length = n * 3 := by rw [tcells_length, hul]
  have hsz : (tcells (List.replicate n zTri)).toArray.size = n * 3 := by simp [tcells_length]
  have hr := run_copy_three (P := Tryz.prog) W 63 63 3 37 g n n ⟨b, o, none⟩ c _ _ (tcells us) Tryz.underlying63 Tryz.size3 own.row hlen
    (fun j v hv => by
      have hj : j < n * 3 := by
        rcases Nat.lt_or_ge j (n * 3) with h | h
        · exact h
        · rw [List.getElem?_eq_none (by rw [hlen]; exact h)] at hv; cases hv
      obtain ⟨q, r, rfl, hr3⟩ : ∃ q r, j = q * 3 + r ∧ r < 3 := ⟨j / 3, j % 3, by omega, by omega⟩
      rw [tcells_get us q r (by omega) hr3] at hv
      obtain ⟨k0, k1, k2, _⟩ := hus q (by omega)
      have ea : ((⟨b, o, none⟩ : Addr).add (q * 3 + r)) = ⟨b, o + q * 3 + r, none⟩ := by rw [addr_plus, Nat.add_assoc]
      rw [ea]
      match r, hr3 with
      | 0, _ => rw [Nat.add_zero, k0]; exact hv
      | 1, _ => rw [k1]; exact hv
      | 2, _ => rw [k2]; exact hv)
    (by rw [hlen, hsz]; exact Nat.le_refl _)
    (fun v hv => by
      obtain ⟨t, _, ht⟩ := List.mem_flatMap.1 hv
      exact tri_one t v ht)
  have hd : ((tcells (List.replicate n zTri)).toArray.toList.drop (tcells us).length) = [] := List.drop_eq_nil_of_le (by rw [hlen]; simp [tcells_length])
  rw [hd, List.append_nil] at hr
  have hb := below_setRow own.bl own.gl (tcells us).toArray
  have hno : ∀ k, (some g : Option Nat) = some k → Wordless W k := fun k e => by
    obtain rfl := Option.some.inj e
    exact sums_wordless own
  have S : SumsAt w (W.setRow g (tcells us).toArray) g us qs := ⟨setRow_heap _ _ _ _ _ _ own.row, by omega, fun j hj => (hus j (by omega)).2.2.2.far (setRow_grown W g _) hno, hb, own.gl⟩
  have L := S.law (by omega)
  rw [hul] at L
  exact ⟨_, hr, L, hb⟩
set_option maxHeartbeats 8000000 in
set_option maxRecDepth 100000 in
set_option linter.unusedSimpArgs false in
theorem trim_any (v : Value) (qs : List Rat) (w : World) (h : LawIs w v qs) (hp : 0 < qs.length) (hc : qs.length ≤ 1000) :
    Calls Tryz.prog 112 #[v] w fun e w' => ∃ v, e = .returned v ∧ LawIs w' v (qs.take (tlen qs qs.length)) ∧ Below w.heap.size w w' := by
  have h' := h
  obtain ⟨a, c, rfl, -⟩ := h'
  obtain ⟨m, hm⟩ : ∃ m, tlen qs qs.length = m := ⟨_, rfl⟩
  have hml : m ≤ qs.length := by rw [← hm]; exact tlen_le qs _
  have hm0 : 0 < m := by rw [← hm]; exact tlen_pos' qs hp
  have HT := hide (trimmedL_any a c qs w h hp)
  rw [hm] at HT ⊢
  have HL := hide (h.take m hml)
  have htl : (qs.take m).length = m := by rw [List.length_take]; omega
  have HTL := hide htl
  have HM := hide (And.intro hm0 (show m ≤ 1000 by omega))
  clear h hp hc hm hml hm0 htl
  go_enter Tryz.func112, Tryz.ntmps112
  go_wp2_with fail
  refine (unhide HT).mono ?_
  rintro e w1 ⟨rfl, hb1⟩
  have qmk := make_tri (m : Int) (by omega) (by have := (unhide HM).2; omega) w1
  have S0 := SumsAt.start w w1 m hb1
  have bA := abelow w1 (.cells (tcells (List.replicate m zTri)).toArray 37)
  have e1 : (m : Int).toNat = m := by omega
  rw [e1] at qmk
  obtain ⟨W2, hW2⟩ : ∃ W, w1.alloc (.cells (tcells (List.replicate m zTri)).toArray 37) = W := ⟨_, rfl⟩
  obtain ⟨g, hg⟩ : ∃ g, w1.heap.size = g := ⟨_, rfl⟩
  rw [hW2, hg] at qmk S0
  rw [hW2] at bA
  obtain ⟨W3, qcp, hL3, hB3⟩ := copy3_law S0 (unhide HM).1 (by have := (unhide HM).2; omega) (((unhide HL).below hb1).below bA) (unhide HTL)
  have HL3 := hide hL3
  have HB3 := hide hB3
  clear hb1 S0 bA hW2 hg hL3 hB3 e1 HT
  go_wp2
  (try go_ret)
  exact ⟨_, rfl, unhide HL3, unhide HB3⟩
end Go.Proofs.YtcelbgleajpenaaGreatDoor
namespace Go.Proofs.YtcelbgleajpenaaGreatDoor
open Go.RowKit Go.Sort Go.Shelf

theorem sign_zero {x : Int} : (x.sign == 0) = decide (x = 0) := by
  by_cases h : x = 0
  · subst h; rfl
  · rw [decide_eq_false h, beq_eq_false_iff_ne]
    exact fun e => h (Int.sign_eq_zero_iff_zero.1 e)
theorem tlen_step (qs : List Rat) {n : Nat} (h : 1 < n) : tlen qs n = if qs[n - 1]!.num = 0 then tlen qs (n - 1) else n := by
  obtain ⟨m, rfl⟩ : ∃ m, n = m + 2 := ⟨n - 2, by omega⟩
  rw [tlen]; rfl
theorem ptrs_one (gs : List Nat) : ∀ u ∈ ptrs gs, u.oneCell' = true := by
  intro u hu
  obtain ⟨g, _, rfl⟩ := List.mem_map.1 hu
  rfl
theorem ptrs_are (gs : List Nat) : ∀ u ∈ ptrs gs, isPtr u := by
  intro u hu
  obtain ⟨g, _, rfl⟩ := List.mem_map.1 hu
  trivial
set_option maxHeartbeats 8000000 in
set_option maxRecDepth 100000 in
set_option linter.unusedSimpArgs false in
theorem refTrim_any (v : Value) (qs : List Rat) (w : World) (h : RList w v qs) (hp : 0 < qs.length) (hc : qs.length ≤ 1000) :
    Calls Tryz.prog 73 #[v] w fun e w' => ∃ v, e = .returned v ∧ RList w' v (qs.take (tlen qs qs.length)) ∧ Below w.heap.size w w' := by
  obtain ⟨a, c, rfl, h1, h2, h3⟩ := h
  obtain ⟨b, o, rfl, hblt, hcs⟩ := h3 hp
  obtain ⟨n, hn⟩ : ∃ n, qs.length = n := ⟨_, rfl⟩
  rw [hn] at h1 hcs hp hc ⊢
  obtain ⟨gs, hgl, hgs⟩ := list_of (α := Nat) (n := n) hcs
  obtain ⟨ti, hi, hz0, hz1, hz2⟩ := info_parts Tryz.infoP
  have own1 : (w.alloc (.cells #[] 31)).ownsRow w.heap.size 31 1 (.slice (some ⟨w.heap.size, 0, none⟩) 0 0) 0 [] := World.ownsRow_made w #[] 0 (Nat.le_refl _) (by unfold maxLen; decide) rfl
  have bA := abelow w (.cells #[] 31)
  have no1 : ∀ g, (Value.slice (some ⟨w.heap.size, 0, none⟩) 0 0).ownBlock = some g → Ptrly (w.alloc (.cells #[] 31)) g := fun g e => by
    obtain rfl : w.heap.size = g := Option.some.inj e
    exact ptrly_of (heap_alloc_new w _) (fun u hu => by simp at hu)
  have nw : ∀ j u, (ptrs gs)[j]? = some u → (w.alloc (.cells #[] 31)).cell? ((⟨b, o, none⟩ : Addr).add j) = some u := fun j u hu => by
    have hj : j < n := by
      rcases Nat.lt_or_ge j n with h | h
      · exact h
      · rw [List.getElem?_eq_none (by rw [ptrs_length, hgl]; exact h)] at hu; cases hu
    have hk := (hgs j hj).1
    rw [← bA.cell (p := ⟨b, o + j, none⟩) hblt] at hk
    have e : u = .pointer (some ⟨gs[j]!, 0, none⟩) := by
      simp [ptrs, show j < gs.length by omega] at hu
      rw [← hu]
      simp [show j < gs.length by omega]
    rw [e]
    by_cases hj0 : j = 0
    · subst hj0; simpa [Addr.add] using hk
    · simpa [Addr.add, hj0] using hk
  have rat1 : ∀ j, j < gs.length → BRz (w.alloc (.cells #[] 31)) gs[j]! 0 qs[j]! := fun j hj => (hgs j (by omega)).2.below bA
  have HI := hide hi
  have HZ := hide hz0
  have HOWN := hide own1
  have HNO := hide no1
  have HNW := hide nw
  have HRA := hide rat1
  have HBA := hide bA
  have HGL := hide hgl
  have HN := hide hn
  have HP := hide hp
  have HC := hide hc
  have HBS : Hid (w.heap.size ≤ (w.alloc (.cells #[] 31)).heap.size) := bA.size
  have HL63 : Hid (0 + n ≤ maxLen) := by show _ ≤ _; unfold maxLen; omega
  have HL8 : Hid ((0 + n) * 8 ≤ 140737488355328) := by show _ ≤ _; omega
  have HPL : Hid ((ptrs gs).length = n * 1) := by show _ = _; rw [ptrs_length, hgl, Nat.mul_one]
  clear h1 h2 h3 hcs hgs hi hz0 own1 no1 nw rat1 bA hgl hn hp hc hblt
  go_enter Tryz.func73, Tryz.ntmps73
  go_wp2_with (at_builtin; go_loud (refine wpList_append_ptr _ rfl _ _ _ rfl w.heap.size 31 ti 8 Tryz.underlying29 (unhide HI) (unhide HZ) hz1 hz2 _ 0 [] rfl (unhide HOWN) (unhide HNO) ⟨b, o, none⟩ n c (ptrs gs) rfl (unhide HPL) (unhide HNW) (ptrs_one gs) (ptrs_are gs) (unhide HP) (unhide HL63) (unhide HL8) (unhide HBS) _ rfl ?_; intro g cap w4 hown4 hgrow hat hlt4 hno4))
  rw [List.nil_append, Nat.zero_add] at hown4
  have hR : RList w4 (.slice (some ⟨g, 0, none⟩) n cap) qs := by
    have hgl := unhide HGL
    rw [← hgl] at hown4 ⊢
    exact rlist_of hown4 (by rw [hgl, unhide HN]) (fun j hj => (unhide HRA j hj).far hgrow (unhide HNO))
  have hB4 : Below w.heap.size w w4 := Below.grown (unhide HBA) hgrow (unhide HBS) (fun k hk => by
    obtain rfl : w.heap.size = k := Option.some.inj hk
    exact Nat.le_refl _)
  have HR := hide hR
  have HB4 := hide hB4
  obtain ⟨a', c', e9, r1, r2, r3⟩ := hR
  injection e9 with e91 e92 e93
  subst e91 e93
  obtain ⟨b9, o9, e94, rlt, rcs⟩ := r3 (by rw [unhide HN]; exact unhide HP)
  injection e94 with e94
  injection e94 with e95 e96
  subst e95 e96
  have HRC := hide rcs
  have hnc : n ≤ cap := by rw [unhide HN] at r1; exact r1
  have HNC := hide hnc
  have HCP := hide r2
  clear hown4 hgrow hat hno4 hB4 r1 r2 r3 rcs hnc e92
  (try simp only [Nat.zero_add])
  go_wp2_with fail
  go_loopw [0] (fun v wr => ∃ (m : Nat), v = .slice (some ⟨g, 0, none⟩) m cap ∧ 0 < m ∧ m ≤ n ∧ tlen qs m = tlen qs n ∧ wr = w4) (fun v _ => match v with | .slice _ m _ => m | _ => 0)
  case atStart => exact ⟨n, rfl, unhide HP, Nat.le_refl _, rfl, rfl⟩
  case round =>
    obtain ⟨m, rfl, hm0, hmn, htl, hw⟩ := hrel
    subst hw
    have hnc := unhide HNC
    have hC := unhide HC
    by_cases hm1 : m = 1
    · subst hm1
      have HTL : Hid (tlen qs n = 1) := by show _ = _; rw [← htl]; rfl
      have HRT := hide ((show RList wr (.slice (some ⟨g, 0, none⟩) qs.length cap) qs by rw [unhide HN]; exact unhide HR).take (n := 1) (by rw [unhide HN]; exact hmn))
      clear htl hm0 hmn hnc hC
      go_wp2
      (try simp only [Exit.inBlock, Exit.then])
      (try go_wp2)
      go_ret
      exact ⟨_, rfl, by rw [unhide HTL]; exact unhide HRT, unhide HB4⟩
    · have hm2 : 1 < m := by omega
      have hd : decide ((1 : Int) < (m : Int)) = true := decide_eq_true (by omega)
      obtain ⟨x, k0, kx⟩ := unhide HRC (m - 1) (by rw [unhide HN]; omega)
      rw [Nat.zero_add] at k0
      have HSG := hide (signz_any x 0 qs[m - 1]! wr kx)
      have etl := tlen_step qs hm2
      have esz := sign_zero (x := qs[m - 1]!.num)
      obtain ⟨z, hz⟩ : ∃ z, qs[m - 1]!.num.sign = z := ⟨_, rfl⟩
      rw [hz] at HSG esz
      obtain ⟨m1, hm1'⟩ : ∃ m1, m - 1 = m1 := ⟨_, rfl⟩
      rw [hm1'] at k0 etl esz
      have f1 : IntKind.i64.wrap ((m : Int) - 1) = (m1 : Int) := by rw [IntKind.wrap_i64]; omega
      have f2 : (0 : Int) ≤ (m1 : Int) := by omega
      have f3 : (m1 : Int) < (m : Int) := by omega
      have f4 : (m1 : Int) ≤ (cap : Int) := by omega
      have HM : Hid (0 < m1 ∧ m1 ≤ n ∧ m1 < m) := ⟨by omega, by omega, by omega⟩
      by_cases hq0 : qs[m1]!.num = 0
      · rw [if_pos hq0] at etl
        rw [decide_eq_true hq0] at esz
        have HTL : Hid (tlen qs m1 = tlen qs n) := by show _ = _; rw [← etl]; exact htl
        clear kx etl htl hz hq0 hm1' hm1 hm0 hmn hnc hC
        go_wp2_with fail
        refine (unhide HSG).mono ?_
        rintro e w5 ⟨rfl, hw⟩
        have hw := hw.symm
        subst hw
        clear HSG
        go_wp2_with fail
        exact ⟨⟨m1, rfl, (unhide HM).1, (unhide HM).2.1, unhide HTL, by first | rfl | trivial⟩, (unhide HM).2.2⟩
      · rw [if_neg hq0] at etl
        rw [decide_eq_false hq0] at esz
        have HTL : Hid (tlen qs n = m) := by show _ = _; rw [← htl, etl]
        have HRT := hide ((show RList wr (.slice (some ⟨g, 0, none⟩) qs.length cap) qs by rw [unhide HN]; exact unhide HR).take (n := m) (by rw [unhide HN]; exact hmn))
        clear kx etl htl hz hq0 hm1' hm1 hm0 hmn hnc hC
        go_wp2_with fail
        refine (unhide HSG).mono ?_
        rintro e w5 ⟨rfl, hw⟩
        have hw := hw.symm
        subst hw
        clear HSG
        go_wp2
        (try simp only [Exit.inBlock, Exit.then])
        (try go_wp2)
        go_ret
        exact ⟨_, rfl, by rw [unhide HTL]; exact unhide HRT, unhide HB4⟩
end Go.Proofs.YtcelbgleajpenaaGreatDoor
