/- Rows of fractions that are filled one by one; a quotient; shares. -/
import Derived.Test.YtigilnkcjblhcaaDoorM20
import Derived.Test.YtigilnkcjblhcaaDoorX3
import Derived.Test.YtigilnkcjblhcaaDoorX2
import Derived.Test.YtigilnkcjblhcaaDoorA15
import Derived.Test.YtigilnkcjblhcaaDoorA18
namespace Go.Proofs.YtigilnkcjblhcaaDoor
open Go.RowKit Go.Sort Go.Shelf

/-- The first k of a row of N are said, the others 0. -/
def fill (f : Nat → Rat) (N k : Nat) : List Rat := (List.range N).map fun i => if i < k then f i else 0
theorem fill_length (f : Nat → Rat) (N k : Nat) : (fill f N k).length = N := by simp [fill]
theorem fill_zero (f : Nat → Rat) (N : Nat) : List.replicate N 0 = fill f N 0 := by
  apply List.ext_getElem?
  intro i
  unfold fill
  by_cases h : i < N <;> simp [h]
theorem fill_get {f : Nat → Rat} {N k i : Nat} (h : i < k) (hN : i < N) : (fill f N k)[i]! = f i := by simp [fill, h, hN]
theorem fill_none {f : Nat → Rat} {N k i : Nat} (h : k ≤ i) (hN : i < N) : (fill f N k)[i]! = 0 := by
  have : ¬ i < k := by omega
  simp [fill, this, hN]
theorem fill_set (f : Nat → Rat) (N k : Nat) : (fill f N k).set k (f k) = fill f N (k + 1) := by
  apply List.ext_getElem?
  intro i
  unfold fill
  rw [List.getElem?_set]
  by_cases h : k = i
  · subst h
    by_cases hk : k < N <;> simp [hk]
  · by_cases hi : i < N
    · have e : (i < k + 1) = (i < k) := by apply propext; omega
      simp [h, hi, e]
    · simp [h, hi]
/-- A row that is said wholly. -/
def row (f : Nat → Rat) (N : Nat) : List Rat := fill f N N
theorem row_length (f : Nat → Rat) (N : Nat) : (row f N).length = N := fill_length _ _ _
theorem row_get {f : Nat → Rat} {N i : Nat} (h : i < N) : (row f N)[i]! = f i := fill_get h h
theorem row_eq {qs : List Rat} {f : Nat → Rat} {N : Nat} (hl : qs.length = N) (h : ∀ i, i < N → qs[i]! = f i) : qs = row f N := by
  apply List.ext_getElem?
  intro i
  by_cases hi : i < N
  · have a := h i hi
    rw [← row_get (f := f) hi] at a
    rw [List.getElem!_eq_getElem?_getD, List.getElem!_eq_getElem?_getD] at a
    have h1 : i < qs.length := by omega
    have h2 : i < (row f N).length := by rw [row_length]; exact hi
    rw [List.getElem?_eq_getElem h1, List.getElem?_eq_getElem h2] at a ⊢
    simpa using a
  · rw [List.getElem?_eq_none (by omega), List.getElem?_eq_none (by rw [row_length]; omega)]
theorem row_congr {f g : Nat → Rat} {N : Nat} (h : ∀ i, i < N → f i = g i) : row f N = row g N := row_eq (row_length f N) (fun i hi => by rw [row_get hi, h i hi])
theorem qsum_row (f : Nat → Rat) (N : Nat) : ∀ k, k ≤ N → qsum (row f N) k = Bth.ps f k
  | 0, _ => rfl
  | k + 1, h => by
    show qsum (row f N) k + (row f N)[k]! = Bth.ps f k + f k
    rw [qsum_row f N k (by omega), row_get (by omega)]

theorem make_ratios (k : Int) (h0 : 0 ≤ k) (h1 : k ≤ 1099511627776) (w : World) :
    (Instr.makeSlice 23 (.int .i64 k) (.int .i64 k)).run Tryd.prog w = .ok (.slice (some ⟨w.heap.size, 0, none⟩) k.toNat k.toNat) (w.alloc (.cells (tcells (List.replicate k.toNat zTri)).toArray 34)) := by
  obtain ⟨i, hi, hz0, hz1, hz2⟩ := info_parts Tryd.infoR
  have e : madeCells (Value.agg zR).cells (k.toNat * i.size) = (tcells (List.replicate k.toNat zTri)).toArray := by
    rw [hz1, zcells]
    have hzc : (Value.agg zR).cells = zR := by simp [Value.cells, zR]
    rw [hzc]
    generalize k.toNat * 3 = n
    apply Array.ext
    · simp [madeCells]
    · intro j h1 h2
      simp [madeCells, zR]
  rw [run_make w 23 34 i (.agg zR) Tryd.underlying23 hi hz0 .i64 .i64 k k h0 (Int.le_refl _) (by rw [hz2]; omega) (by omega), e]

theorem BoxIs.rowed {w : World} {b g : Nat} {t : Tri} {q : Rat} {us : List Tri} (h : BoxIs w b t q) (hg : w.heap[g]? = some (.cells (tcells us).toArray 34)) (hne : b ≠ g) (i0 i1 i2 : Nat) (x0 x1 x2 : Value) :
    BoxIs (((w.setCell ⟨g, i0, none⟩ x0).setCell ⟨g, i1, none⟩ x1).setCell ⟨g, i2, none⟩ x2) b t q :=
  ⟨by rw [Below.heap_setCell _ _ _ _ hne, Below.heap_setCell _ _ _ _ hne, Below.heap_setCell _ _ _ _ hne]; exact h.1, h.2.rowed hg _ _ _ _ _ _⟩

set_option maxHeartbeats 4000000 in
set_option maxRecDepth 100000 in
set_option linter.unusedSimpArgs false in
theorem bdivided_any (va vb : Value) (qa qb : Rat) (w : World) (ha : RatIs w va qa) (hb : RatIs w vb qb) (J : Nat) (hqa : RS qa J) (hqb : RS qb J) (hJ : J + J + 1 ≤ KK) (hz : qb.num ≠ 0) :
    Calls Tryd.prog 23 #[va, vb] w fun e w' => ∃ v, e = .returned v ∧ RatIs w' v (qa / qb) ∧ Below w.heap.size w w' := by
  obtain ⟨ta, rfl, ha'⟩ := tri_of ha
  obtain ⟨tb, rfl, hb'⟩ := tri_of hb
  have bA := below_step (below_step (alloc_below w (.cells #[.bool ta.s, .slice ta.a1 ta.n1 ta.c1, .slice ta.a2 ta.n2 ta.c2] 34)) (alloc_below _ (.cells #[.bool tb.s, .slice tb.a1 tb.n1 tb.c1, .slice tb.a2 tb.n2 tb.c2] 34))) (alloc_below _ (.cells #[.bool false, .slice none 0 0, .slice none 0 0] 34))
  have HDV := hide (divR_any ta.val tb.val qa qb _ (ha'.below bA) (hb'.below bA) J hqa hqb hJ hz)
  have HB_0 := hide bA
  have HX_b4_0 := hide (BoxIs.new (w := (w.alloc (.cells #[.bool ta.s, .slice ta.a1 ta.n1 ta.c1, .slice ta.a2 ta.n2 ta.c2] 34)).alloc (.cells #[.bool tb.s, .slice tb.a1 tb.n1 tb.c1, .slice tb.a2 tb.n2 tb.c2] 34)) (t := zTri) (q := 0) (rat_zero _))
  obtain ⟨W0, hW0⟩ : ∃ W, ((w.alloc (.cells #[.bool ta.s, .slice ta.a1 ta.n1 ta.c1, .slice ta.a2 ta.n2 ta.c2] 34)).alloc (.cells #[.bool tb.s, .slice tb.a1 tb.n1 tb.c1, .slice tb.a2 tb.n2 tb.c2] 34)).alloc (.cells #[.bool false, .slice none 0 0, .slice none 0 0] 34) = W := ⟨_, rfl⟩
  have e5 : ((w.alloc (.cells #[.bool ta.s, .slice ta.a1 ta.n1 ta.c1, .slice ta.a2 ta.n2 ta.c2] 34)).alloc (.cells #[.bool tb.s, .slice tb.a1 tb.n1 tb.c1, .slice tb.a2 tb.n2 tb.c2] 34)).heap.size = w.heap.size + 1 + 1 := by rw [alloc_size, alloc_size]
  rw [show ((w.alloc (.cells #[.bool ta.s, .slice ta.a1 ta.n1 ta.c1, .slice ta.a2 ta.n2 ta.c2] 34)).alloc (.cells #[.bool tb.s, .slice tb.a1 tb.n1 tb.c1, .slice tb.a2 tb.n2 tb.c2] 34)).alloc (.cells #[.bool zTri.s, .slice zTri.a1 zTri.n1 zTri.c1, .slice zTri.a2 zTri.n2 zTri.c2] 34) = W0 from hW0, e5] at HX_b4_0
  rw [hW0] at HB_0 HDV
  have HWE := hide hW0
  clear e5 ha hb ha' hb' hW0 bA
  simp only [Tri.val]
  generalize qa / qb = q at *
  go_enter Tryd.func23, Tryd.ntmps23
  go_wp2_with fail
  rw [unhide HWE]
  clear HWE
  obtain ⟨b4, hb4⟩ : ∃ b, w.heap.size + 1 + 1 = b := ⟨_, rfl⟩
  have HG_b4 : Hid (w.heap.size ≤ b4) := show _ ≤ _ by omega
  rw [hb4] at HX_b4_0 ⊢
  clear hb4
  refine (unhide HDV).mono ?_
  rintro e w_1 ⟨v4, rfl, hv4, hbx⟩
  obtain ⟨t5, rfl, hr_1⟩ := tri_of hv4
  simp only [Tri.val]
  have HL_b4_b5 := hide (Nat.lt_of_lt_of_le (unhide HX_b4_0).lt hbx.size)
  have HG_b5 := hide (below_step (unhide HB_0) hbx).size
  have hb_1 := below_step hbx (alloc_below w_1 (.cells #[.bool t5.s, .slice t5.a1 t5.n1 t5.c1, .slice t5.a2 t5.n2 t5.c2] 34))
  have HB_2 := hide (below_step (unhide HB_0) hb_1)
  have HX_b4_2 := hide ((unhide HX_b4_0).keep hb_1)
  clear HB_0 HX_b4_0
  have HX_b5_1 := hide (BoxIs.new hr_1)
  obtain ⟨Wb5, hW_1⟩ : ∃ W, w_1.alloc (.cells #[.bool t5.s, .slice t5.a1 t5.n1 t5.c1, .slice t5.a2 t5.n2 t5.c2] 34) = W := ⟨_, rfl⟩
  obtain ⟨b5, hc_1⟩ : ∃ b, w_1.heap.size = b := ⟨_, rfl⟩
  rw [hW_1] at HB_2 HX_b4_2 HX_b5_1
  rw [hc_1] at HX_b5_1 HL_b4_b5 HG_b5
  clear hv4 hr_1 hbx hb_1
  have ⟨l0, l1, l2⟩ := (unhide HX_b4_2).free
  have ⟨y0, y1, y2⟩ := (unhide HX_b4_2).cells _ (Below.refl _ _)
  have ⟨y3, y4, y5⟩ := (unhide HX_b5_1).cells _ (Below.refl _ _)
  have FIN := hide ((unhide HX_b4_2).set (unhide HX_b5_1).2)
  have FB := hide ((((unhide HB_2).setCell (p := ⟨b4, 0, none⟩) (unhide HG_b4) (.bool t5.s)).setCell (p := ⟨b4, 1, none⟩) (unhide HG_b4) (.slice t5.a1 t5.n1 t5.c1)).setCell (p := ⟨b4, 2, none⟩) (unhide HG_b4) (.slice t5.a2 t5.n2 t5.c2))
  obtain ⟨Wf, hWf⟩ : ∃ W, ((Wb5.setCell ⟨b4, 0, none⟩ (.bool t5.s)).setCell ⟨b4, 1, none⟩ (.slice t5.a1 t5.n1 t5.c1)).setCell ⟨b4, 2, none⟩ (.slice t5.a2 t5.n2 t5.c2) = W := ⟨_, rfl⟩
  rw [hWf] at FIN FB
  have ⟨x0, x1, x2⟩ := (unhide FIN).cells _ (Below.refl _ _)
  go_wp2
  exact bodyPost_ret (v := .agg #[.bool t5.s, .slice t5.a1 t5.n1 t5.c1, .slice t5.a2 t5.n2 t5.c2]) (by simp [results, Tryd.results23, go_sem, x0, x1, x2]) rfl ⟨_, rfl, (unhide FIN).2, unhide FB⟩

/-- A number's share. -/
def shr (qs : List Rat) (s : Rat) (i : Nat) : Rat := qs[i]! / s

set_option maxHeartbeats 4000000 in
set_option maxRecDepth 100000 in
set_option linter.unusedSimpArgs false in
theorem shares_any (v va : Value) (qs : List Rat) (s : Rat) (J : Nat) (w : World) (h : LawIs w v qs) (ha : RatIs w va s) (hq : ∀ j, j < qs.length → RS qs[j]! J) (hs : RS s J) (hJ : J + J + 1 ≤ KK) (hz : s.num ≠ 0) (hl : qs.length ≤ 1000) :
    Calls Tryd.prog 24 #[v, va] w fun e w' => ∃ v, e = .returned v ∧ LawIs w' v (row (shr qs s) qs.length) ∧ Below w.heap.size w w' := by
  have HL := hide h
  obtain ⟨a, c, rfl, h1, h2, h3⟩ := h
  have H3 := hide h3
  have HQ := hide hq
  obtain ⟨t, rfl, ha'⟩ := tri_of ha
  have X0 := BoxIs.new ha'
  have b0 := alloc_below w (.cells #[.bool t.s, .slice t.a1 t.n1 t.c1, .slice t.a2 t.n2 t.c2] 34)
  obtain ⟨W0, hW0⟩ : ∃ W, w.alloc (.cells #[.bool t.s, .slice t.a1 t.n1 t.c1, .slice t.a2 t.n2 t.c2] 34) = W := ⟨_, rfl⟩
  obtain ⟨bb, hbb⟩ : ∃ b, w.heap.size = b := ⟨_, rfl⟩
  rw [hW0] at X0 b0
  have qmk := make_ratios (qs.length : Int) (by omega) (by omega) W0
  rw [Int.toNat_natCast] at qmk
  have S0 := SumsAt.start w W0 qs.length b0
  rw [fill_zero (shr qs s) qs.length] at S0
  have X1 := X0.keep (alloc_below W0 (.cells (tcells (List.replicate qs.length zTri)).toArray 34))
  have hbG : bb < W0.heap.size := by rw [← hbb]; exact X0.lt
  obtain ⟨W1, hW1⟩ : ∃ W, W0.alloc (.cells (tcells (List.replicate qs.length zTri)).toArray 34) = W := ⟨_, rfl⟩
  obtain ⟨G, hG⟩ : ∃ G, W0.heap.size = G := ⟨_, rfl⟩
  rw [hW1, hG] at qmk S0
  rw [hW1, hbb] at X1
  rw [hG] at hbG
  have HS0 := hide S0
  have HX1 := hide X1
  have HNE := hide (Nat.ne_of_lt hbG)
  simp only [Tri.val]
  clear h3 hq ha ha' X0 b0 S0 X1 hG hbG hW1
  go_enter Tryd.func24, Tryd.ntmps24
  go_wp2_with fail
  clear hW0 qmk hbb
  go_loopw [13] (fun vi wr => ∃ (i : Nat) (us : List Tri), vi = .int .i64 (i : Int) ∧ i ≤ qs.length ∧ SumsAt w wr G us (fill (shr qs s) qs.length i) ∧ BoxIs wr bb t s) (fun vi _ => qs.length - (intOf vi).toNat)
  case atStart => exact ⟨0, _, rfl, Nat.zero_le _, unhide HS0, unhide HX1⟩
  case round =>
    obtain ⟨i, us, rfl, hi, S, X⟩ := hrel
    have hul : us.length = qs.length := by rw [S.len, fill_length]
    clear HS0 HX1
    by_cases hlt : i < qs.length
    · obtain ⟨b, o, rfl, hblt, hcs⟩ := unhide H3 (by omega)
      obtain ⟨xs, xp1, xp2, xn1, xd1, xn2, xd2, xk0, xk1, xk2, xr⟩ := hcs i hlt
      obtain ⟨tx, rfl, rfl, rfl, rfl, rfl, rfl, rfl⟩ : ∃ t : Tri, xs = t.s ∧ xp1 = t.a1 ∧ xp2 = t.a2 ∧ xn1 = t.n1 ∧ xd1 = t.c1 ∧ xn2 = t.n2 ∧ xd2 = t.c2 := ⟨⟨xs, xp1, xp2, xn1, xd1, xn2, xd2⟩, rfl, rfl, rfl, rfl, rfl, rfl, rfl⟩
      rw [← S.bl.cell (p := ⟨b, o + i * 3, none⟩) hblt] at xk0
      rw [← S.bl.cell (p := ⟨b, o + i * 3 + 1, none⟩) hblt] at xk1
      rw [← S.bl.cell (p := ⟨b, o + i * 3 + 2, none⟩) hblt] at xk2
      have Y0 := BoxIs.new (t := tx) (xr.below S.bl)
      have bA := alloc_below wr (.cells #[.bool tx.s, .slice tx.a1 tx.n1 tx.c1, .slice tx.a2 tx.n2 tx.c2] 34)
      have S1 := S.keep bA
      have X1 := X.keep bA
      have hbg : bb < wr.heap.size := X.lt
      have hGg : G < wr.heap.size := (Array.getElem?_eq_some_iff.1 S.row).1
      obtain ⟨W2, hW2⟩ : ∃ W, wr.alloc (.cells #[.bool tx.s, .slice tx.a1 tx.n1 tx.c1, .slice tx.a2 tx.n2 tx.c2] 34) = W := ⟨_, rfl⟩
      obtain ⟨g, hg⟩ : ∃ g, wr.heap.size = g := ⟨_, rfl⟩
      rw [hW2] at Y0 S1 X1
      rw [hg] at Y0 hbg hGg
      have HS1 := hide S1
      have HX1 := hide X1
      have HY1 := hide Y0
      have e1 : (i : Int) < (qs.length : Int) := by omega
      have e0 : (0 : Int) ≤ (i : Int) := by omega
      have HDV : Hid (∀ W, Below W2.heap.size W2 W → Calls Tryd.prog 23 #[.agg #[.bool tx.s, .slice tx.a1 tx.n1 tx.c1, .slice tx.a2 tx.n2 tx.c2], .agg #[.bool t.s, .slice t.a1 t.n1 t.c1, .slice t.a2 t.n2 t.c2]] W fun e w' => ∃ v, e = .returned v ∧ RatIs w' v (qs[i]! / s) ∧ Below W.heap.size W w') := fun W hW => bdivided_any tx.val t.val qs[i]! s W ((unhide HY1).2.below hW) ((unhide HX1).2.below hW) J (unhide HQ i hlt) hs hJ hz
      have ⟨c0, c1, c2⟩ := Y0.cells _ (Below.refl _ _)
      have ⟨c3, c4, c5⟩ := X1.cells _ (Below.refl _ _)
      clear S X Y0 S1 X1 bA xr hcs H3 HL
      go_wp2_with fail
      clear hW2 hg xk0 xk1 xk2
      refine (unhide HDV _ (Below.refl _ _)).mono ?_
      rintro e xw_1 ⟨xv_1, rfl, hv_1, hb_1⟩
      clear c0 c1 c2 c3 c4 c5
      obtain ⟨ta, rfl, ra⟩ := tri_of hv_1
      simp only [Tri.val]
      have S2 := (unhide HS1).keep hb_1
      have X2 := (unhide HX1).keep hb_1
      have ⟨⟨y0, y1, y2⟩, l0, l1, l2⟩ := S2.cells i (by omega)
      have FZ := S2.set i (by omega) ta (shr qs s i) ra
      rw [fill_set (shr qs s)] at FZ
      have FX := X2.rowed S2.row (unhide HNE) (i * 3) (i * 3 + 1) (i * 3 + 2) (.bool ta.s) (.slice ta.a1 ta.n1 ta.c1) (.slice ta.a2 ta.n2 ta.c2)
      obtain ⟨Wz, hWz⟩ : ∃ W, ((xw_1.setCell ⟨G, i * 3, none⟩ (.bool ta.s)).setCell ⟨G, i * 3 + 1, none⟩ (.slice ta.a1 ta.n1 ta.c1)).setCell ⟨G, i * 3 + 2, none⟩ (.slice ta.a2 ta.n2 ta.c2) = W := ⟨_, rfl⟩
      rw [hWz] at FZ FX
      have HFS := hide FZ
      have HFX := hide FX
      clear S2 X2 FZ FX ra hb_1
      go_wp2_with fail
      exact ⟨⟨i + 1, us.set i ta, by go_num, hlt, unhide HFS, unhide HFX⟩, by simp [intOf]; omega⟩
    · obtain rfl : i = qs.length := by omega
      have e1 : ¬ (qs.length : Int) < (qs.length : Int) := by omega
      have LW := S.law (by omega)
      rw [hul] at LW
      have HLW := hide LW
      have HBB := hide S.bl
      clear S X LW
      go_wp2
      go_ret
      exact ⟨_, rfl, unhide HLW, unhide HBB⟩
end Go.Proofs.YtigilnkcjblhcaaDoor
