/- Renewals: check, checkTime, checkCosts, greatest, divided, cost. -/
import Derived.Test.YtpopcfclpemlaaaDoorRN0
namespace Go.Proofs.YtpopcfclpemlaaaDoor
open Go.RowKit Go.Sort Go.Shelf

set_option maxHeartbeats 16000000 in
set_option maxRecDepth 100000 in
set_option linter.unusedSimpArgs false in
theorem rcheck_any (v : Value) (qs : List Rat) (J : Nat) (w : World) (h : LawIs w v qs) (hq : ∀ j, j < qs.length → RS qs[j]! J) (hJ : (qs.length * (J + 1) + 1 + J) + (qs.length * (J + 1) + 1 + J) + 1 ≤ KK) :
    Calls Tryd.prog 61 #[v] w fun e w' => e = .returned (errV (rnc qs)) ∧ Below w.heap.size w w' := by
  have HC := hide (check_any v qs J w h hq hJ)
  have h' := h
  obtain ⟨a, c, rfl, -⟩ := h'
  by_cases hc : chk qs = 0
  · have hr : rnc qs = if 0 < (xq qs 0).num then 11 else 0 := by unfold rnc; rw [if_pos hc]
    rw [hr]
    rw [hc, errV_zero] at HC
    obtain ⟨p1, p2, _, _⟩ := chk_zero hc
    obtain ⟨_, hc1, hc2, h3⟩ := h.parts
    obtain ⟨b, o, rfl, hlt, hcs⟩ := h3 p1
    obtain ⟨t, k0, k1, k2, r⟩ := hcs 0 p1
    rw [Nat.zero_mul, Nat.add_zero] at k0 k1 k2
    obtain ⟨n, hn⟩ : ∃ n, qs.length = n := ⟨_, rfl⟩
    rw [hn] at HC p1 p2 hc1 ⊢
    have HK : Hid (∀ W, Below w.heap.size w W → W.cell? ⟨b, o, none⟩ = some (.bool t.s) ∧ W.cell? ⟨b, o + 1, none⟩ = some (.slice t.a1 t.n1 t.c1) ∧ W.cell? ⟨b, o + 2, none⟩ = some (.slice t.a2 t.n2 t.c2)) := fun W hW => ⟨by rw [hW.cell (p := ⟨b, o, none⟩) hlt]; exact k0, by rw [hW.cell (p := ⟨b, o + 1, none⟩) hlt]; exact k1, by rw [hW.cell (p := ⟨b, o + 2, none⟩) hlt]; exact k2⟩
    have HSG : Hid (∀ W, Below w.heap.size w W → Calls Tryd.prog 19 #[.agg #[.bool t.s, .slice t.a1 t.n1 t.c1, .slice t.a2 t.n2 t.c2]] W fun e w' => e = .returned (.int .i64 (xq qs 0).num.sign) ∧ Below W.heap.size W w') := fun W hW => sign_any t.val (xq qs 0) W (r.below hW)
    obtain ⟨q, hq'⟩ : ∃ q, xq qs 0 = q := ⟨_, rfl⟩
    rw [hq'] at HSG ⊢
    have i0 : (0 : Int) < (n : Int) := by omega
    clear h hq hJ hr hc hcs r h3 hn hq' hlt k0 k1 k2
    by_cases hneg : 0 < q.num
    · rw [if_pos hneg]
      have hsn : q.num.sign = 1 := Int.sign_eq_one_of_pos hneg
      rw [hsn] at HSG
      clear hneg hsn
      go_enter Tryd.func61, Tryd.ntmps61
      go_wp2_with fail
      refine (unhide HC).mono ?_
      rintro e w1 ⟨rfl, hb1⟩
      have HS1 := hide (unhide HSG w1 hb1)
      have ⟨k0, k1, k2⟩ := unhide HK w1 hb1
      have HB1 := hide hb1
      clear hb1 HC HSG HK
      go_wp2_with fail
      refine (unhide HS1).mono ?_
      rintro e w2 ⟨rfl, hb2⟩
      have HB2 := hide (below_step (unhide HB1) hb2)
      clear hb2 k0 k1 k2
      go_wp2
      go_ret
      exact ⟨rfl, unhide HB2⟩
    · rw [if_neg hneg]
      have bd := sign_bd q.num
      have hsn : q.num.sign ≤ 0 := by
        rcases Int.lt_trichotomy q.num 0 with h | h | h
        · rw [Int.sign_eq_neg_one_of_neg h]; decide
        · rw [h]; decide
        · omega
      obtain ⟨bda, bdb⟩ := bd
      generalize q.num.sign = x at *
      have hd : decide (0 < x) = false := decide_eq_false (by omega)
      clear hneg bda bdb hsn
      go_enter Tryd.func61, Tryd.ntmps61
      go_wp2_with fail
      refine (unhide HC).mono ?_
      rintro e w1 ⟨rfl, hb1⟩
      have HS1 := hide (unhide HSG w1 hb1)
      have ⟨k0, k1, k2⟩ := unhide HK w1 hb1
      have HB1 := hide hb1
      clear hb1 HC HSG HK
      go_wp2_with fail
      refine (unhide HS1).mono ?_
      rintro e w2 ⟨rfl, hb2⟩
      have HB2 := hide (below_step (unhide HB1) hb2)
      clear hb2 k0 k1 k2
      go_wp2
      go_ret
      exact ⟨rfl, unhide HB2⟩
  · have hr : rnc qs = chk qs := by unfold rnc; rw [if_neg hc]
    rw [hr]
    rw [errV_not hc] at HC ⊢
    generalize chk qs = k at *
    clear h hq hJ hr hc
    generalize qs.length = n at *
    go_enter Tryd.func61, Tryd.ntmps61
    go_wp2_with fail
    refine (unhide HC).mono ?_
    rintro e w1 ⟨rfl, hb1⟩
    go_wp2
    go_ret
    exact ⟨rfl, hb1⟩

/-- What checkTime says. -/
def rtc (qs : List Rat) (up : Int) : Int := if rnc qs = 0 then (if up < 0 ∨ 100 < up then 2 else 0) else rnc qs
set_option maxHeartbeats 16000000 in
set_option maxRecDepth 100000 in
set_option linter.unusedSimpArgs false in
theorem rtime_any (v : Value) (qs : List Rat) (J : Nat) (up : Int) (w : World) (h : LawIs w v qs) (hq : ∀ j, j < qs.length → RS qs[j]! J) (hJ : (qs.length * (J + 1) + 1 + J) + (qs.length * (J + 1) + 1 + J) + 1 ≤ KK) :
    Calls Tryd.prog 58 #[v, .int .i64 up] w fun e w' => e = .returned (errV (rtc qs up)) ∧ Below w.heap.size w w' := by
  have HC := hide (rcheck_any v qs J w h hq hJ)
  have h' := h
  obtain ⟨a, c, rfl, -⟩ := h'
  by_cases hc : rnc qs = 0
  · have hr : rtc qs up = if up < 0 ∨ 100 < up then 2 else 0 := by unfold rtc; rw [if_pos hc]
    rw [hr]
    rw [hc, errV_zero] at HC
    clear h hq hJ hr hc
    generalize qs.length = n at *
    by_cases h0 : up < 0
    · rw [if_pos (Or.inl h0)]
      go_enter Tryd.func58, Tryd.ntmps58
      go_wp2_with fail
      refine (unhide HC).mono ?_
      rintro e w1 ⟨rfl, hb1⟩
      go_wp2
      go_ret
      exact ⟨rfl, hb1⟩
    · by_cases h1 : 100 < up
      · rw [if_pos (Or.inr h1)]
        go_enter Tryd.func58, Tryd.ntmps58
        go_wp2_with fail
        refine (unhide HC).mono ?_
        rintro e w1 ⟨rfl, hb1⟩
        go_wp2
        go_ret
        exact ⟨rfl, hb1⟩
      · rw [if_neg (fun h => h.elim h0 h1)]
        go_enter Tryd.func58, Tryd.ntmps58
        go_wp2_with fail
        refine (unhide HC).mono ?_
        rintro e w1 ⟨rfl, hb1⟩
        go_wp2
        go_ret
        exact ⟨rfl, hb1⟩
  · have hr : rtc qs up = rnc qs := by unfold rtc; rw [if_neg hc]
    rw [hr]
    rw [errV_not hc] at HC ⊢
    generalize rnc qs = k at *
    clear h hq hJ hr hc
    generalize qs.length = n at *
    go_enter Tryd.func58, Tryd.ntmps58
    go_wp2_with fail
    refine (unhide HC).mono ?_
    rintro e w1 ⟨rfl, hb1⟩
    go_wp2
    go_ret
    exact ⟨rfl, hb1⟩

set_option maxHeartbeats 16000000 in
set_option maxRecDepth 100000 in
set_option linter.unusedSimpArgs false in
theorem greatest_any (v : Value) (qs : List Rat) (w : World) (h : LawIs w v qs) (hp : 0 < qs.length) (hl : qs.length ≤ 1000) :
    Calls Tryd.prog 63 #[v] w fun e w' => e = .returned (.int .i64 (gst qs : Int)) ∧ Below w.heap.size w w' := by
  have HT := hide (trim_any v qs w h hp hl)
  obtain ⟨a, c, rfl, -⟩ := h
  have t1 := tlen_pos' qs hp
  have t2 := tlen_le qs qs.length
  have htl : (qs.take (tlen qs qs.length)).length = tlen qs qs.length := by rw [List.length_take]; omega
  have HTL := hide htl
  have e : (gst qs : Int) = (tlen qs qs.length : Int) - 1 := by unfold gst; omega
  rw [e]
  have HM := hide (And.intro t1 (show tlen qs qs.length ≤ 1000 by omega))
  generalize tlen qs qs.length = m at *
  clear hp hl t2 htl e
  generalize qs.length = n at *
  go_enter Tryd.func63, Tryd.ntmps63
  go_wp2_with fail
  refine (unhide HT).mono ?_
  rintro e w1 ⟨v1, rfl, hv, hb1⟩
  obtain ⟨a1, c1, rfl, -⟩ := hv
  rw [unhide HTL]
  obtain ⟨m1, m2⟩ := unhide HM
  have HB := hide hb1
  clear HT HTL HM hb1
  go_wp2
  go_ret
  exact ⟨by congr 2, unhide HB⟩

set_option maxHeartbeats 4000000 in
set_option maxRecDepth 100000 in
set_option linter.unusedSimpArgs false in
theorem rdivided_any (va vb : Value) (qa qb : Rat) (w : World) (ha : RatIs w va qa) (hb : RatIs w vb qb) (J : Nat) (hqa : RS qa J) (hqb : RS qb J) (hJ : J + J + 1 ≤ KK) (hz : qb.num ≠ 0) :
    Calls Tryd.prog 65 #[va, vb] w fun e w' => ∃ v, e = .returned v ∧ RatIs w' v (qa / qb) ∧ Below w.heap.size w w' := by
  obtain ⟨ta, rfl, ha'⟩ := tri_of ha
  obtain ⟨tb, rfl, hb'⟩ := tri_of hb
  have bA := below_step (below_step (alloc_below w (.cells #[.bool ta.s, .slice ta.a1 ta.n1 ta.c1, .slice ta.a2 ta.n2 ta.c2] 31)) (alloc_below _ (.cells #[.bool tb.s, .slice tb.a1 tb.n1 tb.c1, .slice tb.a2 tb.n2 tb.c2] 31))) (alloc_below _ (.cells #[.bool false, .slice none 0 0, .slice none 0 0] 31))
  have HDV := hide (divR_any ta.val tb.val qa qb _ (ha'.below bA) (hb'.below bA) J hqa hqb hJ hz)
  have HB_0 := hide bA
  have HX_b4_0 := hide (BoxIs.new (w := (w.alloc (.cells #[.bool ta.s, .slice ta.a1 ta.n1 ta.c1, .slice ta.a2 ta.n2 ta.c2] 31)).alloc (.cells #[.bool tb.s, .slice tb.a1 tb.n1 tb.c1, .slice tb.a2 tb.n2 tb.c2] 31)) (t := zTri) (q := 0) (rat_zero _))
  obtain ⟨W0, hW0⟩ : ∃ W, ((w.alloc (.cells #[.bool ta.s, .slice ta.a1 ta.n1 ta.c1, .slice ta.a2 ta.n2 ta.c2] 31)).alloc (.cells #[.bool tb.s, .slice tb.a1 tb.n1 tb.c1, .slice tb.a2 tb.n2 tb.c2] 31)).alloc (.cells #[.bool false, .slice none 0 0, .slice none 0 0] 31) = W := ⟨_, rfl⟩
  have e5 : ((w.alloc (.cells #[.bool ta.s, .slice ta.a1 ta.n1 ta.c1, .slice ta.a2 ta.n2 ta.c2] 31)).alloc (.cells #[.bool tb.s, .slice tb.a1 tb.n1 tb.c1, .slice tb.a2 tb.n2 tb.c2] 31)).heap.size = w.heap.size + 1 + 1 := by rw [alloc_size, alloc_size]
  rw [show ((w.alloc (.cells #[.bool ta.s, .slice ta.a1 ta.n1 ta.c1, .slice ta.a2 ta.n2 ta.c2] 31)).alloc (.cells #[.bool tb.s, .slice tb.a1 tb.n1 tb.c1, .slice tb.a2 tb.n2 tb.c2] 31)).alloc (.cells #[.bool zTri.s, .slice zTri.a1 zTri.n1 zTri.c1, .slice zTri.a2 zTri.n2 zTri.c2] 31) = W0 from hW0, e5] at HX_b4_0
  rw [hW0] at HB_0 HDV
  have HWE := hide hW0
  clear e5 ha hb ha' hb' hW0 bA
  simp only [Tri.val]
  generalize qa / qb = q at *
  go_enter Tryd.func65, Tryd.ntmps65
  go_wp2_with fail
  rw [unhide HWE]
  clear HWE
  obtain ⟨b4, hb4⟩ : ∃ b, w.heap.size + 1 + 1 = b := ⟨_, rfl⟩
  have HG_b4 : Hid (w.heap.size ≤ b4) := show _ ≤ _ by omega
  rw [hb4] at HX_b4_0 ⊢
  clear hb4
  refine (unhide HDV).mono ?_
  rintro e w_1 ⟨v4, rfl, hv4, hbx⟩
  obtain ⟨t5, rfl, hr_1⟩ := tri_of hv4
  simp only [Tri.val]
  have HL_b4_b5 := hide (Nat.lt_of_lt_of_le (unhide HX_b4_0).lt hbx.size)
  have HG_b5 := hide (below_step (unhide HB_0) hbx).size
  have hb_1 := below_step hbx (alloc_below w_1 (.cells #[.bool t5.s, .slice t5.a1 t5.n1 t5.c1, .slice t5.a2 t5.n2 t5.c2] 31))
  have HB_2 := hide (below_step (unhide HB_0) hb_1)
  have HX_b4_2 := hide ((unhide HX_b4_0).keep hb_1)
  clear HB_0 HX_b4_0
  have HX_b5_1 := hide (BoxIs.new hr_1)
  obtain ⟨Wb5, hW_1⟩ : ∃ W, w_1.alloc (.cells #[.bool t5.s, .slice t5.a1 t5.n1 t5.c1, .slice t5.a2 t5.n2 t5.c2] 31) = W := ⟨_, rfl⟩
  obtain ⟨b5, hc_1⟩ : ∃ b, w_1.heap.size = b := ⟨_, rfl⟩
  rw [hW_1] at HB_2 HX_b4_2 HX_b5_1
  rw [hc_1] at HX_b5_1 HL_b4_b5 HG_b5
  clear hv4 hr_1 hbx hb_1
  have ⟨l0, l1, l2⟩ := (unhide HX_b4_2).free
  have ⟨y0, y1, y2⟩ := (unhide HX_b4_2).cells _ (Below.refl _ _)
  have ⟨y3, y4, y5⟩ := (unhide HX_b5_1).cells _ (Below.refl _ _)
  have FIN := hide ((unhide HX_b4_2).set (unhide HX_b5_1).2)
  have FB := hide ((((unhide HB_2).setCell (p := ⟨b4, 0, none⟩) (unhide HG_b4) (.bool t5.s)).setCell (p := ⟨b4, 1, none⟩) (unhide HG_b4) (.slice t5.a1 t5.n1 t5.c1)).setCell (p := ⟨b4, 2, none⟩) (unhide HG_b4) (.slice t5.a2 t5.n2 t5.c2))
  obtain ⟨Wf, hWf⟩ : ∃ W, ((Wb5.setCell ⟨b4, 0, none⟩ (.bool t5.s)).setCell ⟨b4, 1, none⟩ (.slice t5.a1 t5.n1 t5.c1)).setCell ⟨b4, 2, none⟩ (.slice t5.a2 t5.n2 t5.c2) = W := ⟨_, rfl⟩
  rw [hWf] at FIN FB
  have ⟨x0, x1, x2⟩ := (unhide FIN).cells _ (Below.refl _ _)
  go_wp2
  exact bodyPost_ret (v := .agg #[.bool t5.s, .slice t5.a1 t5.n1 t5.c1, .slice t5.a2 t5.n2 t5.c2]) (by simp [results, Tryd.results65, go_sem, x0, x1, x2]) rfl ⟨_, rfl, (unhide FIN).2, unhide FB⟩
end Go.Proofs.YtpopcfclpemlaaaDoor
