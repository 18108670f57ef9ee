/- A quotient; whether a word can come. -/
import Derived.Test.YtdicbnchkfclaaaDoorE0
import Derived.Test.YtdicbnchkfclaaaDoorD1
import Derived.Test.YtdicbnchkfclaaaDoorA15
namespace Go.Proofs.YtdicbnchkfclaaaDoor
open Go.RowKit Go.Sort Go.Shelf

set_option maxHeartbeats 4000000 in
set_option maxRecDepth 100000 in
set_option linter.unusedSimpArgs false in
theorem cdivided_any (va vb : Value) (qa qb : Rat) (w : World) (ha : RatIs w va qa) (hb : RatIs w vb qb) (J : Nat) (hqa : RS qa J) (hqb : RS qb J) (hJ : J + J + 1 ≤ KK) (hz : qb.num ≠ 0) :
    Calls Tryd.prog 62 #[va, vb] w fun e w' => ∃ v, e = .returned v ∧ RatIs w' v (qa / qb) ∧ Below w.heap.size w w' := by
  obtain ⟨ta, rfl, ha'⟩ := tri_of ha
  obtain ⟨tb, rfl, hb'⟩ := tri_of hb
  have bA := below_step (below_step (alloc_below w (.cells #[.bool ta.s, .slice ta.a1 ta.n1 ta.c1, .slice ta.a2 ta.n2 ta.c2] 36)) (alloc_below _ (.cells #[.bool tb.s, .slice tb.a1 tb.n1 tb.c1, .slice tb.a2 tb.n2 tb.c2] 36))) (alloc_below _ (.cells #[.bool false, .slice none 0 0, .slice none 0 0] 36))
  have HDV := hide (divR_any ta.val tb.val qa qb _ (ha'.below bA) (hb'.below bA) J hqa hqb hJ hz)
  have HB_0 := hide bA
  have HX_b4_0 := hide (BoxIs.new (w := (w.alloc (.cells #[.bool ta.s, .slice ta.a1 ta.n1 ta.c1, .slice ta.a2 ta.n2 ta.c2] 36)).alloc (.cells #[.bool tb.s, .slice tb.a1 tb.n1 tb.c1, .slice tb.a2 tb.n2 tb.c2] 36)) (t := zTri) (q := 0) (rat_zero _))
  obtain ⟨W0, hW0⟩ : ∃ W, ((w.alloc (.cells #[.bool ta.s, .slice ta.a1 ta.n1 ta.c1, .slice ta.a2 ta.n2 ta.c2] 36)).alloc (.cells #[.bool tb.s, .slice tb.a1 tb.n1 tb.c1, .slice tb.a2 tb.n2 tb.c2] 36)).alloc (.cells #[.bool false, .slice none 0 0, .slice none 0 0] 36) = W := ⟨_, rfl⟩
  have e5 : ((w.alloc (.cells #[.bool ta.s, .slice ta.a1 ta.n1 ta.c1, .slice ta.a2 ta.n2 ta.c2] 36)).alloc (.cells #[.bool tb.s, .slice tb.a1 tb.n1 tb.c1, .slice tb.a2 tb.n2 tb.c2] 36)).heap.size = w.heap.size + 1 + 1 := by rw [alloc_size, alloc_size]
  rw [show ((w.alloc (.cells #[.bool ta.s, .slice ta.a1 ta.n1 ta.c1, .slice ta.a2 ta.n2 ta.c2] 36)).alloc (.cells #[.bool tb.s, .slice tb.a1 tb.n1 tb.c1, .slice tb.a2 tb.n2 tb.c2] 36)).alloc (.cells #[.bool zTri.s, .slice zTri.a1 zTri.n1 zTri.c1, .slice zTri.a2 zTri.n2 zTri.c2] 36) = W0 from hW0, e5] at HX_b4_0
  rw [hW0] at HB_0 HDV
  have HWE := hide hW0
  clear e5 ha hb ha' hb' hW0 bA
  simp only [Tri.val]
  generalize qa / qb = q at *
  go_enter Tryd.func62, Tryd.ntmps62
  go_wp2_with fail
  rw [unhide HWE]
  clear HWE
  obtain ⟨b4, hb4⟩ : ∃ b, w.heap.size + 1 + 1 = b := ⟨_, rfl⟩
  have HG_b4 : Hid (w.heap.size ≤ b4) := show _ ≤ _ by omega
  rw [hb4] at HX_b4_0 ⊢
  clear hb4
  refine (unhide HDV).mono ?_
  rintro e w_1 ⟨v4, rfl, hv4, hbx⟩
  obtain ⟨t5, rfl, hr_1⟩ := tri_of hv4
  simp only [Tri.val]
  have HL_b4_b5 := hide (Nat.lt_of_lt_of_le (unhide HX_b4_0).lt hbx.size)
  have HG_b5 := hide (below_step (unhide HB_0) hbx).size
  have hb_1 := below_step hbx (alloc_below w_1 (.cells #[.bool t5.s, .slice t5.a1 t5.n1 t5.c1, .slice t5.a2 t5.n2 t5.c2] 36))
  have HB_2 := hide (below_step (unhide HB_0) hb_1)
  have HX_b4_2 := hide ((unhide HX_b4_0).keep hb_1)
  clear HB_0 HX_b4_0
  have HX_b5_1 := hide (BoxIs.new hr_1)
  obtain ⟨Wb5, hW_1⟩ : ∃ W, w_1.alloc (.cells #[.bool t5.s, .slice t5.a1 t5.n1 t5.c1, .slice t5.a2 t5.n2 t5.c2] 36) = W := ⟨_, rfl⟩
  obtain ⟨b5, hc_1⟩ : ∃ b, w_1.heap.size = b := ⟨_, rfl⟩
  rw [hW_1] at HB_2 HX_b4_2 HX_b5_1
  rw [hc_1] at HX_b5_1 HL_b4_b5 HG_b5
  clear hv4 hr_1 hbx hb_1
  have ⟨l0, l1, l2⟩ := (unhide HX_b4_2).free
  have ⟨y0, y1, y2⟩ := (unhide HX_b4_2).cells _ (Below.refl _ _)
  have ⟨y3, y4, y5⟩ := (unhide HX_b5_1).cells _ (Below.refl _ _)
  have FIN := hide ((unhide HX_b4_2).set (unhide HX_b5_1).2)
  have FB := hide ((((unhide HB_2).setCell (p := ⟨b4, 0, none⟩) (unhide HG_b4) (.bool t5.s)).setCell (p := ⟨b4, 1, none⟩) (unhide HG_b4) (.slice t5.a1 t5.n1 t5.c1)).setCell (p := ⟨b4, 2, none⟩) (unhide HG_b4) (.slice t5.a2 t5.n2 t5.c2))
  obtain ⟨Wf, hWf⟩ : ∃ W, ((Wb5.setCell ⟨b4, 0, none⟩ (.bool t5.s)).setCell ⟨b4, 1, none⟩ (.slice t5.a1 t5.n1 t5.c1)).setCell ⟨b4, 2, none⟩ (.slice t5.a2 t5.n2 t5.c2) = W := ⟨_, rfl⟩
  rw [hWf] at FIN FB
  have ⟨x0, x1, x2⟩ := (unhide FIN).cells _ (Below.refl _ _)
  go_wp2
  exact bodyPost_ret (v := .agg #[.bool t5.s, .slice t5.a1 t5.n1 t5.c1, .slice t5.a2 t5.n2 t5.c2]) (by simp [results, Tryd.results62, go_sem, x0, x1, x2]) rfl ⟨_, rfl, (unhide FIN).2, unhide FB⟩
/-- A word that can come. -/
def GoodW (qs : List Rat) (M : Nat) (g : Nat → Int) : Prop := (1 ≤ M ∧ M ≤ 12) ∧ ∀ i, i < M → 0 ≤ g i ∧ g i < (qs.length : Int) ∧ qs[(g i).toNat]!.num ≠ 0

set_option maxHeartbeats 2000000 in
theorem checkWord_any (v : Value) (qs : List Rat) (a : Option Addr) (M c : Nat) (g : Nat → Int) (w : World) (hL : LawIs w v qs) (ha : IRow w a M c g) :
    Calls Tryd.prog 80 #[v, .slice a M c] w fun e w' => ∃ k : Int, e = .returned (errV k) ∧ (k = 0 ↔ GoodW qs M g) ∧ Below w.heap.size w w' := by
  obtain ⟨al, cl, rfl, l1, l2, l3⟩ := hL
  obtain ⟨h1, h2, h3⟩ := ha
  have H3 := hide h3
  have L3 := hide l3
  clear h3 l3
  by_cases hz : M < 1
  · have hg : ¬ GoodW qs M g := fun h => by have := h.1; omega
    have d1 : decide ((M : Int) < 1) = true := decide_eq_true (by omega)
    go_enter Tryd.func80, Tryd.ntmps80
    go_wp2
    go_ret
    exact ⟨4, rfl, ⟨fun h => absurd h (by decide), fun h => absurd h hg⟩, Below.refl _ _⟩
  · by_cases hz2 : 12 < M
    · have hg : ¬ GoodW qs M g := fun h => by have := h.1; omega
      have d1 : decide ((M : Int) < 1) = false := decide_eq_false (by omega)
      have d2 : decide ((12 : Int) < (M : Int)) = true := decide_eq_true (by omega)
      go_enter Tryd.func80, Tryd.ntmps80
      go_wp2
      go_ret
      exact ⟨4, rfl, ⟨fun h => absurd h (by decide), fun h => absurd h hg⟩, Below.refl _ _⟩
    · have d1 : decide ((M : Int) < 1) = false := decide_eq_false (by omega)
      have d2 : decide ((12 : Int) < (M : Int)) = false := decide_eq_false (by omega)
      have HOK : Hid ((∀ i, i < M → 0 ≤ g i ∧ g i < (qs.length : Int) ∧ qs[(g i).toNat]!.num ≠ 0) → GoodW qs M g) := fun h => ⟨by omega, h⟩
      have HNO : Hid (∀ i, i < M → ¬ (0 ≤ g i ∧ g i < (qs.length : Int) ∧ qs[(g i).toNat]!.num ≠ 0) → ¬ GoodW qs M g) := fun i hi hn h => hn (h.2 i hi)
      generalize GoodW qs M g = gw at *
      go_enter Tryd.func80, Tryd.ntmps80
      go_wp2_with fail
      go_loopw [18] (fun vi wr => ∃ i : Nat, vi = .int .i64 (i : Int) ∧ i ≤ M ∧ Below w.heap.size w wr ∧ ∀ j, j < i → 0 ≤ g j ∧ g j < (qs.length : Int) ∧ qs[(g j).toNat]!.num ≠ 0) (fun vi _ => M - (intOf vi).toNat)
      case atStart => exact ⟨0, rfl, Nat.zero_le _, Below.refl _ _, fun j h => absurd h (Nat.not_lt_zero _)⟩
      case round =>
        obtain ⟨i, rfl, hi, bl, hgo⟩ := hrel
        have HBL := hide bl
        have HGO := hide hgo
        clear hgo
        by_cases hlt : i < M
        · obtain ⟨b, o, rfl, hbl, hc⟩ := unhide H3 (by omega)
          have hci := hc i hlt
          rw [← bl.cell (p := ⟨b, o + i, none⟩) hbl] at hci
          have hn := unhide HNO i hlt
          have i1 : (i : Int) < (M : Int) := by omega
          have i2 : (0 : Int) ≤ (i : Int) := by omega
          obtain ⟨x, hx⟩ : ∃ x, g i = x := ⟨_, rfl⟩
          rw [hx] at hci hn
          have HX := hide hx
          clear hx hc
          by_cases hx0 : x < 0
          · have HN : Hid (¬ gw) := hn (fun h => by omega)
            have d3 : decide (x < 0) = true := decide_eq_true hx0
            clear hn bl H3 L3 HOK HNO
            go_wp2
            go_ret
            exact ⟨2, rfl, ⟨fun h => absurd h (by decide), fun h => absurd h (unhide HN)⟩, unhide HBL⟩
          · have d3 : decide (x < 0) = false := decide_eq_false hx0
            by_cases hx1 : (qs.length : Int) ≤ x
            · have HN : Hid (¬ gw) := hn (fun h => by omega)
              have d4 : decide ((qs.length : Int) ≤ x) = true := decide_eq_true hx1
              clear hn bl H3 L3 HOK HNO
              go_wp2
              go_ret
              exact ⟨2, rfl, ⟨fun h => absurd h (by decide), fun h => absurd h (unhide HN)⟩, unhide HBL⟩
            · have d4 : decide ((qs.length : Int) ≤ x) = false := decide_eq_false hx1
              obtain ⟨n, rfl⟩ : ∃ n : Nat, x = (n : Int) := ⟨x.toNat, by omega⟩
              obtain ⟨bq, oq, rfl, hbq, hcq⟩ := unhide L3 (by omega)
              obtain ⟨s', b1, b2, m1, e1, m2, e2, k0, k1, k2, r⟩ := hcq n (by omega)
              rw [← bl.cell (p := ⟨bq, oq + n * 3, none⟩) hbq] at k0
              rw [← bl.cell (p := ⟨bq, oq + n * 3 + 1, none⟩) hbq] at k1
              rw [← bl.cell (p := ⟨bq, oq + n * 3 + 2, none⟩) hbq] at k2
              have HSG := hide (sign_any _ qs[n]! wr (r.below bl))
              have j1 : (n : Int) < (qs.length : Int) := by omega
              have j2 : (0 : Int) ≤ (n : Int) := by omega
              by_cases hq0 : qs[n]!.num = 0
              · have HN : Hid (¬ gw) := hn (fun h => h.2.2 hq0)
                rw [hq0] at HSG
                clear hn bl H3 L3 HOK HNO hcq r hq0
                go_wp2_with fail
                refine (unhide HSG).mono ?_
                rintro e w1 ⟨rfl, hb1⟩
                have HB1 := hide (below_step (unhide HBL) hb1)
                clear hb1
                go_wp2
                go_ret
                exact ⟨8, rfl, ⟨fun h => absurd h (by decide), fun h => absurd h (unhide HN)⟩, unhide HB1⟩
              · have hsn : qs[n]!.num.sign ≠ 0 := fun h => hq0 (Int.sign_eq_zero_iff_zero.1 h)
                have HQ0 := hide hq0
                generalize qs[n]!.num.sign = sg at *
                have hsb : (sg == 0) = false := by simp [hsn]
                clear hn bl H3 L3 HNO hcq r hq0
                go_wp2_with fail
                refine (unhide HSG).mono ?_
                rintro e w1 ⟨rfl, hb1⟩
                have HB1 := hide (below_step (unhide HBL) hb1)
                clear hb1
                go_wp2
                refine ⟨⟨i + 1, by go_num, by omega, unhide HB1, fun j hj => ?_⟩, by simp [intOf]; omega⟩
                rcases Nat.lt_or_ge j i with h | h
                · exact unhide HGO j h
                · obtain rfl : j = i := by omega
                  rw [unhide HX]
                  exact ⟨j2, j1, by simpa using unhide HQ0⟩
        · obtain rfl : i = M := by omega
          have HG : Hid gw := unhide HOK (unhide HGO)
          clear bl H3 L3 HOK HNO
          go_wp2
          go_ret
          exact ⟨0, rfl, ⟨fun _ => unhide HG, fun _ => rfl⟩, unhide HBL⟩
end Go.Proofs.YtdicbnchkfclaaaDoor
