/- The server's quotient; the classes' mean times. -/
import Derived.Test.YtbboacmjbffmhaaGreatDoorS2
import Derived.Test.YtbboacmjbffmhaaGreatDoorX3
namespace Go.Proofs.YtbboacmjbffmhaaGreatDoor
open Go.RowKit Go.Sort Go.Shelf

set_option maxHeartbeats 4000000 in
set_option maxRecDepth 100000 in
set_option linter.unusedSimpArgs false in
theorem sdivided_any (va vb : Value) (qa qb : Rat) (w : World) (ha : RatIs w va qa) (hb : RatIs w vb qb) (J : Nat) (hqa : RS qa J) (hqb : RS qb J) (hJ : J + J + 1 ≤ KK) (hz : qb.num ≠ 0) :
    Calls Tryz.prog 25 #[va, vb] w fun e w' => ∃ v, e = .returned v ∧ RatIs w' v (qa / qb) ∧ Below w.heap.size w w' := by
  obtain ⟨ta, rfl, ha'⟩ := tri_of ha
  obtain ⟨tb, rfl, hb'⟩ := tri_of hb
  have bA := below_step (below_step (alloc_below w (.cells #[.bool ta.s, .slice ta.a1 ta.n1 ta.c1, .slice ta.a2 ta.n2 ta.c2] 42)) (alloc_below _ (.cells #[.bool tb.s, .slice tb.a1 tb.n1 tb.c1, .slice tb.a2 tb.n2 tb.c2] 42))) (alloc_below _ (.cells #[.bool false, .slice none 0 0, .slice none 0 0] 42))
  have HDV := hide (divR_any ta.val tb.val qa qb _ (ha'.below bA) (hb'.below bA) J hqa hqb hJ hz)
  have HB_0 := hide bA
  have HX_b4_0 := hide (BoxIs.new (w := (w.alloc (.cells #[.bool ta.s, .slice ta.a1 ta.n1 ta.c1, .slice ta.a2 ta.n2 ta.c2] 42)).alloc (.cells #[.bool tb.s, .slice tb.a1 tb.n1 tb.c1, .slice tb.a2 tb.n2 tb.c2] 42)) (t := zTri) (q := 0) (rat_zero _))
  obtain ⟨W0, hW0⟩ : ∃ W, ((w.alloc (.cells #[.bool ta.s, .slice ta.a1 ta.n1 ta.c1, .slice ta.a2 ta.n2 ta.c2] 42)).alloc (.cells #[.bool tb.s, .slice tb.a1 tb.n1 tb.c1, .slice tb.a2 tb.n2 tb.c2] 42)).alloc (.cells #[.bool false, .slice none 0 0, .slice none 0 0] 42) = W := ⟨_, rfl⟩
  have e5 : ((w.alloc (.cells #[.bool ta.s, .slice ta.a1 ta.n1 ta.c1, .slice ta.a2 ta.n2 ta.c2] 42)).alloc (.cells #[.bool tb.s, .slice tb.a1 tb.n1 tb.c1, .slice tb.a2 tb.n2 tb.c2] 42)).heap.size = w.heap.size + 1 + 1 := by rw [alloc_size, alloc_size]
  rw [show ((w.alloc (.cells #[.bool ta.s, .slice ta.a1 ta.n1 ta.c1, .slice ta.a2 ta.n2 ta.c2] 42)).alloc (.cells #[.bool tb.s, .slice tb.a1 tb.n1 tb.c1, .slice tb.a2 tb.n2 tb.c2] 42)).alloc (.cells #[.bool zTri.s, .slice zTri.a1 zTri.n1 zTri.c1, .slice zTri.a2 zTri.n2 zTri.c2] 42) = W0 from hW0, e5] at HX_b4_0
  rw [hW0] at HB_0 HDV
  have HWE := hide hW0
  clear e5 ha hb ha' hb' hW0 bA
  simp only [Tri.val]
  generalize qa / qb = q at *
  go_enter Tryz.func25, Tryz.ntmps25
  go_wp2_with fail
  rw [unhide HWE]
  clear HWE
  obtain ⟨b4, hb4⟩ : ∃ b, w.heap.size + 1 + 1 = b := ⟨_, rfl⟩
  have HG_b4 : Hid (w.heap.size ≤ b4) := show _ ≤ _ by omega
  rw [hb4] at HX_b4_0 ⊢
  clear hb4
  refine (unhide HDV).mono ?_
  rintro e w_1 ⟨v4, rfl, hv4, hbx⟩
  obtain ⟨t5, rfl, hr_1⟩ := tri_of hv4
  simp only [Tri.val]
  have HL_b4_b5 := hide (Nat.lt_of_lt_of_le (unhide HX_b4_0).lt hbx.size)
  have HG_b5 := hide (below_step (unhide HB_0) hbx).size
  have hb_1 := below_step hbx (alloc_below w_1 (.cells #[.bool t5.s, .slice t5.a1 t5.n1 t5.c1, .slice t5.a2 t5.n2 t5.c2] 42))
  have HB_2 := hide (below_step (unhide HB_0) hb_1)
  have HX_b4_2 := hide ((unhide HX_b4_0).keep hb_1)
  clear HB_0 HX_b4_0
  have HX_b5_1 := hide (BoxIs.new hr_1)
  obtain ⟨Wb5, hW_1⟩ : ∃ W, w_1.alloc (.cells #[.bool t5.s, .slice t5.a1 t5.n1 t5.c1, .slice t5.a2 t5.n2 t5.c2] 42) = W := ⟨_, rfl⟩
  obtain ⟨b5, hc_1⟩ : ∃ b, w_1.heap.size = b := ⟨_, rfl⟩
  rw [hW_1] at HB_2 HX_b4_2 HX_b5_1
  rw [hc_1] at HX_b5_1 HL_b4_b5 HG_b5
  clear hv4 hr_1 hbx hb_1
  have ⟨l0, l1, l2⟩ := (unhide HX_b4_2).free
  have ⟨y0, y1, y2⟩ := (unhide HX_b4_2).cells _ (Below.refl _ _)
  have ⟨y3, y4, y5⟩ := (unhide HX_b5_1).cells _ (Below.refl _ _)
  have FIN := hide ((unhide HX_b4_2).set (unhide HX_b5_1).2)
  have FB := hide ((((unhide HB_2).setCell (p := ⟨b4, 0, none⟩) (unhide HG_b4) (.bool t5.s)).setCell (p := ⟨b4, 1, none⟩) (unhide HG_b4) (.slice t5.a1 t5.n1 t5.c1)).setCell (p := ⟨b4, 2, none⟩) (unhide HG_b4) (.slice t5.a2 t5.n2 t5.c2))
  obtain ⟨Wf, hWf⟩ : ∃ W, ((Wb5.setCell ⟨b4, 0, none⟩ (.bool t5.s)).setCell ⟨b4, 1, none⟩ (.slice t5.a1 t5.n1 t5.c1)).setCell ⟨b4, 2, none⟩ (.slice t5.a2 t5.n2 t5.c2) = W := ⟨_, rfl⟩
  rw [hWf] at FIN FB
  have ⟨x0, x1, x2⟩ := (unhide FIN).cells _ (Below.refl _ _)
  go_wp2
  exact bodyPost_ret (v := .agg #[.bool t5.s, .slice t5.a1 t5.n1 t5.c1, .slice t5.a2 t5.n2 t5.c2]) (by simp [results, Tryz.results25, go_sem, x0, x1, x2]) rfl ⟨_, rfl, (unhide FIN).2, unhide FB⟩

/-- Classes of which all say nothing. -/
def GoodC (ks : List (Rat × List Rat)) : Prop := 0 < ks.length ∧ OkC ks
/-- What times says. -/
def TimesPost (w : World) (ks : List (Rat × List Rat)) (e : Ending) (w' : World) : Prop :=
  (GoodC ks ∧ ∃ v, e = .returned (.tuple #[v, .nilIface]) ∧ LawIs w' v (row (mo 1 ks) ks.length) ∧ Below w.heap.size w w') ∨
  (¬ GoodC ks ∧ ∃ k : Int, e = .returned (.tuple #[.slice none 0 0, .iface 56 (.int .i64 k)]) ∧ Below w.heap.size w w')

set_option maxHeartbeats 8000000 in
set_option maxRecDepth 100000 in
set_option linter.unusedSimpArgs false in
theorem times_any (v : Value) (ks : List (Rat × List Rat)) (w : World) (h : ClassesAre w v ks) (sm : SmC ks) (hl : ks.length ≤ 6) :
    Calls Tryz.prog 17 #[v] w (TimesPost w ks) := by
  have KKe : KK = 1099511627776 := rfl
  obtain ⟨a, c, rfl, h1, h2, h3⟩ := h
  have H3 := hide h3
  have HSM := hide sm
  clear h3 sm
  by_cases hn : ks.length = 0
  · have f0 : (ks.length : Int) < 1 := by omega
    have HNG : Hid (¬ GoodC ks) := fun g => by have := g.1; omega
    go_enter Tryz.func17, Tryz.ntmps17
    go_wp2
    exact bodyPost_ret (v := .tuple #[.slice none 0 0, .iface 56 (.int .i64 4)]) (by simp [results, Tryz.results17, go_sem]) rfl (Or.inr ⟨unhide HNG, 4, rfl, Below.refl _ _⟩)
  have f0 : ¬ (ks.length : Int) < 1 := by omega
  have f1 : ¬ (20 : Int) < (ks.length : Int) := by omega
  have HN0 := hide hn
  clear hn
  have qmk := make_ratios (ks.length : Int) (by omega) (by omega) w
  rw [Int.toNat_natCast] at qmk
  have S0 := SumsAt.start w w ks.length (Below.refl _ _)
  rw [fill_zero (mo 1 ks) ks.length] at S0
  obtain ⟨W0, hW0⟩ : ∃ W, w.alloc (.cells (tcells (List.replicate ks.length zTri)).toArray 42) = W := ⟨_, rfl⟩
  obtain ⟨G, hG⟩ : ∃ G, w.heap.size = G := ⟨_, rfl⟩
  rw [hW0, hG] at qmk S0
  have HS0 := hide S0
  clear S0 hW0 hG
  go_enter Tryz.func17, Tryz.ntmps17
  go_wp2_with fail
  clear qmk
  go_loopw [23] (fun vi wr => ∃ (i : Nat) (us : List Tri), vi = .int .i64 (i : Int) ∧ i ≤ ks.length ∧ SumsAt w wr G us (fill (mo 1 ks) ks.length i) ∧ ∀ j, j < i → 0 ≤ (ks[j]!).1.num ∧ chk (ks[j]!).2 = 0) (fun vi _ => ks.length - (intOf vi).toNat)
  case atStart => exact ⟨0, _, rfl, Nat.zero_le _, unhide HS0, fun j h => absurd h (Nat.not_lt_zero _)⟩
  case round =>
    obtain ⟨i, us, rfl, hi, S, hall⟩ := hrel
    have hul : us.length = ks.length := by rw [S.len, fill_length]
    have HALL := hide hall
    clear HS0 hall
    by_cases hlt : i < ks.length
    · have HBL := hide S.bl
      obtain ⟨b, o, rfl, hblt, hcs⟩ := unhide H3 (by omega)
      obtain ⟨tk, lk, ⟨k0, k1, k2, k3⟩, kr⟩ := hcs i hlt
      rw [← (unhide HBL).cell (p := ⟨b, o + i * 4, none⟩) hblt] at k0
      rw [← (unhide HBL).cell (p := ⟨b, o + i * 4 + 1, none⟩) hblt] at k1
      rw [← (unhide HBL).cell (p := ⟨b, o + i * 4 + 2, none⟩) hblt] at k2
      rw [← (unhide HBL).cell (p := ⟨b, o + i * 4 + 3, none⟩) hblt] at k3
      have Y0 := CBox.new (kr.below (unhide HBL))
      have HBA := hide (alloc_below wr (.cells #[.bool tk.s, .slice tk.a1 tk.n1 tk.c1, .slice tk.a2 tk.n2 tk.c2, .slice lk.a lk.n lk.c] 45))
      obtain ⟨W2, hW2⟩ : ∃ W, wr.alloc (.cells #[.bool tk.s, .slice tk.a1 tk.n1 tk.c1, .slice tk.a2 tk.n2 tk.c2, .slice lk.a lk.n lk.c] 45) = W := ⟨_, rfl⟩
      obtain ⟨bk, hbk⟩ : ∃ g, wr.heap.size = g := ⟨_, rfl⟩
      rw [hW2] at Y0 HBA
      rw [hbk] at Y0
      have HY1 := hide Y0
      have e1 : (i : Int) < (ks.length : Int) := by omega
      have e0 : (0 : Int) ≤ (i : Int) := by omega
      have ⟨c0, c1, c2, c3⟩ := Y0.cells _ (Below.refl _ _)
      clear Y0 kr hcs
      have S1 := S.keep (unhide HBA)
      have HS1 := hide S1
      have hsg := sign_any tk.val (ks[i]!).1 W2 (unhide HY1).2.1
      simp only [Tri.val] at hsg
      clear S S1 HBL
      by_cases hng : (ks[i]!).1.num < 0
      · rw [Int.sign_eq_neg_one_of_neg hng] at hsg
        have HX := hide hsg
        have HNG : Hid (¬ GoodC ks) := fun g => by have := (g.2 i hlt).1; omega
        clear hsg hng
        go_wp2_with fail
        clear hW2 hbk k0 k1 k2 k3 c0 c1 c2 c3
        refine (unhide HX).mono ?_
        rintro e w3 ⟨rfl, hb3⟩
        have HB3 := hide ((unhide HS1).keep hb3).bl
        clear hb3 HX
        go_wp2
        exact bodyPost_ret (v := .tuple #[.slice none 0 0, .iface 56 (.int .i64 1)]) (by simp [results, Tryz.results17, go_sem]) rfl (Or.inr ⟨unhide HNG, 1, rfl, unhide HB3⟩)
      · have HSG : Hid (∃ x : Int, 0 ≤ x ∧ x ≤ 1 ∧ Calls Tryz.prog 18 #[.agg #[.bool tk.s, .slice tk.a1 tk.n1 tk.c1, .slice tk.a2 tk.n2 tk.c2]] W2 fun e w' => e = .returned (.int .i64 x) ∧ Below W2.heap.size W2 w') := ⟨(ks[i]!).1.num.sign, Int.sign_nonneg_iff.2 (Int.not_lt.1 hng), (sign_bd _).2, hsg⟩
        obtain ⟨x, x0, x1, hx⟩ := unhide HSG
        have HX := hide hx
        have HNN := hide (Int.not_lt.1 hng)
        have ⟨sm1, sm2, sm3⟩ := unhide HSM i hlt
        have HS2 := hide sm2
        have HS3 := hide sm3
        clear hsg HSG hx hng sm1 sm2 sm3
        go_wp2_with fail
        clear hW2 hbk k0 k1 k2 k3 c0 c1 c2 c3
        refine (unhide HX).mono ?_
        rintro e w3 ⟨rfl, hb3⟩
        have ⟨c0, c1, c2, c3⟩ := (unhide HY1).cells _ hb3
        have HY3 := hide ((unhide HY1).keep hb3)
        have HS4 := hide ((unhide HS1).keep hb3)
        clear hb3 HX HY1 HS1 HBA
        by_cases hck : chk (ks[i]!).2 = 0
        · have HMO := hide (moment_any lk.val (ks[i]!).2 1 1 w3 (unhide HY3).2.2 (unhide HS3) (by have := unhide HS2; rw [KKe]; omega) hck (by decide))
          simp only [Sl.val] at HMO
          have HN : Hid (∀ j, j < i + 1 → 0 ≤ (ks[j]!).1.num ∧ chk (ks[j]!).2 = 0) := fun j hj => by
            rcases Nat.lt_or_ge j i with h | h
            · exact unhide HALL j h
            · obtain rfl : j = i := by omega
              exact ⟨unhide HNN, hck⟩
          clear hck
          go_wp2_with fail
          refine (unhide HMO).mono ?_
          rintro e w4 ⟨v4, rfl, hv4, hb4⟩
          obtain ⟨tm, rfl, rm⟩ := tri_of hv4
          simp only [Tri.val]
          have bA := below_step hb4 (alloc_below w4 (.cells #[.bool tm.s, .slice tm.a1 tm.n1 tm.c1, .slice tm.a2 tm.n2 tm.c2] 42))
          have S5 := (unhide HS4).keep bA
          have X5 := BoxIs.new rm
          have hGg : G < w4.heap.size := Nat.lt_of_lt_of_le (Array.getElem?_eq_some_iff.1 (unhide HS4).row).1 hb4.size
          obtain ⟨W5, hW5⟩ : ∃ W, w4.alloc (.cells #[.bool tm.s, .slice tm.a1 tm.n1 tm.c1, .slice tm.a2 tm.n2 tm.c2] 42) = W := ⟨_, rfl⟩
          obtain ⟨bm, hbm⟩ : ∃ g, w4.heap.size = g := ⟨_, rfl⟩
          rw [hW5] at S5 X5
          rw [hbm] at X5 hGg
          have ⟨⟨y0, y1, y2⟩, l0, l1, l2⟩ := S5.cells i (by omega)
          have ⟨m0, m1, m2⟩ := X5.cells _ (Below.refl _ _)
          have FZ := S5.set i (by omega) tm _ X5.2
          rw [show wsum (ks[i]!).2 (fun j => ((j ^ 1 : Nat) : Int)) (ks[i]!).2.length = mo 1 ks i from rfl, fill_set (mo 1 ks)] at FZ
          obtain ⟨W7, hW7⟩ : ∃ W, ((W5.setCell ⟨G, i * 3, none⟩ (.bool tm.s)).setCell ⟨G, i * 3 + 1, none⟩ (.slice tm.a1 tm.n1 tm.c1)).setCell ⟨G, i * 3 + 2, none⟩ (.slice tm.a2 tm.n2 tm.c2) = W := ⟨_, rfl⟩
          rw [hW7] at FZ
          have HFS := hide FZ
          clear FZ S5 X5 bA rm hv4 hb4 HMO HS4 HY3 c0 c1 c2 c3
          go_wp2_with fail
          exact ⟨⟨i + 1, _, by go_num, hlt, unhide HFS, unhide HN⟩, by simp [intOf]; omega⟩
        · have HNG : Hid (¬ GoodC ks) := fun g => hck (g.2 i hlt).2
          have HME := hide (moment_err lk.val (ks[i]!).2 1 1 w3 (unhide HY3).2.2 (unhide HS3) (by have := unhide HS2; rw [KKe]; omega) hck)
          simp only [Sl.val] at HME
          rw [errV_not hck] at HME
          generalize chk (ks[i]!).2 = kz at HME
          clear hck
          go_wp2_with fail
          refine (unhide HME).mono ?_
          rintro e w4 ⟨rfl, hb4⟩
          simp only [zAgg]
          have bA := below_step hb4 (alloc_below w4 (.cells #[.bool false, .slice none 0 0, .slice none 0 0] 42))
          have HB5 := hide (((unhide HS4).keep bA).bl)
          clear bA hb4 HME HS4 HY3 c0 c1 c2 c3
          go_wp2
          exact bodyPost_ret (v := .tuple #[.slice none 0 0, .iface 56 (.int .i64 kz)]) (by simp [results, Tryz.results17, go_sem]) rfl (Or.inr ⟨unhide HNG, kz, rfl, unhide HB5⟩)
    · obtain rfl : i = ks.length := by omega
      have e1 : ¬ (ks.length : Int) < (ks.length : Int) := by omega
      have LW := S.law (by omega)
      rw [hul] at LW
      have HLW : Hid (LawIs wr (.slice (some ⟨G, 0, none⟩) ks.length ks.length) (row (mo 1 ks) ks.length)) := LW
      have HBB := hide S.bl
      have HG : Hid (GoodC ks) := ⟨by have := unhide HN0; omega, unhide HALL⟩
      clear S LW HALL
      go_wp2
      exact bodyPost_ret (v := .tuple #[.slice (some ⟨G, 0, none⟩) ks.length ks.length, .nilIface]) (by simp [results, Tryz.results17, go_sem]) rfl (Or.inl ⟨unhide HG, _, rfl, unhide HLW, unhide HBB⟩)
end Go.Proofs.YtbboacmjbffmhaaGreatDoor
