/- RenewWaits: the walk. -/
import Derived.Test.YtpopcfclpemlaaaDoorRN6
namespace Go.Proofs.YtpopcfclpemlaaaDoor
open Go.RowKit Go.Sort Go.Shelf

/-- What is left, as a law. -/
def lfq (qs : List Rat) : List Rat := row (fun n => Rnw.sv (xq qs) n / Bth.ps (Rnw.sv (xq qs)) (gst qs)) (gst qs)
theorem lfq_len (qs : List Rat) : (lfq qs).length = gst qs := row_length _ _
theorem lfq_get {qs : List Rat} {j : Nat} (h : j < gst qs) : (lfq qs)[j]! = Rnw.sv (xq qs) j / Bth.ps (Rnw.sv (xq qs)) (gst qs) := row_get h
theorem lfq_chk {qs : List Rat} (hk : rnc qs = 0) : chk (lfq qs) = 0 := by
  obtain ⟨hA, ht, hl1, hl2⟩ := rnc_age hk
  have hg := hA.g1
  unfold chk
  rw [lfq_len, if_neg (by omega), if_neg (fun ⟨j, hj, hn⟩ => by
    rw [lfq_get hj] at hn
    have := Rat.num_nonneg.2 (hA.share_nn j)
    omega), if_pos]
  have := qsum_rowN (fun n => Rnw.sv (xq qs) n / Bth.ps (Rnw.sv (xq qs)) (gst qs)) (gst qs)
  rw [row_length] at this
  show qsum (row _ _) _ = 1
  rw [this, hA.share]
theorem lfq_RS {qs : List Rat} {J JJ : Nat} (hk : rnc qs = 0) (hq : ∀ j, j < qs.length → RS qs[j]! J) (hJJ : 102 * (101 * (J + 1) + 5) + J ≤ JJ) : ∀ j, j < (lfq qs).length → RS (lfq qs)[j]! (JJ + JJ) := fun j hj => by
  obtain ⟨hA, ht, hl1, hl2⟩ := rnc_age hk
  rw [lfq_len] at hj
  rw [lfq_get hj]
  have m1 := Nat.mul_le_mul_right (J + 1) hl2
  have s1 := fun i => (sv_RS hq rfl i).mono (show qs.length * (J + 1) + 3 ≤ 101 * (J + 1) + 3 by omega)
  have m2 := Nat.mul_le_mul_right (101 * (J + 1) + 3 + 1) (show gst qs ≤ 101 by omega)
  have hz : (Bth.ps (Rnw.sv (xq qs)) (gst qs)).num ≠ 0 := fun e => hA.ne hA.g1 (Rat.num_eq_zero.1 e)
  exact (RS.div' ((s1 j).mono (show _ ≤ JJ by omega)) ((psf_RS s1 (gst qs)).mono (show _ ≤ JJ by omega)) hz)
theorem wsum_end {qs : List Rat} {g : Nat} (F : Nat → Int) (h : Rnw.Age (xq qs) g) (hl : g + 1 ≤ qs.length) : wsum qs F qs.length = Bth.ps (fun j => xq qs j * ((F j : Int) : Rat)) (g + 1) := by
  rw [wsum_ps]
  exact Rnw.ps_cut _ (g + 1) _ hl (fun j a _ => by rw [h.out j (by omega)]; grind)
theorem wsum_one (qs : List Rat) (k : Nat) : wsum qs (fun j => ((j ^ 1 : Nat) : Int)) k = Bth.ps (fun j => xq qs j * ((j : Nat) : Int)) k := by
  rw [wsum_ps]
  exact Bth.ps_congr _ (fun j _ => by rw [Nat.pow_one])
theorem waits_eq {qs : List Rat} (hk : rnc qs = 0) : wsum (lfq qs) (fun j => ((j ^ 1 : Nat) : Int)) (lfq qs).length + wsum (lfq qs) (fun j => ((j ^ 1 : Nat) : Int)) (lfq qs).length = wsum qs (fun j => ((j ^ 2 : Nat) : Int)) qs.length / wsum qs (fun j => ((j ^ 1 : Nat) : Int)) qs.length - ((1 : Int) : Rat) := by
  obtain ⟨hA, ht, hl1, hl2⟩ := rnc_age hk
  have h := hA.waits
  have e1 : wsum (lfq qs) (fun j => ((j ^ 1 : Nat) : Int)) (lfq qs).length = Bth.ps (fun n => Rnw.sv (xq qs) n / Bth.ps (Rnw.sv (xq qs)) (gst qs) * ((n : Nat) : Int)) (gst qs) := by
    rw [wsum_one, lfq_len]
    exact Bth.ps_congr _ (fun j hj => by
      show (lfq qs)[j]! * _ = _
      rw [lfq_get hj])
  have e2 : wsum qs (fun j => ((j ^ 1 : Nat) : Int)) qs.length = Bth.ps (fun j => xq qs j * ((j : Nat) : Int)) (gst qs + 1) := by
    rw [wsum_end _ hA hl1]
    exact Bth.ps_congr _ (fun j _ => by rw [Nat.pow_one])
  have e3 : wsum qs (fun j => ((j ^ 2 : Nat) : Int)) qs.length = Bth.ps (fun j => xq qs j * ((j ^ 2 : Nat) : Int)) (gst qs + 1) := by
    rw [wsum_end _ hA hl1]
  rw [e1, e2, e3, show ((1 : Int) : Rat) = 1 by simp]
  exact h
theorem mean_ne {qs : List Rat} (hk : rnc qs = 0) : (wsum qs (fun j => ((j ^ 1 : Nat) : Int)) qs.length).num ≠ 0 := fun e => by
  obtain ⟨hA, ht, hl1, hl2⟩ := rnc_age hk
  have e2 : wsum qs (fun j => ((j ^ 1 : Nat) : Int)) qs.length = Bth.ps (Rnw.sv (xq qs)) (gst qs) := by
    rw [wsum_end _ hA hl1, hA.mean]
    exact Bth.ps_congr _ (fun j _ => by rw [Nat.pow_one])
  rw [e2] at e
  exact hA.ne hA.g1 (Rat.num_eq_zero.1 e)

set_option maxHeartbeats 16000000 in
set_option maxRecDepth 100000 in
set_option linter.unusedSimpArgs false in
theorem renewWaits_any (v : Value) (ps : List (Int × Int)) (w : World) (h : PairsAre w v ps) (htab : Tab w) :
    Calls Tryd.prog 7 #[v] w fun e w' => e = .returned (.bool true) ∧ Below w.heap.size w w' := by
  have KKe : KK = 1099511627776 := rfl
  have HTB := hide htab
  have HRS : Hid (∀ t, t < (pqs ps).length → RS (pqs ps)[t]! 1) := fun t ht => pqs_RS h t ht
  have hpl := pqs_length ps
  have HLW : Hid (ps.length ≤ 20 → Calls Tryd.prog 27 #[v] w fun e w' => ∃ v, e = .returned v ∧ LawIs w' v (pqs ps) ∧ Below w.heap.size w w') := fun hl => law_any v ps w h (by omega)
  obtain ⟨qs, hqs⟩ : ∃ qs, pqs ps = qs := ⟨_, rfl⟩
  rw [hqs] at HRS HLW hpl
  obtain ⟨a, c, rfl, h1, h2, -⟩ := h
  obtain ⟨n, hn⟩ : ∃ n, ps.length = n := ⟨_, rfl⟩
  rw [hn] at HLW hpl h1 ⊢
  have HPL := hide hpl
  clear htab hqs hpl hn
  by_cases hlen : 20 < n
  · have hd : decide ((20 : Int) < (n : Int)) = true := decide_eq_true (by omega)
    go_enter Tryd.func7, Tryd.ntmps7
    go_wp2
    go_ret
    exact ⟨rfl, Below.refl _ _⟩
  have hd : decide ((20 : Int) < (n : Int)) = false := decide_eq_false (by omega)
  have HLW2 := hide (unhide HLW (by omega))
  clear HLW
  have HN20 : Hid (n ≤ 20) := show _ ≤ _ by omega
  clear hlen
  by_cases hk : rnc qs = 0
  · have HK := hide hk
    obtain ⟨hA, ht, hl1, hl2⟩ := rnc_age hk
    have hc0 := (rnc_zero hk).1
    have HLE : Hid (∀ W v, LawIs W v qs → Calls Tryd.prog 30 #[v] W (RowNil W (lfq qs) (gst qs))) := fun W v hv => left_ok v qs 1 30000 W hv (unhide HRS) hk (by omega) (by rw [KKe]; omega)
    have HM1_ : Hid (∀ W v, LawIs W v qs → Calls Tryd.prog 31 #[v, .int .i64 1] W fun e w' => ∃ v, e = .returned (.tuple #[v, .nilIface]) ∧ RatIs w' v (wsum qs (fun j => ((j ^ 1 : Nat) : Int)) qs.length) ∧ Below W.heap.size W w') := fun W v hv => moment_any v qs 1 1 W hv (unhide HRS) (by rw [KKe]; omega) hc0 (by decide)
    have HM2_ : Hid (∀ W v, LawIs W v qs → Calls Tryd.prog 31 #[v, .int .i64 2] W fun e w' => ∃ v, e = .returned (.tuple #[v, .nilIface]) ∧ RatIs w' v (wsum qs (fun j => ((j ^ 2 : Nat) : Int)) qs.length) ∧ Below W.heap.size W w') := fun W v hv => moment_any v qs 1 2 W hv (unhide HRS) (by rw [KKe]; omega) hc0 (by decide)
    have hlr : ∀ j, j < (lfq qs).length → RS (lfq qs)[j]! (30000 + 30000) := lfq_RS hk (unhide HRS) (by omega)
    have HM3_ : Hid (∀ W v, LawIs W v (lfq qs) → Calls Tryd.prog 31 #[v, .int .i64 1] W fun e w' => ∃ v, e = .returned (.tuple #[v, .nilIface]) ∧ RatIs w' v (wsum (lfq qs) (fun j => ((j ^ 1 : Nat) : Int)) (lfq qs).length) ∧ Below W.heap.size W w') := fun W v hv => moment_any v (lfq qs) 60000 1 W hv hlr (by rw [KKe, lfq_len]; omega) (lfq_chk hk) (by decide)
    have HEQ_ := hide (waits_eq hk)
    have HNZ_ := hide (mean_ne hk)
    have hr1 : RS (wsum qs (fun j => ((j ^ 1 : Nat) : Int)) qs.length) 400 := (wsum_RS (F := fun j => ((j ^ 1 : Nat) : Int)) (unhide HRS) (fun j hj => pow_I64 (by omega) (by decide)) _ (Nat.le_refl _)).mono (by omega)
    have hr2 : RS (wsum qs (fun j => ((j ^ 2 : Nat) : Int)) qs.length) 400 := (wsum_RS (F := fun j => ((j ^ 2 : Nat) : Int)) (unhide HRS) (fun j hj => pow_I64 (by omega) (by decide)) _ (Nat.le_refl _)).mono (by omega)
    have hr3 : RS (wsum (lfq qs) (fun j => ((j ^ 1 : Nat) : Int)) (lfq qs).length) 6100000 := (wsum_RS (F := fun j => ((j ^ 1 : Nat) : Int)) hlr (fun j hj => pow_I64 (by rw [lfq_len] at hj; omega) (by decide)) _ (Nat.le_refl _)).mono (by rw [lfq_len]; omega)
    have HLL : Hid (∀ (W : World) (G : Nat) (us : List Tri), us.length = gst qs → SumsAt w W G us (lfq qs) → LawIs W (.slice (some ⟨G, 0, none⟩) (gst qs) (gst qs)) (lfq qs)) := fun W G us hu hS => by
      have := hS.law (by omega)
      rw [hu] at this
      exact this
    obtain ⟨g, hg⟩ : ∃ g, gst qs = g := ⟨_, rfl⟩
    have hg1 := hA.g1
    rw [hg] at HLE HLL hg1 hl1
    obtain ⟨lq, hlq⟩ : ∃ l, lfq qs = l := ⟨_, rfl⟩
    rw [hlq] at HLE HM3_ HEQ_ hr3 HLL
    obtain ⟨q1, hq1⟩ : ∃ q, wsum qs (fun j => ((j ^ 1 : Nat) : Int)) qs.length = q := ⟨_, rfl⟩
    obtain ⟨q2, hq2⟩ : ∃ q, wsum qs (fun j => ((j ^ 2 : Nat) : Int)) qs.length = q := ⟨_, rfl⟩
    obtain ⟨q3, hq3⟩ : ∃ q, wsum lq (fun j => ((j ^ 1 : Nat) : Int)) lq.length = q := ⟨_, rfl⟩
    rw [hq1] at HM1_ HEQ_ HNZ_ hr1
    rw [hq2] at HM2_ HEQ_ hr2
    rw [hq3] at HM3_ HEQ_ hr3
    have HEQ : Hid (q3 + q3 = q2 / q1 - ((1 : Int) : Rat)) := unhide HEQ_
    have HNZ : Hid (q1.num ≠ 0) := unhide HNZ_
    obtain ⟨JB, hJB⟩ : ∃ J : Nat, J = 7000000 := ⟨_, rfl⟩
    have HJB : Hid (JB + JB + 1 ≤ KK) := show _ ≤ _ by rw [KKe]; omega
    have HR1 : Hid (RS q1 JB) := hr1.mono (by omega)
    have HR2 : Hid (RS q2 JB) := hr2.mono (by omega)
    have HR3 : Hid (RS q3 JB) := hr3.mono (by omega)
    have HR4 : Hid (RS (q2 / q1) JB) := (hr2.div' hr1 (unhide HNZ)).mono (by omega)
    have HR5 : Hid (RS ((1 : Int) : Rat) JB) := one_RSi.mono (by omega)
    obtain ⟨JB2, hJB2⟩ : ∃ J : Nat, J = 14000001 := ⟨_, rfl⟩
    have HR6 : Hid (RS (q3 + q3) JB2) := (hr3.add hr3).mono (by omega)
    have HJB2 : Hid (JB2 ≤ KK) := show _ ≤ _ by rw [KKe]; omega
    have hgc : g ≤ 100 := by omega
    clear hk hA ht hl1 hl2 hc0 hlr HEQ_ HNZ_ hr1 hr2 hr3 hg hlq hq1 hq2 hq3 hJB hJB2
    go_enter Tryd.func7, Tryd.ntmps7
    go_wp2_with fail
    refine (unhide HLW2).mono ?_
    rintro e w1 ⟨v1, rfl, hl1, hb1⟩
    have HLE1 := hide (unhide HLE w1 v1 hl1)
    have HM1 : Hid (∀ W, LawIs W v1 qs → _) := fun W hv => unhide HM1_ W v1 hv
    have HM2 : Hid (∀ W, LawIs W v1 qs → _) := fun W hv => unhide HM2_ W v1 hv
    have HL1 := hide hl1
    have HB1 := hide hb1
    clear hb1 hl1 HLE HM1_ HM2_ HLW2
    obtain ⟨a1, c1, rfl, m1, m2, -⟩ := unhide HL1
    go_wp2_with fail
    refine (unhide HLE1).mono ?_
    rintro e w2 ⟨G, us, rfl, hul, hgl, S⟩
    have HB_0 := hide (below_step (unhide HB1) S.bl)
    have HLl := hide (unhide HLL w2 G us hul (S.rebase (unhide HB1)))
    have HLx := hide ((unhide HL1).below S.bl)
    have HM3 : Hid (∀ W, LawIs W (.slice (some ⟨G, 0, none⟩) g g) lq → _) := fun W hv => unhide HM3_ W _ hv
    clear S hul hgl HLE1 HLL HL1 HB1 HM3_
    go_wp2_with fail
    refine (lasting_any _ (tab_below (unhide HTB) (unhide HB_0))).mono ?_
    rintro e w_1 ⟨rfl, hbx⟩
    have HB_2 := hide (below_step (unhide HB_0) hbx)
    have HLx_2 := hide ((unhide HLx).below hbx)
    have HLl_2 := hide ((unhide HLl).below hbx)
    clear HB_0 HLx HLl
    clear hbx
    go_wp2_with fail
    refine (unhide HM1 _ (unhide HLx_2)).mono ?_
    rintro e w_3 ⟨v1, rfl, hv1, hbx⟩
    obtain ⟨t6, rfl, hr_3⟩ := tri_of hv1
    simp only [Tri.val]
    have HG_b6 := hide (below_step (unhide HB_2) hbx).size
    have hb_3 := below_step hbx (alloc_below w_3 (.cells #[.bool t6.s, .slice t6.a1 t6.n1 t6.c1, .slice t6.a2 t6.n2 t6.c2] 31))
    have HB_4 := hide (below_step (unhide HB_2) hb_3)
    have HLx_4 := hide ((unhide HLx_2).below hb_3)
    have HLl_4 := hide ((unhide HLl_2).below hb_3)
    clear HB_2 HLx_2 HLl_2
    have HX_b6_3 := hide (BoxIs.new hr_3)
    obtain ⟨Wb6, hW_3⟩ : ∃ W, w_3.alloc (.cells #[.bool t6.s, .slice t6.a1 t6.n1 t6.c1, .slice t6.a2 t6.n2 t6.c2] 31) = W := ⟨_, rfl⟩
    obtain ⟨b6, hc_3⟩ : ∃ b, w_3.heap.size = b := ⟨_, rfl⟩
    rw [hW_3] at HB_4 HLx_4 HLl_4 HX_b6_3
    rw [hc_3] at HX_b6_3 HG_b6
    clear hv1 hr_3 hbx hb_3
    go_wp2_with fail
    refine (unhide HM2 _ (unhide HLx_4)).mono ?_
    rintro e w_5 ⟨v2, rfl, hv2, hbx⟩
    obtain ⟨t8, rfl, hr_5⟩ := tri_of hv2
    simp only [Tri.val]
    have HL_b6_b8 := hide (Nat.lt_of_lt_of_le (unhide HX_b6_3).lt hbx.size)
    have HG_b8 := hide (below_step (unhide HB_4) hbx).size
    have hb_5 := below_step hbx (alloc_below w_5 (.cells #[.bool t8.s, .slice t8.a1 t8.n1 t8.c1, .slice t8.a2 t8.n2 t8.c2] 31))
    have HB_6 := hide (below_step (unhide HB_4) hb_5)
    have HX_b6_6 := hide ((unhide HX_b6_3).keep hb_5)
    have HLx_6 := hide ((unhide HLx_4).below hb_5)
    have HLl_6 := hide ((unhide HLl_4).below hb_5)
    clear HB_4 HX_b6_3 HLx_4 HLl_4
    have HX_b8_5 := hide (BoxIs.new hr_5)
    obtain ⟨Wb8, hW_5⟩ : ∃ W, w_5.alloc (.cells #[.bool t8.s, .slice t8.a1 t8.n1 t8.c1, .slice t8.a2 t8.n2 t8.c2] 31) = W := ⟨_, rfl⟩
    obtain ⟨b8, hc_5⟩ : ∃ b, w_5.heap.size = b := ⟨_, rfl⟩
    rw [hW_5] at HB_6 HX_b6_6 HLx_6 HLl_6 HX_b8_5
    rw [hc_5] at HX_b8_5 HL_b6_b8 HG_b8
    clear hv2 hr_5 hbx hb_5
    go_wp2_with fail
    refine (unhide HM3 _ (unhide HLl_6)).mono ?_
    rintro e w_7 ⟨v3, rfl, hv3, hbx⟩
    obtain ⟨t10, rfl, hr_7⟩ := tri_of hv3
    simp only [Tri.val]
    have HL_b6_b10 := hide (Nat.lt_of_lt_of_le (unhide HX_b6_6).lt hbx.size)
    have HL_b8_b10 := hide (Nat.lt_of_lt_of_le (unhide HX_b8_5).lt hbx.size)
    have HG_b10 := hide (below_step (unhide HB_6) hbx).size
    have hb_7 := below_step hbx (alloc_below w_7 (.cells #[.bool t10.s, .slice t10.a1 t10.n1 t10.c1, .slice t10.a2 t10.n2 t10.c2] 31))
    have HB_8 := hide (below_step (unhide HB_6) hb_7)
    have HX_b6_8 := hide ((unhide HX_b6_6).keep hb_7)
    have HX_b8_8 := hide ((unhide HX_b8_5).keep hb_7)
    have HLx_8 := hide ((unhide HLx_6).below hb_7)
    have HLl_8 := hide ((unhide HLl_6).below hb_7)
    clear HB_6 HX_b6_6 HX_b8_5 HLx_6 HLl_6
    have HX_b10_7 := hide (BoxIs.new hr_7)
    obtain ⟨Wb10, hW_7⟩ : ∃ W, w_7.alloc (.cells #[.bool t10.s, .slice t10.a1 t10.n1 t10.c1, .slice t10.a2 t10.n2 t10.c2] 31) = W := ⟨_, rfl⟩
    obtain ⟨b10, hc_7⟩ : ∃ b, w_7.heap.size = b := ⟨_, rfl⟩
    rw [hW_7] at HB_8 HX_b6_8 HX_b8_8 HLx_8 HLl_8 HX_b10_7
    rw [hc_7] at HX_b10_7 HL_b6_b10 HL_b8_b10 HG_b10
    clear hv3 hr_7 hbx hb_7
    obtain ⟨cb8_0, cb8_1, cb8_2⟩ := (unhide HX_b8_8).cells _ (Below.refl _ _)
    obtain ⟨cb6_0, cb6_1, cb6_2⟩ := (unhide HX_b6_8).cells _ (Below.refl _ _)
    go_wp2_with fail
    refine (divR_any t8.val t6.val q2 q1 _ (unhide HX_b8_8).2 (unhide HX_b6_8).2 JB (unhide HR2) (unhide HR1) (unhide HJB) (unhide HNZ)).mono ?_
    rintro e w_9 ⟨v4, rfl, hv4, hbx⟩
    obtain ⟨t12, rfl, hr_9⟩ := tri_of hv4
    simp only [Tri.val]
    have HL_b6_b12 := hide (Nat.lt_of_lt_of_le (unhide HX_b6_8).lt hbx.size)
    have HL_b8_b12 := hide (Nat.lt_of_lt_of_le (unhide HX_b8_8).lt hbx.size)
    have HL_b10_b12 := hide (Nat.lt_of_lt_of_le (unhide HX_b10_7).lt hbx.size)
    have HG_b12 := hide (below_step (unhide HB_8) hbx).size
    have hb_9 := below_step hbx (alloc_below w_9 (.cells #[.bool t12.s, .slice t12.a1 t12.n1 t12.c1, .slice t12.a2 t12.n2 t12.c2] 31))
    have HB_10 := hide (below_step (unhide HB_8) hb_9)
    have HX_b6_10 := hide ((unhide HX_b6_8).keep hb_9)
    have HX_b8_10 := hide ((unhide HX_b8_8).keep hb_9)
    have HX_b10_10 := hide ((unhide HX_b10_7).keep hb_9)
    have HLx_10 := hide ((unhide HLx_8).below hb_9)
    have HLl_10 := hide ((unhide HLl_8).below hb_9)
    clear HB_8 HX_b6_8 HX_b8_8 HX_b10_7 HLx_8 HLl_8
    have HX_b12_9 := hide (BoxIs.new hr_9)
    obtain ⟨Wb12, hW_9⟩ : ∃ W, w_9.alloc (.cells #[.bool t12.s, .slice t12.a1 t12.n1 t12.c1, .slice t12.a2 t12.n2 t12.c2] 31) = W := ⟨_, rfl⟩
    obtain ⟨b12, hc_9⟩ : ∃ b, w_9.heap.size = b := ⟨_, rfl⟩
    rw [hW_9] at HB_10 HX_b6_10 HX_b8_10 HX_b10_10 HLx_10 HLl_10 HX_b12_9
    rw [hc_9] at HX_b12_9 HL_b6_b12 HL_b8_b12 HL_b10_b12 HG_b12
    clear hv4 hr_9 hbx hb_9
    clear cb8_0 cb8_1 cb8_2 cb6_0 cb6_1 cb6_2
    have HCC : Hid (∀ W, Below Wb12.heap.size Wb12 W → (fun w' : World => (w'.cell? ⟨b10, 0, none⟩ = some (.bool t10.s) ∧ w'.cell? ⟨b10, 1, none⟩ = some (.slice t10.a1 t10.n1 t10.c1) ∧ w'.cell? ⟨b10, 2, none⟩ = some (.slice t10.a2 t10.n2 t10.c2)) ∧ (w'.cell? ⟨b12, 0, none⟩ = some (.bool t12.s) ∧ w'.cell? ⟨b12, 1, none⟩ = some (.slice t12.a1 t12.n1 t12.c1) ∧ w'.cell? ⟨b12, 2, none⟩ = some (.slice t12.a2 t12.n2 t12.c2))) W) := fun W hW => ⟨(unhide HX_b10_10).cells W hW, (unhide HX_b12_9).cells W hW⟩
    go_wp2_with fail
    refine wp_region_hold (fun w' : World => (w'.cell? ⟨b10, 0, none⟩ = some (.bool t10.s) ∧ w'.cell? ⟨b10, 1, none⟩ = some (.slice t10.a1 t10.n1 t10.c1) ∧ w'.cell? ⟨b10, 2, none⟩ = some (.slice t10.a2 t10.n2 t10.c2)) ∧ (w'.cell? ⟨b12, 0, none⟩ = some (.bool t12.s) ∧ w'.cell? ⟨b12, 1, none⟩ = some (.slice t12.a1 t12.n1 t12.c1) ∧ w'.cell? ⟨b12, 2, none⟩ = some (.slice t12.a2 t12.n2 t12.c2))) (by kernel_rfl) ?_
    have bd0 : Below Wb12.heap.size Wb12 Wb12.drew := (Below.refl _ _).drew
    have hC0 : (fun w' : World => (w'.cell? ⟨b10, 0, none⟩ = some (.bool t10.s) ∧ w'.cell? ⟨b10, 1, none⟩ = some (.slice t10.a1 t10.n1 t10.c1) ∧ w'.cell? ⟨b10, 2, none⟩ = some (.slice t10.a2 t10.n2 t10.c2)) ∧ (w'.cell? ⟨b12, 0, none⟩ = some (.bool t12.s) ∧ w'.cell? ⟨b12, 1, none⟩ = some (.slice t12.a1 t12.n1 t12.c1) ∧ w'.cell? ⟨b12, 2, none⟩ = some (.slice t12.a2 t12.n2 t12.c2))) Wb12.drew := unhide HCC _ bd0
    refine wpHold_take (i := 0) (v := ?_) rfl (by kernel_rfl) (by kernel_rfl) (by kernel_rfl) (fun _ _ _ h => h) (Or.inl ⟨by rfl, ?_⟩) hC0 ?_
    rotate_left
    · intro w hSw; clear hSw; go_simp; (try with_reducible rfl)
    (try simp only [List.getElem_toArray, List.getElem_cons_succ, List.getElem_cons_zero])
    (try simp only [Act.put, List.setIfInBounds_toArray, List.set_cons_zero, List.set_cons_succ])
    refine wpHold_take (i := 1) (v := ?_) rfl (by kernel_rfl) (by kernel_rfl) (by kernel_rfl) (fun _ _ _ h => h) (Or.inl ⟨by rfl, ?_⟩) hC0 ?_
    rotate_left
    · intro w hSw; clear hSw; go_simp; (try with_reducible rfl)
    (try simp only [List.getElem_toArray, List.getElem_cons_succ, List.getElem_cons_zero])
    (try simp only [Act.put, List.setIfInBounds_toArray, List.set_cons_zero, List.set_cons_succ])
    refine wpHold_take (i := 2) (v := ?_) rfl (by kernel_rfl) (by kernel_rfl) (by kernel_rfl) (fun _ _ _ h => h) (Or.inl ⟨by rfl, ?_⟩) hC0 ?_
    rotate_left
    · intro w hSw; clear hSw; go_simp; (try with_reducible rfl)
    (try simp only [List.getElem_toArray, List.getElem_cons_succ, List.getElem_cons_zero])
    (try simp only [Act.put, List.setIfInBounds_toArray, List.set_cons_zero, List.set_cons_succ])
    refine wpHold_take (i := 3) (v := ?_) rfl (by kernel_rfl) (by kernel_rfl) (by kernel_rfl) (fun _ _ _ h => h) (Or.inl ⟨by rfl, ?_⟩) hC0 ?_
    rotate_left
    · intro w hSw; clear hSw; go_simp; (try with_reducible rfl)
    (try simp only [List.getElem_toArray, List.getElem_cons_succ, List.getElem_cons_zero])
    (try simp only [Act.put, List.setIfInBounds_toArray, List.set_cons_zero, List.set_cons_succ])
    refine wpHold_take (i := 4) (v := ?_) rfl (by kernel_rfl) (by kernel_rfl) (by kernel_rfl) (fun _ _ _ h => h) (Or.inl ⟨by rfl, ?_⟩) hC0 ?_
    rotate_left
    · intro w hSw; clear hSw; go_simp; (try with_reducible rfl)
    (try simp only [List.getElem_toArray, List.getElem_cons_succ, List.getElem_cons_zero])
    (try simp only [Act.put, List.setIfInBounds_toArray, List.set_cons_zero, List.set_cons_succ])
    refine wpHold_take (i := 5) (v := ?_) rfl (by kernel_rfl) (by kernel_rfl) (by kernel_rfl) (fun _ _ _ h => h) (Or.inl ⟨by rfl, ?_⟩) hC0 ?_
    rotate_left
    · intro w hSw; clear hSw; go_simp; (try with_reducible rfl)
    (try simp only [List.getElem_toArray, List.getElem_cons_succ, List.getElem_cons_zero])
    (try simp only [Act.put, List.setIfInBounds_toArray, List.set_cons_zero, List.set_cons_succ])
    refine wpHold_take (i := 6) (v := ?_) rfl (by kernel_rfl) (by kernel_rfl) (by kernel_rfl) (fun _ _ _ h => h) (Or.inl ⟨by rfl, ?_⟩) hC0 ?_
    rotate_left
    · intro w hSw; clear hSw; go_simp; (try with_reducible rfl)
    (try simp only [List.getElem_toArray, List.getElem_cons_succ, List.getElem_cons_zero])
    (try simp only [Act.put, List.setIfInBounds_toArray, List.set_cons_zero, List.set_cons_succ])
    refine wpHold_take (i := 7) (v := ?_) rfl (by kernel_rfl) (by kernel_rfl) (by kernel_rfl) (fun _ _ _ h => h) (Or.inl ⟨by rfl, ?_⟩) hC0 ?_
    rotate_left
    · intro w hSw; clear hSw; go_simp; (try with_reducible rfl)
    (try simp only [List.getElem_toArray, List.getElem_cons_succ, List.getElem_cons_zero])
    (try simp only [Act.put, List.setIfInBounds_toArray, List.set_cons_zero, List.set_cons_succ])
    refine wpHold_take (i := 8) (v := ?_) rfl (by kernel_rfl) (by kernel_rfl) (by kernel_rfl) (fun _ _ _ h => h) (Or.inl ⟨by rfl, ?_⟩) hC0 ?_
    rotate_left
    · intro w hSw; clear hSw; go_simp; (try with_reducible rfl)
    (try simp only [List.getElem_toArray, List.getElem_cons_succ, List.getElem_cons_zero])
    (try simp only [Act.put, List.setIfInBounds_toArray, List.set_cons_zero, List.set_cons_succ])
    refine wpHold_take (i := 9) (v := ?_) rfl (by kernel_rfl) (by kernel_rfl) (by kernel_rfl) (fun _ _ _ h => h) (Or.inl ⟨by rfl, ?_⟩) hC0 ?_
    rotate_left
    · intro w hSw; clear hSw; go_simp; (try with_reducible rfl)
    (try simp only [List.getElem_toArray, List.getElem_cons_succ, List.getElem_cons_zero])
    (try simp only [Act.put, List.setIfInBounds_toArray, List.set_cons_zero, List.set_cons_succ])
    refine wpHold_take (i := 10) (v := ?_) rfl (by kernel_rfl) (by kernel_rfl) (by kernel_rfl) (fun _ _ _ h => h) (Or.inl ⟨by rfl, ?_⟩) hC0 ?_
    rotate_left
    · intro w hSw; clear hSw; go_simp; (try with_reducible rfl)
    (try simp only [List.getElem_toArray, List.getElem_cons_succ, List.getElem_cons_zero])
    (try simp only [Act.put, List.setIfInBounds_toArray, List.set_cons_zero, List.set_cons_succ])
    refine wpHold_take (i := 11) (v := ?_) rfl (by kernel_rfl) (by kernel_rfl) (by kernel_rfl) (fun _ _ _ h => h) (Or.inl ⟨by rfl, ?_⟩) hC0 ?_
    rotate_left
    · intro w hSw; clear hSw; go_simp; (try with_reducible rfl)
    (try simp only [List.getElem_toArray, List.getElem_cons_succ, List.getElem_cons_zero])
    (try simp only [Act.put, List.setIfInBounds_toArray, List.set_cons_zero, List.set_cons_succ])
    refine wpHold_take (i := 12) (v := ?_) rfl (by kernel_rfl) (by kernel_rfl) (by kernel_rfl) (fun _ _ _ h => h) (Or.inl ⟨by rfl, ?_⟩) hC0 ?_
    rotate_left
    · intro w hSw; clear hSw; go_simp; (try with_reducible rfl)
    (try simp only [List.getElem_toArray, List.getElem_cons_succ, List.getElem_cons_zero])
    (try simp only [Act.put, List.setIfInBounds_toArray, List.set_cons_zero, List.set_cons_succ])
    refine wpHold_take (i := 13) (v := ?_) rfl (by kernel_rfl) (by kernel_rfl) (by kernel_rfl) (fun _ _ _ h => h) (Or.inl ⟨by rfl, ?_⟩) hC0 ?_
    rotate_left
    · intro w hSw; clear hSw; go_simp; (try with_reducible rfl)
    (try simp only [List.getElem_toArray, List.getElem_cons_succ, List.getElem_cons_zero])
    (try simp only [Act.put, List.setIfInBounds_toArray, List.set_cons_zero, List.set_cons_succ])
    refine wpHold_take (i := 14) (v := ?_) rfl (by kernel_rfl) (by kernel_rfl) (by kernel_rfl) (fun _ _ _ h => h) (Or.inl ⟨by rfl, ?_⟩) hC0 ?_
    rotate_left
    · intro w hSw; clear hSw; go_simp; (try with_reducible rfl)
    (try simp only [List.getElem_toArray, List.getElem_cons_succ, List.getElem_cons_zero])
    (try simp only [Act.put, List.setIfInBounds_toArray, List.set_cons_zero, List.set_cons_succ])
    refine wpHold_take (i := 15) (v := ?_) rfl (by kernel_rfl) (by kernel_rfl) (by kernel_rfl) (fun _ _ _ h => h) (Or.inl ⟨by rfl, ?_⟩) hC0 ?_
    rotate_left
    · intro w hSw; (try dsimp only at hSw); obtain ⟨⟨u0, u1, u2⟩, u3, u4, u5⟩ := hSw; go_simp; (try with_reducible rfl)
    (try simp only [List.getElem_toArray, List.getElem_cons_succ, List.getElem_cons_zero])
    (try simp only [Act.put, List.setIfInBounds_toArray, List.set_cons_zero, List.set_cons_succ])
    refine wpHold_take (i := 16) (v := ?_) rfl (by kernel_rfl) (by kernel_rfl) (by kernel_rfl) (fun _ _ _ h => h) (Or.inl ⟨by rfl, ?_⟩) hC0 ?_
    rotate_left
    · intro w hSw; (try dsimp only at hSw); obtain ⟨⟨u0, u1, u2⟩, u3, u4, u5⟩ := hSw; go_simp; (try with_reducible rfl)
    (try simp only [List.getElem_toArray, List.getElem_cons_succ, List.getElem_cons_zero])
    (try simp only [Act.put, List.setIfInBounds_toArray, List.set_cons_zero, List.set_cons_succ])
    refine wpHold_take (i := 18) (v := ?_) rfl (by kernel_rfl) (by kernel_rfl) (by kernel_rfl) (fun _ _ _ h => h) (Or.inl ⟨by rfl, ?_⟩) hC0 ?_
    rotate_left
    · intro w hSw; (try dsimp only at hSw); obtain ⟨⟨u0, u1, u2⟩, u3, u4, u5⟩ := hSw; go_simp; (try with_reducible rfl)
    (try simp only [List.getElem_toArray, List.getElem_cons_succ, List.getElem_cons_zero])
    (try simp only [Act.put, List.setIfInBounds_toArray, List.set_cons_zero, List.set_cons_succ])
    refine wpHold_one (k := 17) (by kernel_rfl) rfl (fun K hK => ?_)
    (try simp only [List.getElem_toArray, List.getElem_cons_succ, List.getElem_cons_zero])
    go_simp
    refine (addR_any t10.val t10.val q3 q3 _ (((unhide HX_b10_10).2).below bd0) (((unhide HX_b10_10).2).below bd0) JB (unhide HR3) (unhide HR3) (unhide HJB)).mono ?_
    rintro e xw_1 ⟨xv_1, rfl, hv_1, hb_1⟩
    have cc_1 := below_step bd0 hb_1
    have hC_1 : (fun w' : World => (w'.cell? ⟨b10, 0, none⟩ = some (.bool t10.s) ∧ w'.cell? ⟨b10, 1, none⟩ = some (.slice t10.a1 t10.n1 t10.c1) ∧ w'.cell? ⟨b10, 2, none⟩ = some (.slice t10.a2 t10.n2 t10.c2)) ∧ (w'.cell? ⟨b12, 0, none⟩ = some (.bool t12.s) ∧ w'.cell? ⟨b12, 1, none⟩ = some (.slice t12.a1 t12.n1 t12.c1) ∧ w'.cell? ⟨b12, 2, none⟩ = some (.slice t12.a2 t12.n2 t12.c2))) xw_1 := unhide HCC _ cc_1
    refine hK.out _ _ hC_1 ?_
    clear hK K
    (try simp only [Act.put, List.setIfInBounds_toArray, List.set_cons_zero, List.set_cons_succ])
    refine wpHold_one (k := 19) (by kernel_rfl) rfl (fun K hK => ?_)
    (try simp only [List.getElem_toArray, List.getElem_cons_succ, List.getElem_cons_zero])
    go_simp
    refine (whole_any 1 (by decide) (by decide) _).mono ?_
    rintro e xw_2 ⟨xv_2, rfl, hv_2, hb_2⟩
    have cc_2 := below_step cc_1 hb_2
    have hC_2 : (fun w' : World => (w'.cell? ⟨b10, 0, none⟩ = some (.bool t10.s) ∧ w'.cell? ⟨b10, 1, none⟩ = some (.slice t10.a1 t10.n1 t10.c1) ∧ w'.cell? ⟨b10, 2, none⟩ = some (.slice t10.a2 t10.n2 t10.c2)) ∧ (w'.cell? ⟨b12, 0, none⟩ = some (.bool t12.s) ∧ w'.cell? ⟨b12, 1, none⟩ = some (.slice t12.a1 t12.n1 t12.c1) ∧ w'.cell? ⟨b12, 2, none⟩ = some (.slice t12.a2 t12.n2 t12.c2))) xw_2 := unhide HCC _ cc_2
    refine hK.out _ _ hC_2 ?_
    clear hK K
    (try simp only [Act.put, List.setIfInBounds_toArray, List.set_cons_zero, List.set_cons_succ])
    refine wpHold_one (k := 20) (by kernel_rfl) rfl (fun K hK => ?_)
    (try simp only [List.getElem_toArray, List.getElem_cons_succ, List.getElem_cons_zero])
    go_simp
    refine (subR_any t12.val _ (q2 / q1) ((1 : Int) : Rat) _ (((unhide HX_b12_9).2).below cc_2) hv_2 JB (unhide HR4) (unhide HR5) (unhide HJB)).mono ?_
    rintro e xw_3 ⟨xv_3, rfl, hv_3, hb_3⟩
    have cc_3 := below_step cc_2 hb_3
    have hC_3 : (fun w' : World => (w'.cell? ⟨b10, 0, none⟩ = some (.bool t10.s) ∧ w'.cell? ⟨b10, 1, none⟩ = some (.slice t10.a1 t10.n1 t10.c1) ∧ w'.cell? ⟨b10, 2, none⟩ = some (.slice t10.a2 t10.n2 t10.c2)) ∧ (w'.cell? ⟨b12, 0, none⟩ = some (.bool t12.s) ∧ w'.cell? ⟨b12, 1, none⟩ = some (.slice t12.a1 t12.n1 t12.c1) ∧ w'.cell? ⟨b12, 2, none⟩ = some (.slice t12.a2 t12.n2 t12.c2))) xw_3 := unhide HCC _ cc_3
    refine hK.out _ _ hC_3 ?_
    clear hK K
    (try simp only [Act.put, List.setIfInBounds_toArray, List.set_cons_zero, List.set_cons_succ])
    refine wpHold_one (k := 21) (by kernel_rfl) rfl (fun K hK => ?_)
    (try simp only [List.getElem_toArray, List.getElem_cons_succ, List.getElem_cons_zero])
    go_simp
    refine (like_any _ _ (q3 + q3) _ ((hv_1.below hb_2).below hb_3) (by rw [unhide HEQ]; exact hv_3) JB2 (unhide HR6) (unhide HJB2) (tab_below (unhide HTB) (below_step (unhide HB_10) cc_3))).mono ?_
    rintro e xw_4 ⟨rfl, hb_4⟩
    have cc_4 := below_step cc_3 hb_4
    have hC_4 : (fun w' : World => (w'.cell? ⟨b10, 0, none⟩ = some (.bool t10.s) ∧ w'.cell? ⟨b10, 1, none⟩ = some (.slice t10.a1 t10.n1 t10.c1) ∧ w'.cell? ⟨b10, 2, none⟩ = some (.slice t10.a2 t10.n2 t10.c2)) ∧ (w'.cell? ⟨b12, 0, none⟩ = some (.bool t12.s) ∧ w'.cell? ⟨b12, 1, none⟩ = some (.slice t12.a1 t12.n1 t12.c1) ∧ w'.cell? ⟨b12, 2, none⟩ = some (.slice t12.a2 t12.n2 t12.c2))) xw_4 := unhide HCC _ cc_4
    refine hK.out _ _ hC_4 ?_
    clear hK K
    (try simp only [Act.put, List.setIfInBounds_toArray, List.set_cons_zero, List.set_cons_succ])
    refine wpHold_take (i := 22) (v := ?_) rfl (by kernel_rfl) (by kernel_rfl) (by kernel_rfl) (fun _ _ _ h => h) (Or.inl ⟨by rfl, ?_⟩) hC_4 ?_
    rotate_left
    · intro w hSw; clear hSw; go_simp; (try with_reducible rfl)
    (try simp only [List.getElem_toArray, List.getElem_cons_succ, List.getElem_cons_zero])
    (try simp only [Act.put, List.setIfInBounds_toArray, List.set_cons_zero, List.set_cons_succ])
    refine wpHold_take (i := 23) (v := ?_) rfl (by kernel_rfl) (by kernel_rfl) (by kernel_rfl) (fun _ _ _ h => h) (Or.inl ⟨by rfl, ?_⟩) hC_4 ?_
    rotate_left
    · intro w hSw; clear hSw; go_simp; (try with_reducible rfl)
    (try simp only [List.getElem_toArray, List.getElem_cons_succ, List.getElem_cons_zero])
    (try simp only [Act.put, List.setIfInBounds_toArray, List.set_cons_zero, List.set_cons_succ])
    refine wpHold_done (by kernel_rfl) ?_ _
    have HFB := hide (below_step (unhide HB_10) cc_4)
    clear HCC
    go_wp2
    go_ret
    exact ⟨rfl, unhide HFB⟩
  · have HLE : Hid (∀ W v, LawIs W v qs → Calls Tryd.prog 30 #[v] W fun e w' => e = .returned (.tuple #[.slice none 0 0, .iface 92 (.int .i64 (rnc qs))]) ∧ Below W.heap.size W w') := fun W v hv => left_err v qs 1 (rnc qs) W hv (unhide HRS) (by rw [KKe]; have := unhide HN20; have := unhide HPL; omega) rfl hk
    obtain ⟨k, hk'⟩ : ∃ k, rnc qs = k := ⟨_, rfl⟩
    rw [hk'] at HLE
    clear hk hk'
    go_enter Tryd.func7, Tryd.ntmps7
    go_wp2_with fail
    refine (unhide HLW2).mono ?_
    rintro e w1 ⟨v1, rfl, hl1, hb1⟩
    have HLE1 := hide (unhide HLE w1 v1 hl1)
    have HL1 := hide hl1
    have HB1 := hide hb1
    clear hb1 hl1 HLE HLW2
    obtain ⟨a1, c1, rfl, m1, m2, -⟩ := unhide HL1
    go_wp2_with fail
    refine (unhide HLE1).mono ?_
    rintro e w2 ⟨rfl, hb2⟩
    have HB2 := hide (below_step (unhide HB1) hb2)
    clear hb2 HLE1 HB1
    go_wp2_with fail
    refine (lasting_any _ (tab_below (unhide HTB) (unhide HB2))).mono ?_
    rintro e w3 ⟨rfl, hb3⟩
    have HB3 := hide (below_step (unhide HB2) hb3)
    clear hb3 HB2
    go_wp2_with fail
    refine (lasting_any _ (tab_below (unhide HTB) (unhide HB3))).mono ?_
    rintro e w4 ⟨rfl, hb4⟩
    have HB4 := hide (below_step (unhide HB3) hb4)
    clear hb4 HB3
    go_wp2
    go_ret
    exact ⟨rfl, unhide HB4⟩

end Go.Proofs.YtpopcfclpemlaaaDoor
