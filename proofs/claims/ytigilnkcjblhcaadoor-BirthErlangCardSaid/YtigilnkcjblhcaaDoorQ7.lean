/- Erlang's C: Wait. -/
import Derived.Test.YtigilnkcjblhcaaDoorQ6
import Derived.Test.YtigilnkcjblhcaaDoorV2
namespace Go.Proofs.YtigilnkcjblhcaaDoor
open Go.RowKit Go.Sort Go.Shelf

/-- Two fractions one behind the other, and a box. -/
structure TwoJ (q1 q2 : Rat) (w0 : World) (c : Nat) (l : Bool) (w : World) (s1 s2 s3 : Value) : Prop where
  bl : Below w0.heap.size w0 w
  r1 : 1 ≤ c → RatIs w s1 q1
  r2 : 2 ≤ c → RatIs w s2 q2
  al : l = true → ∃ b, s3 = .pointer (some ⟨b, 0, none⟩) ∧ BoxIs w b zTri 0 ∧ w0.heap.size ≤ b

/-- A box of a queue. -/
def QB (w : World) (b : Nat) (t1 t2 t3 : Tri) : Prop := w.heap[b]? = some (.cells #[.bool t1.s, .slice t1.a1 t1.n1 t1.c1, .slice t1.a2 t1.n2 t1.c2, .bool t2.s, .slice t2.a1 t2.n1 t2.c1, .slice t2.a2 t2.n2 t2.c2, .bool t3.s, .slice t3.a1 t3.n1 t3.c1, .slice t3.a2 t3.n2 t3.c2] 48)
theorem QB.lt {w : World} {b : Nat} {t1 t2 t3 : Tri} (h : QB w b t1 t2 t3) : b < w.heap.size := (Array.getElem?_eq_some_iff.1 h).1
theorem QB.keep {w w' : World} {b : Nat} {t1 t2 t3 : Tri} (h : QB w b t1 t2 t3) (hb : Below w.heap.size w w') : QB w' b t1 t2 t3 := by
  unfold QB; rw [hb.block _ h.lt]; exact h
theorem QB.zero (w : World) : QB (w.alloc (.cells #[.bool false, .slice none 0 0, .slice none 0 0, .bool false, .slice none 0 0, .slice none 0 0, .bool false, .slice none 0 0, .slice none 0 0] 48)) w.heap.size zTri zTri zTri := heap_alloc_new w _
/-- The world with a queue put into its box. -/
def putQ (w : World) (b : Nat) (u1 u2 u3 : Tri) : World := (((((((((w.setCell ⟨b, 0, none⟩ (.bool u1.s)).setCell ⟨b, 1, none⟩ (.slice u1.a1 u1.n1 u1.c1)).setCell ⟨b, 2, none⟩ (.slice u1.a2 u1.n2 u1.c2)).setCell ⟨b, 3, none⟩ (.bool u2.s)).setCell ⟨b, 4, none⟩ (.slice u2.a1 u2.n1 u2.c1)).setCell ⟨b, 5, none⟩ (.slice u2.a2 u2.n2 u2.c2)).setCell ⟨b, 6, none⟩ (.bool u3.s)).setCell ⟨b, 7, none⟩ (.slice u3.a1 u3.n1 u3.c1)).setCell ⟨b, 8, none⟩ (.slice u3.a2 u3.n2 u3.c2))
theorem noWord9 (t1 t2 t3 : Tri) (T : TypeId) (fr : Nat × Nat) : NoWord (.cells #[.bool t1.s, .slice t1.a1 t1.n1 t1.c1, .slice t1.a2 t1.n2 t1.c2, .bool t2.s, .slice t2.a1 t2.n1 t2.c1, .slice t2.a2 t2.n2 t2.c2, .bool t3.s, .slice t3.a1 t3.n1 t3.c1, .slice t3.a2 t3.n2 t3.c2] T fr) := by
  intro cs T' fr' e j x
  injection e with e
  subst e
  rcases j with _ | _ | _ | _ | _ | _ | _ | _ | _ | j <;> simp
theorem putQ_other (w : World) (b : Nat) (u1 u2 u3 : Tri) {k : Nat} (hk : k ≠ b) : (putQ w b u1 u2 u3).heap[k]? = w.heap[k]? := by
  unfold putQ
  rw [Below.heap_setCell _ _ _ _ hk, Below.heap_setCell _ _ _ _ hk, Below.heap_setCell _ _ _ _ hk, Below.heap_setCell _ _ _ _ hk, Below.heap_setCell _ _ _ _ hk, Below.heap_setCell _ _ _ _ hk, Below.heap_setCell _ _ _ _ hk, Below.heap_setCell _ _ _ _ hk, Below.heap_setCell _ _ _ _ hk]
theorem QB.rat {w : World} {b : Nat} {t1 t2 t3 : Tri} (h : QB w b t1 t2 t3) (u1 u2 u3 : Tri) {v : Value} {q : Rat} (hr : RatIs w v q) : RatIs (putQ w b u1 u2 u3) v q :=
  hr.other h (noWord9 _ _ _ _ _) (by simp [putQ, World.setCell]) (fun k hk => putQ_other w b u1 u2 u3 hk)
theorem QB.set {w : World} {b : Nat} {t1 t2 t3 : Tri} (h : QB w b t1 t2 t3) (u1 u2 u3 : Tri) : QB (putQ w b u1 u2 u3) b u1 u2 u3 := by
  unfold QB at h ⊢
  unfold putQ
  rw [setCell_eq, setCell_eq, setCell_eq, setCell_eq, setCell_eq, setCell_eq, setCell_eq, setCell_eq, setCell_eq]
  simp [mapBlock, Array.getElem?_modify, h, onCells]
theorem QB.bl {w w0 : World} {b : Nat} (u1 u2 u3 : Tri) (hb : Below w0.heap.size w0 w) (hg : w0.heap.size ≤ b) : Below w0.heap.size w0 (putQ w b u1 u2 u3) := by
  unfold putQ
  exact (((((((((hb.setCell hg _).setCell hg _).setCell hg _).setCell hg _).setCell hg _).setCell hg _).setCell hg _).setCell hg _).setCell hg _)
theorem QB.cells {w : World} {b : Nat} {t1 t2 t3 : Tri} (h : QB w b t1 t2 t3) : (w.cell? ⟨b, 0, none⟩ = some (.bool t1.s) ∧ w.cell? ⟨b, 1, none⟩ = some (.slice t1.a1 t1.n1 t1.c1) ∧ w.cell? ⟨b, 2, none⟩ = some (.slice t1.a2 t1.n2 t1.c2)) ∧ (w.cell? ⟨b, 3, none⟩ = some (.bool t2.s) ∧ w.cell? ⟨b, 4, none⟩ = some (.slice t2.a1 t2.n1 t2.c1) ∧ w.cell? ⟨b, 5, none⟩ = some (.slice t2.a2 t2.n2 t2.c2)) ∧ (w.cell? ⟨b, 6, none⟩ = some (.bool t3.s) ∧ w.cell? ⟨b, 7, none⟩ = some (.slice t3.a1 t3.n1 t3.c1) ∧ w.cell? ⟨b, 8, none⟩ = some (.slice t3.a2 t3.n2 t3.c2)) := by
  unfold QB at h
  simp [World.cell?, h]
theorem QB.free {w : World} {b : Nat} {t1 t2 t3 : Tri} (h : QB w b t1 t2 t3) (j : Nat) : w.frozen? ⟨b, j, none⟩ = false := by
  unfold QB at h
  simp [World.frozen?, h]
theorem SumsAt.over {w w1 w' : World} {G : Nat} {us : List Tri} {qs : List Rat} (h : SumsAt w1 w' G us qs) (hb : Below w.heap.size w w1) : SumsAt w w' G us qs :=
  ⟨h.row, h.len, h.rat, below_step hb h.bl, Nat.le_trans hb.size h.gl⟩

/-- The weights, the last one with all who wait. -/
def atl (a : Rat) (c : Nat) : List Rat := (row (Bth.wt a) (c + 1)).set c (Bth.lastw a c)
theorem atl_length (a : Rat) (c : Nat) : (atl a c).length = c + 1 := by unfold atl; rw [List.length_set, row_length]
theorem atl_last (a : Rat) (c : Nat) : (atl a c)[c]! = Bth.lastw a c := by
  unfold atl
  have : c < (row (Bth.wt a) (c + 1)).length := by rw [row_length]; omega
  simp [this]
theorem atl_get {a : Rat} {c j : Nat} (h : j < c) : (atl a c)[j]! = Bth.wt a j := by
  unfold atl
  have e : ((row (Bth.wt a) (c + 1)).set c (Bth.lastw a c))[j]! = (row (Bth.wt a) (c + 1))[j]! := by
    rw [List.getElem!_eq_getElem?_getD, List.getElem!_eq_getElem?_getD, List.getElem?_set_ne (by omega)]
  rw [e, row_get (by omega)]
theorem atl_sum (a : Rat) (c : Nat) : qsum (atl a c) (c + 1) = Bth.ws a c + Bth.lastw a c := by
  have e : ∀ k, k ≤ c → qsum (atl a c) k = Bth.ws a k := by
    intro k
    induction k with
    | zero => intro _; rfl
    | succ k ih => intro hk; show qsum (atl a c) k + (atl a c)[k]! = Bth.ws a k + Bth.wt a k; rw [ih (by omega), atl_get (by omega)]
  show qsum (atl a c) c + (atl a c)[c]! = _
  rw [e c (Nat.le_refl _), atl_last]
theorem spare_RS {a : Rat} {c : Nat} (ha : RS a 1) (hc : RS (((c : Nat) : Int) : Rat) 1) : RS ((((c : Nat) : Int) : Rat) - a) 3 := (RS.sub' hc ha).mono (by omega)
theorem lastw_RS {a : Rat} {c : Nat} (ha : RS a 1) (hr : RS (((c : Nat) : Int) : Rat) 1) (hc : c ≤ 20) (hac : a < (((c : Nat) : Int) : Rat)) : RS (Bth.lastw a c) 60 :=
  (RS.div' (RS.mul (wt_RS ha c (by omega)) hr) (spare_RS ha hr) (pos_num (Bth.spare_pos hac))).mono (by omega)
theorem atl_RS {a : Rat} {c : Nat} (ha : RS a 1) (hr : RS (((c : Nat) : Int) : Rat) 1) (hc : c ≤ 20) (hac : a < (((c : Nat) : Int) : Rat)) : ∀ j, j < (atl a c).length → RS (atl a c)[j]! 60 := fun j hj => by
  rw [atl_length] at hj
  rcases Nat.lt_or_ge j c with h | h
  · rw [atl_get h]; exact (wt_RS ha j (by omega)).mono (by omega)
  · obtain rfl : j = c := by omega
    rw [atl_last]; exact lastw_RS ha hr hc hac

/-- What Wait says. -/
def WaitSays (w : World) (a : Rat) (c : Nat) (e : Ending) (w' : World) : Prop := ∃ t1 t2 t3 : Tri, e = .returned (.tuple #[.agg #[.bool t1.s, .slice t1.a1 t1.n1 t1.c1, .slice t1.a2 t1.n2 t1.c2, .bool t2.s, .slice t2.a1 t2.n1 t2.c1, .slice t2.a2 t2.n2 t2.c2, .bool t3.s, .slice t3.a1 t3.n1 t3.c1, .slice t3.a2 t3.n2 t3.c2], .nilIface]) ∧ RatIs w' t1.val (Bth.ec a c) ∧ RatIs w' t2.val (Bth.ec a c / ((((c : Nat) : Int) : Rat) - a)) ∧ RatIs w' t3.val (Bth.ec a c / ((((c : Nat) : Int) : Rat) - a) * a) ∧ Below w.heap.size w w'

set_option maxHeartbeats 16000000 in
set_option maxRecDepth 100000 in
set_option linter.unusedSimpArgs false in
theorem wait_any (v : Value) (a : Rat) (c : Nat) (w : World) (h : RatIs w v a) (ha : RS a 1) (h0 : 0 ≤ a) (hac : a < (((c : Nat) : Int) : Rat)) (hc : c ≤ 20) :
    Calls Tryd.prog 18 #[v, .int .i64 (c : Int)] w (WaitSays w a c) := by
  obtain ⟨t, rfl, h'⟩ := tri_of h
  have KKe : KK = 1099511627776 := rfl
  have X0 := (BoxIs.new h').keep (alloc_below _ (.cells #[.bool false, .slice none 0 0, .slice none 0 0, .bool false, .slice none 0 0, .slice none 0 0, .bool false, .slice none 0 0, .slice none 0 0] 48))
  have X1 := QB.zero (w.alloc (.cells #[.bool t.s, .slice t.a1 t.n1 t.c1, .slice t.a2 t.n2 t.c2] 34))
  have b0 := below_step (alloc_below w (.cells #[.bool t.s, .slice t.a1 t.n1 t.c1, .slice t.a2 t.n2 t.c2] 34)) (alloc_below _ (.cells #[.bool false, .slice none 0 0, .slice none 0 0, .bool false, .slice none 0 0, .slice none 0 0, .bool false, .slice none 0 0, .slice none 0 0] 48))
  obtain ⟨W0, hW0⟩ : ∃ W, (w.alloc (.cells #[.bool t.s, .slice t.a1 t.n1 t.c1, .slice t.a2 t.n2 t.c2] 34)).alloc (.cells #[.bool false, .slice none 0 0, .slice none 0 0, .bool false, .slice none 0 0, .slice none 0 0, .bool false, .slice none 0 0, .slice none 0 0] 48) = W := ⟨_, rfl⟩
  obtain ⟨bl, hbl⟩ : ∃ b, w.heap.size = b := ⟨_, rfl⟩
  obtain ⟨bq, hbq⟩ : ∃ b, bl + 1 = b := ⟨_, rfl⟩
  have X1' : QB W0 bq zTri zTri zTri := by rw [← hW0, ← hbq, ← hbl]; rw [alloc_size] at X1; exact X1
  rw [hW0] at X0 b0
  rw [hbl] at X0
  have HX_bl := hide X0
  have HQ := hide X1'
  have HB_0 := hide b0
  have HG_q : Hid (w.heap.size ≤ bq) := by show _ ≤ _; omega
  have HNE_lq : Hid (bl ≠ bq) := by show _ ≠ _; omega
  have ⟨c0, c1, c2⟩ := X0.cells _ (Below.refl _ _)
  simp only [Tri.val]
  have HBL := hide hbl
  have HBQ := hide hbq
  clear h h' X0 X1 X1' b0
  have HRA := hide ha
  have HH0 := hide h0
  have HAC := hide hac
  have HAL := hide (allowed_ok t.val a c W0 (unhide HX_bl).2 (Rat.num_nonneg.2 h0) (by omega))
  simp only [Tri.val] at HAL
  have HRC : Hid (RS (((c : Nat) : Int) : Rat) 1) := by
    have e : Wd.pw 1 = 18446744073709551616 := Wd.pw_one
    refine (⟨?_, ?_⟩ : RS _ _)
    · rw [e]; show ((((c : Nat) : Int).natAbs : Nat) : Int) < _; omega
    · rw [e]; show ((1 : Nat) : Int) < _; decide
  clear h0 ha hac
  go_enter Tryd.func18, Tryd.ntmps18
  go_wp2_with fail
  refine (unhide HAL).mono ?_
  rintro e w_1 ⟨rfl, hbx⟩
  have HB_2 := hide (below_step (unhide HB_0) hbx)
  have HX_bl_2 := hide ((unhide HX_bl).keep hbx)
  have HQ_2 := hide ((unhide HQ).keep hbx)
  clear HB_0 HX_bl HQ
  clear hbx
  clear HAL c0 c1 c2 hW0 hbl hbq
  go_wp2_with fail
  refine (whole_any (c : Int) (by omega) (by omega) _).mono ?_
  rintro e w_3 ⟨v1, rfl, hv1, hbx⟩
  obtain ⟨ta, rfl, hr_3⟩ := tri_of hv1
  simp only [Tri.val]
  have HL_bl_ba := hide (Nat.lt_of_lt_of_le (unhide HX_bl_2).lt hbx.size)
  have HG_ba := hide (below_step (unhide HB_2) hbx).size
  have hb_3 := below_step hbx (alloc_below w_3 (.cells #[.bool ta.s, .slice ta.a1 ta.n1 ta.c1, .slice ta.a2 ta.n2 ta.c2] 34))
  have HB_4 := hide (below_step (unhide HB_2) hb_3)
  have HX_bl_4 := hide ((unhide HX_bl_2).keep hb_3)
  have HQ_4 := hide ((unhide HQ_2).keep hb_3)
  clear HB_2 HX_bl_2 HQ_2
  have HX_ba_3 := hide (BoxIs.new hr_3)
  obtain ⟨Wba, hW_3⟩ : ∃ W, w_3.alloc (.cells #[.bool ta.s, .slice ta.a1 ta.n1 ta.c1, .slice ta.a2 ta.n2 ta.c2] 34) = W := ⟨_, rfl⟩
  obtain ⟨ba, hc_3⟩ : ∃ b, w_3.heap.size = b := ⟨_, rfl⟩
  rw [hW_3] at HB_4 HX_bl_4 HQ_4 HX_ba_3
  rw [hc_3] at HX_ba_3 HL_bl_ba HG_ba
  clear hv1 hr_3 hbx hb_3
  obtain ⟨cbl_0, cbl_1, cbl_2⟩ := (unhide HX_bl_4).cells _ (Below.refl _ _)
  obtain ⟨cba_0, cba_1, cba_2⟩ := (unhide HX_ba_3).cells _ (Below.refl _ _)
  have HCM := hide (cmpR_all _ _ a (((c : Nat) : Int) : Rat) Wba (unhide HX_bl_4).2 (unhide HX_ba_3).2 1 (unhide HRA) (unhide HRC) (by rw [KKe]; omega))
  rw [cmpv_lt (unhide HAC)] at HCM
  simp only [Tri.val] at HCM
  go_wp2_with fail
  clear hW_3 hc_3
  refine (unhide HCM).mono ?_
  rintro e w_5 ⟨rfl, hbx⟩
  have HB_6 := hide (below_step (unhide HB_4) hbx)
  have HX_bl_6 := hide ((unhide HX_bl_4).keep hbx)
  have HX_ba_6 := hide ((unhide HX_ba_3).keep hbx)
  have HQ_6 := hide ((unhide HQ_4).keep hbx)
  clear HB_4 HX_bl_4 HX_ba_3 HQ_4
  clear hbx
  clear cbl_0 cbl_1 cbl_2 cba_0 cba_1 cba_2
  obtain ⟨cbl_0, cbl_1, cbl_2⟩ := (unhide HX_bl_6).cells _ (Below.refl _ _)
  obtain ⟨cba_0, cba_1, cba_2⟩ := (unhide HX_ba_6).cells _ (Below.refl _ _)
  have HSB := hide (subR_any _ _ (((c : Nat) : Int) : Rat) a w_5 (unhide HX_ba_6).2 (unhide HX_bl_6).2 1 (unhide HRC) (unhide HRA) (by rw [KKe]; omega))
  simp only [Tri.val] at HSB
  go_wp2_with fail
  refine (unhide HSB).mono ?_
  rintro e w_7 ⟨v2, rfl, hv2, hbx⟩
  obtain ⟨ts, rfl, hr_7⟩ := tri_of hv2
  simp only [Tri.val]
  have HL_bl_bs := hide (Nat.lt_of_lt_of_le (unhide HX_bl_6).lt hbx.size)
  have HL_ba_bs := hide (Nat.lt_of_lt_of_le (unhide HX_ba_6).lt hbx.size)
  have HG_bs := hide (below_step (unhide HB_6) hbx).size
  have hb_7 := below_step hbx (alloc_below w_7 (.cells #[.bool ts.s, .slice ts.a1 ts.n1 ts.c1, .slice ts.a2 ts.n2 ts.c2] 34))
  have HB_8 := hide (below_step (unhide HB_6) hb_7)
  have HX_bl_8 := hide ((unhide HX_bl_6).keep hb_7)
  have HX_ba_8 := hide ((unhide HX_ba_6).keep hb_7)
  have HQ_8 := hide ((unhide HQ_6).keep hb_7)
  clear HB_6 HX_bl_6 HX_ba_6 HQ_6
  have HX_bs_7 := hide (BoxIs.new hr_7)
  obtain ⟨Wbs, hW_7⟩ : ∃ W, w_7.alloc (.cells #[.bool ts.s, .slice ts.a1 ts.n1 ts.c1, .slice ts.a2 ts.n2 ts.c2] 34) = W := ⟨_, rfl⟩
  obtain ⟨bs, hc_7⟩ : ∃ b, w_7.heap.size = b := ⟨_, rfl⟩
  rw [hW_7] at HB_8 HX_bl_8 HX_ba_8 HQ_8 HX_bs_7
  rw [hc_7] at HX_bs_7 HL_bl_bs HL_ba_bs HG_bs
  clear hv2 hr_7 hbx hb_7
  clear cbl_0 cbl_1 cbl_2 cba_0 cba_1 cba_2
  obtain ⟨cbl_0, cbl_1, cbl_2⟩ := (unhide HX_bl_8).cells _ (Below.refl _ _)
  have HWT := hide (weights_own _ a c Wbs (unhide HX_bl_8).2 (unhide HRA) hc)
  simp only [Tri.val] at HWT
  go_wp2_with fail
  clear hW_7 hc_7
  refine (unhide HWT).mono ?_
  rintro e w_8 ⟨G, us, rfl, S0⟩
  have hbx := S0.bl
  have HS := hide (S0.over (unhide HB_8))
  have hGg := S0.gl
  have HNG_bl : Hid (bl ≠ G) := by have := (unhide HX_bl_8).lt; show _ ≠ _; omega
  have HNG_ba : Hid (ba ≠ G) := by have := (unhide HX_ba_8).lt; show _ ≠ _; omega
  have HNG_bs : Hid (bs ≠ G) := by have := (unhide HX_bs_7).lt; show _ ≠ _; omega
  have HNG_q : Hid (bq ≠ G) := by have := (unhide HQ_8).lt; show _ ≠ _; omega
  have hul : us.length = c + 1 := by rw [S0.len, row_length]
  clear S0 hGg HWT HCM HSB
  clear cbl_0 cbl_1 cbl_2
  have HB_9 := hide (below_step (unhide HB_8) hbx)
  have HX_bl_9 := hide ((unhide HX_bl_8).keep hbx)
  have HX_ba_9 := hide ((unhide HX_ba_8).keep hbx)
  have HX_bs_9 := hide ((unhide HX_bs_7).keep hbx)
  have HQ_9 := hide ((unhide HQ_8).keep hbx)
  clear HB_8 HX_bl_8 HX_ba_8 HX_bs_7 HQ_8
  clear hbx
  have e1 : (c : Int) < (c : Int) + 1 := by omega
  have e2 : (0 : Int) ≤ (c : Int) := by omega
  have HS8 := hide ((unhide HS))
  obtain ⟨sk0, _⟩ := (unhide HS).cells c (by omega)
  have rk := (unhide HS).rat c (by omega)
  rw [row_get (by omega)] at rk
  obtain ⟨tw, htw⟩ : ∃ t, us[c]! = t := ⟨_, rfl⟩
  rw [htw] at sk0 rk
  have hGlt : G < w_8.heap.size := (Array.getElem?_eq_some_iff.1 (unhide HS).row).1
  have HCC : Hid (∀ W, Below w_8.heap.size w_8 W → (fun w' : World => (w'.cell? ⟨G, c * 3, none⟩ = some (.bool tw.s) ∧ w'.cell? ⟨G, c * 3 + 1, none⟩ = some (.slice tw.a1 tw.n1 tw.c1) ∧ w'.cell? ⟨G, c * 3 + 2, none⟩ = some (.slice tw.a2 tw.n2 tw.c2)) ∧ (w'.cell? ⟨ba, 0, none⟩ = some (.bool ta.s) ∧ w'.cell? ⟨ba, 1, none⟩ = some (.slice ta.a1 ta.n1 ta.c1) ∧ w'.cell? ⟨ba, 2, none⟩ = some (.slice ta.a2 ta.n2 ta.c2)) ∧ (w'.cell? ⟨bs, 0, none⟩ = some (.bool ts.s) ∧ w'.cell? ⟨bs, 1, none⟩ = some (.slice ts.a1 ts.n1 ts.c1) ∧ w'.cell? ⟨bs, 2, none⟩ = some (.slice ts.a2 ts.n2 ts.c2))) W) := fun W hW => by
    refine ⟨?_, (unhide HX_ba_9).cells W hW, (unhide HX_bs_9).cells W hW⟩
    rw [hW.cell (p := ⟨G, c * 3, none⟩) hGlt, hW.cell (p := ⟨G, c * 3 + 1, none⟩) hGlt, hW.cell (p := ⟨G, c * 3 + 2, none⟩) hGlt]
    exact sk0
  have HRW := hide rk
  have HMU : Hid (∀ W, Below w_8.heap.size w_8 W → Calls Tryd.prog 10 #[.agg #[.bool tw.s, .slice tw.a1 tw.n1 tw.c1, .slice tw.a2 tw.n2 tw.c2], .agg #[.bool ta.s, .slice ta.a1 ta.n1 ta.c1, .slice ta.a2 ta.n2 ta.c2]] W fun e w' => ∃ v, e = .returned v ∧ RatIs w' v (Bth.wt a c * (((c : Nat) : Int) : Rat)) ∧ Below W.heap.size W w') := fun W hW => mulR_any _ _ _ _ W ((unhide HRW).below hW) ((unhide HX_ba_9).2.below hW) 50 ((wt_RS (unhide HRA) c (by omega)).mono (by omega)) ((unhide HRC).mono (by omega)) (by rw [KKe]; omega)
  have HDV : Hid (∀ W v (hW : Below w_8.heap.size w_8 W) (hv : RatIs W v (Bth.wt a c * (((c : Nat) : Int) : Rat))), Calls Tryd.prog 23 #[v, .agg #[.bool ts.s, .slice ts.a1 ts.n1 ts.c1, .slice ts.a2 ts.n2 ts.c2]] W fun e w' => ∃ v, e = .returned v ∧ RatIs w' v (Bth.lastw a c) ∧ Below W.heap.size W w') := fun W v hW hv => bdivided_any v _ _ _ W hv ((unhide HX_bs_9).2.below hW) 60 ((RS.mul (wt_RS (unhide HRA) c (by omega)) (unhide HRC)).mono (by omega)) ((spare_RS (unhide HRA) (unhide HRC)).mono (by omega)) (by rw [KKe]; omega) (pos_num (Bth.spare_pos (unhide HAC)))
  clear sk0 rk htw
  go_wp2_with fail
  refine wp_region_till (fun w' : World => (w'.cell? ⟨G, c * 3, none⟩ = some (.bool tw.s) ∧ w'.cell? ⟨G, c * 3 + 1, none⟩ = some (.slice tw.a1 tw.n1 tw.c1) ∧ w'.cell? ⟨G, c * 3 + 2, none⟩ = some (.slice tw.a2 tw.n2 tw.c2)) ∧ (w'.cell? ⟨ba, 0, none⟩ = some (.bool ta.s) ∧ w'.cell? ⟨ba, 1, none⟩ = some (.slice ta.a1 ta.n1 ta.c1) ∧ w'.cell? ⟨ba, 2, none⟩ = some (.slice ta.a2 ta.n2 ta.c2)) ∧ (w'.cell? ⟨bs, 0, none⟩ = some (.bool ts.s) ∧ w'.cell? ⟨bs, 1, none⟩ = some (.slice ts.a1 ts.n1 ts.c1) ∧ w'.cell? ⟨bs, 2, none⟩ = some (.slice ts.a2 ts.n2 ts.c2))) 11 (by kernel_rfl) ?_
  have bd0 : Below w_8.heap.size w_8 w_8.drew := (Below.refl _ _).drew
  have hC0 : (fun w' : World => (w'.cell? ⟨G, c * 3, none⟩ = some (.bool tw.s) ∧ w'.cell? ⟨G, c * 3 + 1, none⟩ = some (.slice tw.a1 tw.n1 tw.c1) ∧ w'.cell? ⟨G, c * 3 + 2, none⟩ = some (.slice tw.a2 tw.n2 tw.c2)) ∧ (w'.cell? ⟨ba, 0, none⟩ = some (.bool ta.s) ∧ w'.cell? ⟨ba, 1, none⟩ = some (.slice ta.a1 ta.n1 ta.c1) ∧ w'.cell? ⟨ba, 2, none⟩ = some (.slice ta.a2 ta.n2 ta.c2)) ∧ (w'.cell? ⟨bs, 0, none⟩ = some (.bool ts.s) ∧ w'.cell? ⟨bs, 1, none⟩ = some (.slice ts.a1 ts.n1 ts.c1) ∧ w'.cell? ⟨bs, 2, none⟩ = some (.slice ts.a2 ts.n2 ts.c2))) w_8.drew := unhide HCC _ bd0
  refine wpTill_pure (i := 0) (v := ?_) rfl (by kernel_rfl) (by kernel_rfl) (by kernel_rfl) (by kernel_rfl) (fun _ _ _ h => h) (Or.inl ⟨by rfl, ?_⟩) (fun _ => hC0) ?_
  rotate_left
  · intro w hSw; clear hSw; go_simp; (try with_reducible rfl)
  (try simp only [List.getElem_toArray, List.getElem_cons_succ, List.getElem_cons_zero])
  (try simp only [Act.put, List.setIfInBounds_toArray, List.set_cons_zero, List.set_cons_succ])
  refine wpTill_pure (i := 1) (v := ?_) rfl (by kernel_rfl) (by kernel_rfl) (by kernel_rfl) (by kernel_rfl) (fun _ _ _ h => h) (Or.inl ⟨by rfl, ?_⟩) (fun _ => hC0) ?_
  rotate_left
  · intro w hSw; clear hSw; go_simp; (try with_reducible rfl)
  (try simp only [List.getElem_toArray, List.getElem_cons_succ, List.getElem_cons_zero])
  (try simp only [Act.put, List.setIfInBounds_toArray, List.set_cons_zero, List.set_cons_succ])
  refine wpTill_pure (i := 2) (v := ?_) rfl (by kernel_rfl) (by kernel_rfl) (by kernel_rfl) (by kernel_rfl) (fun _ _ _ h => h) (Or.inl ⟨by rfl, ?_⟩) (fun _ => hC0) ?_
  rotate_left
  · intro w hSw; clear hSw; go_simp; (try with_reducible rfl)
  (try simp only [List.getElem_toArray, List.getElem_cons_succ, List.getElem_cons_zero])
  (try simp only [Act.put, List.setIfInBounds_toArray, List.set_cons_zero, List.set_cons_succ])
  refine wpTill_pure (i := 3) (v := ?_) rfl (by kernel_rfl) (by kernel_rfl) (by kernel_rfl) (by kernel_rfl) (fun _ _ _ h => h) (Or.inl ⟨by rfl, ?_⟩) (fun _ => hC0) ?_
  rotate_left
  · intro w hSw; clear hSw; go_simp; (try with_reducible rfl)
  (try simp only [List.getElem_toArray, List.getElem_cons_succ, List.getElem_cons_zero])
  (try simp only [Act.put, List.setIfInBounds_toArray, List.set_cons_zero, List.set_cons_succ])
  refine wpTill_pure (i := 4) (v := ?_) rfl (by kernel_rfl) (by kernel_rfl) (by kernel_rfl) (by kernel_rfl) (fun _ _ _ h => h) (Or.inl ⟨by rfl, ?_⟩) (fun _ => hC0) ?_
  rotate_left
  · intro w hSw; clear hSw; go_simp; (try with_reducible rfl)
  (try simp only [List.getElem_toArray, List.getElem_cons_succ, List.getElem_cons_zero])
  (try simp only [Act.put, List.setIfInBounds_toArray, List.set_cons_zero, List.set_cons_succ])
  refine wpTill_take (i := 5) (v := ?_) rfl (by kernel_rfl) (by kernel_rfl) (by kernel_rfl) (by kernel_rfl) (by kernel_rfl) (by kernel_rfl) (fun _ _ _ h => h) (Or.inl ⟨by rfl, ?_⟩) hC0 ?_
  rotate_left
  · intro w hSw; (try dsimp only at hSw); obtain ⟨⟨z0, z1, z2⟩, ⟨z3, z4, z5⟩, z6, z7, z8⟩ := hSw; go_simp; (try with_reducible rfl)
  (try simp only [List.getElem_toArray, List.getElem_cons_succ, List.getElem_cons_zero])
  (try simp only [Act.put, List.setIfInBounds_toArray, List.set_cons_zero, List.set_cons_succ])
  refine wpTill_take (i := 6) (v := ?_) rfl (by kernel_rfl) (by kernel_rfl) (by kernel_rfl) (by kernel_rfl) (by kernel_rfl) (by kernel_rfl) (fun _ _ _ h => h) (Or.inl ⟨by rfl, ?_⟩) hC0 ?_
  rotate_left
  · intro w hSw; (try dsimp only at hSw); obtain ⟨⟨z0, z1, z2⟩, ⟨z3, z4, z5⟩, z6, z7, z8⟩ := hSw; go_simp; (try with_reducible rfl)
  (try simp only [List.getElem_toArray, List.getElem_cons_succ, List.getElem_cons_zero])
  (try simp only [Act.put, List.setIfInBounds_toArray, List.set_cons_zero, List.set_cons_succ])
  refine wpTill_take (i := 8) (v := ?_) rfl (by kernel_rfl) (by kernel_rfl) (by kernel_rfl) (by kernel_rfl) (by kernel_rfl) (by kernel_rfl) (fun _ _ _ h => h) (Or.inl ⟨by rfl, ?_⟩) hC0 ?_
  rotate_left
  · intro w hSw; (try dsimp only at hSw); obtain ⟨⟨z0, z1, z2⟩, ⟨z3, z4, z5⟩, z6, z7, z8⟩ := hSw; go_simp; (try with_reducible rfl)
  (try simp only [List.getElem_toArray, List.getElem_cons_succ, List.getElem_cons_zero])
  (try simp only [Act.put, List.setIfInBounds_toArray, List.set_cons_zero, List.set_cons_succ])
  refine wpTill_one (k := 7) (by kernel_rfl) rfl (fun K hK => ?_)
  (try simp only [List.getElem_toArray, List.getElem_cons_succ, List.getElem_cons_zero])
  go_simp
  refine (unhide HMU _ bd0).mono ?_
  rintro e xw_1 ⟨xv_1, rfl, hv_1, hb_1⟩
  have cc_1 := below_step bd0 hb_1
  have hC_1 : (fun w' : World => (w'.cell? ⟨G, c * 3, none⟩ = some (.bool tw.s) ∧ w'.cell? ⟨G, c * 3 + 1, none⟩ = some (.slice tw.a1 tw.n1 tw.c1) ∧ w'.cell? ⟨G, c * 3 + 2, none⟩ = some (.slice tw.a2 tw.n2 tw.c2)) ∧ (w'.cell? ⟨ba, 0, none⟩ = some (.bool ta.s) ∧ w'.cell? ⟨ba, 1, none⟩ = some (.slice ta.a1 ta.n1 ta.c1) ∧ w'.cell? ⟨ba, 2, none⟩ = some (.slice ta.a2 ta.n2 ta.c2)) ∧ (w'.cell? ⟨bs, 0, none⟩ = some (.bool ts.s) ∧ w'.cell? ⟨bs, 1, none⟩ = some (.slice ts.a1 ts.n1 ts.c1) ∧ w'.cell? ⟨bs, 2, none⟩ = some (.slice ts.a2 ts.n2 ts.c2))) xw_1 := unhide HCC _ cc_1
  refine hK.out _ _ (fun _ => hC_1) ?_
  clear hK K
  (try simp only [Act.put, List.setIfInBounds_toArray, List.set_cons_zero, List.set_cons_succ])
  refine wpTill_one (k := 9) (by kernel_rfl) rfl (fun K hK => ?_)
  (try simp only [List.getElem_toArray, List.getElem_cons_succ, List.getElem_cons_zero])
  go_simp
  refine (unhide HDV _ _ cc_1 hv_1).mono ?_
  rintro e xw_2 ⟨xv_2, rfl, hv_2, hb_2⟩
  have cc_2 := below_step cc_1 hb_2
  have hC_2 : (fun w' : World => (w'.cell? ⟨G, c * 3, none⟩ = some (.bool tw.s) ∧ w'.cell? ⟨G, c * 3 + 1, none⟩ = some (.slice tw.a1 tw.n1 tw.c1) ∧ w'.cell? ⟨G, c * 3 + 2, none⟩ = some (.slice tw.a2 tw.n2 tw.c2)) ∧ (w'.cell? ⟨ba, 0, none⟩ = some (.bool ta.s) ∧ w'.cell? ⟨ba, 1, none⟩ = some (.slice ta.a1 ta.n1 ta.c1) ∧ w'.cell? ⟨ba, 2, none⟩ = some (.slice ta.a2 ta.n2 ta.c2)) ∧ (w'.cell? ⟨bs, 0, none⟩ = some (.bool ts.s) ∧ w'.cell? ⟨bs, 1, none⟩ = some (.slice ts.a1 ts.n1 ts.c1) ∧ w'.cell? ⟨bs, 2, none⟩ = some (.slice ts.a2 ts.n2 ts.c2))) xw_2 := unhide HCC _ cc_2
  refine hK.out _ _ (fun _ => hC_2) ?_
  clear hK K
  (try simp only [Act.put, List.setIfInBounds_toArray, List.set_cons_zero, List.set_cons_succ])
  refine wpTill_pure (i := 10) (v := ?_) rfl (by kernel_rfl) (by kernel_rfl) (by kernel_rfl) (by kernel_rfl) (fun _ _ _ h => h) (Or.inl ⟨by rfl, ?_⟩) (fun _ => hC_2) ?_
  rotate_left
  · intro w hSw; clear hSw; go_simp; (try with_reducible rfl)
  (try simp only [List.getElem_toArray, List.getElem_cons_succ, List.getElem_cons_zero])
  (try simp only [Act.put, List.setIfInBounds_toArray, List.set_cons_zero, List.set_cons_succ])
  obtain ⟨tn, rfl, rn⟩ := tri_of hv_2
  simp only [Tri.val]
  have S2 := (unhide HS).keep cc_2
  have ⟨⟨y0, y1, y2⟩, l0, l1, l2⟩ := S2.cells c (by omega)
  have FZ := S2.set c (by omega) tn _ rn
  have FZ' : SumsAt w _ G (us.set c tn) (atl a c) := FZ
  have YL := ((unhide HX_bl_9).keep cc_2).rowed S2.row (unhide HNG_bl) (c * 3) (c * 3 + 1) (c * 3 + 2) (.bool tn.s) (.slice tn.a1 tn.n1 tn.c1) (.slice tn.a2 tn.n2 tn.c2)
  have YA := ((unhide HX_ba_9).keep cc_2).rowed S2.row (unhide HNG_ba) (c * 3) (c * 3 + 1) (c * 3 + 2) (.bool tn.s) (.slice tn.a1 tn.n1 tn.c1) (.slice tn.a2 tn.n2 tn.c2)
  have YS := ((unhide HX_bs_9).keep cc_2).rowed S2.row (unhide HNG_bs) (c * 3) (c * 3 + 1) (c * 3 + 2) (.bool tn.s) (.slice tn.a1 tn.n1 tn.c1) (.slice tn.a2 tn.n2 tn.c2)
  have YQ : QB (((xw_2.setCell ⟨G, c * 3, none⟩ (.bool tn.s)).setCell ⟨G, c * 3 + 1, none⟩ (.slice tn.a1 tn.n1 tn.c1)).setCell ⟨G, c * 3 + 2, none⟩ (.slice tn.a2 tn.n2 tn.c2)) bq zTri zTri zTri := by
    unfold QB
    rw [Below.heap_setCell _ _ _ _ (unhide HNG_q), Below.heap_setCell _ _ _ _ (unhide HNG_q), Below.heap_setCell _ _ _ _ (unhide HNG_q)]
    exact (unhide HQ_9).keep cc_2
  obtain ⟨W9, hW9⟩ : ∃ W, ((xw_2.setCell ⟨G, c * 3, none⟩ (.bool tn.s)).setCell ⟨G, c * 3 + 1, none⟩ (.slice tn.a1 tn.n1 tn.c1)).setCell ⟨G, c * 3 + 2, none⟩ (.slice tn.a2 tn.n2 tn.c2) = W := ⟨_, rfl⟩
  rw [hW9] at FZ' YL YA YS YQ
  have HSN := hide FZ'
  have HXL := hide YL
  have HXA := hide YA
  have HXS := hide YS
  have HQN := hide YQ
  have HBN := hide FZ'.bl
  clear S2 FZ FZ' YL YA YS YQ rn hv_1 hv_2 hb_1 hb_2
  refine wpTill_one (k := 11) (by kernel_rfl) rfl (fun K hK => ?_)
  (try simp only [List.getElem_toArray, List.getElem_cons_succ, List.getElem_cons_zero])
  go_simp
  refine hK.out _ _ (fun h => absurd (h.symm.trans (by kernel_rfl)) Bool.false_ne_true) ?_
  clear hK K
  (try simp only [Act.put, List.setIfInBounds_toArray, List.set_cons_zero, List.set_cons_succ])
  refine wpTill_done (by kernel_rfl) ?_ _
  clear l0 l1 l2 y0 y1 y2 hW9 hC0 hC_1 hC_2 cc_1 cc_2 bd0 HCC HMU HDV HS HS8 HRW hGlt
  have hul9 : (us.set c tn).length = c + 1 := by rw [List.length_set]; exact hul
  obtain ⟨sk0, _⟩ := (unhide HSN).cells c (by omega)
  have rk := (unhide HSN).rat c (by omega)
  rw [atl_last] at rk
  have etn : (us.set c tn)[c]! = tn := by simp [show c < us.length by omega]
  rw [etn] at sk0 rk
  have hGlt : G < W9.heap.size := (Array.getElem?_eq_some_iff.1 (unhide HSN).row).1
  have HCC : Hid (∀ W, Below W9.heap.size W9 W → (fun w' : World => (w'.cell? ⟨G, c * 3, none⟩ = some (.bool tn.s) ∧ w'.cell? ⟨G, c * 3 + 1, none⟩ = some (.slice tn.a1 tn.n1 tn.c1) ∧ w'.cell? ⟨G, c * 3 + 2, none⟩ = some (.slice tn.a2 tn.n2 tn.c2))) W) := fun W hW => by
    show _ ∧ _ ∧ _
    rw [hW.cell (p := ⟨G, c * 3, none⟩) hGlt, hW.cell (p := ⟨G, c * 3 + 1, none⟩) hGlt, hW.cell (p := ⟨G, c * 3 + 2, none⟩) hGlt]
    exact sk0
  have HRW := hide rk
  have LW := (unhide HSN).law (by omega)
  rw [hul9] at LW
  have hrs := atl_RS (unhide HRA) (unhide HRC) hc (unhide HAC)
  have HSU : Hid (∀ W, Below W9.heap.size W9 W → Calls Tryd.prog 25 #[.slice (some ⟨G, 0, none⟩) (c + 1) (c + 1)] W fun e w' => ∃ v, e = .returned v ∧ RatIs w' v (Bth.ws a c + Bth.lastw a c) ∧ Below W.heap.size W w') := fun W hW => by
    have h := sumR_any _ _ 60 W (LW.below hW) hrs (by rw [atl_length, KKe]; omega)
    rw [atl_length, atl_sum] at h
    exact h
  have hsr : RS (Bth.ws a c + Bth.lastw a c) 2000 := (RS.add (ws_RS (unhide HRA) (show c ≤ 21 by omega)) (lastw_RS (unhide HRA) (unhide HRC) hc (unhide HAC))).mono (by omega)
  have hsz := pos_num (Bth.ecs_pos (unhide HH0) (unhide HAC))
  have HDV : Hid (∀ W v (hW : Below W9.heap.size W9 W) (hv : RatIs W v (Bth.ws a c + Bth.lastw a c)), Calls Tryd.prog 23 #[.agg #[.bool tn.s, .slice tn.a1 tn.n1 tn.c1, .slice tn.a2 tn.n2 tn.c2], v] W fun e w' => ∃ v, e = .returned v ∧ RatIs w' v (Bth.ec a c) ∧ Below W.heap.size W w') := fun W v hW hv => bdivided_any _ v _ _ W ((unhide HRW).below hW) hv 2000 ((lastw_RS (unhide HRA) (unhide HRC) hc (unhide HAC)).mono (by omega)) hsr (by rw [KKe]; omega) hsz
  have HEC : Hid (RS (Bth.ec a c) 2100) := (RS.div' (lastw_RS (unhide HRA) (unhide HRC) hc (unhide HAC)) hsr hsz).mono (by omega)
  clear sk0 rk etn LW hrs
  go_wp2_with fail
  refine wp_region_hold (fun w' : World => (w'.cell? ⟨G, c * 3, none⟩ = some (.bool tn.s) ∧ w'.cell? ⟨G, c * 3 + 1, none⟩ = some (.slice tn.a1 tn.n1 tn.c1) ∧ w'.cell? ⟨G, c * 3 + 2, none⟩ = some (.slice tn.a2 tn.n2 tn.c2))) (by kernel_rfl) ?_
  have bd0 : Below W9.heap.size W9 W9.drew := (Below.refl _ _).drew
  obtain ⟨Wx, hWx⟩ : ∃ W, W9.drew = W := ⟨_, rfl⟩
  rw [hWx] at bd0 ⊢
  have hC0 : (fun w' : World => (w'.cell? ⟨G, c * 3, none⟩ = some (.bool tn.s) ∧ w'.cell? ⟨G, c * 3 + 1, none⟩ = some (.slice tn.a1 tn.n1 tn.c1) ∧ w'.cell? ⟨G, c * 3 + 2, none⟩ = some (.slice tn.a2 tn.n2 tn.c2))) Wx := unhide HCC _ bd0
  refine wpHold_take (i := 0) (v := ?_) rfl (by kernel_rfl) (by kernel_rfl) (by kernel_rfl) (fun _ _ _ h => h) (Or.inl ⟨by rfl, ?_⟩) hC0 ?_
  rotate_left
  · intro w hSw; clear hSw; go_simp; (try with_reducible rfl)
  (try simp only [List.getElem_toArray, List.getElem_cons_succ, List.getElem_cons_zero])
  (try simp only [Act.put, List.setIfInBounds_toArray, List.set_cons_zero, List.set_cons_succ])
  refine wpHold_take (i := 1) (v := ?_) rfl (by kernel_rfl) (by kernel_rfl) (by kernel_rfl) (fun _ _ _ h => h) (Or.inl ⟨by rfl, ?_⟩) hC0 ?_
  rotate_left
  · intro w hSw; clear hSw; go_simp; (try with_reducible rfl)
  (try simp only [List.getElem_toArray, List.getElem_cons_succ, List.getElem_cons_zero])
  (try simp only [Act.put, List.setIfInBounds_toArray, List.set_cons_zero, List.set_cons_succ])
  refine wpHold_take (i := 2) (v := ?_) rfl (by kernel_rfl) (by kernel_rfl) (by kernel_rfl) (fun _ _ _ h => h) (Or.inl ⟨by rfl, ?_⟩) hC0 ?_
  rotate_left
  · intro w hSw; clear hSw; go_simp; (try with_reducible rfl)
  (try simp only [List.getElem_toArray, List.getElem_cons_succ, List.getElem_cons_zero])
  (try simp only [Act.put, List.setIfInBounds_toArray, List.set_cons_zero, List.set_cons_succ])
  refine wpHold_take (i := 3) (v := ?_) rfl (by kernel_rfl) (by kernel_rfl) (by kernel_rfl) (fun _ _ _ h => h) (Or.inl ⟨by rfl, ?_⟩) hC0 ?_
  rotate_left
  · intro w hSw; (try dsimp only at hSw); obtain ⟨z0, z1, z2⟩ := hSw; go_simp; (try with_reducible rfl)
  (try simp only [List.getElem_toArray, List.getElem_cons_succ, List.getElem_cons_zero])
  (try simp only [Act.put, List.setIfInBounds_toArray, List.set_cons_zero, List.set_cons_succ])
  refine wpHold_take (i := 4) (v := ?_) rfl (by kernel_rfl) (by kernel_rfl) (by kernel_rfl) (fun _ _ _ h => h) (Or.inl ⟨by rfl, ?_⟩) hC0 ?_
  rotate_left
  · intro w hSw; clear hSw; go_simp; (try with_reducible rfl)
  (try simp only [List.getElem_toArray, List.getElem_cons_succ, List.getElem_cons_zero])
  (try simp only [Act.put, List.setIfInBounds_toArray, List.set_cons_zero, List.set_cons_succ])
  refine wpHold_listed (n := 4) (L' := (fun nc nl => #[true, true, true, true, true, decide (1 ≤ nc), decide (2 ≤ nc), nl, false]) 0 false) (by kernel_rfl) (by kernel_rfl) ?_
  refine wpHold_name (fun a0 ha0 => ?_)
  refine two_one_any (fun nc nl => #[true, true, true, true, true, decide (1 ≤ nc), decide (2 ≤ nc), nl, false]) 5 6 7 1 (fun nc nl na W => ∃ s1 s2 s3, na = ((a0.put (some 49) s1).put (some 50) s2).put (some 10) s3 ∧ TwoJ (Bth.ws a c + Bth.lastw a c) (Bth.ec a c) Wx nc nl W s1 s2 s3) ?_ ?_ (fun l => rfl) (fun l => rfl) (fun c => rfl) ?_ ?_ ?_ ?_ 3 0 false (by omega) (by rfl) _ _ ⟨undef, undef, undef, by subst ha0; rfl, Below.refl _ _, fun h => absurd h (by decide), fun h => absurd h (by decide), fun h => by cases h⟩
  · clear ha0
    intro nc nl hnc
    match nc, hnc with
    | 0, _ => cases nl <;> (show (_ : Bool) = _; kernel_rfl)
    | 1, _ => cases nl <;> (show (_ : Bool) = _; kernel_rfl)
    | 2, _ => cases nl <;> (show (_ : Bool) = _; kernel_rfl)
  · clear ha0
    intro nc nl hnc
    match nc, hnc with
    | 0, _ => cases nl <;> (intro _; show (_ : Bool) = _; kernel_rfl)
    | 1, _ => cases nl <;> (intro _; show (_ : Bool) = _; kernel_rfl)
    | 2, _ => cases nl <;> (intro h; first | (show (_ : Bool) = _; kernel_rfl) | exact absurd h (by decide))
  · rintro nl na wv ⟨s1, s2, s3, rfl, J⟩
    subst ha0
    refine wpOp_step rfl (fun K hK => ?_)
    (try simp only [Act.put, List.setIfInBounds_toArray, List.set_cons_zero, List.set_cons_succ] at hK ⊢)
    (try simp only [List.getElem_toArray, List.getElem_cons_succ, List.getElem_cons_zero])
    go_simp
    refine (unhide HSU wv (below_step bd0 J.bl)).mono ?_
    rintro e wz ⟨v, rfl, hv, hb⟩
    exact hK _ _ ⟨unhide HCC _ (below_step bd0 (below_step J.bl hb)), v, s2, s3, rfl, below_step J.bl hb, fun _ => hv, fun h => absurd h (by decide), fun h => by
      obtain ⟨b, e1, e2, e3⟩ := J.al h
      exact ⟨b, e1, e2.keep hb, e3⟩⟩
  · rintro nl na wv ⟨s1, s2, s3, rfl, J⟩
    subst ha0
    refine wpOp_step rfl (fun K hK => ?_)
    (try simp only [Act.put, List.setIfInBounds_toArray, List.set_cons_zero, List.set_cons_succ] at hK ⊢)
    (try simp only [List.getElem_toArray, List.getElem_cons_succ, List.getElem_cons_zero])
    go_simp
    refine (unhide HDV wv _ (below_step bd0 J.bl) (J.r1 (by decide))).mono ?_
    rintro e wz ⟨v, rfl, hv, hb⟩
    exact hK _ _ ⟨unhide HCC _ (below_step bd0 (below_step J.bl hb)), s1, v, s3, rfl, below_step J.bl hb, fun _ => (J.r1 (by decide)).below hb, fun _ => hv, fun h => by
      obtain ⟨b, e1, e2, e3⟩ := J.al h
      exact ⟨b, e1, e2.keep hb, e3⟩⟩
  · rintro nc na wv ⟨s1, s2, s3, rfl, J⟩
    subst ha0
    refine wpOp_step rfl (fun K hK => ?_)
    (try simp only [Act.put, List.setIfInBounds_toArray, List.set_cons_zero, List.set_cons_succ] at hK ⊢)
    (try simp only [List.getElem_toArray, List.getElem_cons_succ, List.getElem_cons_zero])
    go_simp
    have hb := alloc_below wv (.cells #[.bool false, .slice none 0 0, .slice none 0 0] 34)
    exact hK _ _ ⟨unhide HCC _ (below_step bd0 (below_step J.bl hb)), s1, s2, .pointer (some ⟨wv.heap.size, 0, none⟩), rfl, below_step J.bl hb, fun h => (J.r1 h).below hb, fun h => (J.r2 h).below hb, fun _ => ⟨wv.heap.size, rfl, BoxIs.new (t := zTri) (rat_zero _), J.bl.size⟩⟩
  · rintro na wv ⟨s1, s2, s3, rfl, J⟩
    subst ha0
    obtain ⟨bv, rfl, B10, e10⟩ := J.al rfl
    obtain ⟨tv, rfl, r0⟩ := tri_of (J.r2 (by decide))
    simp only [Tri.val]
    (try simp only [Act.put, List.setIfInBounds_toArray, List.set_cons_zero, List.set_cons_succ])
    have ⟨l0, l1, l2⟩ := B10.free
    have ⟨k0, k1, k2⟩ := B10.cells _ (Below.refl _ _)
    have NB := B10.set r0
    have e10' : W9.heap.size ≤ bv := Nat.le_trans bd0.size e10
    have YB := (((below_step bd0 J.bl).setCell (p := ⟨bv, 0, none⟩) e10' (.bool tv.s)).setCell (p := ⟨bv, 1, none⟩) e10' (.slice tv.a1 tv.n1 tv.c1)).setCell (p := ⟨bv, 2, none⟩) e10' (.slice tv.a2 tv.n2 tv.c2)
    have HG_bv := hide e10'
    have hCn : (fun w' : World => (w'.cell? ⟨G, c * 3, none⟩ = some (.bool tn.s) ∧ w'.cell? ⟨G, c * 3 + 1, none⟩ = some (.slice tn.a1 tn.n1 tn.c1) ∧ w'.cell? ⟨G, c * 3 + 2, none⟩ = some (.slice tn.a2 tn.n2 tn.c2))) _ := unhide HCC _ YB
    obtain ⟨Wbv, hWy⟩ : ∃ W, ((wv.setCell ⟨bv, 0, none⟩ (.bool tv.s)).setCell ⟨bv, 1, none⟩ (.slice tv.a1 tv.n1 tv.c1)).setCell ⟨bv, 2, none⟩ (.slice tv.a2 tv.n2 tv.c2) = W := ⟨_, rfl⟩
    rw [hWy] at NB YB hCn
    have HX_bv := hide NB
    have HY_bv := hide YB
    clear J B10 r0 hC0 YB NB e10'
    refine wpHold_one (k := 8) (by kernel_rfl) rfl (fun K hK => ?_)
    (try simp only [List.getElem_toArray, List.getElem_cons_succ, List.getElem_cons_zero])
    go_simp
    refine hK.out _ _ hCn ?_
    clear hK K
    (try simp only [Act.put, List.setIfInBounds_toArray, List.set_cons_zero, List.set_cons_succ])
    refine wpHold_done (by kernel_rfl) ?_ _
    clear hCn l0 l1 l2 k0 k1 k2 hWy e10 bd0 hWx
    have HX_bl' := hide ((unhide HXL).keep (unhide HY_bv))
    have HX_bs' := hide ((unhide HXS).keep (unhide HY_bv))
    have HQ' := hide ((unhide HQN).keep (unhide HY_bv))
    have HB_v := hide (below_step (unhide HBN) (unhide HY_bv))
    clear HSU HDV HRW HSN HXL HXA HXS HQN HBN HY_bv hGlt HCC hsr hsz
    obtain ⟨cbv_0, cbv_1, cbv_2⟩ := (unhide HX_bv).cells _ (Below.refl _ _)
    obtain ⟨cbs_0, cbs_1, cbs_2⟩ := (unhide HX_bs').cells _ (Below.refl _ _)
    have HDT := hide (bdivided_any tv.val ts.val (Bth.ec a c) ((((c : Nat) : Int) : Rat) - a) Wbv (unhide HX_bv).2 (unhide HX_bs').2 2200 ((unhide HEC).mono (by omega)) ((spare_RS (unhide HRA) (unhide HRC)).mono (by omega)) (by rw [KKe]; omega) (pos_num (Bth.spare_pos (unhide HAC))))
    simp only [Tri.val] at HDT
    go_wp2_with fail
    refine (unhide HDT).mono ?_
    rintro e w_21 ⟨v9, rfl, hv9, hbx⟩
    obtain ⟨tt, rfl, hr_21⟩ := tri_of hv9
    simp only [Tri.val]
    have HL_bl_bt := hide (Nat.lt_of_lt_of_le (unhide HX_bl').lt hbx.size)
    have HL_bs_bt := hide (Nat.lt_of_lt_of_le (unhide HX_bs').lt hbx.size)
    have HL_bv_bt := hide (Nat.lt_of_lt_of_le (unhide HX_bv).lt hbx.size)
    have HG_bt := hide (below_step (unhide HB_v) hbx).size
    have hb_21 := below_step hbx (alloc_below w_21 (.cells #[.bool tt.s, .slice tt.a1 tt.n1 tt.c1, .slice tt.a2 tt.n2 tt.c2] 34))
    have HB_22 := hide (below_step (unhide HB_v) hb_21)
    have HX_bl_22 := hide ((unhide HX_bl').keep hb_21)
    have HX_bs_22 := hide ((unhide HX_bs').keep hb_21)
    have HX_bv_22 := hide ((unhide HX_bv).keep hb_21)
    have HQ_22 := hide ((unhide HQ').keep hb_21)
    clear HB_v HX_bl' HX_bs' HX_bv HQ'
    have HX_bt_21 := hide (BoxIs.new hr_21)
    obtain ⟨Wbt, hW_21⟩ : ∃ W, w_21.alloc (.cells #[.bool tt.s, .slice tt.a1 tt.n1 tt.c1, .slice tt.a2 tt.n2 tt.c2] 34) = W := ⟨_, rfl⟩
    obtain ⟨bt, hc_21⟩ : ∃ b, w_21.heap.size = b := ⟨_, rfl⟩
    rw [hW_21] at HB_22 HX_bl_22 HX_bs_22 HX_bv_22 HQ_22 HX_bt_21
    rw [hc_21] at HX_bt_21 HL_bl_bt HL_bs_bt HL_bv_bt HG_bt
    clear hv9 hr_21 hbx hb_21
    clear cbv_0 cbv_1 cbv_2 cbs_0 cbs_1 cbs_2
    have HCC : Hid (∀ W, Below Wbt.heap.size Wbt W → (fun w' : World => (w'.cell? ⟨bv, 0, none⟩ = some (.bool tv.s) ∧ w'.cell? ⟨bv, 1, none⟩ = some (.slice tv.a1 tv.n1 tv.c1) ∧ w'.cell? ⟨bv, 2, none⟩ = some (.slice tv.a2 tv.n2 tv.c2)) ∧ (w'.cell? ⟨bt, 0, none⟩ = some (.bool tt.s) ∧ w'.cell? ⟨bt, 1, none⟩ = some (.slice tt.a1 tt.n1 tt.c1) ∧ w'.cell? ⟨bt, 2, none⟩ = some (.slice tt.a2 tt.n2 tt.c2)) ∧ (w'.cell? ⟨bl, 0, none⟩ = some (.bool t.s) ∧ w'.cell? ⟨bl, 1, none⟩ = some (.slice t.a1 t.n1 t.c1) ∧ w'.cell? ⟨bl, 2, none⟩ = some (.slice t.a2 t.n2 t.c2))) W) := fun W hW => ⟨(unhide HX_bv_22).cells W hW, (unhide HX_bt_21).cells W hW, (unhide HX_bl_22).cells W hW⟩
    have HET : Hid (RS (Bth.ec a c / ((((c : Nat) : Int) : Rat) - a)) 2200) := (RS.div' (unhide HEC) (spare_RS (unhide HRA) (unhide HRC)) (pos_num (Bth.spare_pos (unhide HAC)))).mono (by omega)
    have HMU : Hid (∀ W, Below Wbt.heap.size Wbt W → Calls Tryd.prog 10 #[.agg #[.bool tt.s, .slice tt.a1 tt.n1 tt.c1, .slice tt.a2 tt.n2 tt.c2], .agg #[.bool t.s, .slice t.a1 t.n1 t.c1, .slice t.a2 t.n2 t.c2]] W fun e w' => ∃ v, e = .returned v ∧ RatIs w' v (Bth.ec a c / ((((c : Nat) : Int) : Rat) - a) * a) ∧ Below W.heap.size W w') := fun W hW => mulR_any _ _ _ _ W ((unhide HX_bt_21).2.below hW) ((unhide HX_bl_22).2.below hW) 2200 (unhide HET) ((unhide HRA).mono (by omega)) (by rw [KKe]; omega)
    go_wp2_with fail
    clear hW_21 hc_21 HDT
    refine wp_region_till (fun w' : World => (w'.cell? ⟨bv, 0, none⟩ = some (.bool tv.s) ∧ w'.cell? ⟨bv, 1, none⟩ = some (.slice tv.a1 tv.n1 tv.c1) ∧ w'.cell? ⟨bv, 2, none⟩ = some (.slice tv.a2 tv.n2 tv.c2)) ∧ (w'.cell? ⟨bt, 0, none⟩ = some (.bool tt.s) ∧ w'.cell? ⟨bt, 1, none⟩ = some (.slice tt.a1 tt.n1 tt.c1) ∧ w'.cell? ⟨bt, 2, none⟩ = some (.slice tt.a2 tt.n2 tt.c2)) ∧ (w'.cell? ⟨bl, 0, none⟩ = some (.bool t.s) ∧ w'.cell? ⟨bl, 1, none⟩ = some (.slice t.a1 t.n1 t.c1) ∧ w'.cell? ⟨bl, 2, none⟩ = some (.slice t.a2 t.n2 t.c2))) 6 (by kernel_rfl) ?_
    have bd0 : Below Wbt.heap.size Wbt Wbt.drew := (Below.refl _ _).drew
    have hC0 : (fun w' : World => (w'.cell? ⟨bv, 0, none⟩ = some (.bool tv.s) ∧ w'.cell? ⟨bv, 1, none⟩ = some (.slice tv.a1 tv.n1 tv.c1) ∧ w'.cell? ⟨bv, 2, none⟩ = some (.slice tv.a2 tv.n2 tv.c2)) ∧ (w'.cell? ⟨bt, 0, none⟩ = some (.bool tt.s) ∧ w'.cell? ⟨bt, 1, none⟩ = some (.slice tt.a1 tt.n1 tt.c1) ∧ w'.cell? ⟨bt, 2, none⟩ = some (.slice tt.a2 tt.n2 tt.c2)) ∧ (w'.cell? ⟨bl, 0, none⟩ = some (.bool t.s) ∧ w'.cell? ⟨bl, 1, none⟩ = some (.slice t.a1 t.n1 t.c1) ∧ w'.cell? ⟨bl, 2, none⟩ = some (.slice t.a2 t.n2 t.c2))) Wbt.drew := unhide HCC _ bd0
    refine wpTill_take (i := 0) (v := ?_) rfl (by kernel_rfl) (by kernel_rfl) (by kernel_rfl) (by kernel_rfl) (by kernel_rfl) (by kernel_rfl) (fun _ _ _ h => h) (Or.inl ⟨by rfl, ?_⟩) hC0 ?_
    rotate_left
    · intro w hSw; (try dsimp only at hSw); obtain ⟨⟨z0, z1, z2⟩, ⟨z3, z4, z5⟩, z6, z7, z8⟩ := hSw; go_simp; (try with_reducible rfl)
    (try simp only [List.getElem_toArray, List.getElem_cons_succ, List.getElem_cons_zero])
    (try simp only [Act.put, List.setIfInBounds_toArray, List.set_cons_zero, List.set_cons_succ])
    refine wpTill_take (i := 1) (v := ?_) rfl (by kernel_rfl) (by kernel_rfl) (by kernel_rfl) (by kernel_rfl) (by kernel_rfl) (by kernel_rfl) (fun _ _ _ h => h) (Or.inl ⟨by rfl, ?_⟩) hC0 ?_
    rotate_left
    · intro w hSw; (try dsimp only at hSw); obtain ⟨⟨z0, z1, z2⟩, ⟨z3, z4, z5⟩, z6, z7, z8⟩ := hSw; go_simp; (try with_reducible rfl)
    (try simp only [List.getElem_toArray, List.getElem_cons_succ, List.getElem_cons_zero])
    (try simp only [Act.put, List.setIfInBounds_toArray, List.set_cons_zero, List.set_cons_succ])
    refine wpTill_take (i := 2) (v := ?_) rfl (by kernel_rfl) (by kernel_rfl) (by kernel_rfl) (by kernel_rfl) (by kernel_rfl) (by kernel_rfl) (fun _ _ _ h => h) (Or.inl ⟨by rfl, ?_⟩) hC0 ?_
    rotate_left
    · intro w hSw; (try dsimp only at hSw); obtain ⟨⟨z0, z1, z2⟩, ⟨z3, z4, z5⟩, z6, z7, z8⟩ := hSw; go_simp; (try with_reducible rfl)
    (try simp only [List.getElem_toArray, List.getElem_cons_succ, List.getElem_cons_zero])
    (try simp only [Act.put, List.setIfInBounds_toArray, List.set_cons_zero, List.set_cons_succ])
    refine wpTill_take (i := 3) (v := ?_) rfl (by kernel_rfl) (by kernel_rfl) (by kernel_rfl) (by kernel_rfl) (by kernel_rfl) (by kernel_rfl) (fun _ _ _ h => h) (Or.inl ⟨by rfl, ?_⟩) hC0 ?_
    rotate_left
    · intro w hSw; (try dsimp only at hSw); obtain ⟨⟨z0, z1, z2⟩, ⟨z3, z4, z5⟩, z6, z7, z8⟩ := hSw; go_simp; (try with_reducible rfl)
    (try simp only [List.getElem_toArray, List.getElem_cons_succ, List.getElem_cons_zero])
    (try simp only [Act.put, List.setIfInBounds_toArray, List.set_cons_zero, List.set_cons_succ])
    refine wpTill_one (k := 4) (by kernel_rfl) rfl (fun K hK => ?_)
    (try simp only [List.getElem_toArray, List.getElem_cons_succ, List.getElem_cons_zero])
    go_simp
    refine (unhide HMU _ bd0).mono ?_
    rintro e xw_1 ⟨xv_1, rfl, hv_1, hb_1⟩
    have cc_1 := below_step bd0 hb_1
    have hC_1 : (fun w' : World => (w'.cell? ⟨bv, 0, none⟩ = some (.bool tv.s) ∧ w'.cell? ⟨bv, 1, none⟩ = some (.slice tv.a1 tv.n1 tv.c1) ∧ w'.cell? ⟨bv, 2, none⟩ = some (.slice tv.a2 tv.n2 tv.c2)) ∧ (w'.cell? ⟨bt, 0, none⟩ = some (.bool tt.s) ∧ w'.cell? ⟨bt, 1, none⟩ = some (.slice tt.a1 tt.n1 tt.c1) ∧ w'.cell? ⟨bt, 2, none⟩ = some (.slice tt.a2 tt.n2 tt.c2)) ∧ (w'.cell? ⟨bl, 0, none⟩ = some (.bool t.s) ∧ w'.cell? ⟨bl, 1, none⟩ = some (.slice t.a1 t.n1 t.c1) ∧ w'.cell? ⟨bl, 2, none⟩ = some (.slice t.a2 t.n2 t.c2))) xw_1 := unhide HCC _ cc_1
    refine hK.out _ _ (fun _ => hC_1) ?_
    clear hK K
    (try simp only [Act.put, List.setIfInBounds_toArray, List.set_cons_zero, List.set_cons_succ])
    obtain ⟨tm, rfl, rm⟩ := tri_of hv_1
    simp only [Tri.val]
    refine wpTill_pure (i := 5) (v := ?_) rfl (by kernel_rfl) (by kernel_rfl) (by kernel_rfl) (by kernel_rfl) (fun _ _ _ h => h) (Or.inl ⟨by rfl, ?_⟩) (fun _ => hC_1) ?_
    rotate_left
    · intro w hSw; clear hSw; go_simp; (try with_reducible rfl)
    (try simp only [List.getElem_toArray, List.getElem_cons_succ, List.getElem_cons_zero])
    (try simp only [Act.put, List.setIfInBounds_toArray, List.set_cons_zero, List.set_cons_succ])
    have Y := (unhide HQ_22).keep cc_1
    have FQ := Y.set tv tt tm
    have R1 := Y.rat tv tt tm ((unhide HX_bv_22).2.below cc_1)
    have R2 := Y.rat tv tt tm ((unhide HX_bt_21).2.below cc_1)
    have R3 := Y.rat tv tt tm rm
    have FB := QB.bl tv tt tm (below_step (unhide HB_22) cc_1) (unhide HG_q)
    have ⟨⟨y0, y1, y2⟩, ⟨y3, y4, y5⟩, y6, y7, y8⟩ := Y.cells
    have l0 := Y.free 0
    have l1 := Y.free 1
    have l2 := Y.free 2
    have l3 := Y.free 3
    have l4 := Y.free 4
    have l5 := Y.free 5
    have l6 := Y.free 6
    have l7 := Y.free 7
    have l8 := Y.free 8
    obtain ⟨Wf, hWf⟩ : ∃ W, putQ xw_1 bq tv tt tm = W := ⟨_, rfl⟩
    rw [hWf] at FQ R1 R2 R3 FB
    unfold putQ at hWf
    have HFQ := hide FQ
    have HR1 := hide R1
    have HR2 := hide R2
    have HR3 := hide R3
    have HFB := hide FB
    clear Y FQ R1 R2 R3 FB rm hv_1 hb_1
    refine wpTill_one (k := 6) (by kernel_rfl) rfl (fun K hK => ?_)
    (try simp only [List.getElem_toArray, List.getElem_cons_succ, List.getElem_cons_zero])
    go_simp
    refine hK.out _ _ (fun h => absurd (h.symm.trans (by kernel_rfl)) Bool.false_ne_true) ?_
    clear hK K
    (try simp only [Act.put, List.setIfInBounds_toArray, List.set_cons_zero, List.set_cons_succ])
    refine wpTill_one (k := 7) (by kernel_rfl) rfl (fun K hK => ?_)
    (try simp only [List.getElem_toArray, List.getElem_cons_succ, List.getElem_cons_zero])
    go_simp
    refine hK.out _ _ (fun h => absurd (h.symm.trans (by kernel_rfl)) Bool.false_ne_true) ?_
    clear hK K
    (try simp only [Act.put, List.setIfInBounds_toArray, List.set_cons_zero, List.set_cons_succ])
    refine wpTill_done (by kernel_rfl) ?_ _
    clear l0 l1 l2 l3 l4 l5 l6 l7 l8 y0 y1 y2 y3 y4 y5 y6 y7 y8 hWf hC0 hC_1 cc_1 bd0
    have ⟨⟨x0, x1, x2⟩, ⟨x3, x4, x5⟩, x6, x7, x8⟩ := (unhide HFQ).cells
    go_wp2
    exact bodyPost_ret (v := .tuple #[.agg #[.bool tv.s, .slice tv.a1 tv.n1 tv.c1, .slice tv.a2 tv.n2 tv.c2, .bool tt.s, .slice tt.a1 tt.n1 tt.c1, .slice tt.a2 tt.n2 tt.c2, .bool tm.s, .slice tm.a1 tm.n1 tm.c1, .slice tm.a2 tm.n2 tm.c2], .nilIface]) (by simp [results, Tryd.results18, go_sem, x0, x1, x2, x3, x4, x5, x6, x7, x8]) rfl ⟨_, _, _, rfl, unhide HR1, unhide HR2, unhide HR3, unhide HFB⟩
end Go.Proofs.YtigilnkcjblhcaaDoor
