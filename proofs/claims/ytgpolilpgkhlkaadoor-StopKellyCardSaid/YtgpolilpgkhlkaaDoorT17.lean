/- foresightkeep's stopped. -/
import Derived.Test.YtgpolilpgkhlkaaDoorT14
namespace Go.Proofs.YtgpolilpgkhlkaaDoor
open Go.RowKit Go.Sort Go.Shelf

theorem law_two {w : World} {g : Nat} {ta tb : Tri} {qa qb : Rat} (h : w.heap[g]? = some (.cells #[.bool ta.s, .slice ta.a1 ta.n1 ta.c1, .slice ta.a2 ta.n2 ta.c2, .bool tb.s, .slice tb.a1 tb.n1 tb.c1, .slice tb.a2 tb.n2 tb.c2] 35)) (ra : RatIs w ta.val qa) (rb : RatIs w tb.val qb) : LawIs w (.slice (some ⟨g, 0, none⟩) 2 2) [qa, qb] := by
  refine ⟨_, 2, rfl, Nat.le_refl _, by decide, fun _ => ⟨g, 0, rfl, (Array.getElem?_eq_some_iff.1 h).1, fun j hj => ?_⟩⟩
  match j, hj with
  | 0, _ => exact ⟨ta.s, ta.a1, ta.a2, ta.n1, ta.c1, ta.n2, ta.c2, by simp [World.cell?, h], by simp [World.cell?, h], by simp [World.cell?, h], ra⟩
  | 1, _ => exact ⟨tb.s, tb.a1, tb.a2, tb.n1, tb.c1, tb.n2, tb.c2, by simp [World.cell?, h], by simp [World.cell?, h], by simp [World.cell?, h], rb⟩
theorem rows_two {w : World} {g a b : Nat} {ka kb : List Rat} (h : w.heap[g]? = some (.cells #[.slice (some ⟨a, 0, none⟩) 2 2, .slice (some ⟨b, 0, none⟩) 2 2] 31)) (ra : LawIs w (.slice (some ⟨a, 0, none⟩) 2 2) ka) (rb : LawIs w (.slice (some ⟨b, 0, none⟩) 2 2) kb) : RowsAre w (.slice (some ⟨g, 0, none⟩) 2 2) [ka, kb] := by
  refine ⟨_, 2, rfl, Nat.le_refl _, by decide, fun _ => ⟨g, 0, rfl, (Array.getElem?_eq_some_iff.1 h).1, fun j hj => ?_⟩⟩
  match j, hj with
  | 0, _ => exact ⟨(some ⟨a, 0, none⟩, 2, 2), by simp [World.cell?, h], ra⟩
  | 1, _ => exact ⟨(some ⟨b, 0, none⟩, 2, 2), by simp [World.cell?, h], rb⟩
theorem stp_chk : chk [((0 : Int) : Rat), ((1 : Int) : Rat)] = 0 := by
  unfold chk
  have b : ¬ ∃ j, j < [((0 : Int) : Rat), ((1 : Int) : Rat)].length ∧ ([((0 : Int) : Rat), ((1 : Int) : Rat)][j]!).num < 0 := fun ⟨j, hj, h⟩ => by
    have hj : j < 2 := hj
    match j, hj with
    | 0, _ => exact absurd h (by decide)
    | 1, _ => exact absurd h (by decide)
  have c : qsum [((0 : Int) : Rat), ((1 : Int) : Rat)] [((0 : Int) : Rat), ((1 : Int) : Rat)].length = 1 := by
    show (0 : Rat) + ((0 : Int) : Rat) + ((1 : Int) : Rat) = 1
    decide +kernel
  rw [if_neg (by decide), if_neg b, if_pos c]
theorem stp_code : ccode [[((0 : Int) : Rat), ((1 : Int) : Rat)], [((0 : Int) : Rat), ((1 : Int) : Rat)]] [((1 : Int) : Rat), ((5 : Int) : Rat)] = 0 := by
  have h2 : shc 2 [((0 : Int) : Rat), ((1 : Int) : Rat)] = 0 := by
    unfold shc
    have h0 : [((0 : Int) : Rat), ((1 : Int) : Rat)].length = 2 := rfl
    rw [if_pos h0, stp_chk]
  unfold ccode
  have h1 : ([((1 : Int) : Rat), ((5 : Int) : Rat)] : List Rat).length = ([[((0 : Int) : Rat), ((1 : Int) : Rat)], [((0 : Int) : Rat), ((1 : Int) : Rat)]] : List (List Rat)).length := rfl
  rw [if_pos ⟨by decide, by decide⟩, if_pos h1]
  show (if (if rcd 2 [[((0 : Int) : Rat), ((1 : Int) : Rat)], [((0 : Int) : Rat), ((1 : Int) : Rat)]] 0 = 0 then shc 2 [((0 : Int) : Rat), ((1 : Int) : Rat)] else _) = 0 then shc 2 [((0 : Int) : Rat), ((1 : Int) : Rat)] else _) = 0
  have h3 : rcd 2 [[((0 : Int) : Rat), ((1 : Int) : Rat)], [((0 : Int) : Rat), ((1 : Int) : Rat)]] 0 = 0 := rfl
  rw [if_pos h3, h2, if_pos rfl]
theorem stp_sm : SmC [[((0 : Int) : Rat), ((1 : Int) : Rat)], [((0 : Int) : Rat), ((1 : Int) : Rat)]] [((1 : Int) : Rat), ((5 : Int) : Rat)] ((1 : Int) : Rat) := by
  refine ⟨⟨by decide, by decide⟩, by decide, fun i hi => ?_, fun i k hi hk => ?_, by decide, fun i hi => ?_⟩
  · have hi : i < 2 := hi
    match i, hi with
    | 0, _ => decide
    | 1, _ => decide
  · have hi : i < 2 := hi
    match i, hi with
    | 0, _ =>
      have hk : k < 2 := hk
      match k, hk with
      | 0, _ => exact ⟨by decide, by decide⟩
      | 1, _ => exact ⟨by decide, by decide⟩
    | 1, _ =>
      have hk : k < 2 := hk
      match k, hk with
      | 0, _ => exact ⟨by decide, by decide⟩
      | 1, _ => exact ⟨by decide, by decide⟩
  · have hi : i < 2 := hi
    match i, hi with
    | 0, _ => exact ⟨by decide, by decide⟩
    | 1, _ => exact ⟨by decide, by decide⟩
theorem stp_four : Stp.env (chn [[((0 : Int) : Rat), ((1 : Int) : Rat)], [((0 : Int) : Rat), ((1 : Int) : Rat)]] [((1 : Int) : Rat), ((5 : Int) : Rat)] ((1 : Int) : Rat)) 1 0 = 4 := by decide +kernel
theorem stp_text : qtext 4 = [52] := by decide +kernel

set_option maxHeartbeats 16000000 in
set_option maxRecDepth 100000 in
set_option linter.unusedSimpArgs false in
theorem stopped_any (w : World) (htab : Tab w) : Calls Tryd.prog 11 #[] w fun e w' => e = .returned (.bool true) ∧ Below w.heap.size w w' := by
  have KKe : KK = 1099511627776 := rfl
  have HTB := hide htab
  clear htab
  go_enter Tryd.func11, Tryd.ntmps11
  go_wp2_with fail
  refine (whole_any 0 (by decide) (by decide) w).mono ?_
  rintro e w1 ⟨v1, rfl, hv1, hb1⟩
  obtain ⟨ta, rfl, r_ta⟩ := tri_of hv1
  simp only [Tri.val]
  have HB := hide hb1
  have R_ta := hide r_ta
  clear hv1 hb1 r_ta
  go_wp2_with fail
  refine (whole_any 1 (by decide) (by decide) w1).mono ?_
  rintro e w2 ⟨v2, rfl, hv2, hb2⟩
  obtain ⟨tb, rfl, r_tb⟩ := tri_of hv2
  simp only [Tri.val]
  replace HB := hide (below_step (unhide HB) hb2)
  replace R_ta := hide ((unhide R_ta).below hb2)
  have R_tb := hide r_tb
  clear hv2 hb2 r_tb
  have ba := alloc_below w2 (.cells #[.bool ta.s, .slice ta.a1 ta.n1 ta.c1, .slice ta.a2 ta.n2 ta.c2, .bool tb.s, .slice tb.a1 tb.n1 tb.c1, .slice tb.a2 tb.n2 tb.c2] 35)
  have na := heap_alloc_new w2 (.cells #[.bool ta.s, .slice ta.a1 ta.n1 ta.c1, .slice ta.a2 ta.n2 ta.c2, .bool tb.s, .slice tb.a1 tb.n1 tb.c1, .slice tb.a2 tb.n2 tb.c2] 35)
  obtain ⟨W3, hW3⟩ : ∃ W, w2.alloc (.cells #[.bool ta.s, .slice ta.a1 ta.n1 ta.c1, .slice ta.a2 ta.n2 ta.c2, .bool tb.s, .slice tb.a1 tb.n1 tb.c1, .slice tb.a2 tb.n2 tb.c2] 35) = W := ⟨_, rfl⟩
  obtain ⟨g2, hg2⟩ : ∃ g, w2.heap.size = g := ⟨_, rfl⟩
  rw [hW3] at ba na
  rw [hg2] at na
  replace HB := hide (below_step (unhide HB) ba)
  replace R_ta := hide ((unhide R_ta).below ba)
  replace R_tb := hide ((unhide R_tb).below ba)
  have L2 := hide (law_two na (unhide R_ta) (unhide R_tb))
  clear ba na
  go_wp2_with fail
  clear hW3 hg2
  refine (whole_any 0 (by decide) (by decide) W3).mono ?_
  rintro e w4 ⟨v4, rfl, hv4, hb4⟩
  obtain ⟨tc, rfl, r_tc⟩ := tri_of hv4
  simp only [Tri.val]
  replace HB := hide (below_step (unhide HB) hb4)
  replace L2 := hide ((unhide L2).below hb4)
  have R_tc := hide r_tc
  clear hv4 hb4 r_tc
  go_wp2_with fail
  refine (whole_any 1 (by decide) (by decide) w4).mono ?_
  rintro e w5 ⟨v5, rfl, hv5, hb5⟩
  obtain ⟨td, rfl, r_td⟩ := tri_of hv5
  simp only [Tri.val]
  replace HB := hide (below_step (unhide HB) hb5)
  replace L2 := hide ((unhide L2).below hb5)
  replace R_tc := hide ((unhide R_tc).below hb5)
  have R_td := hide r_td
  clear hv5 hb5 r_td
  have ba := alloc_below w5 (.cells #[.bool tc.s, .slice tc.a1 tc.n1 tc.c1, .slice tc.a2 tc.n2 tc.c2, .bool td.s, .slice td.a1 td.n1 td.c1, .slice td.a2 td.n2 td.c2] 35)
  have na := heap_alloc_new w5 (.cells #[.bool tc.s, .slice tc.a1 tc.n1 tc.c1, .slice tc.a2 tc.n2 tc.c2, .bool td.s, .slice td.a1 td.n1 td.c1, .slice td.a2 td.n2 td.c2] 35)
  obtain ⟨W6, hW6⟩ : ∃ W, w5.alloc (.cells #[.bool tc.s, .slice tc.a1 tc.n1 tc.c1, .slice tc.a2 tc.n2 tc.c2, .bool td.s, .slice td.a1 td.n1 td.c1, .slice td.a2 td.n2 td.c2] 35) = W := ⟨_, rfl⟩
  obtain ⟨g4, hg4⟩ : ∃ g, w5.heap.size = g := ⟨_, rfl⟩
  rw [hW6] at ba na
  rw [hg4] at na
  replace HB := hide (below_step (unhide HB) ba)
  replace L2 := hide ((unhide L2).below ba)
  replace R_tc := hide ((unhide R_tc).below ba)
  replace R_td := hide ((unhide R_td).below ba)
  have L4 := hide (law_two na (unhide R_tc) (unhide R_td))
  clear ba na
  have ba := alloc_below W6 (.cells #[.slice (some ⟨g2, 0, none⟩) 2 2, .slice (some ⟨g4, 0, none⟩) 2 2] 31)
  have na := heap_alloc_new W6 (.cells #[.slice (some ⟨g2, 0, none⟩) 2 2, .slice (some ⟨g4, 0, none⟩) 2 2] 31)
  obtain ⟨W7, hW7⟩ : ∃ W, W6.alloc (.cells #[.slice (some ⟨g2, 0, none⟩) 2 2, .slice (some ⟨g4, 0, none⟩) 2 2] 31) = W := ⟨_, rfl⟩
  obtain ⟨g5, hg5⟩ : ∃ g, W6.heap.size = g := ⟨_, rfl⟩
  rw [hW7] at ba na
  rw [hg5] at na
  replace HB := hide (below_step (unhide HB) ba)
  replace L2 := hide ((unhide L2).below ba)
  replace L4 := hide ((unhide L4).below ba)
  have L5 := hide (rows_two na (unhide L2) (unhide L4))
  clear ba na
  go_wp2_with fail
  clear hW6 hg4 hW7 hg5
  refine (whole_any 1 (by decide) (by decide) W7).mono ?_
  rintro e w8 ⟨v8, rfl, hv8, hb8⟩
  obtain ⟨te, rfl, r_te⟩ := tri_of hv8
  simp only [Tri.val]
  replace HB := hide (below_step (unhide HB) hb8)
  replace L5 := hide ((unhide L5).below hb8)
  have R_te := hide r_te
  clear hv8 hb8 r_te
  go_wp2_with fail
  refine (whole_any 5 (by decide) (by decide) w8).mono ?_
  rintro e w9 ⟨v9, rfl, hv9, hb9⟩
  obtain ⟨tf, rfl, r_tf⟩ := tri_of hv9
  simp only [Tri.val]
  replace HB := hide (below_step (unhide HB) hb9)
  replace L5 := hide ((unhide L5).below hb9)
  replace R_te := hide ((unhide R_te).below hb9)
  have R_tf := hide r_tf
  clear hv9 hb9 r_tf
  have ba := alloc_below w9 (.cells #[.bool te.s, .slice te.a1 te.n1 te.c1, .slice te.a2 te.n2 te.c2, .bool tf.s, .slice tf.a1 tf.n1 tf.c1, .slice tf.a2 tf.n2 tf.c2] 35)
  have na := heap_alloc_new w9 (.cells #[.bool te.s, .slice te.a1 te.n1 te.c1, .slice te.a2 te.n2 te.c2, .bool tf.s, .slice tf.a1 tf.n1 tf.c1, .slice tf.a2 tf.n2 tf.c2] 35)
  obtain ⟨W10, hW10⟩ : ∃ W, w9.alloc (.cells #[.bool te.s, .slice te.a1 te.n1 te.c1, .slice te.a2 te.n2 te.c2, .bool tf.s, .slice tf.a1 tf.n1 tf.c1, .slice tf.a2 tf.n2 tf.c2] 35) = W := ⟨_, rfl⟩
  obtain ⟨g7, hg7⟩ : ∃ g, w9.heap.size = g := ⟨_, rfl⟩
  rw [hW10] at ba na
  rw [hg7] at na
  replace HB := hide (below_step (unhide HB) ba)
  replace L5 := hide ((unhide L5).below ba)
  replace R_te := hide ((unhide R_te).below ba)
  replace R_tf := hide ((unhide R_tf).below ba)
  have L7 := hide (law_two na (unhide R_te) (unhide R_tf))
  clear ba na
  go_wp2_with fail
  clear hW10 hg7
  refine (whole_any 1 (by decide) (by decide) W10).mono ?_
  rintro e w11 ⟨v11, rfl, hv11, hb11⟩
  obtain ⟨tg, rfl, r_tg⟩ := tri_of hv11
  simp only [Tri.val]
  replace HB := hide (below_step (unhide HB) hb11)
  replace L5 := hide ((unhide L5).below hb11)
  replace L7 := hide ((unhide L7).below hb11)
  have R_tg := hide r_tg
  clear hv11 hb11 r_tg
  have ba := alloc_below w11 (.cells #[.slice (some ⟨g5, 0, none⟩) 2 2, .slice (some ⟨g7, 0, none⟩) 2 2, .bool tg.s, .slice tg.a1 tg.n1 tg.c1, .slice tg.a2 tg.n2 tg.c2] 37)
  have na := heap_alloc_new w11 (.cells #[.slice (some ⟨g5, 0, none⟩) 2 2, .slice (some ⟨g7, 0, none⟩) 2 2, .bool tg.s, .slice tg.a1 tg.n1 tg.c1, .slice tg.a2 tg.n2 tg.c2] 37)
  obtain ⟨W12, hW12⟩ : ∃ W, w11.alloc (.cells #[.slice (some ⟨g5, 0, none⟩) 2 2, .slice (some ⟨g7, 0, none⟩) 2 2, .bool tg.s, .slice tg.a1 tg.n1 tg.c1, .slice tg.a2 tg.n2 tg.c2] 37) = W := ⟨_, rfl⟩
  obtain ⟨g8, hg8⟩ : ∃ g, w11.heap.size = g := ⟨_, rfl⟩
  rw [hW12] at ba na
  rw [hg8] at na
  replace HB := hide (below_step (unhide HB) ba)
  replace L5 := hide ((unhide L5).below ba)
  replace L7 := hide ((unhide L7).below ba)
  replace R_tg := hide ((unhide R_tg).below ba)
  clear ba
  have k0 : W12.cell? ⟨g8, 0, none⟩ = some (.slice (some ⟨g5, 0, none⟩) 2 2) := by simp [World.cell?, na]
  have k1 : W12.cell? ⟨g8, 1, none⟩ = some (.slice (some ⟨g7, 0, none⟩) 2 2) := by simp [World.cell?, na]
  have k2 : W12.cell? ⟨g8, 2, none⟩ = some (.bool tg.s) := by simp [World.cell?, na]
  have k3 : W12.cell? ⟨g8, 3, none⟩ = some (.slice tg.a1 tg.n1 tg.c1) := by simp [World.cell?, na]
  have k4 : W12.cell? ⟨g8, 4, none⟩ = some (.slice tg.a2 tg.n2 tg.c2) := by simp [World.cell?, na]
  have HEV := hide (Envelope_any (cval (some ⟨g5, 0, none⟩, 2, 2) (some ⟨g7, 0, none⟩, 2, 2) tg) [[((0 : Int) : Rat), ((1 : Int) : Rat)], [((0 : Int) : Rat), ((1 : Int) : Rat)]] [((1 : Int) : Rat), ((5 : Int) : Rat)] ((1 : Int) : Rat) 1 W12 ⟨_, _, tg, rfl, unhide L5, unhide L7, unhide R_tg⟩ stp_sm (by decide))
  unfold cval at HEV
  clear na L2 L4 L5 L7 R_ta R_tb R_tc R_td R_te R_tf R_tg
  go_wp2_with fail
  clear hW12 hg8 k0 k1 k2 k3 k4
  refine (unhide HEV).mono ?_
  rintro e w20 (⟨-, -, v20, rfl, hv20, hb20⟩ | ⟨hc, -⟩)
  rotate_left
  · exact absurd stp_code hc
  have e1 : ([[((0 : Int) : Rat), ((1 : Int) : Rat)], [((0 : Int) : Rat), ((1 : Int) : Rat)]] : List (List Rat)).length = 2 := rfl
  rw [e1] at hv20
  obtain ⟨a20, c20, rfl, q1, q2, q3⟩ := hv20
  rw [emat_length] at q1 q3 ⊢
  obtain ⟨b20, o20, rfl, q4, q5⟩ := q3 (by decide)
  obtain ⟨l1, u0, hl1⟩ := q5 1 (by decide)
  rw [emat_get (by decide)] at hl1
  have hln := law_len hl1
  rw [row_length] at hln
  rw [hln] at u0
  obtain ⟨a1, c1, er, _, _, r3⟩ := hl1
  obtain ⟨b1, o1, eb, hb1l, hc1⟩ := r3 (by rw [row_length]; decide)
  obtain ⟨xs_, xp1, xp2, xn1, xd1, xn2, xd2, xk0, xk1, xk2, xr⟩ := hc1 0 (by rw [row_length]; decide)
  obtain ⟨tv, rfl, rfl, rfl, rfl, rfl, rfl, rfl⟩ : ∃ t : Tri, xs_ = t.s ∧ xp1 = t.a1 ∧ xp2 = t.a2 ∧ xn1 = t.n1 ∧ xd1 = t.c1 ∧ xn2 = t.n2 ∧ xd2 = t.c2 := ⟨⟨xs_, xp1, xp2, xn1, xd1, xn2, xd2⟩, rfl, rfl, rfl, rfl, rfl, rfl, rfl⟩
  rw [row_get (by decide), stp_four] at xr
  have xk0 : w20.cell? ⟨b1, o1, none⟩ = some (.bool tv.s) := xk0
  have xk1 : w20.cell? ⟨b1, o1 + 1, none⟩ = some (.slice tv.a1 tv.n1 tv.c1) := by rw [show o1 + 1 = o1 + 0 * 3 + 1 by omega]; exact xk1
  have xk2 : w20.cell? ⟨b1, o1 + 2, none⟩ = some (.slice tv.a2 tv.n2 tv.c2) := by rw [show o1 + 2 = o1 + 0 * 3 + 2 by omega]; exact xk2
  have ea : l1.a = some ⟨b1, o1, none⟩ := by injection er with e1; rw [e1, eb]
  rw [ea] at u0
  have HB2 := hide (below_step (unhide HB) hb20)
  have HTX := hide (textR_any tv.val 4 w20 xr 1 ⟨by decide, by decide⟩ (by rw [KKe]; omega) (tab_below (unhide HTB) (unhide HB2)))
  rw [stp_text] at HTX
  have xr' := xr
  clear hb20 q3 q5 r3 hc1 er eb hln HEV e1 ea xr xr' HB
  go_wp2_with fail
  refine (unhide HTX).mono ?_
  rintro e w21 ⟨rfl, hb21⟩
  have HB3 := hide (below_step (unhide HB2) hb21)
  clear hb21 xk0 xk1 xk2 u0
  go_wp2
  go_ret
  exact ⟨rfl, unhide HB3⟩

end Go.Proofs.YtgpolilpgkhlkaaDoor
