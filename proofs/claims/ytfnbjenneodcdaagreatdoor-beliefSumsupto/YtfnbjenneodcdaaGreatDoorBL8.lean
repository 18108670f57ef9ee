/- foresightkeep's sure. -/
import Derived.Test.YtfnbjenneodcdaaGreatDoorBL6
import Derived.Test.YtfnbjenneodcdaaGreatDoorB4
namespace Go.Proofs.YtfnbjenneodcdaaGreatDoor
open Go.RowKit Go.Sort Go.Shelf

def sf_ (i : Nat) : Int := if i = 0 then 1 else 0
theorem sur_chk : chk [(Rat.divInt 1 2), (Rat.divInt 1 2)] = 0 := by
  unfold chk
  have b : ¬ ∃ j, j < ([(Rat.divInt 1 2), (Rat.divInt 1 2)] : List Rat).length ∧ (([(Rat.divInt 1 2), (Rat.divInt 1 2)] : List Rat)[j]!).num < 0 := fun ⟨j, hj, h⟩ => by
    have hj : j < 2 := hj
    match j, hj with
    | 0, _ => exact absurd h (by decide +kernel)
    | 1, _ => exact absurd h (by decide +kernel)
  have c : qsum [(Rat.divInt 1 2), (Rat.divInt 1 2)] ([(Rat.divInt 1 2), (Rat.divInt 1 2)] : List Rat).length = 1 := by decide +kernel
  rw [if_neg (by decide), if_neg b, if_pos c]
theorem sur_chk1 : chk [((1 : Int) : Rat), ((0 : Int) : Rat)] = 0 := by
  unfold chk
  have b : ¬ ∃ j, j < ([((1 : Int) : Rat), ((0 : Int) : Rat)] : List Rat).length ∧ (([((1 : Int) : Rat), ((0 : Int) : Rat)] : List Rat)[j]!).num < 0 := fun ⟨j, hj, h⟩ => by
    have hj : j < 2 := hj
    match j, hj with
    | 0, _ => exact absurd h (by decide +kernel)
    | 1, _ => exact absurd h (by decide +kernel)
  have c : qsum [((1 : Int) : Rat), ((0 : Int) : Rat)] ([((1 : Int) : Rat), ((0 : Int) : Rat)] : List Rat).length = 1 := by decide +kernel
  rw [if_neg (by decide), if_neg b, if_pos c]
theorem sur_chk2 : chk [((0 : Int) : Rat), ((1 : Int) : Rat)] = 0 := by
  unfold chk
  have b : ¬ ∃ j, j < ([((0 : Int) : Rat), ((1 : Int) : Rat)] : List Rat).length ∧ (([((0 : Int) : Rat), ((1 : Int) : Rat)] : List Rat)[j]!).num < 0 := fun ⟨j, hj, h⟩ => by
    have hj : j < 2 := hj
    match j, hj with
    | 0, _ => exact absurd h (by decide +kernel)
    | 1, _ => exact absurd h (by decide +kernel)
  have c : qsum [((0 : Int) : Rat), ((1 : Int) : Rat)] ([((0 : Int) : Rat), ((1 : Int) : Rat)] : List Rat).length = 1 := by decide +kernel
  rw [if_neg (by decide), if_neg b, if_pos c]
theorem shc_two {a b : Rat} (h : chk [a, b] = 0) : shc 2 [a, b] = 0 := by
  unfold shc
  rw [if_pos (show [a, b].length = 2 from rfl), h]
theorem sur_code : hcode [(Rat.divInt 1 2), (Rat.divInt 1 2)] [[(Rat.divInt 1 2), (Rat.divInt 1 2)], [(Rat.divInt 1 2), (Rat.divInt 1 2)]] [[((1 : Int) : Rat), ((0 : Int) : Rat)], [((0 : Int) : Rat), ((1 : Int) : Rat)]] = 0 := by
  unfold hcode
  have h1 : ([[(Rat.divInt 1 2), (Rat.divInt 1 2)], [(Rat.divInt 1 2), (Rat.divInt 1 2)]] : List (List Rat)).length = ([(Rat.divInt 1 2), (Rat.divInt 1 2)] : List Rat).length ∧ ([[((1 : Int) : Rat), ((0 : Int) : Rat)], [((0 : Int) : Rat), ((1 : Int) : Rat)]] : List (List Rat)).length = ([(Rat.divInt 1 2), (Rat.divInt 1 2)] : List Rat).length := ⟨rfl, rfl⟩
  rw [if_pos ⟨by decide, by decide⟩, if_pos h1]
  have e0 : shc ([(Rat.divInt 1 2), (Rat.divInt 1 2)] : List Rat).length [(Rat.divInt 1 2), (Rat.divInt 1 2)] = 0 := shc_two sur_chk
  rw [if_pos e0]
  have s0 : hst 2 [[(Rat.divInt 1 2), (Rat.divInt 1 2)], [(Rat.divInt 1 2), (Rat.divInt 1 2)]] [[((1 : Int) : Rat), ((0 : Int) : Rat)], [((0 : Int) : Rat), ((1 : Int) : Rat)]] 0 = 0 := by
    unfold hst
    have a : shc 2 (([[(Rat.divInt 1 2), (Rat.divInt 1 2)], [(Rat.divInt 1 2), (Rat.divInt 1 2)]] : List (List Rat))[0]!) = 0 := shc_two sur_chk
    rw [if_pos a, if_pos ⟨by decide, by decide⟩]
    exact shc_two sur_chk1
  have s1 : hst 2 [[(Rat.divInt 1 2), (Rat.divInt 1 2)], [(Rat.divInt 1 2), (Rat.divInt 1 2)]] [[((1 : Int) : Rat), ((0 : Int) : Rat)], [((0 : Int) : Rat), ((1 : Int) : Rat)]] 1 = 0 := by
    unfold hst
    have a : shc 2 (([[(Rat.divInt 1 2), (Rat.divInt 1 2)], [(Rat.divInt 1 2), (Rat.divInt 1 2)]] : List (List Rat))[1]!) = 0 := shc_two sur_chk
    rw [if_pos a, if_pos ⟨by decide, by decide⟩]
    exact shc_two sur_chk2
  show (if (if hcd 2 [[(Rat.divInt 1 2), (Rat.divInt 1 2)], [(Rat.divInt 1 2), (Rat.divInt 1 2)]] [[((1 : Int) : Rat), ((0 : Int) : Rat)], [((0 : Int) : Rat), ((1 : Int) : Rat)]] 0 = 0 then hst 2 [[(Rat.divInt 1 2), (Rat.divInt 1 2)], [(Rat.divInt 1 2), (Rat.divInt 1 2)]] [[((1 : Int) : Rat), ((0 : Int) : Rat)], [((0 : Int) : Rat), ((1 : Int) : Rat)]] 0 else _) = 0 then hst 2 [[(Rat.divInt 1 2), (Rat.divInt 1 2)], [(Rat.divInt 1 2), (Rat.divInt 1 2)]] [[((1 : Int) : Rat), ((0 : Int) : Rat)], [((0 : Int) : Rat), ((1 : Int) : Rat)]] 1 else _) = 0
  have h3 : hcd 2 [[(Rat.divInt 1 2), (Rat.divInt 1 2)], [(Rat.divInt 1 2), (Rat.divInt 1 2)]] [[((1 : Int) : Rat), ((0 : Int) : Rat)], [((0 : Int) : Rat), ((1 : Int) : Rat)]] 0 = 0 := rfl
  rw [if_pos h3, s0, if_pos rfl, s1]
theorem sur_scode : scode [(Rat.divInt 1 2), (Rat.divInt 1 2)] [[(Rat.divInt 1 2), (Rat.divInt 1 2)], [(Rat.divInt 1 2), (Rat.divInt 1 2)]] [[((1 : Int) : Rat), ((0 : Int) : Rat)], [((0 : Int) : Rat), ((1 : Int) : Rat)]] 2 sf_ = 0 := by
  unfold scode
  rw [if_pos sur_code, if_pos (by decide)]
  have : anyS (([[((1 : Int) : Rat), ((0 : Int) : Rat)], [((0 : Int) : Rat), ((1 : Int) : Rat)]] : List (List Rat))[0]!).length sf_ 2 = false := by decide +kernel
  rw [this]; rfl
theorem sur_sm : SmHm [(Rat.divInt 1 2), (Rat.divInt 1 2)] [[(Rat.divInt 1 2), (Rat.divInt 1 2)], [(Rat.divInt 1 2), (Rat.divInt 1 2)]] [[((1 : Int) : Rat), ((0 : Int) : Rat)], [((0 : Int) : Rat), ((1 : Int) : Rat)]] := by
  refine ⟨by decide, by decide, by decide, fun i hi => ?_, fun i hi => ?_, fun i hi => ?_, fun i k hi hk => ?_, fun i k hi hk => ?_⟩
  · have hi : i < 2 := hi
    match i, hi with
    | 0, _ => decide
    | 1, _ => decide
  · have hi : i < 2 := hi
    match i, hi with
    | 0, _ => decide
    | 1, _ => decide
  · have hi : i < 2 := hi
    match i, hi with
    | 0, _ => exact ⟨by decide +kernel, by decide +kernel⟩
    | 1, _ => exact ⟨by decide +kernel, by decide +kernel⟩
  · have hi : i < 2 := hi
    match i, hi with
    | 0, _ =>
      have hk : k < 2 := hk
      match k, hk with
      | 0, _ => exact ⟨by decide +kernel, by decide +kernel⟩
      | 1, _ => exact ⟨by decide +kernel, by decide +kernel⟩
    | 1, _ =>
      have hk : k < 2 := hk
      match k, hk with
      | 0, _ => exact ⟨by decide +kernel, by decide +kernel⟩
      | 1, _ => exact ⟨by decide +kernel, by decide +kernel⟩
  · have hi : i < 2 := hi
    match i, hi with
    | 0, _ =>
      have hk : k < 2 := hk
      match k, hk with
      | 0, _ => exact ⟨by decide +kernel, by decide +kernel⟩
      | 1, _ => exact ⟨by decide +kernel, by decide +kernel⟩
    | 1, _ =>
      have hk : k < 2 := hk
      match k, hk with
      | 0, _ => exact ⟨by decide +kernel, by decide +kernel⟩
      | 1, _ => exact ⟨by decide +kernel, by decide +kernel⟩
theorem sur_row : ∀ i, i < 2 → Blf.vst (hm [(Rat.divInt 1 2), (Rat.divInt 1 2)] [[(Rat.divInt 1 2), (Rat.divInt 1 2)], [(Rat.divInt 1 2), (Rat.divInt 1 2)]] [[((1 : Int) : Rat), ((0 : Int) : Rat)], [((0 : Int) : Rat), ((1 : Int) : Rat)]]) (sOf sf_) 2 i = (if i = 0 then 1 else 0) := fun i hi => by
  match i, hi with
  | 0, _ => decide +kernel
  | 1, _ => decide +kernel
theorem sur_pr : Blf.pr (hm [(Rat.divInt 1 2), (Rat.divInt 1 2)] [[(Rat.divInt 1 2), (Rat.divInt 1 2)], [(Rat.divInt 1 2), (Rat.divInt 1 2)]] [[((1 : Int) : Rat), ((0 : Int) : Rat)], [((0 : Int) : Rat), ((1 : Int) : Rat)]]) (sOf sf_) (Blf.vst (hm [(Rat.divInt 1 2), (Rat.divInt 1 2)] [[(Rat.divInt 1 2), (Rat.divInt 1 2)], [(Rat.divInt 1 2), (Rat.divInt 1 2)]] [[((1 : Int) : Rat), ((0 : Int) : Rat)], [((0 : Int) : Rat), ((1 : Int) : Rat)]]) (sOf sf_) 2) 2 = Rat.divInt 1 4 := by decide +kernel
theorem sur_text : qtext (Rat.divInt 1 4) = [49, 47, 52] := by decide +kernel

set_option maxHeartbeats 16000000 in
set_option maxRecDepth 100000 in
set_option linter.unusedSimpArgs false in
theorem sure_any (w : World) (htab : Tab w) : Calls Tryz.prog 18 #[] w fun e w' => e = .returned (.bool true) ∧ Below w.heap.size w w' := by
  have KKe : KK = 1099511627776 := rfl
  have HTB := hide htab
  clear htab
  go_enter Tryz.func18, Tryz.ntmps18
  go_wp2_with fail
  refine (of_any 1 2 (by decide) (by decide) (by decide) (by decide) (by decide) w).mono ?_
  rintro e w1 ⟨v1, rfl, hv1, hb1⟩
  obtain ⟨th, rfl, r1⟩ := tri_of hv1
  simp only [Tri.val]
  have b1 := alloc_below w1 (.cells #[.bool th.s, .slice th.a1 th.n1 th.c1, .slice th.a2 th.n2 th.c2] 26)
  have X1 := BoxIs.new r1
  obtain ⟨W1, hW1⟩ : ∃ W, w1.alloc (.cells #[.bool th.s, .slice th.a1 th.n1 th.c1, .slice th.a2 th.n2 th.c2] 26) = W := ⟨_, rfl⟩
  obtain ⟨gh, hgh⟩ : ∃ g, w1.heap.size = g := ⟨_, rfl⟩
  rw [hW1] at b1 X1
  rw [hgh] at X1
  have HB := hide (below_step hb1 b1)
  have HXh := hide X1
  clear hv1 hb1 r1 b1 X1
  go_wp2_with fail
  clear hW1 hgh
  refine (whole_any 1 (by decide) (by decide) W1).mono ?_
  rintro e w2 ⟨v2, rfl, hv2, hb2⟩
  obtain ⟨t1, rfl, r1⟩ := tri_of hv2
  simp only [Tri.val]
  replace HB := hide (below_step (unhide HB) hb2)
  replace HXh := hide ((unhide HXh).keep hb2)
  have R1 := hide r1
  clear hv2 hb2 r1
  go_wp2_with fail
  refine (whole_any 0 (by decide) (by decide) w2).mono ?_
  rintro e w3 ⟨v3, rfl, hv3, hb3⟩
  obtain ⟨tz, rfl, rz⟩ := tri_of hv3
  simp only [Tri.val]
  replace HB := hide (below_step (unhide HB) hb3)
  replace HXh := hide ((unhide HXh).keep hb3)
  have r1 := (unhide R1).below hb3
  have b4 := alloc_below w3 (.cells #[.bool t1.s, .slice t1.a1 t1.n1 t1.c1, .slice t1.a2 t1.n2 t1.c2] 26)
  have X4 := BoxIs.new r1
  have b5 := alloc_below (w3.alloc (.cells #[.bool t1.s, .slice t1.a1 t1.n1 t1.c1, .slice t1.a2 t1.n2 t1.c2] 26)) (.cells #[.bool tz.s, .slice tz.a1 tz.n1 tz.c1, .slice tz.a2 tz.n2 tz.c2] 26)
  have X5 := BoxIs.new (rz.below b4)
  rw [alloc_size] at X5
  have X4' := X4.keep b5
  have b45 := below_step b4 b5
  obtain ⟨Wb, hWb⟩ : ∃ W, (w3.alloc (.cells #[.bool t1.s, .slice t1.a1 t1.n1 t1.c1, .slice t1.a2 t1.n2 t1.c2] 26)).alloc (.cells #[.bool tz.s, .slice tz.a1 tz.n1 tz.c1, .slice tz.a2 tz.n2 tz.c2] 26) = W := ⟨_, rfl⟩
  rw [hWb] at X5 X4' b45
  replace HB := hide (below_step (unhide HB) b45)
  replace HXh := hide ((unhide HXh).keep b45)
  have HX3 := hide X4'
  have HX4 := hide X5
  clear hv3 hb3 r1 rz b4 X4 X4' b5 b45 X5 R1
  have ⟨chWb0, chWb1, chWb2⟩ := (unhide HXh).cells _ (Below.refl _ _)
  have ba := alloc_below Wb (.cells #[.bool th.s, .slice th.a1 th.n1 th.c1, .slice th.a2 th.n2 th.c2, .bool th.s, .slice th.a1 th.n1 th.c1, .slice th.a2 th.n2 th.c2] 26)
  have na := heap_alloc_new Wb (.cells #[.bool th.s, .slice th.a1 th.n1 th.c1, .slice th.a2 th.n2 th.c2, .bool th.s, .slice th.a1 th.n1 th.c1, .slice th.a2 th.n2 th.c2] 26)
  obtain ⟨W5, hW5⟩ : ∃ W, Wb.alloc (.cells #[.bool th.s, .slice th.a1 th.n1 th.c1, .slice th.a2 th.n2 th.c2, .bool th.s, .slice th.a1 th.n1 th.c1, .slice th.a2 th.n2 th.c2] 26) = W := ⟨_, rfl⟩
  obtain ⟨gA, hgA⟩ : ∃ g, Wb.heap.size = g := ⟨_, rfl⟩
  rw [hW5] at ba na
  rw [hgA] at na
  replace HB := hide (below_step (unhide HB) ba)
  replace HXh := hide ((unhide HXh).keep ba)
  replace HX3 := hide ((unhide HX3).keep ba)
  replace HX4 := hide ((unhide HX4).keep ba)
  have LA := hide (law_two na (unhide HXh).2 (unhide HXh).2)
  clear ba na
  have ⟨chW50, chW51, chW52⟩ := (unhide HXh).cells _ (Below.refl _ _)
  have ba := alloc_below W5 (.cells #[.bool th.s, .slice th.a1 th.n1 th.c1, .slice th.a2 th.n2 th.c2, .bool th.s, .slice th.a1 th.n1 th.c1, .slice th.a2 th.n2 th.c2] 26)
  have na := heap_alloc_new W5 (.cells #[.bool th.s, .slice th.a1 th.n1 th.c1, .slice th.a2 th.n2 th.c2, .bool th.s, .slice th.a1 th.n1 th.c1, .slice th.a2 th.n2 th.c2] 26)
  obtain ⟨W6, hW6⟩ : ∃ W, W5.alloc (.cells #[.bool th.s, .slice th.a1 th.n1 th.c1, .slice th.a2 th.n2 th.c2, .bool th.s, .slice th.a1 th.n1 th.c1, .slice th.a2 th.n2 th.c2] 26) = W := ⟨_, rfl⟩
  obtain ⟨gB, hgB⟩ : ∃ g, W5.heap.size = g := ⟨_, rfl⟩
  rw [hW6] at ba na
  rw [hgB] at na
  replace HB := hide (below_step (unhide HB) ba)
  replace HXh := hide ((unhide HXh).keep ba)
  replace HX3 := hide ((unhide HX3).keep ba)
  replace HX4 := hide ((unhide HX4).keep ba)
  replace LA := hide ((unhide LA).below ba)
  have LB := hide (law_two na (unhide HXh).2 (unhide HXh).2)
  clear ba na
  have ⟨chW60, chW61, chW62⟩ := (unhide HXh).cells _ (Below.refl _ _)
  have ba := alloc_below W6 (.cells #[.bool th.s, .slice th.a1 th.n1 th.c1, .slice th.a2 th.n2 th.c2, .bool th.s, .slice th.a1 th.n1 th.c1, .slice th.a2 th.n2 th.c2] 26)
  have na := heap_alloc_new W6 (.cells #[.bool th.s, .slice th.a1 th.n1 th.c1, .slice th.a2 th.n2 th.c2, .bool th.s, .slice th.a1 th.n1 th.c1, .slice th.a2 th.n2 th.c2] 26)
  obtain ⟨W7, hW7⟩ : ∃ W, W6.alloc (.cells #[.bool th.s, .slice th.a1 th.n1 th.c1, .slice th.a2 th.n2 th.c2, .bool th.s, .slice th.a1 th.n1 th.c1, .slice th.a2 th.n2 th.c2] 26) = W := ⟨_, rfl⟩
  obtain ⟨gC, hgC⟩ : ∃ g, W6.heap.size = g := ⟨_, rfl⟩
  rw [hW7] at ba na
  rw [hgC] at na
  replace HB := hide (below_step (unhide HB) ba)
  replace HXh := hide ((unhide HXh).keep ba)
  replace HX3 := hide ((unhide HX3).keep ba)
  replace HX4 := hide ((unhide HX4).keep ba)
  replace LA := hide ((unhide LA).below ba)
  replace LB := hide ((unhide LB).below ba)
  have LC := hide (law_two na (unhide HXh).2 (unhide HXh).2)
  clear ba na
  have ba := alloc_below W7 (.cells #[.slice (some ⟨gB, 0, none⟩) 2 2, .slice (some ⟨gC, 0, none⟩) 2 2] 41)
  have na := heap_alloc_new W7 (.cells #[.slice (some ⟨gB, 0, none⟩) 2 2, .slice (some ⟨gC, 0, none⟩) 2 2] 41)
  obtain ⟨W8, hW8⟩ : ∃ W, W7.alloc (.cells #[.slice (some ⟨gB, 0, none⟩) 2 2, .slice (some ⟨gC, 0, none⟩) 2 2] 41) = W := ⟨_, rfl⟩
  obtain ⟨gD, hgD⟩ : ∃ g, W7.heap.size = g := ⟨_, rfl⟩
  rw [hW8] at ba na
  rw [hgD] at na
  replace HB := hide (below_step (unhide HB) ba)
  replace HXh := hide ((unhide HXh).keep ba)
  replace HX3 := hide ((unhide HX3).keep ba)
  replace HX4 := hide ((unhide HX4).keep ba)
  replace LA := hide ((unhide LA).below ba)
  replace LB := hide ((unhide LB).below ba)
  replace LC := hide ((unhide LC).below ba)
  have LD := hide (rows_two na (unhide LB) (unhide LC))
  clear ba na
  have ⟨cpW80, cpW81, cpW82⟩ := (unhide HX3).cells _ (Below.refl _ _)
  have ⟨cqW80, cqW81, cqW82⟩ := (unhide HX4).cells _ (Below.refl _ _)
  have ba := alloc_below W8 (.cells #[.bool t1.s, .slice t1.a1 t1.n1 t1.c1, .slice t1.a2 t1.n2 t1.c2, .bool tz.s, .slice tz.a1 tz.n1 tz.c1, .slice tz.a2 tz.n2 tz.c2] 26)
  have na := heap_alloc_new W8 (.cells #[.bool t1.s, .slice t1.a1 t1.n1 t1.c1, .slice t1.a2 t1.n2 t1.c2, .bool tz.s, .slice tz.a1 tz.n1 tz.c1, .slice tz.a2 tz.n2 tz.c2] 26)
  obtain ⟨W9, hW9⟩ : ∃ W, W8.alloc (.cells #[.bool t1.s, .slice t1.a1 t1.n1 t1.c1, .slice t1.a2 t1.n2 t1.c2, .bool tz.s, .slice tz.a1 tz.n1 tz.c1, .slice tz.a2 tz.n2 tz.c2] 26) = W := ⟨_, rfl⟩
  obtain ⟨gE, hgE⟩ : ∃ g, W8.heap.size = g := ⟨_, rfl⟩
  rw [hW9] at ba na
  rw [hgE] at na
  replace HB := hide (below_step (unhide HB) ba)
  replace HXh := hide ((unhide HXh).keep ba)
  replace HX3 := hide ((unhide HX3).keep ba)
  replace HX4 := hide ((unhide HX4).keep ba)
  replace LA := hide ((unhide LA).below ba)
  replace LB := hide ((unhide LB).below ba)
  replace LC := hide ((unhide LC).below ba)
  replace LD := hide ((unhide LD).below ba)
  have LE := hide (law_two na (unhide HX3).2 (unhide HX4).2)
  clear ba na
  have ⟨cpW90, cpW91, cpW92⟩ := (unhide HX3).cells _ (Below.refl _ _)
  have ⟨cqW90, cqW91, cqW92⟩ := (unhide HX4).cells _ (Below.refl _ _)
  have ba := alloc_below W9 (.cells #[.bool tz.s, .slice tz.a1 tz.n1 tz.c1, .slice tz.a2 tz.n2 tz.c2, .bool t1.s, .slice t1.a1 t1.n1 t1.c1, .slice t1.a2 t1.n2 t1.c2] 26)
  have na := heap_alloc_new W9 (.cells #[.bool tz.s, .slice tz.a1 tz.n1 tz.c1, .slice tz.a2 tz.n2 tz.c2, .bool t1.s, .slice t1.a1 t1.n1 t1.c1, .slice t1.a2 t1.n2 t1.c2] 26)
  obtain ⟨W10, hW10⟩ : ∃ W, W9.alloc (.cells #[.bool tz.s, .slice tz.a1 tz.n1 tz.c1, .slice tz.a2 tz.n2 tz.c2, .bool t1.s, .slice t1.a1 t1.n1 t1.c1, .slice t1.a2 t1.n2 t1.c2] 26) = W := ⟨_, rfl⟩
  obtain ⟨gF, hgF⟩ : ∃ g, W9.heap.size = g := ⟨_, rfl⟩
  rw [hW10] at ba na
  rw [hgF] at na
  replace HB := hide (below_step (unhide HB) ba)
  replace HXh := hide ((unhide HXh).keep ba)
  replace HX3 := hide ((unhide HX3).keep ba)
  replace HX4 := hide ((unhide HX4).keep ba)
  replace LA := hide ((unhide LA).below ba)
  replace LB := hide ((unhide LB).below ba)
  replace LC := hide ((unhide LC).below ba)
  replace LD := hide ((unhide LD).below ba)
  replace LE := hide ((unhide LE).below ba)
  have LF := hide (law_two na (unhide HX4).2 (unhide HX3).2)
  clear ba na
  have ba := alloc_below W10 (.cells #[.slice (some ⟨gE, 0, none⟩) 2 2, .slice (some ⟨gF, 0, none⟩) 2 2] 41)
  have na := heap_alloc_new W10 (.cells #[.slice (some ⟨gE, 0, none⟩) 2 2, .slice (some ⟨gF, 0, none⟩) 2 2] 41)
  obtain ⟨W11, hW11⟩ : ∃ W, W10.alloc (.cells #[.slice (some ⟨gE, 0, none⟩) 2 2, .slice (some ⟨gF, 0, none⟩) 2 2] 41) = W := ⟨_, rfl⟩
  obtain ⟨gG, hgG⟩ : ∃ g, W10.heap.size = g := ⟨_, rfl⟩
  rw [hW11] at ba na
  rw [hgG] at na
  replace HB := hide (below_step (unhide HB) ba)
  replace HXh := hide ((unhide HXh).keep ba)
  replace HX3 := hide ((unhide HX3).keep ba)
  replace HX4 := hide ((unhide HX4).keep ba)
  replace LA := hide ((unhide LA).below ba)
  replace LB := hide ((unhide LB).below ba)
  replace LC := hide ((unhide LC).below ba)
  replace LD := hide ((unhide LD).below ba)
  replace LE := hide ((unhide LE).below ba)
  replace LF := hide ((unhide LF).below ba)
  have LG := hide (rows_two na (unhide LE) (unhide LF))
  clear ba na
  have ba := alloc_below W11 (.cells #[.slice (some ⟨gA, 0, none⟩) 2 2, .slice (some ⟨gD, 0, none⟩) 2 2, .slice (some ⟨gG, 0, none⟩) 2 2] 53)
  have na := heap_alloc_new W11 (.cells #[.slice (some ⟨gA, 0, none⟩) 2 2, .slice (some ⟨gD, 0, none⟩) 2 2, .slice (some ⟨gG, 0, none⟩) 2 2] 53)
  obtain ⟨W12, hW12⟩ : ∃ W, W11.alloc (.cells #[.slice (some ⟨gA, 0, none⟩) 2 2, .slice (some ⟨gD, 0, none⟩) 2 2, .slice (some ⟨gG, 0, none⟩) 2 2] 53) = W := ⟨_, rfl⟩
  obtain ⟨gH, hgH⟩ : ∃ g, W11.heap.size = g := ⟨_, rfl⟩
  rw [hW12] at ba na
  rw [hgH] at na
  have k0 : W12.cell? ⟨gH, 0, none⟩ = some (.slice (some ⟨gA, 0, none⟩) 2 2) := by simp [World.cell?, na]
  have k1 : W12.cell? ⟨gH, 1, none⟩ = some (.slice (some ⟨gD, 0, none⟩) 2 2) := by simp [World.cell?, na]
  have k2 : W12.cell? ⟨gH, 2, none⟩ = some (.slice (some ⟨gG, 0, none⟩) 2 2) := by simp [World.cell?, na]
  have bs := alloc_below W12 (.cells #[.int .i64 1, .int .i64 0] 3)
  have ns := heap_alloc_new W12 (.cells #[.int .i64 1, .int .i64 0] 3)
  obtain ⟨W13, hW13⟩ : ∃ W, W12.alloc (.cells #[.int .i64 1, .int .i64 0] 3) = W := ⟨_, rfl⟩
  obtain ⟨gS, hgS⟩ : ∃ g, W12.heap.size = g := ⟨_, rfl⟩
  rw [hW13] at bs ns
  rw [hgS] at ns
  have hNR : NRow W13 (.slice (some ⟨gS, 0, none⟩) 2 2) 2 sf_ := ⟨_, _, rfl, Nat.le_refl _, by decide, fun _ => ⟨gS, 0, rfl, (Array.getElem?_eq_some_iff.1 ns).1, fun j hj => by
    match j, hj with
    | 0, _ => simp [World.cell?, ns, sf_]
    | 1, _ => simp [World.cell?, ns, sf_]⟩⟩
  have HPA := hide (path_any (hmval (some ⟨gA, 0, none⟩, 2, 2) (some ⟨gD, 0, none⟩, 2, 2) (some ⟨gG, 0, none⟩, 2, 2)) (some ⟨gS, 0, none⟩, 2, 2) [(Rat.divInt 1 2), (Rat.divInt 1 2)] [[(Rat.divInt 1 2), (Rat.divInt 1 2)], [(Rat.divInt 1 2), (Rat.divInt 1 2)]] [[((1 : Int) : Rat), ((0 : Int) : Rat)], [((0 : Int) : Rat), ((1 : Int) : Rat)]] 2 sf_ W13 ⟨_, _, _, rfl, ((unhide LA).below ba).below bs, ((unhide LD).below ba).below bs, ((unhide LG).below ba).below bs⟩ sur_sm hNR (by decide))
  unfold hmval at HPA
  replace HB := hide (below_step (below_step (unhide HB) ba) bs)
  clear na ba bs ns hNR LA LB LC LD LE LF LG
  go_wp2_with fail
  clear hWb hW5 hgA hW6 hgB hW7 hgC hW8 hgD hW9 hgE hW10 hgF hW11 hgG chWb0 chWb1 chWb2 chW50 chW51 chW52 chW60 chW61 chW62 cpW80 cpW81 cpW82 cqW80 cqW81 cqW82 cpW90 cpW91 cpW92 cqW90 cqW91 cqW92 hW12 hgH k0 k1 k2 hW13 hgS
  refine (unhide HPA).mono ?_
  rintro e w20 (⟨-, -, g20, t20, rfl, hn20, hr20, hb20⟩ | ⟨hc, -⟩)
  rotate_left
  · refine absurd ⟨sur_scode, ?_⟩ hc
    rw [sur_pr]
    decide +kernel
  rw [sur_pr] at hr20
  simp only [Tri.val]
  have hn21 : NRow w20 (.slice (some ⟨g20, 0, none⟩) 2 2) 2 sf_ := hn20.congr (fun j hj => by
    show ((Blf.vst _ _ 2 j : Nat) : Int) = sf_ j
    rw [sur_row j hj]
    match j, hj with
    | 0, _ => rfl
    | 1, _ => rfl)
  obtain ⟨a2, c2, e2, _, _, q3⟩ := hn21
  obtain ⟨b20, o20, ea2, hbl2, hc2⟩ := q3 (by decide)
  have k0 : w20.cell? ⟨b20, o20, none⟩ = some (.int .i64 1) := hc2 0 (by decide)
  have k1 : w20.cell? ⟨b20, o20 + 1, none⟩ = some (.int .i64 0) := hc2 1 (by decide)
  obtain ⟨rfl, rfl⟩ : g20 = b20 ∧ 0 = o20 := by
    injection e2 with e2
    rw [ea2] at e2
    injection e2 with e2
    injection e2 with e3 e4
    exact ⟨e3, e4⟩
  have b21 := alloc_below w20 (.cells #[.bool t20.s, .slice t20.a1 t20.n1 t20.c1, .slice t20.a2 t20.n2 t20.c2] 26)
  have X21 := BoxIs.new hr20
  obtain ⟨W21, hW21⟩ : ∃ W, w20.alloc (.cells #[.bool t20.s, .slice t20.a1 t20.n1 t20.c1, .slice t20.a2 t20.n2 t20.c2] 26) = W := ⟨_, rfl⟩
  obtain ⟨gq, hgq⟩ : ∃ g, w20.heap.size = g := ⟨_, rfl⟩
  rw [hW21] at b21 X21
  rw [hgq] at X21
  have k0' : W21.cell? ⟨g20, 0, none⟩ = some (.int .i64 1) := by
    rw [b21.cell (p := ⟨g20, 0, none⟩) hbl2]; exact k0
  have k1' : W21.cell? ⟨g20, 1, none⟩ = some (.int .i64 0) := by
    rw [b21.cell (p := ⟨g20, 1, none⟩) hbl2]; exact k1
  have ⟨x0, x1, x2⟩ := X21.cells _ (Below.refl _ _)
  replace HB := hide (below_step (below_step (unhide HB) hb20) b21)
  have HTX := hide (textR_any t20.val (Rat.divInt 1 4) W21 X21.2 1 ⟨by decide +kernel, by decide +kernel⟩ (by rw [KKe]; omega) (tab_below (unhide HTB) (unhide HB)))
  rw [sur_text] at HTX
  simp only [Tri.val] at HTX
  clear hn20 e2 q3 ea2 hbl2 hc2 k0 k1 hr20 hb20 b21 X21 HPA
  go_wp2_with fail
  clear hW21 hgq
  refine (unhide HTX).mono ?_
  rintro e w22 ⟨rfl, hb22⟩
  replace HB := hide (below_step (unhide HB) hb22)
  clear hb22 k0' k1' x0 x1 x2
  go_wp2
  go_ret
  exact ⟨rfl, unhide HB⟩

end Go.Proofs.YtfnbjenneodcdaaGreatDoor
