/- foresightkeep's armed. -/
import Derived.Test.YtjlohghknejjoaaGreatDoorGT11
namespace Go.Proofs.YtjlohghknejjoaaGreatDoor
open Go.RowKit Go.Sort Go.Shelf

theorem armed_chk : chk [((1 : Int) : Rat)] = 0 := by
  unfold chk
  have b : ¬ ∃ j, j < [((1 : Int) : Rat)].length ∧ ([((1 : Int) : Rat)][j]!).num < 0 := fun ⟨j, hj, h⟩ => by
    obtain rfl : j = 0 := by have : j < 1 := hj; omega
    exact absurd h (by decide)
  have c : qsum [((1 : Int) : Rat)] [((1 : Int) : Rat)].length = 1 := by
    show (0 : Rat) + ((1 : Int) : Rat) = 1
    decide +kernel
  rw [if_neg (by decide), if_neg b, if_pos c]
theorem armed_code : wcode [((3 : Int) : Rat)] [[((1 : Int) : Rat)]] (Rat.divInt 1 2) = 0 := by
  have h1 : ¬ ((Rat.divInt 1 2) < 0 ∨ 1 ≤ (Rat.divInt 1 2)) := by decide
  have h2 : shc 1 [((1 : Int) : Rat)] = 0 := by
    unfold shc
    have h0 : [((1 : Int) : Rat)].length = 1 := rfl
    rw [if_pos h0, armed_chk]
  have h3 : acode [((3 : Int) : Rat)] [[((1 : Int) : Rat)]] = 0 := by
    unfold acode
    have e1 : 1 ≤ ([((3 : Int) : Rat)] : List Rat).length ∧ ([((3 : Int) : Rat)] : List Rat).length ≤ 5 := ⟨by decide, by decide⟩
    have e2 : ([[((1 : Int) : Rat)]] : List (List Rat)).length = ([((3 : Int) : Rat)] : List Rat).length := rfl
    rw [if_pos e1, if_pos e2]
    show (if (0 : Int) = 0 then shc 1 [((1 : Int) : Rat)] else _) = 0
    rw [if_pos rfl, h2]
  unfold wcode
  rw [if_pos h3, if_neg h1]
theorem armed_sm : SmA [((3 : Int) : Rat)] [[((1 : Int) : Rat)]] := by
  refine ⟨by decide, fun i hi => ?_, fun i k hi hk => ?_, by decide, fun i hi => ?_⟩
  · obtain rfl : i = 0 := by have : i < 1 := hi; omega
    decide
  · obtain rfl : i = 0 := by have : i < 1 := hi; omega
    obtain rfl : k = 0 := by have : k < 1 := hk; omega
    exact ⟨by decide, by decide⟩
  · obtain rfl : i = 0 := by have : i < 1 := hi; omega
    exact ⟨by decide, by decide⟩
theorem armed_idx {x : Nat → Rat} (h : Git.Idx (arm [((3 : Int) : Rat)] [[((1 : Int) : Rat)]] (Rat.divInt 1 2)) x) : x 0 = 3 := by
  obtain ⟨C, N, D, hN, hD, e⟩ := (h 0 (by show 0 < 1; decide)).2
  have hB : (Rat.divInt 1 2) = (1 : Rat) / 2 := by decide +kernel
  have n0 : N 0 = 3 + (Rat.divInt 1 2) * (0 + ((1 : Int) : Rat) * Git.inC C N 0) := hN 0 (by show 0 < 1; decide)
  have d0 : D 0 = 1 + (Rat.divInt 1 2) * (0 + ((1 : Int) : Rat) * Git.inC C D 0) := hD 0 (by show 0 < 1; decide)
  have h1 : ((1 : Int) : Rat) = 1 := rfl
  rw [hB, h1] at n0 d0
  unfold Git.inC at n0 d0
  by_cases c : C 0 = true
  · rw [if_pos c] at n0 d0
    have n1 : N 0 = 6 := by grind
    have d1 : D 0 = 2 := by grind
    rw [n1, d1] at e
    grind
  · rw [if_neg c] at n0 d0
    have n1 : N 0 = 3 := by grind
    have d1 : D 0 = 1 := by grind
    rw [n1, d1] at e
    grind
theorem armed_text : qtext 3 = [51] := by decide +kernel

set_option maxHeartbeats 16000000 in
set_option maxRecDepth 100000 in
set_option linter.unusedSimpArgs false in
theorem armed_any (w : World) (htab : Tab w) : Calls Tryz.prog 10 #[] w fun e w' => e = .returned (.bool true) ∧ Below w.heap.size w w' := by
  have KKe : KK = 1099511627776 := rfl
  have HTB := hide htab
  clear htab
  go_enter Tryz.func10, Tryz.ntmps10
  go_wp2_with fail
  refine (of_any 1 2 (by decide) (by decide) (by decide) (by decide) (by decide) w).mono ?_
  rintro e w1 ⟨v1, rfl, hv1, hb1⟩
  obtain ⟨th, rfl, rh⟩ := tri_of hv1
  simp only [Tri.val]
  have b1 := alloc_below w1 (.cells #[.bool th.s, .slice th.a1 th.n1 th.c1, .slice th.a2 th.n2 th.c2] 37)
  have X1 := BoxIs.new rh
  obtain ⟨W1, hW1⟩ : ∃ W, w1.alloc (.cells #[.bool th.s, .slice th.a1 th.n1 th.c1, .slice th.a2 th.n2 th.c2] 37) = W := ⟨_, rfl⟩
  obtain ⟨g1, hg1⟩ : ∃ g, w1.heap.size = g := ⟨_, rfl⟩
  rw [hW1] at b1 X1
  rw [hg1] at X1
  have HX1 := hide X1
  have HB1 := hide (below_step hb1 b1)
  clear hv1 hb1 rh b1 X1
  go_wp2_with fail
  clear hW1 hg1
  refine (whole_any 3 (by decide) (by decide) W1).mono ?_
  rintro e w2 ⟨v2, rfl, hv2, hb2⟩
  obtain ⟨ta, rfl, ra⟩ := tri_of hv2
  simp only [Tri.val]
  have b2 := alloc_below w2 (.cells #[.bool ta.s, .slice ta.a1 ta.n1 ta.c1, .slice ta.a2 ta.n2 ta.c2] 37)
  have n2 := heap_alloc_new w2 (.cells #[.bool ta.s, .slice ta.a1 ta.n1 ta.c1, .slice ta.a2 ta.n2 ta.c2] 37)
  have r2 := ra.below b2
  obtain ⟨W2, hW2⟩ : ∃ W, w2.alloc (.cells #[.bool ta.s, .slice ta.a1 ta.n1 ta.c1, .slice ta.a2 ta.n2 ta.c2] 37) = W := ⟨_, rfl⟩
  obtain ⟨g2, hg2⟩ : ∃ g, w2.heap.size = g := ⟨_, rfl⟩
  rw [hW2] at b2 n2 r2
  rw [hg2] at n2
  have HLA : Hid (LawIs W2 (.slice (some ⟨g2, 0, none⟩) 1 1) [((3 : Int) : Rat)]) := by
    refine ⟨_, 1, rfl, Nat.le_refl _, by decide, fun _ => ⟨g2, 0, rfl, (Array.getElem?_eq_some_iff.1 n2).1, fun j hj => ?_⟩⟩
    match j, hj with
    | 0, _ => exact ⟨ta.s, ta.a1, ta.a2, ta.n1, ta.c1, ta.n2, ta.c2, by simp [World.cell?, n2], by simp [World.cell?, n2], by simp [World.cell?, n2], r2⟩
  have HX2 := hide ((unhide HX1).keep (below_step hb2 b2))
  have HB2 := hide (below_step (unhide HB1) (below_step hb2 b2))
  clear hv2 hb2 ra b2 n2 r2 HX1 HB1
  go_wp2_with fail
  clear hW2 hg2
  refine (whole_any 1 (by decide) (by decide) W2).mono ?_
  rintro e w3 ⟨v3, rfl, hv3, hb3⟩
  obtain ⟨tb, rfl, rb⟩ := tri_of hv3
  simp only [Tri.val]
  have b3 := alloc_below w3 (.cells #[.bool tb.s, .slice tb.a1 tb.n1 tb.c1, .slice tb.a2 tb.n2 tb.c2] 37)
  have n3 := heap_alloc_new w3 (.cells #[.bool tb.s, .slice tb.a1 tb.n1 tb.c1, .slice tb.a2 tb.n2 tb.c2] 37)
  have r3 := rb.below b3
  obtain ⟨W3, hW3⟩ : ∃ W, w3.alloc (.cells #[.bool tb.s, .slice tb.a1 tb.n1 tb.c1, .slice tb.a2 tb.n2 tb.c2] 37) = W := ⟨_, rfl⟩
  obtain ⟨g3, hg3⟩ : ∃ g, w3.heap.size = g := ⟨_, rfl⟩
  rw [hW3] at b3 n3 r3
  rw [hg3] at n3
  have hLB : LawIs W3 (.slice (some ⟨g3, 0, none⟩) 1 1) [((1 : Int) : Rat)] := by
    refine ⟨_, 1, rfl, Nat.le_refl _, by decide, fun _ => ⟨g3, 0, rfl, (Array.getElem?_eq_some_iff.1 n3).1, fun j hj => ?_⟩⟩
    match j, hj with
    | 0, _ => exact ⟨tb.s, tb.a1, tb.a2, tb.n1, tb.c1, tb.n2, tb.c2, by simp [World.cell?, n3], by simp [World.cell?, n3], by simp [World.cell?, n3], r3⟩
  have b4 := alloc_below W3 (.cells #[.slice (some ⟨g3, 0, none⟩) 1 1] 29)
  have n4 := heap_alloc_new W3 (.cells #[.slice (some ⟨g3, 0, none⟩) 1 1] 29)
  obtain ⟨W4, hW4⟩ : ∃ W, W3.alloc (.cells #[.slice (some ⟨g3, 0, none⟩) 1 1] 29) = W := ⟨_, rfl⟩
  obtain ⟨g4, hg4⟩ : ∃ g, W3.heap.size = g := ⟨_, rfl⟩
  rw [hW4] at b4 n4
  rw [hg4] at n4
  have hRB : RowsAre W4 (.slice (some ⟨g4, 0, none⟩) 1 1) [[((1 : Int) : Rat)]] := by
    refine ⟨_, 1, rfl, Nat.le_refl _, by decide, fun _ => ⟨g4, 0, rfl, (Array.getElem?_eq_some_iff.1 n4).1, fun j hj => ?_⟩⟩
    match j, hj with
    | 0, _ => exact ⟨(some ⟨g3, 0, none⟩, 1, 1), by simp [World.cell?, n4], hLB.below b4⟩
  have b5 := alloc_below W4 (.cells #[.slice (some ⟨g2, 0, none⟩) 1 1, .slice (some ⟨g4, 0, none⟩) 1 1] 32)
  have X5 := ArmBox.new (w := W4) (m := (some ⟨g2, 0, none⟩, 1, 1)) (l := (some ⟨g4, 0, none⟩, 1, 1)) (((unhide HLA).below (below_step hb3 b3)).below b4) hRB
  obtain ⟨W5, hW5⟩ : ∃ W, W4.alloc (.cells #[.slice (some ⟨g2, 0, none⟩) 1 1, .slice (some ⟨g4, 0, none⟩) 1 1] 32) = W := ⟨_, rfl⟩
  obtain ⟨g5, hg5⟩ : ∃ g, W4.heap.size = g := ⟨_, rfl⟩
  have X5' : ArmBox W5 g5 (some ⟨g2, 0, none⟩, 1, 1) (some ⟨g4, 0, none⟩, 1, 1) [((3 : Int) : Rat)] [[((1 : Int) : Rat)]] := by rw [← hW5, ← hg5]; exact X5
  rw [hW5] at b5
  have bb := below_step (below_step (below_step hb3 b3) b4) b5
  have HXA := hide X5'
  have HXH := hide ((unhide HX2).keep bb)
  have HB5 := hide (below_step (unhide HB2) bb)
  have HAR : Hid (∀ W, Below W5.heap.size W5 W → ArmIs W (.agg #[.slice (some ⟨g2, 0, none⟩) 1 1, .slice (some ⟨g4, 0, none⟩) 1 1]) [((3 : Int) : Rat)] [[((1 : Int) : Rat)]]) := fun W hW => X5'.arm.below hW
  have HTH : Hid (∀ W, Below W5.heap.size W5 W → RatIs W (.agg #[.bool th.s, .slice th.a1 th.n1 th.c1, .slice th.a2 th.n2 th.c2]) (Rat.divInt 1 2)) := fun W hW => (unhide HXH).2.below hW
  have HIN := hide (Index_any _ _ [((3 : Int) : Rat)] [[((1 : Int) : Rat)]] (Rat.divInt 1 2) W5 (unhide HAR W5 (Below.refl _ _)) (unhide HTH W5 (Below.refl _ _)) armed_sm ⟨by decide, by decide⟩)
  have HAG : Hid (∀ W, Below W5.heap.size W5 W → Calls Tryz.prog 11 #[.agg #[.slice (some ⟨g2, 0, none⟩) 1 1, .slice (some ⟨g4, 0, none⟩) 1 1], .agg #[.bool th.s, .slice th.a1 th.n1 th.c1, .slice th.a2 th.n2 th.c2], .int .i64 0] W (AgainPost W (arm [((3 : Int) : Rat)] [[((1 : Int) : Rat)]] (Rat.divInt 1 2)) 0)) := fun W hW => Again_any _ _ [((3 : Int) : Rat)] [[((1 : Int) : Rat)]] (Rat.divInt 1 2) 0 W (unhide HAR W hW) (unhide HTH W hW) armed_sm ⟨by decide, by decide⟩ (by decide) armed_code
  have ⟨k0, k1⟩ := X5'.cells _ (Below.refl _ _)
  have k0 : W5.cell? ⟨g5, 0, none⟩ = some (.slice (some ⟨g2, 0, none⟩) 1 1) := k0
  have k1 : W5.cell? ⟨g5, 1, none⟩ = some (.slice (some ⟨g4, 0, none⟩) 1 1) := k1
  have ⟨h0, h1, h2⟩ := (unhide HXH).cells _ (Below.refl _ _)
  clear hv3 hb3 rb b3 n3 r3 hLB b4 n4 hRB b5 X5 X5' bb HX2 HB2 HLA
  go_wp2_with fail
  clear hW3 hg3 hW4 hg4 hW5 hg5 k0 k1 h0 h1 h2
  refine (unhide HIN).mono ?_
  rintro e w6 (⟨hz, _⟩ | ⟨_, v6, x, rfl, hv6, hx6, hr6, hb6⟩)
  · exact absurd armed_code hz
  have hx3 := armed_idx hx6
  have hx6' := hx6
  obtain ⟨a6, c6, rfl, l1, l2, l3⟩ := hv6
  have e61 : (row x ([((3 : Int) : Rat)] : List Rat).length).length = 1 := row_length _ _
  obtain ⟨b6, o6, rfl, hb6l, hc6⟩ := l3 (by rw [e61]; decide)
  obtain ⟨xs_, xp1, xp2, xn1, xd1, xn2, xd2, xk0, xk1, xk2, xr⟩ := hc6 0 (by rw [e61]; decide)
  obtain ⟨tv, rfl, rfl, rfl, rfl, rfl, rfl, rfl⟩ : ∃ t : Tri, xs_ = t.s ∧ xp1 = t.a1 ∧ xp2 = t.a2 ∧ xn1 = t.n1 ∧ xd1 = t.c1 ∧ xn2 = t.n2 ∧ xd2 = t.c2 := ⟨⟨xs_, xp1, xp2, xn1, xd1, xn2, xd2⟩, rfl, rfl, rfl, rfl, rfl, rfl, rfl⟩
  have xr3 : RatIs w6 tv.val 3 := by rw [← hx3]; exact xr
  have xk0 : w6.cell? ⟨b6, o6, none⟩ = some (.bool tv.s) := xk0
  have xk1 : w6.cell? ⟨b6, o6 + 1, none⟩ = some (.slice tv.a1 tv.n1 tv.c1) := by rw [show o6 + 1 = o6 + 0 * 3 + 1 by omega]; exact xk1
  have xk2 : w6.cell? ⟨b6, o6 + 2, none⟩ = some (.slice tv.a2 tv.n2 tv.c2) := by rw [show o6 + 2 = o6 + 0 * 3 + 2 by omega]; exact xk2
  have HX6 := hide hx6'
  have HXR := hide xr3
  have HL6 := hide hb6l
  have HK6 : Hid (w6.cell? ⟨b6, o6, none⟩ = some (.bool tv.s) ∧ w6.cell? ⟨b6, o6 + 1, none⟩ = some (.slice tv.a1 tv.n1 tv.c1) ∧ w6.cell? ⟨b6, o6 + 2, none⟩ = some (.slice tv.a2 tv.n2 tv.c2)) := ⟨xk0, xk1, xk2⟩
  have HAG6 := hide (unhide HAG w6 hb6)
  have HB6 := hide (below_step (unhide HB5) hb6)
  have ⟨k0, k1⟩ := (unhide HXA).cells _ hb6
  have k0 : w6.cell? ⟨g5, 0, none⟩ = some (.slice (some ⟨g2, 0, none⟩) 1 1) := k0
  have k1 : w6.cell? ⟨g5, 1, none⟩ = some (.slice (some ⟨g4, 0, none⟩) 1 1) := k1
  have ⟨h0, h1, h2⟩ := (unhide HXH).cells _ hb6
  rw [e61]
  clear hx3 hx6 hx6' hr6 hb6 l3 hc6 xr xr3 xk0 xk1 xk2 hb6l HIN HAG HB5
  go_wp2_with fail
  clear k0 k1 h0 h1 h2
  refine (unhide HAG6).mono ?_
  rintro e w7 ⟨v7, q, rfl, hv7, hq7, hr7, hb7⟩
  obtain ⟨ty, rfl, ry⟩ := tri_of hv7
  simp only [Tri.val]
  have hq3 : q = 3 := by rw [hq7 x (unhide HX6)]; exact armed_idx (unhide HX6)
  have b8 := alloc_below w7 (.cells #[.bool ty.s, .slice ty.a1 ty.n1 ty.c1, .slice ty.a2 ty.n2 ty.c2] 37)
  have X8 := BoxIs.new ry
  obtain ⟨W8, hW8⟩ : ∃ W, w7.alloc (.cells #[.bool ty.s, .slice ty.a1 ty.n1 ty.c1, .slice ty.a2 ty.n2 ty.c2] 37) = W := ⟨_, rfl⟩
  obtain ⟨g8, hg8⟩ : ∃ g, w7.heap.size = g := ⟨_, rfl⟩
  rw [hW8] at b8 X8
  rw [hg8, hq3] at X8
  have bb := below_step hb7 b8
  have m0 : W8.cell? ⟨b6, o6, none⟩ = some (.bool tv.s) := by rw [bb.cell (p := ⟨b6, o6, none⟩) (unhide HL6)]; exact (unhide HK6).1
  have m1 : W8.cell? ⟨b6, o6 + 1, none⟩ = some (.slice tv.a1 tv.n1 tv.c1) := by rw [bb.cell (p := ⟨b6, o6 + 1, none⟩) (unhide HL6)]; exact (unhide HK6).2.1
  have m2 : W8.cell? ⟨b6, o6 + 2, none⟩ = some (.slice tv.a2 tv.n2 tv.c2) := by rw [bb.cell (p := ⟨b6, o6 + 2, none⟩) (unhide HL6)]; exact (unhide HK6).2.2
  have HB8 := hide (below_step (unhide HB6) bb)
  have HX8 := hide X8
  have HT1 := hide (textR_any tv.val 3 W8 ((unhide HXR).below bb) 1 ⟨by decide, by decide⟩ (by rw [KKe]; omega) (tab_below (unhide HTB) (unhide HB8)))
  rw [armed_text] at HT1
  clear hv7 ry hq7 hr7 hb7 hq3 b8 X8 bb HAG6 HB6 HXR HK6
  go_wp2_with fail
  clear hW8 hg8 m0 m1 m2
  refine (unhide HT1).mono ?_
  rintro e w9 ⟨rfl, hb9⟩
  have ⟨y0, y1, y2⟩ := (unhide HX8).cells _ hb9
  have HT2 := hide (textR_any ty.val 3 w9 ((unhide HX8).2.below hb9) 1 ⟨by decide, by decide⟩ (by rw [KKe]; omega) (tab_below (unhide HTB) (below_step (unhide HB8) hb9)))
  rw [armed_text] at HT2
  have HB9 := hide (below_step (unhide HB8) hb9)
  clear hb9 HT1
  go_wp2_with fail
  clear y0 y1 y2
  refine (unhide HT2).mono ?_
  rintro e w10 ⟨rfl, hb10⟩
  have HB10 := hide (below_step (unhide HB9) hb10)
  clear hb10
  go_wp2
  go_ret
  exact ⟨rfl, unhide HB10⟩

end Go.Proofs.YtjlohghknejjoaaGreatDoor
