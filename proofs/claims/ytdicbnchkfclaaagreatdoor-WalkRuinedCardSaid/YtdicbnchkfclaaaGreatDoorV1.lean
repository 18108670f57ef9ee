/- walk.powers, divided. -/
import Derived.Test.YtdicbnchkfclaaaGreatDoorX3
import Derived.Test.YtdicbnchkfclaaaGreatDoorX2
import Derived.Test.YtdicbnchkfclaaaGreatDoorA15
namespace Go.Proofs.YtdicbnchkfclaaaGreatDoor
open Go.RowKit Go.Sort Go.Shelf

/-- The sum of the first n powers, and the sum of these sums. -/
def fsm (r : Rat) : Nat → Rat
  | 0 => 0
  | n + 1 => fsm r n + r ^ n
def ssm (r : Rat) : Nat → Rat
  | 0 => 0
  | n + 1 => ssm r n + fsm r n

set_option maxHeartbeats 4000000 in
set_option maxRecDepth 100000 in
set_option linter.unusedSimpArgs false in
theorem powers_any (v : Value) (r : Rat) (n J : Nat) (w : World) (h : RatIs w v r) (hn : n ≤ 60) (hp : ∀ k, k ≤ n → RS (r ^ k) J ∧ RS (fsm r k) J ∧ RS (ssm r k) J) (hr : RS r J) (hJ : J + J + 1 ≤ KK) :
    Calls Tryz.prog 29 #[v, .int .i64 (n : Int)] w fun e w' => ∃ a b, e = .returned (.tuple #[a, b]) ∧ RatIs w' a (fsm r n) ∧ RatIs w' b (ssm r n) ∧ Below w.heap.size w w' := by
  obtain ⟨t, rfl, ht⟩ := tri_of h
  have HP := hide hp
  have HR := hide hr
  have HB_0 := hide (below_step (below_step (alloc_below w (.cells #[.bool t.s, .slice t.a1 t.n1 t.c1, .slice t.a2 t.n2 t.c2] 27)) (alloc_below _ (.cells #[.bool false, .slice none 0 0, .slice none 0 0] 27))) (alloc_below _ (.cells #[.bool false, .slice none 0 0, .slice none 0 0] 27)))
  have HX_b2_0 := hide (((BoxIs.new ht).keep (alloc_below _ (.cells #[.bool false, .slice none 0 0, .slice none 0 0] 27))).keep (alloc_below _ (.cells #[.bool false, .slice none 0 0, .slice none 0 0] 27)))
  have HX_b4_0 := hide ((BoxIs.new (w := w.alloc (.cells #[.bool t.s, .slice t.a1 t.n1 t.c1, .slice t.a2 t.n2 t.c2] 27)) (t := zTri) (q := 0) (rat_zero _)).keep (alloc_below _ (.cells #[.bool false, .slice none 0 0, .slice none 0 0] 27)))
  have HX_b5_0 := hide (BoxIs.new (w := (w.alloc (.cells #[.bool t.s, .slice t.a1 t.n1 t.c1, .slice t.a2 t.n2 t.c2] 27)).alloc (.cells #[.bool false, .slice none 0 0, .slice none 0 0] 27)) (t := zTri) (q := 0) (rat_zero _))
  obtain ⟨W0, hW0⟩ : ∃ W, ((w.alloc (.cells #[.bool t.s, .slice t.a1 t.n1 t.c1, .slice t.a2 t.n2 t.c2] 27)).alloc (.cells #[.bool false, .slice none 0 0, .slice none 0 0] 27)).alloc (.cells #[.bool false, .slice none 0 0, .slice none 0 0] 27) = W := ⟨_, rfl⟩
  have e4 : (w.alloc (.cells #[.bool t.s, .slice t.a1 t.n1 t.c1, .slice t.a2 t.n2 t.c2] 27)).heap.size = w.heap.size + 1 := alloc_size _ _
  have e5 : ((w.alloc (.cells #[.bool t.s, .slice t.a1 t.n1 t.c1, .slice t.a2 t.n2 t.c2] 27)).alloc (.cells #[.bool false, .slice none 0 0, .slice none 0 0] 27)).heap.size = w.heap.size + 1 + 1 := by rw [alloc_size, e4]
  rw [show ((w.alloc (.cells #[.bool t.s, .slice t.a1 t.n1 t.c1, .slice t.a2 t.n2 t.c2] 27)).alloc (.cells #[.bool zTri.s, .slice zTri.a1 zTri.n1 zTri.c1, .slice zTri.a2 zTri.n2 zTri.c2] 27)).alloc (.cells #[.bool false, .slice none 0 0, .slice none 0 0] 27) = W0 from hW0, e4] at HX_b4_0
  rw [show ((w.alloc (.cells #[.bool t.s, .slice t.a1 t.n1 t.c1, .slice t.a2 t.n2 t.c2] 27)).alloc (.cells #[.bool false, .slice none 0 0, .slice none 0 0] 27)).alloc (.cells #[.bool zTri.s, .slice zTri.a1 zTri.n1 zTri.c1, .slice zTri.a2 zTri.n2 zTri.c2] 27) = W0 from hW0, e5] at HX_b5_0
  rw [hW0] at HB_0 HX_b2_0
  have HWE := hide hW0
  clear e4 e5 hp hr h hW0 ht
  simp only [Tri.val]
  go_enter Tryz.func29, Tryz.ntmps29
  go_wp2_with fail
  rw [unhide HWE]
  clear HWE
  obtain ⟨b2, hb2⟩ : ∃ b, w.heap.size = b := ⟨_, rfl⟩
  obtain ⟨b4, hb4⟩ : ∃ b, b2 + 1 = b := ⟨_, rfl⟩
  obtain ⟨b5, hb5⟩ : ∃ b, b4 + 1 = b := ⟨_, rfl⟩
  have HG_b2 : Hid (w.heap.size ≤ b2) := by rw [hb2]; exact Nat.le_refl _
  have HG_b4 : Hid (w.heap.size ≤ b4) := show _ ≤ _ by omega
  have HG_b5 : Hid (w.heap.size ≤ b5) := show _ ≤ _ by omega
  have HL_b2_b4 : Hid (b2 < b4) := show _ < _ by omega
  have HL_b2_b5 : Hid (b2 < b5) := show _ < _ by omega
  have HL_b4_b5 : Hid (b4 < b5) := show _ < _ by omega
  rw [hb2] at HX_b2_0 HX_b4_0 HX_b5_0
  rw [hb4] at HX_b4_0 HX_b5_0
  rw [hb5] at HX_b5_0
  rw [hb2, hb4, hb5]
  have HS2 := hide hb2
  clear hb2 hb4 hb5
  refine (whole_any 1 (by decide) (by decide) _).mono ?_
  rintro e w_1 ⟨v4, rfl, hv4, hbx⟩
  obtain ⟨t6, rfl, hr_1⟩ := tri_of hv4
  simp only [Tri.val]
  have HL_b2_b6 := hide (Nat.lt_of_lt_of_le (unhide HX_b2_0).lt hbx.size)
  have HL_b4_b6 := hide (Nat.lt_of_lt_of_le (unhide HX_b4_0).lt hbx.size)
  have HL_b5_b6 := hide (Nat.lt_of_lt_of_le (unhide HX_b5_0).lt hbx.size)
  have HG_b6 := hide (below_step (unhide HB_0) hbx).size
  have hb_1 := below_step hbx (alloc_below w_1 (.cells #[.bool t6.s, .slice t6.a1 t6.n1 t6.c1, .slice t6.a2 t6.n2 t6.c2] 27))
  have HB_2 := hide (below_step (unhide HB_0) hb_1)
  have HX_b2_2 := hide ((unhide HX_b2_0).keep hb_1)
  have HX_b4_2 := hide ((unhide HX_b4_0).keep hb_1)
  have HX_b5_2 := hide ((unhide HX_b5_0).keep hb_1)
  clear HB_0 HX_b2_0 HX_b4_0 HX_b5_0
  have HX_b6_1 := hide (BoxIs.new hr_1)
  obtain ⟨Wb6, hW_1⟩ : ∃ W, w_1.alloc (.cells #[.bool t6.s, .slice t6.a1 t6.n1 t6.c1, .slice t6.a2 t6.n2 t6.c2] 27) = W := ⟨_, rfl⟩
  obtain ⟨b6, hc_1⟩ : ∃ b, w_1.heap.size = b := ⟨_, rfl⟩
  rw [hW_1] at HB_2 HX_b2_2 HX_b4_2 HX_b5_2 HX_b6_1
  rw [hc_1] at HX_b6_1 HL_b2_b6 HL_b4_b6 HL_b5_b6 HG_b6
  clear hv4 hr_1 hbx hb_1
  go_wp2_with fail
  clear hW_1 hc_1
  go_loopw [9] (fun vi wr => ∃ (i : Nat) (t4 t5 t6 : Tri), vi = .int .i64 (i : Int) ∧ i ≤ n ∧ Below w.heap.size w wr ∧ BoxIs wr b2 t r ∧ BoxIs wr b4 t4 (fsm r i) ∧ BoxIs wr b5 t5 (ssm r i) ∧ BoxIs wr b6 t6 (r ^ i)) (fun vi _ => n - (intOf vi).toNat)
  case atStart => exact ⟨0, zTri, zTri, t6, rfl, Nat.zero_le _, unhide HB_2, unhide HX_b2_2, unhide HX_b4_2, unhide HX_b5_2, by have := unhide HX_b6_1; rw [show r ^ 0 = ((1 : Int) : Rat) by rw [Rat.pow_zero]; rfl]; exact this⟩
  case round =>
    obtain ⟨i, t4, t5, t6', rfl, hi, bl, X2, X4, X5, X6⟩ := hrel
    have HB_r := hide bl
    have HX_b2_r := hide X2
    have HX_b4_r := hide X4
    have HX_b5_r := hide X5
    have HX_b6_r := hide X6
    clear bl X2 X4 X5 X6 HB_2 HX_b2_2 HX_b4_2 HX_b5_2 HX_b6_1
    by_cases hlt : i < n
    · have i1 : (i : Int) < (n : Int) := by omega
      have HADD : Hid (∀ W v v' q q', RatIs W v q → RatIs W v' q' → RS q J → RS q' J → Calls Tryz.prog 8 #[v, v'] W fun e w' => ∃ v, e = .returned v ∧ RatIs w' v (q + q') ∧ Below W.heap.size W w') := fun W v v' q q' h h' r r' => addR_any v v' q q' W h h' J r r' hJ
      have HMUL : Hid (∀ W v v' q q', RatIs W v q → RatIs W v' q' → RS q J → RS q' J → Calls Tryz.prog 9 #[v, v'] W fun e w' => ∃ v, e = .returned v ∧ RatIs w' v (q * q') ∧ Below W.heap.size W w') := fun W v v' q q' h h' r r' => mulR_any v v' q q' W h h' J r r' hJ
      obtain ⟨p1, p2, p3⟩ := unhide HP i (by omega)
      obtain ⟨cb4_0, cb4_1, cb4_2⟩ := (unhide HX_b4_r).cells _ (Below.refl _ _)
      obtain ⟨cb5_0, cb5_1, cb5_2⟩ := (unhide HX_b5_r).cells _ (Below.refl _ _)
      go_wp2_with fail
      refine (unhide HADD _ _ _ _ _ (unhide HX_b5_r).2 (unhide HX_b4_r).2 p3 p2).mono ?_
      rintro e w_51 ⟨v7, rfl, hv7, hbx⟩
      clear cb4_0 cb4_1 cb4_2 cb5_0 cb5_1 cb5_2
      obtain ⟨t7, rfl, hr_51⟩ := tri_of hv7
      simp only [Tri.val]
      have HB_52 := hide (below_step (unhide HB_r) hbx)
      have HX_b2_52 := hide ((unhide HX_b2_r).keep hbx)
      have HX_b4_52 := hide ((unhide HX_b4_r).keep hbx)
      have HX_b5_52 := hide ((unhide HX_b5_r).keep hbx)
      have HX_b6_52 := hide ((unhide HX_b6_r).keep hbx)
      clear HB_r HX_b2_r HX_b4_r HX_b5_r HX_b6_r
      have ⟨l51_0, l51_1, l51_2⟩ := (unhide HX_b5_52).free
      have ⟨y51_0, y51_1, y51_2⟩ := (unhide HX_b5_52).cells _ (Below.refl _ _)
      have HZ_b2_51 := hide ((unhide HX_b2_52).other (unhide HX_b5_52) (Nat.ne_of_lt (unhide HL_b2_b5)) (.bool t7.s) (.slice t7.a1 t7.n1 t7.c1) (.slice t7.a2 t7.n2 t7.c2))
      have HZ_b4_51 := hide ((unhide HX_b4_52).other (unhide HX_b5_52) (Nat.ne_of_lt (unhide HL_b4_b5)) (.bool t7.s) (.slice t7.a1 t7.n1 t7.c1) (.slice t7.a2 t7.n2 t7.c2))
      have HZ_b5_51 := hide ((unhide HX_b5_52).set hr_51)
      have HZ_b6_51 := hide ((unhide HX_b6_52).other (unhide HX_b5_52) (Nat.ne_of_gt (unhide HL_b5_b6)) (.bool t7.s) (.slice t7.a1 t7.n1 t7.c1) (.slice t7.a2 t7.n2 t7.c2))
      have HB_51s := hide ((((unhide HB_52).setCell (p := ⟨b5, 0, none⟩) (unhide HG_b5) (.bool t7.s)).setCell (p := ⟨b5, 1, none⟩) (unhide HG_b5) (.slice t7.a1 t7.n1 t7.c1)).setCell (p := ⟨b5, 2, none⟩) (unhide HG_b5) (.slice t7.a2 t7.n2 t7.c2))
      clear HB_52 HX_b2_52 HX_b4_52 HX_b5_52 HX_b6_52 hv7 hbx hr_51
      obtain ⟨Ws_51, hWs_51⟩ : ∃ W, ((w_51.setCell ⟨b5, 0, none⟩ (.bool t7.s)).setCell ⟨b5, 1, none⟩ (.slice t7.a1 t7.n1 t7.c1)).setCell ⟨b5, 2, none⟩ (.slice t7.a2 t7.n2 t7.c2) = W := ⟨_, rfl⟩
      rw [hWs_51] at HB_51s HZ_b2_51 HZ_b4_51 HZ_b5_51 HZ_b6_51
      obtain ⟨cb4_0, cb4_1, cb4_2⟩ := (unhide HZ_b4_51).cells _ (Below.refl _ _)
      obtain ⟨cb6_0, cb6_1, cb6_2⟩ := (unhide HZ_b6_51).cells _ (Below.refl _ _)
      go_wp2_with fail
      clear l51_0 l51_1 l51_2 y51_0 y51_1 y51_2 hWs_51
      refine (unhide HADD _ _ _ _ _ (unhide HZ_b4_51).2 (unhide HZ_b6_51).2 p2 p1).mono ?_
      rintro e w_53 ⟨v8, rfl, hv8, hbx⟩
      clear cb4_0 cb4_1 cb4_2 cb6_0 cb6_1 cb6_2
      obtain ⟨t8, rfl, hr_53⟩ := tri_of hv8
      simp only [Tri.val]
      have HB_54 := hide (below_step (unhide HB_51s) hbx)
      have HX_b2_54 := hide ((unhide HZ_b2_51).keep hbx)
      have HX_b4_54 := hide ((unhide HZ_b4_51).keep hbx)
      have HX_b5_54 := hide ((unhide HZ_b5_51).keep hbx)
      have HX_b6_54 := hide ((unhide HZ_b6_51).keep hbx)
      clear HB_51s HZ_b2_51 HZ_b4_51 HZ_b5_51 HZ_b6_51
      have ⟨l53_0, l53_1, l53_2⟩ := (unhide HX_b4_54).free
      have ⟨y53_0, y53_1, y53_2⟩ := (unhide HX_b4_54).cells _ (Below.refl _ _)
      have HZ_b2_53 := hide ((unhide HX_b2_54).other (unhide HX_b4_54) (Nat.ne_of_lt (unhide HL_b2_b4)) (.bool t8.s) (.slice t8.a1 t8.n1 t8.c1) (.slice t8.a2 t8.n2 t8.c2))
      have HZ_b4_53 := hide ((unhide HX_b4_54).set hr_53)
      have HZ_b5_53 := hide ((unhide HX_b5_54).other (unhide HX_b4_54) (Nat.ne_of_gt (unhide HL_b4_b5)) (.bool t8.s) (.slice t8.a1 t8.n1 t8.c1) (.slice t8.a2 t8.n2 t8.c2))
      have HZ_b6_53 := hide ((unhide HX_b6_54).other (unhide HX_b4_54) (Nat.ne_of_gt (unhide HL_b4_b6)) (.bool t8.s) (.slice t8.a1 t8.n1 t8.c1) (.slice t8.a2 t8.n2 t8.c2))
      have HB_53s := hide ((((unhide HB_54).setCell (p := ⟨b4, 0, none⟩) (unhide HG_b4) (.bool t8.s)).setCell (p := ⟨b4, 1, none⟩) (unhide HG_b4) (.slice t8.a1 t8.n1 t8.c1)).setCell (p := ⟨b4, 2, none⟩) (unhide HG_b4) (.slice t8.a2 t8.n2 t8.c2))
      clear HB_54 HX_b2_54 HX_b4_54 HX_b5_54 HX_b6_54 hv8 hbx hr_53
      obtain ⟨Ws_53, hWs_53⟩ : ∃ W, ((w_53.setCell ⟨b4, 0, none⟩ (.bool t8.s)).setCell ⟨b4, 1, none⟩ (.slice t8.a1 t8.n1 t8.c1)).setCell ⟨b4, 2, none⟩ (.slice t8.a2 t8.n2 t8.c2) = W := ⟨_, rfl⟩
      rw [hWs_53] at HB_53s HZ_b2_53 HZ_b4_53 HZ_b5_53 HZ_b6_53
      obtain ⟨cb6_0, cb6_1, cb6_2⟩ := (unhide HZ_b6_53).cells _ (Below.refl _ _)
      obtain ⟨cb2_0, cb2_1, cb2_2⟩ := (unhide HZ_b2_53).cells _ (Below.refl _ _)
      go_wp2_with fail
      clear l53_0 l53_1 l53_2 y53_0 y53_1 y53_2 hWs_53
      refine (unhide HMUL _ _ _ _ _ (unhide HZ_b6_53).2 (unhide HZ_b2_53).2 p1 (unhide HR)).mono ?_
      rintro e w_55 ⟨v9, rfl, hv9, hbx⟩
      clear cb6_0 cb6_1 cb6_2 cb2_0 cb2_1 cb2_2
      obtain ⟨t9, rfl, hr_55⟩ := tri_of hv9
      simp only [Tri.val]
      have HB_56 := hide (below_step (unhide HB_53s) hbx)
      have HX_b2_56 := hide ((unhide HZ_b2_53).keep hbx)
      have HX_b4_56 := hide ((unhide HZ_b4_53).keep hbx)
      have HX_b5_56 := hide ((unhide HZ_b5_53).keep hbx)
      have HX_b6_56 := hide ((unhide HZ_b6_53).keep hbx)
      clear HB_53s HZ_b2_53 HZ_b4_53 HZ_b5_53 HZ_b6_53
      have ⟨l55_0, l55_1, l55_2⟩ := (unhide HX_b6_56).free
      have ⟨y55_0, y55_1, y55_2⟩ := (unhide HX_b6_56).cells _ (Below.refl _ _)
      have HZ_b2_55 := hide ((unhide HX_b2_56).other (unhide HX_b6_56) (Nat.ne_of_lt (unhide HL_b2_b6)) (.bool t9.s) (.slice t9.a1 t9.n1 t9.c1) (.slice t9.a2 t9.n2 t9.c2))
      have HZ_b4_55 := hide ((unhide HX_b4_56).other (unhide HX_b6_56) (Nat.ne_of_lt (unhide HL_b4_b6)) (.bool t9.s) (.slice t9.a1 t9.n1 t9.c1) (.slice t9.a2 t9.n2 t9.c2))
      have HZ_b5_55 := hide ((unhide HX_b5_56).other (unhide HX_b6_56) (Nat.ne_of_lt (unhide HL_b5_b6)) (.bool t9.s) (.slice t9.a1 t9.n1 t9.c1) (.slice t9.a2 t9.n2 t9.c2))
      have HZ_b6_55 := hide ((unhide HX_b6_56).set hr_55)
      have HB_55s := hide ((((unhide HB_56).setCell (p := ⟨b6, 0, none⟩) (unhide HG_b6) (.bool t9.s)).setCell (p := ⟨b6, 1, none⟩) (unhide HG_b6) (.slice t9.a1 t9.n1 t9.c1)).setCell (p := ⟨b6, 2, none⟩) (unhide HG_b6) (.slice t9.a2 t9.n2 t9.c2))
      clear HB_56 HX_b2_56 HX_b4_56 HX_b5_56 HX_b6_56 hv9 hbx hr_55
      obtain ⟨Ws_55, hWs_55⟩ : ∃ W, ((w_55.setCell ⟨b6, 0, none⟩ (.bool t9.s)).setCell ⟨b6, 1, none⟩ (.slice t9.a1 t9.n1 t9.c1)).setCell ⟨b6, 2, none⟩ (.slice t9.a2 t9.n2 t9.c2) = W := ⟨_, rfl⟩
      rw [hWs_55] at HB_55s HZ_b2_55 HZ_b4_55 HZ_b5_55 HZ_b6_55
      go_wp2_with fail
      clear l55_0 l55_1 l55_2 y55_0 y55_1 y55_2 hWs_55
      exact ⟨⟨i + 1, t8, t7, t9, by go_num, hlt, unhide HB_55s, unhide HZ_b2_55, unhide HZ_b4_55, unhide HZ_b5_55, by rw [Rat.pow_succ]; exact unhide HZ_b6_55⟩, by simp [intOf]; omega⟩
    · obtain rfl : i = n := by omega
      have i1 : ¬ (i : Int) < (i : Int) := by omega
      clear HP HX_b6_r HX_b2_r
      go_wp2_with fail
      have bd0 : Below wr.heap.size wr wr.drew := (Below.refl _ _).drew
      have Xb4 := (unhide HX_b4_r).keep bd0
      have Xb5 := (unhide HX_b5_r).keep bd0
      have XB := below_step (unhide HB_r) bd0
      refine wp_region_hold (fun w' : World => (w'.cell? ⟨b4, 0, none⟩ = some (.bool t4.s) ∧ w'.cell? ⟨b4, 1, none⟩ = some (.slice t4.a1 t4.n1 t4.c1) ∧ w'.cell? ⟨b4, 2, none⟩ = some (.slice t4.a2 t4.n2 t4.c2)) ∧ w'.cell? ⟨b5, 0, none⟩ = some (.bool t5.s) ∧ w'.cell? ⟨b5, 1, none⟩ = some (.slice t5.a1 t5.n1 t5.c1) ∧ w'.cell? ⟨b5, 2, none⟩ = some (.slice t5.a2 t5.n2 t5.c2)) (by kernel_rfl) ?_
      obtain ⟨Wd, hWd⟩ : ∃ W, wr.drew = W := ⟨_, rfl⟩
      rw [hWd] at Xb4 Xb5 XB ⊢
      have hC0 : (fun w' : World => (w'.cell? ⟨b4, 0, none⟩ = some (.bool t4.s) ∧ w'.cell? ⟨b4, 1, none⟩ = some (.slice t4.a1 t4.n1 t4.c1) ∧ w'.cell? ⟨b4, 2, none⟩ = some (.slice t4.a2 t4.n2 t4.c2)) ∧ w'.cell? ⟨b5, 0, none⟩ = some (.bool t5.s) ∧ w'.cell? ⟨b5, 1, none⟩ = some (.slice t5.a1 t5.n1 t5.c1) ∧ w'.cell? ⟨b5, 2, none⟩ = some (.slice t5.a2 t5.n2 t5.c2)) Wd := ⟨Xb4.cells _ (Below.refl _ _), Xb5.cells _ (Below.refl _ _)⟩
      clear bd0 hWd HX_b4_r HX_b5_r HB_r
      refine wpHold_take (i := 0) (v := ?_) rfl (by kernel_rfl) (by kernel_rfl) (by kernel_rfl) (fun _ _ _ h => h) (Or.inl ⟨by rfl, ?_⟩) hC0 ?_
      rotate_left
      · intro w hSw; (try dsimp only at hSw); obtain ⟨⟨z0, z1, z2⟩, z3, z4, z5⟩ := hSw; go_simp; (try with_reducible rfl)
      (try simp only [List.getElem_toArray, List.getElem_cons_succ, List.getElem_cons_zero])
      (try simp only [Act.put, List.setIfInBounds_toArray, List.set_cons_zero, List.set_cons_succ])
      refine wpHold_take (i := 1) (v := ?_) rfl (by kernel_rfl) (by kernel_rfl) (by kernel_rfl) (fun _ _ _ h => h) (Or.inl ⟨by rfl, ?_⟩) hC0 ?_
      rotate_left
      · intro w hSw; (try dsimp only at hSw); obtain ⟨⟨z0, z1, z2⟩, z3, z4, z5⟩ := hSw; go_simp; (try with_reducible rfl)
      (try simp only [List.getElem_toArray, List.getElem_cons_succ, List.getElem_cons_zero])
      (try simp only [Act.put, List.setIfInBounds_toArray, List.set_cons_zero, List.set_cons_succ])
      have ⟨l0, l1, l2⟩ := Xb4.free
      have ⟨y0, y1, y2⟩ := Xb4.cells _ (Below.refl _ _)
      have Nb4 := hide (Xb4.set Xb4.2)
      have Nb5 := hide (Xb5.other Xb4 (Nat.ne_of_gt (unhide HL_b4_b5)) (.bool t4.s) (.slice t4.a1 t4.n1 t4.c1) (.slice t4.a2 t4.n2 t4.c2))
      have NB := hide (((XB.setCell (p := ⟨b4, 0, none⟩) (unhide HG_b4) (.bool t4.s)).setCell (p := ⟨b4, 1, none⟩) (unhide HG_b4) (.slice t4.a1 t4.n1 t4.c1)).setCell (p := ⟨b4, 2, none⟩) (unhide HG_b4) (.slice t4.a2 t4.n2 t4.c2))
      obtain ⟨We, hWe⟩ : ∃ W, ((Wd.setCell ⟨b4, 0, none⟩ (.bool t4.s)).setCell ⟨b4, 1, none⟩ (.slice t4.a1 t4.n1 t4.c1)).setCell ⟨b4, 2, none⟩ (.slice t4.a2 t4.n2 t4.c2) = W := ⟨_, rfl⟩
      rw [hWe] at Nb4 Nb5 NB
      have hCWe : (fun w' : World => (w'.cell? ⟨b4, 0, none⟩ = some (.bool t4.s) ∧ w'.cell? ⟨b4, 1, none⟩ = some (.slice t4.a1 t4.n1 t4.c1) ∧ w'.cell? ⟨b4, 2, none⟩ = some (.slice t4.a2 t4.n2 t4.c2)) ∧ w'.cell? ⟨b5, 0, none⟩ = some (.bool t5.s) ∧ w'.cell? ⟨b5, 1, none⟩ = some (.slice t5.a1 t5.n1 t5.c1) ∧ w'.cell? ⟨b5, 2, none⟩ = some (.slice t5.a2 t5.n2 t5.c2)) We := ⟨(unhide Nb4).cells _ (Below.refl _ _), (unhide Nb5).cells _ (Below.refl _ _)⟩
      clear Xb4 Xb5 XB
      refine wpHold_one (k := 2) (by kernel_rfl) rfl (fun K hK => ?_)
      (try simp only [List.getElem_toArray, List.getElem_cons_succ, List.getElem_cons_zero])
      go_simp
      refine hK.out _ _ hCWe ?_
      clear hK K
      (try simp only [Act.put, List.setIfInBounds_toArray, List.set_cons_zero, List.set_cons_succ])
      have Xb4 := unhide Nb4
      have Xb5 := unhide Nb5
      have XB := unhide NB
      clear Nb4 Nb5 NB hWe l0 l1 l2 y0 y1 y2
      have ⟨l0, l1, l2⟩ := Xb5.free
      have ⟨y0, y1, y2⟩ := Xb5.cells _ (Below.refl _ _)
      have Nb5 := hide (Xb5.set Xb5.2)
      have Nb4 := hide (Xb4.other Xb5 (Nat.ne_of_lt (unhide HL_b4_b5)) (.bool t5.s) (.slice t5.a1 t5.n1 t5.c1) (.slice t5.a2 t5.n2 t5.c2))
      have NB := hide (((XB.setCell (p := ⟨b5, 0, none⟩) (unhide HG_b5) (.bool t5.s)).setCell (p := ⟨b5, 1, none⟩) (unhide HG_b5) (.slice t5.a1 t5.n1 t5.c1)).setCell (p := ⟨b5, 2, none⟩) (unhide HG_b5) (.slice t5.a2 t5.n2 t5.c2))
      obtain ⟨Wf, hWf⟩ : ∃ W, ((We.setCell ⟨b5, 0, none⟩ (.bool t5.s)).setCell ⟨b5, 1, none⟩ (.slice t5.a1 t5.n1 t5.c1)).setCell ⟨b5, 2, none⟩ (.slice t5.a2 t5.n2 t5.c2) = W := ⟨_, rfl⟩
      rw [hWf] at Nb5 Nb4 NB
      have hCWf : (fun w' : World => (w'.cell? ⟨b4, 0, none⟩ = some (.bool t4.s) ∧ w'.cell? ⟨b4, 1, none⟩ = some (.slice t4.a1 t4.n1 t4.c1) ∧ w'.cell? ⟨b4, 2, none⟩ = some (.slice t4.a2 t4.n2 t4.c2)) ∧ w'.cell? ⟨b5, 0, none⟩ = some (.bool t5.s) ∧ w'.cell? ⟨b5, 1, none⟩ = some (.slice t5.a1 t5.n1 t5.c1) ∧ w'.cell? ⟨b5, 2, none⟩ = some (.slice t5.a2 t5.n2 t5.c2)) Wf := ⟨(unhide Nb4).cells _ (Below.refl _ _), (unhide Nb5).cells _ (Below.refl _ _)⟩
      clear Xb4 Xb5 XB
      refine wpHold_one (k := 3) (by kernel_rfl) rfl (fun K hK => ?_)
      (try simp only [List.getElem_toArray, List.getElem_cons_succ, List.getElem_cons_zero])
      go_simp
      refine hK.out _ _ hCWf ?_
      clear hK K
      (try simp only [Act.put, List.setIfInBounds_toArray, List.set_cons_zero, List.set_cons_succ])
      have Xb4 := unhide Nb4
      have Xb5 := unhide Nb5
      have XB := unhide NB
      clear Nb4 Nb5 NB hWf l0 l1 l2 y0 y1 y2
      refine wpHold_done (by kernel_rfl) ?_ _
      clear hC0 hCWe hCWf
      have ⟨y0, y1, y2⟩ := Xb4.cells _ (Below.refl _ _)
      have ⟨y3, y4, y5⟩ := Xb5.cells _ (Below.refl _ _)
      have HXb4 := hide Xb4
      have HXb5 := hide Xb5
      have HXB := hide XB
      clear Xb4 Xb5 XB
      go_wp2
      exact bodyPost_ret (v := .tuple #[.agg #[.bool t4.s, .slice t4.a1 t4.n1 t4.c1, .slice t4.a2 t4.n2 t4.c2], .agg #[.bool t5.s, .slice t5.a1 t5.n1 t5.c1, .slice t5.a2 t5.n2 t5.c2]]) (by simp [results, Tryz.results29, go_sem, y0, y1, y2, y3, y4, y5]) rfl ⟨_, _, rfl, (unhide HXb4).2, (unhide HXb5).2, unhide HXB⟩
end Go.Proofs.YtdicbnchkfclaaaGreatDoor
