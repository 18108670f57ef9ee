/- walk.Ruin. -/
import Derived.Test.YtdicbnchkfclaaaGreatDoorV1
import Derived.Test.YtdicbnchkfclaaaGreatDoorV2
import Derived.Test.YtdicbnchkfclaaaGreatDoorW26
namespace Go.Proofs.YtdicbnchkfclaaaGreatDoor
open Go.RowKit Go.Sort Go.Shelf

theorem one_RS' : RS (1 : Rat) 1 := by
  refine ⟨?_, ?_⟩ <;> (show (1 : Int) < Wd.pw 1; decide)
theorem onei_RS : RS ((1 : Int) : Rat) 1 := by
  refine ⟨?_, ?_⟩ <;> (show (1 : Int) < Wd.pw 1; decide)
theorem sg_one (u : Rat) : Wd.sg (u.num * ((1 : Int) : Rat).den) (((1 : Int) : Rat).num * u.den) = Wd.sg u.num u.den := by
  have h1 : ((1 : Int) : Rat).den = 1 := rfl
  have h2 : ((1 : Int) : Rat).num = 1 := rfl
  rw [h1, h2]; simp
theorem sg_ge {a b : Int} (h : b ≤ a) : 0 ≤ Wd.sg a b ∧ Wd.sg a b ≤ 1 := by
  unfold Wd.sg
  rw [if_neg (by omega)]
  by_cases e : a = b
  · rw [if_pos e]; exact ⟨by decide, by decide⟩
  · rw [if_neg e]; exact ⟨by decide, by decide⟩
theorem RS.sub' {a b : Rat} {i j : Nat} (ha : RS a i) (hb : RS b j) : RS (a - b) (i + j + 1) := by
  rw [Rat.sub_eq_add_neg]; exact ha.add hb.neg
theorem RS.div' {a b : Rat} {i j : Nat} (ha : RS a i) (hb : RS b j) (hz : b.num ≠ 0) : RS (a / b) (i + j) := by
  rw [Rat.div_def]; exact ha.mul (hb.inv hz)

def odds (u : Rat) : Rat := (1 - u) / u
theorem odds_RS {u : Rat} (h : RS u 1) (hz : u.num ≠ 0) : RS (odds u) 4 := by unfold odds; exact (RS.div' (RS.sub' one_RS' h) h hz).mono (by omega)
theorem pow_RS {r : Rat} (h : RS r 4) : ∀ k, RS (r ^ k) (4 * k + 1)
  | 0 => by rw [Rat.pow_zero]; exact one_RS'
  | k + 1 => by rw [Rat.pow_succ]; exact ((pow_RS h k).mul h).mono (by omega)
theorem fsm_RS {r : Rat} (h : RS r 4) : ∀ k, k ≤ 20 → RS (fsm r k) (1 + k * 100)
  | 0, _ => RS.zero.mono (by omega)
  | k + 1, hk => ((fsm_RS h k (by omega)).add (pow_RS h k)).mono (by omega)
theorem ssm_RS {r : Rat} (h : RS r 4) : ∀ k, k ≤ 20 → RS (ssm r k) (1 + k * 2100)
  | 0, _ => RS.zero.mono (by omega)
  | k + 1, hk => ((ssm_RS h k (by omega)).add (fsm_RS h k (by omega))).mono (by omega)
theorem fsm_pos {r : Rat} (h : 0 < r) : ∀ k, 0 ≤ fsm r k ∧ 0 < fsm r (k + 1)
  | 0 => ⟨Rat.le_refl, by show (0 : Rat) < 0 + r ^ 0; rw [Rat.pow_zero, Rat.zero_add]; decide⟩
  | k + 1 => by
    have h1 := (fsm_pos h k).2
    have h2 : 0 < r ^ (k + 1) := Rat.pow_pos h
    refine ⟨Rat.le_of_lt h1, ?_⟩
    show 0 < fsm r (k + 1) + r ^ (k + 1)
    grind

/-- What Ruin says. -/
def lostv (u : Rat) (g h : Nat) : Rat := 1 - fsm (odds u) h / fsm (odds u) g
def timesv (u : Rat) (g h : Nat) : Rat := (fsm (odds u) h / fsm (odds u) g * ssm (odds u) g - ssm (odds u) h) / u

set_option maxHeartbeats 16000000 in
set_option maxRecDepth 100000 in
set_option linter.unusedSimpArgs false in
theorem ruin_err (v : Value) (u : Rat) (g h : Nat) (w : World) (hv : RatIs w v u) (hu : RS u 1) (hg0 : 1 ≤ g) (hg : g ≤ 20) (hh : h ≤ g) (hbad : ¬ (0 < u.num ∧ u.num < u.den)) :
    Calls Tryz.prog 15 #[.int .i64 (h : Int), .int .i64 (g : Int), v] w fun e w' => e = .returned (.tuple #[.agg #[.bool false, .slice none 0 0, .slice none 0 0], .agg #[.bool false, .slice none 0 0, .slice none 0 0], .iface 37 (.int .i64 1)]) ∧ Below w.heap.size w w' := by
  obtain ⟨t, rfl, ht⟩ := tri_of hv
  have HB_0 := hide (below_step (below_step (alloc_below w (.cells #[.bool t.s, .slice t.a1 t.n1 t.c1, .slice t.a2 t.n2 t.c2] 27)) (alloc_below _ (.cells #[.bool false, .slice none 0 0, .slice none 0 0] 27))) (alloc_below _ (.cells #[.bool false, .slice none 0 0, .slice none 0 0] 27)))
  have HX_b5_0 := hide (((BoxIs.new ht).keep (alloc_below _ (.cells #[.bool false, .slice none 0 0, .slice none 0 0] 27))).keep (alloc_below _ (.cells #[.bool false, .slice none 0 0, .slice none 0 0] 27)))
  have HX_b6_0 := hide ((BoxIs.new (w := w.alloc (.cells #[.bool t.s, .slice t.a1 t.n1 t.c1, .slice t.a2 t.n2 t.c2] 27)) (t := zTri) (q := 0) (rat_zero _)).keep (alloc_below _ (.cells #[.bool false, .slice none 0 0, .slice none 0 0] 27)))
  have HX_b7_0 := hide (BoxIs.new (w := (w.alloc (.cells #[.bool t.s, .slice t.a1 t.n1 t.c1, .slice t.a2 t.n2 t.c2] 27)).alloc (.cells #[.bool false, .slice none 0 0, .slice none 0 0] 27)) (t := zTri) (q := 0) (rat_zero _))
  obtain ⟨W0, hW0⟩ : ∃ W, ((w.alloc (.cells #[.bool t.s, .slice t.a1 t.n1 t.c1, .slice t.a2 t.n2 t.c2] 27)).alloc (.cells #[.bool false, .slice none 0 0, .slice none 0 0] 27)).alloc (.cells #[.bool false, .slice none 0 0, .slice none 0 0] 27) = W := ⟨_, rfl⟩
  have e4 : (w.alloc (.cells #[.bool t.s, .slice t.a1 t.n1 t.c1, .slice t.a2 t.n2 t.c2] 27)).heap.size = w.heap.size + 1 := alloc_size _ _
  have e5 : ((w.alloc (.cells #[.bool t.s, .slice t.a1 t.n1 t.c1, .slice t.a2 t.n2 t.c2] 27)).alloc (.cells #[.bool false, .slice none 0 0, .slice none 0 0] 27)).heap.size = w.heap.size + 1 + 1 := by rw [alloc_size, e4]
  rw [show ((w.alloc (.cells #[.bool t.s, .slice t.a1 t.n1 t.c1, .slice t.a2 t.n2 t.c2] 27)).alloc (.cells #[.bool zTri.s, .slice zTri.a1 zTri.n1 zTri.c1, .slice zTri.a2 zTri.n2 zTri.c2] 27)).alloc (.cells #[.bool false, .slice none 0 0, .slice none 0 0] 27) = W0 from hW0, e4] at HX_b6_0
  rw [show ((w.alloc (.cells #[.bool t.s, .slice t.a1 t.n1 t.c1, .slice t.a2 t.n2 t.c2] 27)).alloc (.cells #[.bool false, .slice none 0 0, .slice none 0 0] 27)).alloc (.cells #[.bool zTri.s, .slice zTri.a1 zTri.n1 zTri.c1, .slice zTri.a2 zTri.n2 zTri.c2] 27) = W0 from hW0, e5] at HX_b7_0
  rw [hW0] at HB_0 HX_b5_0
  have HWE := hide hW0
  have i1 : ¬ (h : Int) < 0 := by omega
  have i2 : ¬ (g : Int) < (h : Int) := by omega
  have i3 : ¬ (g : Int) < 1 := by omega
  have i4 : ¬ (60 : Int) < (g : Int) := by omega
  have KKe : KK = 1099511627776 := rfl
  have HU := hide hu
  clear e4 e5 hW0 ht hv hu
  simp only [Tri.val]
  go_enter Tryz.func15, Tryz.ntmps15
  go_wp2_with fail
  rw [unhide HWE]
  clear HWE
  obtain ⟨b5, hb5⟩ : ∃ b, w.heap.size = b := ⟨_, rfl⟩
  obtain ⟨b6, hb6⟩ : ∃ b, b5 + 1 = b := ⟨_, rfl⟩
  obtain ⟨b7, hb7⟩ : ∃ b, b6 + 1 = b := ⟨_, rfl⟩
  have HG_b5 : Hid (w.heap.size ≤ b5) := by rw [hb5]; exact Nat.le_refl _
  have HG_b6 : Hid (w.heap.size ≤ b6) := show _ ≤ _ by omega
  have HG_b7 : Hid (w.heap.size ≤ b7) := show _ ≤ _ by omega
  have HL_b5_b6 : Hid (b5 < b6) := show _ < _ by omega
  have HL_b5_b7 : Hid (b5 < b7) := show _ < _ by omega
  have HL_b6_b7 : Hid (b6 < b7) := show _ < _ by omega
  rw [hb5] at HX_b5_0 HX_b6_0 HX_b7_0
  rw [hb6] at HX_b6_0 HX_b7_0
  rw [hb7] at HX_b7_0
  rw [hb5, hb6, hb7]
  clear hb5 hb6 hb7
  refine (whole_any 1 (by decide) (by decide) _).mono ?_
  rintro e w_1 ⟨v4, rfl, hv4, hbx⟩
  obtain ⟨t9, rfl, hr_1⟩ := tri_of hv4
  simp only [Tri.val]
  have HL_b5_b9 := hide (Nat.lt_of_lt_of_le (unhide HX_b5_0).lt hbx.size)
  have HL_b6_b9 := hide (Nat.lt_of_lt_of_le (unhide HX_b6_0).lt hbx.size)
  have HL_b7_b9 := hide (Nat.lt_of_lt_of_le (unhide HX_b7_0).lt hbx.size)
  have HG_b9 := hide (below_step (unhide HB_0) hbx).size
  have hb_1 := below_step hbx (alloc_below w_1 (.cells #[.bool t9.s, .slice t9.a1 t9.n1 t9.c1, .slice t9.a2 t9.n2 t9.c2] 27))
  have HB_2 := hide (below_step (unhide HB_0) hb_1)
  have HX_b5_2 := hide ((unhide HX_b5_0).keep hb_1)
  have HX_b6_2 := hide ((unhide HX_b6_0).keep hb_1)
  have HX_b7_2 := hide ((unhide HX_b7_0).keep hb_1)
  clear HB_0 HX_b5_0 HX_b6_0 HX_b7_0
  have HX_b9_1 := hide (BoxIs.new hr_1)
  obtain ⟨Wb9, hW_1⟩ : ∃ W, w_1.alloc (.cells #[.bool t9.s, .slice t9.a1 t9.n1 t9.c1, .slice t9.a2 t9.n2 t9.c2] 27) = W := ⟨_, rfl⟩
  obtain ⟨b9, hc_1⟩ : ∃ b, w_1.heap.size = b := ⟨_, rfl⟩
  rw [hW_1] at HB_2 HX_b5_2 HX_b6_2 HX_b7_2 HX_b9_1
  rw [hc_1] at HX_b9_1 HL_b5_b9 HL_b6_b9 HL_b7_b9 HG_b9
  clear hv4 hr_1 hbx hb_1
  obtain ⟨cb5_0, cb5_1, cb5_2⟩ := (unhide HX_b5_2).cells _ (Below.refl _ _)
  have HSG := hide (sign_any t.val u _ (unhide HX_b5_2).2)
  have HCM : Hid (∀ W, RatIs W t.val u → RatIs W t9.val ((1 : Int) : Rat) → _) := fun W h1 h2 => cmpR_any t.val t9.val u _ W h1 h2 (sm_of (unhide HU).1 (by decide)) (sm_of onei_RS.1 (by decide)) (sm_of (unhide HU).2 (by decide)) (sm_of onei_RS.2 (by decide))
  by_cases hp : 0 < u.num
  · have hs : u.num.sign = 1 := Int.sign_eq_one_of_pos hp
    have hc := sg_ge (show (u.den : Int) ≤ u.num by
      by_cases h' : u.num < u.den
      · exact absurd ⟨hp, h'⟩ hbad
      · omega)
    rw [hs] at HSG
    rw [sg_one] at HCM
    obtain ⟨hc1, hc2⟩ := hc
    generalize Wd.sg u.num u.den = cm at *
    clear hbad hp hs
    go_wp2_with fail
    clear hW_1 hc_1
    clear cb5_0 cb5_1 cb5_2
    refine (unhide HSG).mono ?_
    rintro e w_3 ⟨rfl, hbx⟩
    have HB_4 := hide (below_step (unhide HB_2) hbx)
    have HX_b5_4 := hide ((unhide HX_b5_2).keep hbx)
    have HX_b6_4 := hide ((unhide HX_b6_2).keep hbx)
    have HX_b7_4 := hide ((unhide HX_b7_2).keep hbx)
    have HX_b9_4 := hide ((unhide HX_b9_1).keep hbx)
    clear HB_2 HX_b5_2 HX_b6_2 HX_b7_2 HX_b9_1
    clear hbx
    obtain ⟨cb5_0, cb5_1, cb5_2⟩ := (unhide HX_b5_4).cells _ (Below.refl _ _)
    obtain ⟨cb9_0, cb9_1, cb9_2⟩ := (unhide HX_b9_4).cells _ (Below.refl _ _)
    go_wp2_with fail
    clear cb5_0 cb5_1 cb5_2 cb9_0 cb9_1 cb9_2
    refine (unhide HCM _ (unhide HX_b5_4).2 (unhide HX_b9_4).2).mono ?_
    rintro e w_5 ⟨rfl, hbx⟩
    have HB_6 := hide (below_step (unhide HB_4) hbx)
    have HX_b5_6 := hide ((unhide HX_b5_4).keep hbx)
    have HX_b6_6 := hide ((unhide HX_b6_4).keep hbx)
    have HX_b7_6 := hide ((unhide HX_b7_4).keep hbx)
    have HX_b9_6 := hide ((unhide HX_b9_4).keep hbx)
    clear HB_4 HX_b5_4 HX_b6_4 HX_b7_4 HX_b9_4
    clear hbx
    have Q6 := unhide HX_b6_6
    have Q7 := unhide HX_b7_6
    have ⟨l0, l1, l2⟩ := Q6.free
    have ⟨l3, l4, l5⟩ := Q7.free
    have ⟨y0, y1, y2⟩ := Q6.cells _ (Below.refl _ _)
    have ⟨y3, y4, y5⟩ := Q7.cells _ (Below.refl _ _)
    have Y6 := Q6.set (t' := zTri) (q' := 0) (rat_zero _)
    have Y7 := Q7.other Q6 (Nat.ne_of_gt (unhide HL_b6_b7)) (.bool zTri.s) (.slice zTri.a1 zTri.n1 zTri.c1) (.slice zTri.a2 zTri.n2 zTri.c2)
    have Z7 := Y7.set (t' := zTri) (q' := 0) (rat_zero _)
    have Z6 := Y6.other Y7 (Nat.ne_of_lt (unhide HL_b6_b7)) (.bool zTri.s) (.slice zTri.a1 zTri.n1 zTri.c1) (.slice zTri.a2 zTri.n2 zTri.c2)
    have ZB := ((((((unhide HB_6).setCell (p := ⟨b6, 0, none⟩) (unhide HG_b6) (.bool false)).setCell (p := ⟨b6, 1, none⟩) (unhide HG_b6) (.slice none 0 0)).setCell (p := ⟨b6, 2, none⟩) (unhide HG_b6) (.slice none 0 0)).setCell (p := ⟨b7, 0, none⟩) (unhide HG_b7) (.bool false)).setCell (p := ⟨b7, 1, none⟩) (unhide HG_b7) (.slice none 0 0)).setCell (p := ⟨b7, 2, none⟩) (unhide HG_b7) (.slice none 0 0)
    have ⟨l6, l7, l8⟩ := Y7.free
    have ⟨y6, y7, y8⟩ := Y7.cells _ (Below.refl _ _)
    simp only [zTri] at Y6 Y7 Z6 Z7 y0 y1 y2 y3 y4 y5 y6 y7 y8 l6 l7 l8
    obtain ⟨Wy, hWy⟩ : ∃ W, ((w_5.setCell ⟨b6, 0, none⟩ (.bool false)).setCell ⟨b6, 1, none⟩ (.slice none 0 0)).setCell ⟨b6, 2, none⟩ (.slice none 0 0) = W := ⟨_, rfl⟩
    rw [hWy] at Z6 Z7 ZB l6 l7 l8 y6 y7 y8
    obtain ⟨Wz, hWz⟩ : ∃ W, ((Wy.setCell ⟨b7, 0, none⟩ (.bool false)).setCell ⟨b7, 1, none⟩ (.slice none 0 0)).setCell ⟨b7, 2, none⟩ (.slice none 0 0) = W := ⟨_, rfl⟩
    rw [hWz] at Z6 Z7 ZB
    have ⟨x0, x1, x2⟩ := Z6.cells _ (Below.refl _ _)
    have ⟨x3, x4, x5⟩ := Z7.cells _ (Below.refl _ _)
    have HZB := hide ZB
    clear Q6 Q7 Y6 Y7 Z6 Z7 ZB
    go_wp2
    exact bodyPost_ret (v := .tuple #[.agg #[.bool false, .slice none 0 0, .slice none 0 0], .agg #[.bool false, .slice none 0 0, .slice none 0 0], .iface 37 (.int .i64 1)]) (by simp [results, Tryz.results15, go_sem, x0, x1, x2, x3, x4, x5]) rfl ⟨rfl, unhide HZB⟩
  · have hs : u.num.sign ≤ 0 := by
      rcases Int.lt_trichotomy u.num 0 with h' | h' | h'
      · rw [Int.sign_eq_neg_one_of_neg h']; decide
      · rw [h']; decide
      · exact absurd h' hp
    obtain ⟨hs1, _⟩ := sign_bd u.num
    generalize u.num.sign = sg at *
    clear hbad hp HCM
    go_wp2_with fail
    clear hW_1 hc_1
    clear cb5_0 cb5_1 cb5_2
    refine (unhide HSG).mono ?_
    rintro e w_3 ⟨rfl, hbx⟩
    have HB_4 := hide (below_step (unhide HB_2) hbx)
    have HX_b5_4 := hide ((unhide HX_b5_2).keep hbx)
    have HX_b6_4 := hide ((unhide HX_b6_2).keep hbx)
    have HX_b7_4 := hide ((unhide HX_b7_2).keep hbx)
    have HX_b9_4 := hide ((unhide HX_b9_1).keep hbx)
    clear HB_2 HX_b5_2 HX_b6_2 HX_b7_2 HX_b9_1
    clear hbx
    have Q6 := unhide HX_b6_4
    have Q7 := unhide HX_b7_4
    have ⟨l0, l1, l2⟩ := Q6.free
    have ⟨l3, l4, l5⟩ := Q7.free
    have ⟨y0, y1, y2⟩ := Q6.cells _ (Below.refl _ _)
    have ⟨y3, y4, y5⟩ := Q7.cells _ (Below.refl _ _)
    have Y6 := Q6.set (t' := zTri) (q' := 0) (rat_zero _)
    have Y7 := Q7.other Q6 (Nat.ne_of_gt (unhide HL_b6_b7)) (.bool zTri.s) (.slice zTri.a1 zTri.n1 zTri.c1) (.slice zTri.a2 zTri.n2 zTri.c2)
    have Z7 := Y7.set (t' := zTri) (q' := 0) (rat_zero _)
    have Z6 := Y6.other Y7 (Nat.ne_of_lt (unhide HL_b6_b7)) (.bool zTri.s) (.slice zTri.a1 zTri.n1 zTri.c1) (.slice zTri.a2 zTri.n2 zTri.c2)
    have ZB := ((((((unhide HB_4).setCell (p := ⟨b6, 0, none⟩) (unhide HG_b6) (.bool false)).setCell (p := ⟨b6, 1, none⟩) (unhide HG_b6) (.slice none 0 0)).setCell (p := ⟨b6, 2, none⟩) (unhide HG_b6) (.slice none 0 0)).setCell (p := ⟨b7, 0, none⟩) (unhide HG_b7) (.bool false)).setCell (p := ⟨b7, 1, none⟩) (unhide HG_b7) (.slice none 0 0)).setCell (p := ⟨b7, 2, none⟩) (unhide HG_b7) (.slice none 0 0)
    have ⟨l6, l7, l8⟩ := Y7.free
    have ⟨y6, y7, y8⟩ := Y7.cells _ (Below.refl _ _)
    simp only [zTri] at Y6 Y7 Z6 Z7 y0 y1 y2 y3 y4 y5 y6 y7 y8 l6 l7 l8
    obtain ⟨Wy, hWy⟩ : ∃ W, ((w_3.setCell ⟨b6, 0, none⟩ (.bool false)).setCell ⟨b6, 1, none⟩ (.slice none 0 0)).setCell ⟨b6, 2, none⟩ (.slice none 0 0) = W := ⟨_, rfl⟩
    rw [hWy] at Z6 Z7 ZB l6 l7 l8 y6 y7 y8
    obtain ⟨Wz, hWz⟩ : ∃ W, ((Wy.setCell ⟨b7, 0, none⟩ (.bool false)).setCell ⟨b7, 1, none⟩ (.slice none 0 0)).setCell ⟨b7, 2, none⟩ (.slice none 0 0) = W := ⟨_, rfl⟩
    rw [hWz] at Z6 Z7 ZB
    have ⟨x0, x1, x2⟩ := Z6.cells _ (Below.refl _ _)
    have ⟨x3, x4, x5⟩ := Z7.cells _ (Below.refl _ _)
    have HZB := hide ZB
    clear Q6 Q7 Y6 Y7 Z6 Z7 ZB
    go_wp2
    exact bodyPost_ret (v := .tuple #[.agg #[.bool false, .slice none 0 0, .slice none 0 0], .agg #[.bool false, .slice none 0 0, .slice none 0 0], .iface 37 (.int .i64 1)]) (by simp [results, Tryz.results15, go_sem, x0, x1, x2, x3, x4, x5]) rfl ⟨rfl, unhide HZB⟩
end Go.Proofs.YtdicbnchkfclaaaGreatDoor
