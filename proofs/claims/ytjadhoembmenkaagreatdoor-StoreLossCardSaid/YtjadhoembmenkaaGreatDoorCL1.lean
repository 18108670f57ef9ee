/- The document's Loss; the program's, where something is wrong. -/
import Derived.Test.YtjadhoembmenkaaGreatDoorBI
import Derived.Test.YtjadhoembmenkaaGreatDoorWB
import Derived.Test.YtjadhoembmenkaaGreatDoorO2
namespace Go.Proofs.YtjadhoembmenkaaGreatDoor
open Go.RowKit Go.Sort Go.Shelf

set_option maxHeartbeats 2000000 in
theorem overI_err (v : Value) (qs : List Rat) (J : Nat) (p : Int) (w : World) (h : LawIs w v qs) (hq : ∀ j, j < qs.length → RS qs[j]! J) (hJ : (qs.length * (J + 1) + 1 + J) + (qs.length * (J + 1) + 1 + J) + 1 ≤ KK) (hc : chk qs ≠ 0) :
    Calls Tryz.prog 34 #[v, .int .i64 p] w fun e w' => e = .returned (.tuple #[zAgg, errV (chk qs)]) ∧ Below w.heap.size w w' := by
  obtain ⟨hb0, hX, hI, hI2⟩ := intBox_parts w p
  have HC := hide (check_any v qs J _ (h.below hb0) hq hJ)
  rw [errV_not hc] at HC ⊢
  generalize chk qs = k at *
  have HB0 := hide hb0
  have HX := hide hX
  obtain ⟨W0, hW0⟩ : ∃ W, (w.alloc (.cells #[.int .i64 p] 3)).alloc (.cells #[.bool false, .slice none 0 0, .slice none 0 0] 29) = W := ⟨_, rfl⟩
  obtain ⟨gr, hgr⟩ : ∃ g, w.heap.size + 1 = g := ⟨_, rfl⟩
  have hle : w.heap.size ≤ gr := by omega
  have hW0' : intBox w p = W0 := hW0
  rw [hW0'] at HC HB0 HX
  rw [hgr] at HX
  have HLE := hide hle
  clear h hq hJ hc hb0 hX hI hI2 hW0' hle
  go_enter Tryz.func34, Tryz.ntmps34
  go_wp2_with fail
  clear hW0 hgr
  refine (unhide HC).mono ?_
  rintro e w2 ⟨rfl, hb2⟩
  have X2 := (unhide HX).keep hb2
  have ⟨g0, g1, g2, f0, f1, f2⟩ := box_cell X2.1
  have BEL := hide ((((below_step (unhide HB0) hb2).setCell (p := ⟨gr, 0, none⟩) (unhide HLE) (.bool false)).setCell (p := ⟨gr, 1, none⟩) (unhide HLE) (.slice none 0 0)).setCell (p := ⟨gr, 2, none⟩) (unhide HLE) (.slice none 0 0))
  clear X2 hb2
  go_wp2
  exact bodyPost_ret (v := .tuple #[zAgg, .iface 22 (.int .i64 k)]) (by simp [results, Tryz.results34, go_sem, g0, g1, g2, zAgg]) rfl ⟨rfl, unhide BEL⟩
set_option maxHeartbeats 8000000 in
set_option maxRecDepth 100000 in
set_option linter.unusedSimpArgs false in
theorem overI_bad (v : Value) (qs : List Rat) (J : Nat) (p : Int) (w : World) (h : LawIs w v qs) (hq : ∀ j, j < qs.length → RS qs[j]! J) (hJ : (qs.length * (J + 1) + 1 + J) + (qs.length * (J + 1) + 1 + J) + 1 ≤ KK) (hc : chk qs = 0) (hp : p < 0 ∨ 100 < p) :
    Calls Tryz.prog 34 #[v, .int .i64 p] w fun e w' => e = .returned (.tuple #[zAgg, .iface 22 (.int .i64 2)]) ∧ Below w.heap.size w w' := by
  obtain ⟨hb0, hX, hI, hI2⟩ := intBox_parts w p
  have HC := hide (check_any v qs J _ (h.below hb0) hq hJ)
  rw [hc, errV_zero] at HC
  have HB0 := hide hb0
  have HX := hide hX
  have HI : Hid (∀ W, Below (intBox w p).heap.size (intBox w p) W → W.cell? ⟨w.heap.size, 0, none⟩ = some (.int .i64 p)) := fun W hW => by rw [hW.cell (p := ⟨w.heap.size, 0, none⟩) hI2]; exact hI
  obtain ⟨W0, hW0⟩ : ∃ W, (w.alloc (.cells #[.int .i64 p] 3)).alloc (.cells #[.bool false, .slice none 0 0, .slice none 0 0] 29) = W := ⟨_, rfl⟩
  obtain ⟨gr, hgr⟩ : ∃ g, w.heap.size + 1 = g := ⟨_, rfl⟩
  have hle : w.heap.size ≤ gr := by omega
  have hW0' : intBox w p = W0 := hW0
  rw [hW0'] at HC HB0 HX HI
  rw [hgr] at HX
  have HLE := hide hle
  have HP : Hid (p < 0 ∨ 100 < p) := hp
  clear h hq hJ hc hb0 hX hI hI2 hW0' hle hp
  go_enter Tryz.func34, Tryz.ntmps34
  go_wp2_with fail
  clear hW0 hgr
  refine (unhide HC).mono ?_
  rintro e w2 ⟨rfl, hb2⟩
  have hc2 := unhide HI _ hb2
  have X2 := (unhide HX).keep hb2
  have ⟨g0, g1, g2, f0, f1, f2⟩ := box_cell X2.1
  have BEL := hide ((((below_step (unhide HB0) hb2).setCell (p := ⟨gr, 0, none⟩) (unhide HLE) (.bool false)).setCell (p := ⟨gr, 1, none⟩) (unhide HLE) (.slice none 0 0)).setCell (p := ⟨gr, 2, none⟩) (unhide HLE) (.slice none 0 0))
  clear X2 hb2
  by_cases hp0 : p < 0
  · go_wp2
    exact bodyPost_ret (v := .tuple #[zAgg, .iface 22 (.int .i64 2)]) (by simp [results, Tryz.results34, go_sem, g0, g1, g2, zAgg]) rfl ⟨rfl, unhide BEL⟩
  · have hp1 : 100 < p := (unhide HP).resolve_left hp0
    go_wp2
    exact bodyPost_ret (v := .tuple #[zAgg, .iface 22 (.int .i64 2)]) (by simp [results, Tryz.results34, go_sem, g0, g1, g2, zAgg]) rfl ⟨rfl, unhide BEL⟩
theorem RS_int {x : Int} (h : I64 x) : RS (x : Rat) 1 := by
  refine ⟨?_, ?_⟩
  · rw [Rat.num_intCast, Wd.pw_one]; have := h.1; have := h.2; omega
  · rw [Rat.den_intCast]; decide
end Go.Proofs.YtjadhoembmenkaaGreatDoor
namespace Go.Proofs.YtjadhoembmenkaaGreatDoor
open Go.RowKit Go.Sort Go.Shelf

/-- What the first i amounts cost. -/
def lossP (qs : List Rat) (a b : Rat) (n i : Nat) : Rat := a * wsum qs (over n) i + b * rsum qs (unsR n) i
theorem lossP_all (qs : List Rat) (a b : Rat) (n : Nat) : lossP qs a b n qs.length = lossV qs a b n := rfl
theorem lossP_next (qs : List Rat) (a b : Rat) (n i : Nat) : lossP qs a b n i + qs[i]! * (a * ((over n i : Int) : Rat) + b * ((uns n i : Int) : Rat)) = lossP qs a b n (i + 1) := by
  have e1 : wsum qs (over n) (i + 1) = wsum qs (over n) i + qs[i]! * ((over n i : Int) : Rat) := rfl
  have e2 : rsum qs (unsR n) (i + 1) = rsum qs (unsR n) i + qs[i]! * ((uns n i : Int) : Rat) := rfl
  unfold lossP
  rw [e1, e2]
  grind
theorem lossP_RS {qs : List Rat} {a b : Rat} {n i : Nat} (hq : ∀ j, j < qs.length → RS qs[j]! 1) (hl : qs.length ≤ 101) (ha : RS a 1) (hb : RS b 1) (hn : n ≤ 100) (hi : i ≤ qs.length) : RS (lossP qs a b n i) 2000 := by
  have rm := wsum_RS (F := over n) hq (fun j hj => over_I64 (by omega)) i hi
  have ru := rsum_RS (F := unsR n) (JF := 1) hq (fun j _ => whole_RS (uns_I64 (by omega))) i hi
  exact ((ha.mul rm).add (hb.mul ru)).mono (by omega)

set_option maxHeartbeats 16000000 in
set_option maxRecDepth 100000 in
set_option linter.unusedSimpArgs false in
theorem refLoss_any (v : Value) (b_less b_left : Nat) (qs : List Rat) (a b : Rat) (n : Nat) (w : World) (h : RList w v qs) (hl : BRz w b_less 0 a) (hf : BRz w b_left 0 b) (hq : ∀ j, j < qs.length → RS qs[j]! 1) (ha : RS a 1) (hb : RS b 1) (hlen : qs.length ≤ 101) (hn : n ≤ 100) :
    Calls Tryz.prog 12 #[v, .pointer (some ⟨b_less, 0, none⟩), .pointer (some ⟨b_left, 0, none⟩), .int .i64 (n : Int)] w (NewsZ w (lossV qs a b n)) := by
  obtain ⟨av, c, rfl, h1, h2, h3⟩ := h
  obtain ⟨m, hm⟩ : ∃ m, qs.length = m := ⟨_, rfl⟩
  rw [hm] at h1 h3 hlen ⊢
  have H3 := hide h3
  have HQ := hide hq
  have HM := hide hm
  have HLN := hide hlen
  have HN := hide hn
  have RA := hide ha
  have RB := hide hb
  have HL0 := hide hl
  have HF0 := hide hf
  have HI := hide (refIntz_any 0 (by decide) (by decide) w)
  rw [Rat.intCast_zero] at HI
  clear h3 hq hm hl hf ha hb
  go_enter Tryz.func12, Tryz.ntmps12
  go_wp2_with fail
  refine (unhide HI).mono ?_
  rintro e w1 ⟨b1, rfl, hge, hr, hb1⟩
  have HR : Hid (BRz w1 b1 0 (lossP qs a b n 0)) := by
    show BRz _ _ _ _
    have e : lossP qs a b n 0 = 0 := by
      show a * 0 + b * 0 = 0
      grind
    rw [e]; exact hr
  have HB := hide hb1
  have HG := hide hge
  clear hr hb1 hge HI
  go_wp2_with fail
  go_loopw [9, 15] (fun vs vi wr => ∃ (i b' : Nat), vs = .pointer (some ⟨b', 0, none⟩) ∧ vi = .int .i64 (i : Int) ∧ i ≤ m ∧ BRz wr b' 0 (lossP qs a b n i) ∧ Below w.heap.size w wr ∧ w.heap.size ≤ b') (fun _ vi _ => m - (intOf vi).toNat)
  case atStart => exact ⟨0, b1, rfl, rfl, Nat.zero_le _, unhide HR, unhide HB, unhide HG⟩
  case round =>
    obtain ⟨i, b_s, rfl, rfl, hi, hr, hbl, hge⟩ := hrel
    have HGE := hide hge
    have HBL := hide hbl
    have HS := hide hr
    by_cases hlt : i < m
    · obtain ⟨bl, ol, rfl, hblt, hcs⟩ := unhide H3 (by omega)
      obtain ⟨b_p, k0, kx⟩ := hcs i hlt
      rw [← hbl.cell (p := ⟨bl, ol + i, none⟩) hblt] at k0
      have HP := hide (kx.below hbl)
      have HLE := hide ((unhide HL0).below hbl)
      have HLF := hide ((unhide HF0).below hbl)
      have hi0 : (0 : Int) ≤ (i : Int) := by omega
      have hi1 : (i : Int) < (m : Int) := by omega
      have s1 : IntKind.i64.wrap ((i : Int) - (n : Int)) = (i : Int) - (n : Int) := by rw [IntKind.wrap_i64]; omega
      have s3 : IntKind.i64.wrap ((n : Int) - (i : Int)) = (n : Int) - (i : Int) := by rw [IntKind.wrap_i64]; omega
      have s2 : max 0 ((i : Int) - (n : Int)) = over n i := by unfold over; omega
      have s4 : max 0 ((n : Int) - (i : Int)) = uns n i := by unfold uns; omega
      have HOB0 : Hid (I64 (over n i)) := over_I64 (by omega)
      have HUB0 : Hid (I64 (uns n i)) := uns_I64 (by omega)
      have HEQ := hide (lossP_next qs a b n i)
      have RSS : Hid (RS (lossP qs a b n i) 2000) := lossP_RS (unhide HQ) (by rw [unhide HM]; exact unhide HLN) (unhide RA) (unhide RB) hn (by rw [unhide HM]; exact hi)
      obtain ⟨ov, hov⟩ : ∃ t, over n i = t := ⟨_, rfl⟩
      obtain ⟨un, hun⟩ : ∃ t, uns n i = t := ⟨_, rfl⟩
      have HOB : Hid (I64 ov) := by show I64 ov; rw [← hov]; exact unhide HOB0
      have HUB : Hid (I64 un) := by show I64 un; rw [← hun]; exact unhide HUB0
      rw [hov] at s2
      rw [hun] at s4
      rw [hov, hun] at HEQ
      have RP := hide (unhide HQ i (by rw [unhide HM]; exact hlt))
      have RM1 : Hid (RS (a * (ov : Rat)) 2) := RS.mono ((unhide RA).mul (RS_int (unhide HOB))) (by omega)
      have RM2 : Hid (RS (b * (un : Rat)) 2) := RS.mono ((unhide RB).mul (RS_int (unhide HUB))) (by omega)
      have RA1 : Hid (RS (a * (ov : Rat) + b * (un : Rat)) 5) := ((unhide RM1).add (unhide RM2)).mono (by omega)
      have RM3 : Hid (RS (qs[i]! * (a * (ov : Rat) + b * (un : Rat))) 6) := ((unhide RP).mul (unhide RA1)).mono (by omega)
      clear hr hbl hge kx hcs hov hun HOB0 HUB0
      have HC_1 := hide (refIntz_any ov (unhide HOB).1 (unhide HOB).2 wr)
      go_wp2_with fail
      refine (unhide HC_1).mono ?_
      rintro e wq_1 ⟨b_i1, rfl, hg_1, hr_1, hb_1⟩
      have Hs_1 := hide ((unhide HS).below hb_1)
      have Hless_1 := hide ((unhide HLE).below hb_1)
      have Hleft_1 := hide ((unhide HLF).below hb_1)
      have Hp_1 := hide ((unhide HP).below hb_1)
      have Hi1_1 := hide hr_1
      have HB_1 := hide (bstep (unhide HBL) hb_1)
      clear hg_1 hr_1 hb_1 HC_1 HS HLE HLF HP
      have HC_2 := hide (refMul_any b_less b_i1 1 1 _ _ wq_1 (unhide Hless_1) (unhide Hi1_1) (unhide RA) (RS_int (unhide HOB)) (by omega))
      go_wp2_with fail
      refine (unhide HC_2).mono ?_
      rintro e wq_2 ⟨b_m1, rfl, hg_2, hr_2, hb_2⟩
      have Hs_2 := hide ((unhide Hs_1).below hb_2)
      have Hless_2 := hide ((unhide Hless_1).below hb_2)
      have Hleft_2 := hide ((unhide Hleft_1).below hb_2)
      have Hp_2 := hide ((unhide Hp_1).below hb_2)
      have Hi1_2 := hide ((unhide Hi1_1).below hb_2)
      have Hm1_2 := hide hr_2
      have HB_2 := hide (bstep (unhide HB_1) hb_2)
      clear hg_2 hr_2 hb_2 HC_2 Hs_1 Hless_1 Hleft_1 Hp_1 Hi1_1
      clear Hi1_2
      have HC_3 := hide (refIntz_any un (unhide HUB).1 (unhide HUB).2 wq_2)
      go_wp2_with fail
      refine (unhide HC_3).mono ?_
      rintro e wq_3 ⟨b_i2, rfl, hg_3, hr_3, hb_3⟩
      have Hs_3 := hide ((unhide Hs_2).below hb_3)
      have Hless_3 := hide ((unhide Hless_2).below hb_3)
      have Hleft_3 := hide ((unhide Hleft_2).below hb_3)
      have Hp_3 := hide ((unhide Hp_2).below hb_3)
      have Hm1_3 := hide ((unhide Hm1_2).below hb_3)
      have Hi2_3 := hide hr_3
      have HB_3 := hide (bstep (unhide HB_2) hb_3)
      clear hg_3 hr_3 hb_3 HC_3 Hs_2 Hless_2 Hleft_2 Hp_2 Hm1_2
      have HC_4 := hide (refMul_any b_left b_i2 1 1 _ _ wq_3 (unhide Hleft_3) (unhide Hi2_3) (unhide RB) (RS_int (unhide HUB)) (by omega))
      go_wp2_with fail
      refine (unhide HC_4).mono ?_
      rintro e wq_4 ⟨b_m2, rfl, hg_4, hr_4, hb_4⟩
      have Hs_4 := hide ((unhide Hs_3).below hb_4)
      have Hless_4 := hide ((unhide Hless_3).below hb_4)
      have Hleft_4 := hide ((unhide Hleft_3).below hb_4)
      have Hp_4 := hide ((unhide Hp_3).below hb_4)
      have Hm1_4 := hide ((unhide Hm1_3).below hb_4)
      have Hi2_4 := hide ((unhide Hi2_3).below hb_4)
      have Hm2_4 := hide hr_4
      have HB_4 := hide (bstep (unhide HB_3) hb_4)
      clear hg_4 hr_4 hb_4 HC_4 Hs_3 Hless_3 Hleft_3 Hp_3 Hm1_3 Hi2_3
      clear Hi2_4
      have HC_5 := hide (refAdd_any b_m1 b_m2 2 2 _ _ wq_4 (unhide Hm1_4) (unhide Hm2_4) (unhide RM1) (unhide RM2) (by omega))
      go_wp2_with fail
      refine (unhide HC_5).mono ?_
      rintro e wq_5 ⟨b_a1, rfl, hg_5, hr_5, hb_5⟩
      have Hs_5 := hide ((unhide Hs_4).below hb_5)
      have Hless_5 := hide ((unhide Hless_4).below hb_5)
      have Hleft_5 := hide ((unhide Hleft_4).below hb_5)
      have Hp_5 := hide ((unhide Hp_4).below hb_5)
      have Hm1_5 := hide ((unhide Hm1_4).below hb_5)
      have Hm2_5 := hide ((unhide Hm2_4).below hb_5)
      have Ha1_5 := hide hr_5
      have HB_5 := hide (bstep (unhide HB_4) hb_5)
      clear hg_5 hr_5 hb_5 HC_5 Hs_4 Hless_4 Hleft_4 Hp_4 Hm1_4 Hm2_4
      clear Hm1_5
      clear Hm2_5
      have HC_6 := hide (refMul_any b_p b_a1 1 5 _ _ wq_5 (unhide Hp_5) (unhide Ha1_5) (unhide RP) (unhide RA1) (by omega))
      go_wp2_with fail
      refine (unhide HC_6).mono ?_
      rintro e wq_6 ⟨b_m3, rfl, hg_6, hr_6, hb_6⟩
      have Hs_6 := hide ((unhide Hs_5).below hb_6)
      have Hless_6 := hide ((unhide Hless_5).below hb_6)
      have Hleft_6 := hide ((unhide Hleft_5).below hb_6)
      have Hp_6 := hide ((unhide Hp_5).below hb_6)
      have Ha1_6 := hide ((unhide Ha1_5).below hb_6)
      have Hm3_6 := hide hr_6
      have HB_6 := hide (bstep (unhide HB_5) hb_6)
      clear hg_6 hr_6 hb_6 HC_6 Hs_5 Hless_5 Hleft_5 Hp_5 Ha1_5
      clear Hp_6
      clear Ha1_6
      have HC_7 := hide (refAdd_any b_s b_m3 2000 6 _ _ wq_6 (unhide Hs_6) (unhide Hm3_6) (unhide RSS) (unhide RM3) (by omega))
      go_wp2_with fail
      refine (unhide HC_7).mono ?_
      rintro e wq_7 ⟨b_s2, rfl, hg_7, hr_7, hb_7⟩
      have HGs2 := hide (Nat.le_trans (unhide HB_6).size hg_7)
      have Hs_7 := hide ((unhide Hs_6).below hb_7)
      have Hless_7 := hide ((unhide Hless_6).below hb_7)
      have Hleft_7 := hide ((unhide Hleft_6).below hb_7)
      have Hm3_7 := hide ((unhide Hm3_6).below hb_7)
      have Hs2_7 := hide hr_7
      have HB_7 := hide (bstep (unhide HB_6) hb_7)
      clear hg_7 hr_7 hb_7 HC_7 Hs_6 Hless_6 Hleft_6 Hm3_6
      clear Hs_7
      clear Hm3_7
      clear Hless_7
      clear Hleft_7
      have HR9 : Hid (BRz wq_7 b_s2 0 (lossP qs a b n (i + 1))) := by show BRz _ _ _ _; rw [← unhide HEQ]; exact (unhide Hs2_7)
      go_wp2_with fail
      exact ⟨⟨i + 1, b_s2, rfl, by go_num, hlt, unhide HR9, unhide HB_7, unhide HGs2⟩, by simp [intOf]; omega⟩
    · obtain rfl : m = i := by omega
      have e8 : lossP qs a b n m = lossV qs a b n := by rw [← unhide HM]; exact lossP_all qs a b n
      have HE8 := hide e8
      clear hr hbl hge e8
      go_wp2
      (try simp only [Exit.inBlock, Exit.then])
      (try go_wp2)
      go_ret
      exact ⟨b_s, rfl, unhide HGE, by rw [← unhide HE8]; exact unhide HS, unhide HBL⟩

set_option maxHeartbeats 16000000 in
set_option maxRecDepth 100000 in
set_option linter.unusedSimpArgs false in
theorem loss_err (v vl vf : Value) (n : Int) (k : Int) (a b : Rat) (w : World) (hl : RatIs w vl a) (hf : RatIs w vf b) (hv : ∃ s m c, v = .slice s m c) (hO : ∀ W, Below w.heap.size w W → Calls Tryz.prog 34 #[v, .int .i64 n] W fun e w' => e = .returned (.tuple #[zAgg, .iface 22 (.int .i64 k)]) ∧ Below W.heap.size W w') :
    Calls Tryz.prog 14 #[v, vl, vf, .int .i64 n] w fun e w' => e = .returned (.tuple #[.agg #[.bool false, .slice none 0 0, .slice none 0 0], .iface 22 (.int .i64 k)]) ∧ Below w.heap.size w w' := by
  obtain ⟨sv, m, c, rfl⟩ := hv
  obtain ⟨t1, rfl, r1⟩ := tri_of hl
  obtain ⟨t2, rfl, r2⟩ := tri_of hf
  have b1 := alloc_below w (.cells #[.bool t1.s, .slice t1.a1 t1.n1 t1.c1, .slice t1.a2 t1.n2 t1.c2] 29)
  obtain ⟨W1, hW1⟩ : ∃ W, w.alloc (.cells #[.bool t1.s, .slice t1.a1 t1.n1 t1.c1, .slice t1.a2 t1.n2 t1.c2] 29) = W := ⟨_, rfl⟩
  rw [hW1] at b1
  have b2 := alloc_below W1 (.cells #[.bool t2.s, .slice t2.a1 t2.n1 t2.c1, .slice t2.a2 t2.n2 t2.c2] 29)
  obtain ⟨W2, hW2⟩ : ∃ W, W1.alloc (.cells #[.bool t2.s, .slice t2.a1 t2.n1 t2.c1, .slice t2.a2 t2.n2 t2.c2] 29) = W := ⟨_, rfl⟩
  rw [hW2] at b2
  have b3 := alloc_below W2 (.cells #[.int .i64 n] 3)
  have n3 := heap_alloc_new W2 (.cells #[.int .i64 n] 3)
  obtain ⟨W3, hW3⟩ : ∃ W, W2.alloc (.cells #[.int .i64 n] 3) = W := ⟨_, rfl⟩
  obtain ⟨g3, hg3⟩ : ∃ g, W2.heap.size = g := ⟨_, rfl⟩
  rw [hW3] at b3 n3
  rw [hg3] at n3
  have b4 := alloc_below W3 (.cells #[.bool false, .slice none 0 0, .slice none 0 0] 29)
  have X4 := BoxIs.new (w := W3) (t := zTri) (q := 0) (rat_zero _)
  obtain ⟨W4, hW4⟩ : ∃ W, W3.alloc (.cells #[.bool false, .slice none 0 0, .slice none 0 0] 29) = W := ⟨_, rfl⟩
  obtain ⟨g4, hg4⟩ : ∃ g, W3.heap.size = g := ⟨_, rfl⟩
  have X4' : BoxIs W4 g4 zTri 0 := by rw [← hW4, ← hg4]; exact X4
  rw [hW4] at b4
  have bb := below_step (below_step (below_step b1 b2) b3) b4
  have n4 := heap_kept n3 b4
  have c0 : W4.cell? ⟨g3, 0, none⟩ = some (.int .i64 n) := by simp [World.cell?, n4]
  have HX4 := hide X4'
  have HB4 := hide bb
  have HG : Hid (w.heap.size ≤ g4) := by show _ ≤ _; rw [← hg4]; exact (below_step (below_step b1 b2) b3).size
  have HO4 := hide (hO W4 bb)
  simp only [Tri.val]
  clear hO b1 b2 b3 b4 n3 n4 X4 X4' bb r1 r2 hl hf
  go_enter Tryz.func14, Tryz.ntmps14
  go_wp2_with fail
  clear hW1 hW2 hW3 hW4 hg3 hg4 c0
  refine (unhide HO4).mono ?_
  rintro e w5 ⟨rfl, hb5⟩
  have b6 := alloc_below w5 (.cells #[.bool false, .slice none 0 0, .slice none 0 0] 29)
  have X6 := BoxIs.new (w := w5) (t := zTri) (q := 0) (rat_zero _)
  obtain ⟨W6, hW6⟩ : ∃ W, w5.alloc (.cells #[.bool false, .slice none 0 0, .slice none 0 0] 29) = W := ⟨_, rfl⟩
  obtain ⟨g6, hg6⟩ : ∃ g, w5.heap.size = g := ⟨_, rfl⟩
  have X6' : BoxIs W6 g6 zTri 0 := by rw [← hW6, ← hg6]; exact X6
  rw [hW6] at b6
  have ⟨l0, l1, l2⟩ := X6'.free
  have ⟨u0, u1, u2⟩ := X6'.cells _ (Below.refl _ _)
  have u0 : W6.cell? ⟨g6, 0, none⟩ = some (.bool false) := u0
  have u1 : W6.cell? ⟨g6, 1, none⟩ = some (.slice none 0 0) := u1
  have u2 : W6.cell? ⟨g6, 2, none⟩ = some (.slice none 0 0) := u2
  have hge : w5.heap.size ≤ g6 := by omega
  have FB := ((b6.setCell (p := ⟨g6, 0, none⟩) hge (.bool false)).setCell (p := ⟨g6, 1, none⟩) hge (.slice none 0 0)).setCell (p := ⟨g6, 2, none⟩) hge (.slice none 0 0)
  obtain ⟨W7, hW7⟩ : ∃ W, ((W6.setCell ⟨g6, 0, none⟩ (.bool false)).setCell ⟨g6, 1, none⟩ (.slice none 0 0)).setCell ⟨g6, 2, none⟩ (.slice none 0 0) = W := ⟨_, rfl⟩
  rw [hW7] at FB
  have bb := below_step hb5 FB
  have Y := (unhide HX4).keep bb
  have ⟨m0, m1, m2⟩ := Y.free
  have ⟨y0, y1, y2⟩ := Y.cells _ (Below.refl _ _)
  have y0 : W7.cell? ⟨g4, 0, none⟩ = some (.bool false) := y0
  have y1 : W7.cell? ⟨g4, 1, none⟩ = some (.slice none 0 0) := y1
  have y2 : W7.cell? ⟨g4, 2, none⟩ = some (.slice none 0 0) := y2
  have HBB := hide ((((below_step (unhide HB4) bb).setCell (p := ⟨g4, 0, none⟩) (unhide HG) (.bool false)).setCell (p := ⟨g4, 1, none⟩) (unhide HG) (.slice none 0 0)).setCell (p := ⟨g4, 2, none⟩) (unhide HG) (.slice none 0 0))
  unfold zAgg
  clear hb5 b6 X6 X6' hge FB bb Y HO4
  go_wp2
  exact bodyPost_ret (v := .tuple #[.agg #[.bool false, .slice none 0 0, .slice none 0 0], .iface 22 (.int .i64 k)]) (by simp [results, Tryz.results14, go_sem, y0, y1, y2]) rfl ⟨rfl, unhide HBB⟩

end Go.Proofs.YtjadhoembmenkaaGreatDoor
