/- Replacing at an age, by the document: Age. -/
import Derived.Test.YtcelbgleajpenaaGreatDoorM80
import Derived.Test.YtcelbgleajpenaaGreatDoorRL1
import Derived.Test.YtcelbgleajpenaaGreatDoorBG
import Derived.Test.YtcelbgleajpenaaGreatDoorB29
import Derived.Test.YtcelbgleajpenaaGreatDoorBI
namespace Go.Proofs.YtcelbgleajpenaaGreatDoor.Rnw
open Go.Proofs.YtcelbgleajpenaaGreatDoor.Bth

def ccs (fa pl : Rat) (x : Nat → Rat) (age : Nat) : Nat → Rat
 | 0 => 0
 | k + 1 => ccs fa pl x age k + x k * (if k ≤ age then fa else pl)
def tts (x : Nat → Rat) (age : Nat) : Nat → Rat
 | 0 => 0
 | k + 1 => tts x age k + x k * (((if k ≤ age then k else age : Nat) : Int) : Rat)
theorem ccs_is (fa pl : Rat) (x : Nat → Rat) (age : Nat) : ∀ N, ccs fa pl x age N = if N ≤ age + 1 then fa * ps x N else fa * ps x (age + 1) + pl * (ps x N - ps x (age + 1))
 | 0 => by rw [if_pos (Nat.zero_le _)]; show (0 : Rat) = fa * 0; grind
 | N + 1 => by
  show ccs fa pl x age N + x N * (if N ≤ age then fa else pl) = _
  rw [ccs_is fa pl x age N]
  rcases Nat.lt_or_ge age N with a | a
  ·rw [if_neg (show ¬ N ≤ age by omega), if_neg (show ¬ N + 1 ≤ age + 1 by omega)]
   show _ = fa * ps x (age + 1) + pl * ((ps x N + x N) - ps x (age + 1))
   by_cases e : N = age + 1
   ·rw [if_pos (by omega), e]; grind
   ·rw [if_neg (by omega)]; grind
  ·rw [if_pos a, if_pos (show N ≤ age + 1 by omega), if_pos (show N + 1 ≤ age + 1 by omega)]
   show _ = fa * (ps x N + x N)
   grind
theorem tts_is (x : Nat → Rat) (age : Nat) : ∀ N, tts x age N = if N ≤ age + 1 then ps (fun j => x j * ((j : Nat) : Int)) N else ps (fun j => x j * ((j : Nat) : Int)) (age + 1) + ((age : Nat) : Int) * (ps x N - ps x (age + 1))
 | 0 => by rw [if_pos (Nat.zero_le _)]; rfl
 | N + 1 => by
  show tts x age N + x N * (((if N ≤ age then N else age : Nat) : Int) : Rat) = _
  rw [tts_is x age N]
  rcases Nat.lt_or_ge age N with a | a
  ·rw [if_neg (show ¬ N ≤ age by omega), if_neg (show ¬ N + 1 ≤ age + 1 by omega)]
   show _ = ps (fun j => x j * ((j : Nat) : Int)) (age + 1) + ((age : Nat) : Int) * ((ps x N + x N) - ps x (age + 1))
   by_cases e : N = age + 1
   ·rw [if_pos (by omega), e]; grind
   ·rw [if_neg (by omega)]; grind
  ·rw [if_pos a, if_pos (show N ≤ age + 1 by omega), if_pos (show N + 1 ≤ age + 1 by omega)]
   rfl
theorem ps_zero {f : Nat → Rat} {n m : Nat} (h : n ≤ m) (z : ∀ j, n ≤ j → f j = 0) : ps f m = ps f n := ps_cut f n m h (fun j hj _ => z j hj)
theorem ccs_sv (fa pl : Rat) {x : Nat → Rat} {N : Nat} (h : ps x N = 1) (hz : ∀ j, N ≤ j → x j = 0) (age : Nat) : ccs fa pl x age N = fa * (1 - sv x age) + pl * sv x age := by
 rw [ccs_is]
 show _ = fa * (1 - (1 - ps x (age + 1))) + pl * (1 - ps x (age + 1))
 by_cases e : N ≤ age + 1
 ·rw [if_pos e, ps_zero e hz, h]; grind
 ·rw [if_neg e, h]; grind
theorem tts_sv {x : Nat → Rat} {N : Nat} (h : ps x N = 1) (hz : ∀ j, N ≤ j → x j = 0) (age : Nat) : tts x age N = ps (sv x) age := by
 rw [tts_is, sv_first]
 have e3 : ps (fun j => x j * ((j : Nat) : Int)) (age + 1) = ps (fun j => x j * ((j : Nat) : Int)) age + x age * ((age : Nat) : Int) := rfl
 have e4 : ps x (age + 1) = ps x age + x age := rfl
 by_cases e : N ≤ age + 1
 ·rw [if_pos e]
  have e1 : ps (fun j => x j * ((j : Nat) : Int)) (age + 1) = ps (fun j => x j * ((j : Nat) : Int)) N := ps_zero e (fun j hj => by rw [hz j hj]; grind)
  have e2 : ps x (age + 1) = 1 := by rw [ps_zero e hz, h]
  rw [← e1, e3]
  rw [e4] at e2
  grind
 ·rw [if_neg e, h, e3, e4]; grind
theorem cost_is (fa pl : Rat) {x : Nat → Rat} {N : Nat} (h : ps x N = 1) (hz : ∀ j, N ≤ j → x j = 0) (age : Nat) : ccs fa pl x age N / tts x age N = cst fa pl x age := by
 rw [ccs_sv fa pl h hz, tts_sv h hz]; rfl
end Go.Proofs.YtcelbgleajpenaaGreatDoor.Rnw
namespace Go.Proofs.YtcelbgleajpenaaGreatDoor
open Go.RowKit Go.Sort Go.Shelf

theorem ccs_RS {fa pl : Rat} {x : Nat → Rat} {age N : Nat} (hf : RS fa 1) (hp : RS pl 1) (hx : ∀ j, j < N → RS (x j) 1) : ∀ k, k ≤ N → RS (Rnw.ccs fa pl x age k) (k * 3 + 1)
 | 0, _ => by
  show RS 0 _
  exact (show RS ((0 : Int) : Rat) 1 from RS_int ⟨by decide, by decide⟩).mono (by omega)
 | k + 1, h => by
  have ih := ccs_RS (age := age) hf hp hx k (by omega)
  have hz := hx k (by omega)
  show RS (Rnw.ccs fa pl x age k + x k * (if k ≤ age then fa else pl)) _
  split
  ·exact (ih.add (hz.mul hf)).mono (by omega)
  ·exact (ih.add (hz.mul hp)).mono (by omega)
theorem nat_I64 {k : Nat} (h : k ≤ 1000) : I64 ((k : Nat) : Int) := ⟨by omega, by omega⟩
theorem tts_RS {x : Nat → Rat} {age N : Nat} (ha : age ≤ 1000) (hN : N ≤ 1000) (hx : ∀ j, j < N → RS (x j) 1) : ∀ k, k ≤ N → RS (Rnw.tts x age k) (k * 3 + 1)
 | 0, _ => by
  show RS 0 _
  exact (show RS ((0 : Int) : Rat) 1 from RS_int ⟨by decide, by decide⟩).mono (by omega)
 | k + 1, h => by
  have ih := tts_RS (age := age) ha hN hx k (by omega)
  have hz := hx k (by omega)
  show RS (Rnw.tts x age k + x k * (((if k ≤ age then k else age : Nat) : Int) : Rat)) _
  split
  ·exact (ih.add (hz.mul (RS_int (nat_I64 (by omega))))).mono (by omega)
  ·exact (ih.add (hz.mul (RS_int (nat_I64 ha)))).mono (by omega)
structure AgL (qs : List Rat) (g : Nat) : Prop where
 age : Rnw.Age (xq qs) g
 len : qs.length ≤ 101
 sum : Bth.ps (xq qs) qs.length = 1
 rs : ∀ j, j < qs.length → RS qs[j]! 1
theorem AgL.out {qs : List Rat} {g : Nat} (_h : AgL qs g) : ∀ j, qs.length ≤ j → xq qs j = 0 := fun j hj => by
 show qs[j]! = 0
 rw [List.getElem!_eq_getElem?_getD, List.getElem?_eq_none hj]; rfl
theorem AgL.cst {qs : List Rat} {g : Nat} (h : AgL qs g) {qf qp : Rat} (age : Nat) : Rnw.ccs qf qp (xq qs) age qs.length / Rnw.tts (xq qs) age qs.length = Rnw.cst qf qp (xq qs) age := Rnw.cost_is qf qp h.sum h.out age
theorem AgL.ne {qs : List Rat} {g age : Nat} (h : AgL qs g) (h1 : 1 ≤ age) : (Rnw.tts (xq qs) age qs.length).num ≠ 0 := fun e => by
 rw [Rnw.tts_sv h.sum h.out] at e
 exact h.age.ne h1 (Rat.num_eq_zero.1 e)
theorem AgL.cs {qs : List Rat} {g age : Nat} (h : AgL qs g) {qf qp : Rat} (hf : RS qf 1) (hp : RS qp 1) (h1 : 1 ≤ age) (h2 : age ≤ 1000) : RS (Rnw.cst qf qp (xq qs) age) 700 := by
 rw [← h.cst]
 have hl := h.len
 exact ((ccs_RS hf hp (x := xq qs) (N := qs.length) h.rs _ (Nat.le_refl _)).div' (tts_RS h2 (by omega) h.rs _ (Nat.le_refl _)) (h.ne h1)).mono (by omega)
theorem agl_of {qs : List Rat} (hk : rnc qs = 0) (hr : ∀ j, j < qs.length → RS qs[j]! 1) : AgL qs (gst qs) := by
 obtain ⟨hA, ht, hl1, hl2⟩ := rnc_age hk
 exact ⟨hA, hl2, hA.upto hl1, hr⟩
theorem agl_take {qs : List Rat} (hk : rnc qs = 0) (hr : ∀ j, j < qs.length → RS qs[j]! 1) {m : Nat} (hm : gst qs + 1 = m) : AgL (qs.take m) (gst qs) ∧ xq (qs.take m) = xq qs ∧ (qs.take m).length = m := by
 obtain ⟨hA, ht, hl1, hl2⟩ := rnc_age hk
 have hl : (qs.take m).length = m := by rw [List.length_take]; omega
 have e : xq (qs.take m) = xq qs := by
  funext j
  rcases Nat.lt_or_ge j m with a | a
  ·exact xq_take qs a
  ·rw [hA.out j (by omega)]
   show (qs.take m)[j]! = 0
   rw [List.getElem!_eq_getElem?_getD, List.getElem?_eq_none (by omega)]; rfl
 refine ⟨⟨by rw [e]; exact hA, by omega, by rw [e, hl]; exact hA.upto (by omega), fun j hj => ?_⟩, e, hl⟩
 rw [hl] at hj
 have := xq_take qs hj
 have e2 : (qs.take m)[j]! = qs[j]! := this
 rw [e2]; exact hr j (by omega)
set_option maxHeartbeats 16000000 in
set_option maxRecDepth 100000 in
set_option linter.unusedSimpArgs false in
theorem refCost_any (v : Value) (qs : List Rat) (g : Nat) (qf qp : Rat) (b_f b_p age : Nat) (w : World) (h : RList w v qs) (hA : AgL qs g) (zf : BRz w b_f 0 qf) (zp : BRz w b_p 0 qp) (rf : RS qf 1) (rp : RS qp 1) (h1 : 1 ≤ age) (h2 : age ≤ 1000) :
  Calls Tryz.prog 38 #[v, .pointer (some ⟨b_f, 0, none⟩), .pointer (some ⟨b_p, 0, none⟩), .int .i64 (age : Int)] w (NewsZ w (Rnw.cst qf qp (xq qs) age)) := by
 have HCS := hide (hA.cst (qf := qf) (qp := qp) age)
 have HNE := hide (hA.ne h1)
 have hl := hA.len
 have HRC : Hid (∀ k, k ≤ qs.length → RS (Rnw.ccs qf qp (xq qs) age k) (k * 3 + 1)) := ccs_RS rf rp hA.rs
 have HRT : Hid (∀ k, k ≤ qs.length → RS (Rnw.tts (xq qs) age k) (k * 3 + 1)) := tts_RS h2 (by omega) hA.rs
 have HRX : Hid (∀ k, k < qs.length → RS (xq qs k) 1) := hA.rs
 have HRf := hide rf
 have HRp := hide rp
 have HF : Hid (∀ W, Below w.heap.size w W → BRz W b_f 0 qf) := fun W hW => zf.below hW
 have HP : Hid (∀ W, Below w.heap.size w W → BRz W b_p 0 qp) := fun W hW => zp.below hW
 obtain ⟨a, c, rfl, m1, m2, m3⟩ := h
 have HCL : Hid (0 < qs.length → ∃ b o, a = some ⟨b, o, none⟩ ∧ b < w.heap.size ∧ ∀ j, j < qs.length → ∃ g, w.cell? ⟨b, o + j, none⟩ = some (.pointer (some ⟨g, 0, none⟩)) ∧ BRz w g 0 (xq qs j)) := m3
 obtain ⟨x, hx⟩ : ∃ x, xq qs = x := ⟨_, rfl⟩
 rw [hx] at HCS HNE HRC HRT HRX HCL ⊢
 obtain ⟨n, hn⟩ : ∃ n, qs.length = n := ⟨_, rfl⟩
 rw [hn] at HCS HNE HRC HRT HRX HCL hl m1 ⊢
 have HI := hide (refIntz_any 0 (by decide) (by decide) w)
 clear hA zf zp rf rp m3 hx hn
 go_enter Tryz.func38, Tryz.ntmps38
 go_wp2_with fail
 refine (unhide HI).mono ?_
 rintro e w1 ⟨b1, rfl, -, z1, hb1⟩
 have HZ1 := hide z1
 have HB1 := hide hb1
 have HI1 := hide (refIntz_any 0 (by decide) (by decide) w1)
 clear z1 hb1 HI
 go_wp2_with fail
 refine (unhide HI1).mono ?_
 rintro e w2 ⟨b2, rfl, -, z2, hb2⟩
 have HZ2 := hide z2
 have HZ1' := hide ((unhide HZ1).below hb2)
 have HB2 := hide (bstep (unhide HB1) hb2)
 clear z2 hb2 HI1 HZ1 HB1
 go_wp2_with fail
 go_loopw [9, 10, 17] (fun vc vt vk wr => ∃ (k b_c b_t : Nat), vc = .pointer (some ⟨b_c, 0, none⟩) ∧ vt = .pointer (some ⟨b_t, 0, none⟩) ∧ vk = .int .i64 (k : Int) ∧ k ≤ n ∧ BRz wr b_c 0 (Rnw.ccs qf qp x age k) ∧ BRz wr b_t 0 (Rnw.tts x age k) ∧ Below w.heap.size w wr) (fun _ _ vk _ => n - (intOf vk).toNat)
 case atStart => exact ⟨0, b1, b2, rfl, rfl, rfl, Nat.zero_le _, by have := unhide HZ1'; rw [show ((0 : Int) : Rat) = 0 by simp] at this; exact this, by have := unhide HZ2; rw [show ((0 : Int) : Rat) = 0 by simp] at this; exact this, unhide HB2⟩
 case round =>
  obtain ⟨k, b_c, b_t, rfl, rfl, rfl, hk, zc, zt, hbv⟩ := hrel
  clear HZ1' HZ2
  by_cases hlt : k < n
  ·have HLT := hide hlt
   have j1 : (k : Int) < (n : Int) := by omega
   have j0 : (0 : Int) ≤ (k : Int) := by omega
   obtain ⟨bl, ol, rfl, hbl, hcs⟩ := unhide HCL (by omega)
   obtain ⟨b_x, k0, kx⟩ := hcs k hlt
   rw [← hbv.cell (p := ⟨bl, ol + k, none⟩) hbl] at k0
   have HXx := hide (kx.below hbv)
   have HXc := hide zc
   have HXt := hide zt
   have HBV := hide hbv
   have HRx := hide (unhide HRX k hlt)
   have HRc := hide (unhide HRC k hk)
   have HRt := hide (unhide HRT k hk)
   by_cases ha : k ≤ age
   ·have e1 : (k : Int) ≤ (age : Int) := by omega
    have HXf := hide (unhide HF wr hbv)
    have HRi : Hid (RS ((k : Int) : Rat) 1) := RS_int (nat_I64 (by omega))
    have HE1 : Hid (Rnw.ccs qf qp x age (k + 1) = Rnw.ccs qf qp x age k + x k * qf) := show _ = _ by
     show Rnw.ccs qf qp x age k + x k * (if k ≤ age then qf else qp) = _
     rw [if_pos ha]
    have HE2 : Hid (Rnw.tts x age (k + 1) = Rnw.tts x age k + x k * ((k : Int) : Rat)) := show _ = _ by
     show Rnw.tts x age k + x k * (((if k ≤ age then k else age : Nat) : Int) : Rat) = _
     rw [if_pos ha]
    clear hcs kx zc zt hbv hlt hk ha
    have HC_1 := hide (refMul_any b_x b_f 1 1 _ _ wr (unhide HXx) (unhide HXf) ((unhide HRx)) ((unhide HRf)) (by decide))
    go_wp2_with fail
    refine (unhide HC_1).mono ?_
    rintro e wq_1 ⟨b_m, rfl, hg_1, hr_1, hb_1⟩
    have Hx_1 := hide ((unhide HXx).below hb_1)
    have Hc_1 := hide ((unhide HXc).below hb_1)
    have Ht_1 := hide ((unhide HXt).below hb_1)
    have Hf_1 := hide ((unhide HXf).below hb_1)
    have Hm_1 := hide hr_1
    have HB_1 := hide (bstep (unhide HBV) hb_1)
    clear hg_1 hr_1 hb_1 HC_1 HXx HXc HXt HXf
    have HC_2 := hide (refAdd_any b_c b_m (k * 3 + 1) (1 + 1) _ _ wq_1 (unhide Hc_1) (unhide Hm_1) ((unhide HRc)) (((unhide HRx).mul (unhide HRf))) (by omega))
    go_wp2_with fail
    refine (unhide HC_2).mono ?_
    rintro e wq_2 ⟨b_c2, rfl, hg_2, hr_2, hb_2⟩
    have Hx_2 := hide ((unhide Hx_1).below hb_2)
    have Hc_2 := hide ((unhide Hc_1).below hb_2)
    have Ht_2 := hide ((unhide Ht_1).below hb_2)
    have Hf_2 := hide ((unhide Hf_1).below hb_2)
    have Hm_2 := hide ((unhide Hm_1).below hb_2)
    have Hc2_2 := hide hr_2
    have HB_2 := hide (bstep (unhide HB_1) hb_2)
    clear hg_2 hr_2 hb_2 HC_2 Hx_1 Hc_1 Ht_1 Hf_1 Hm_1
    have HC_3 := hide (refIntz_any (k : Int) (by omega) (by omega) wq_2)
    go_wp2_with fail
    refine (unhide HC_3).mono ?_
    rintro e wq_3 ⟨b_i, rfl, hg_3, hr_3, hb_3⟩
    have Hx_3 := hide ((unhide Hx_2).below hb_3)
    have Hc_3 := hide ((unhide Hc_2).below hb_3)
    have Ht_3 := hide ((unhide Ht_2).below hb_3)
    have Hf_3 := hide ((unhide Hf_2).below hb_3)
    have Hm_3 := hide ((unhide Hm_2).below hb_3)
    have Hc2_3 := hide ((unhide Hc2_2).below hb_3)
    have Hi_3 := hide hr_3
    have HB_3 := hide (bstep (unhide HB_2) hb_3)
    clear hg_3 hr_3 hb_3 HC_3 Hx_2 Hc_2 Ht_2 Hf_2 Hm_2 Hc2_2
    have HC_4 := hide (refMul_any b_x b_i 1 1 _ _ wq_3 (unhide Hx_3) (unhide Hi_3) ((unhide HRx)) ((unhide HRi)) (by decide))
    go_wp2_with fail
    refine (unhide HC_4).mono ?_
    rintro e wq_4 ⟨b_m2, rfl, hg_4, hr_4, hb_4⟩
    have Hx_4 := hide ((unhide Hx_3).below hb_4)
    have Hc_4 := hide ((unhide Hc_3).below hb_4)
    have Ht_4 := hide ((unhide Ht_3).below hb_4)
    have Hf_4 := hide ((unhide Hf_3).below hb_4)
    have Hm_4 := hide ((unhide Hm_3).below hb_4)
    have Hc2_4 := hide ((unhide Hc2_3).below hb_4)
    have Hi_4 := hide ((unhide Hi_3).below hb_4)
    have Hm2_4 := hide hr_4
    have HB_4 := hide (bstep (unhide HB_3) hb_4)
    clear hg_4 hr_4 hb_4 HC_4 Hx_3 Hc_3 Ht_3 Hf_3 Hm_3 Hc2_3 Hi_3
    have HC_5 := hide (refAdd_any b_t b_m2 (k * 3 + 1) (1 + 1) _ _ wq_4 (unhide Ht_4) (unhide Hm2_4) ((unhide HRt)) (((unhide HRx).mul (unhide HRi))) (by omega))
    go_wp2_with fail
    refine (unhide HC_5).mono ?_
    rintro e wq_5 ⟨b_t2, rfl, hg_5, hr_5, hb_5⟩
    have Hx_5 := hide ((unhide Hx_4).below hb_5)
    have Hc_5 := hide ((unhide Hc_4).below hb_5)
    have Ht_5 := hide ((unhide Ht_4).below hb_5)
    have Hf_5 := hide ((unhide Hf_4).below hb_5)
    have Hm_5 := hide ((unhide Hm_4).below hb_5)
    have Hc2_5 := hide ((unhide Hc2_4).below hb_5)
    have Hi_5 := hide ((unhide Hi_4).below hb_5)
    have Hm2_5 := hide ((unhide Hm2_4).below hb_5)
    have Ht2_5 := hide hr_5
    have HB_5 := hide (bstep (unhide HB_4) hb_5)
    clear hg_5 hr_5 hb_5 HC_5 Hx_4 Hc_4 Ht_4 Hf_4 Hm_4 Hc2_4 Hi_4 Hm2_4
    go_wp2_with fail
    exact ⟨⟨k + 1, b_c2, b_t2, rfl, rfl, by go_num, unhide HLT, by rw [unhide HE1]; exact unhide Hc2_5, by rw [unhide HE2]; exact unhide Ht2_5, unhide HB_5⟩, by have := unhide HLT; simp [intOf]; omega⟩
   ·have e1 : ¬ (k : Int) ≤ (age : Int) := by omega
    have HXf := hide (unhide HP wr hbv)
    have HRi : Hid (RS ((age : Int) : Rat) 1) := RS_int (nat_I64 h2)
    have HE1 : Hid (Rnw.ccs qf qp x age (k + 1) = Rnw.ccs qf qp x age k + x k * qp) := show _ = _ by
     show Rnw.ccs qf qp x age k + x k * (if k ≤ age then qf else qp) = _
     rw [if_neg ha]
    have HE2 : Hid (Rnw.tts x age (k + 1) = Rnw.tts x age k + x k * ((age : Int) : Rat)) := show _ = _ by
     show Rnw.tts x age k + x k * (((if k ≤ age then k else age : Nat) : Int) : Rat) = _
     rw [if_neg ha]
    clear hcs kx zc zt hbv hlt hk ha
    have HC_1 := hide (refMul_any b_x b_p 1 1 _ _ wr (unhide HXx) (unhide HXf) ((unhide HRx)) ((unhide HRp)) (by decide))
    go_wp2_with fail
    refine (unhide HC_1).mono ?_
    rintro e wq_1 ⟨b_m, rfl, hg_1, hr_1, hb_1⟩
    have Hx_1 := hide ((unhide HXx).below hb_1)
    have Hc_1 := hide ((unhide HXc).below hb_1)
    have Ht_1 := hide ((unhide HXt).below hb_1)
    have Hp_1 := hide ((unhide HXf).below hb_1)
    have Hm_1 := hide hr_1
    have HB_1 := hide (bstep (unhide HBV) hb_1)
    clear hg_1 hr_1 hb_1 HC_1 HXx HXc HXt HXf
    have HC_2 := hide (refAdd_any b_c b_m (k * 3 + 1) (1 + 1) _ _ wq_1 (unhide Hc_1) (unhide Hm_1) ((unhide HRc)) (((unhide HRx).mul (unhide HRp))) (by omega))
    go_wp2_with fail
    refine (unhide HC_2).mono ?_
    rintro e wq_2 ⟨b_c2, rfl, hg_2, hr_2, hb_2⟩
    have Hx_2 := hide ((unhide Hx_1).below hb_2)
    have Hc_2 := hide ((unhide Hc_1).below hb_2)
    have Ht_2 := hide ((unhide Ht_1).below hb_2)
    have Hp_2 := hide ((unhide Hp_1).below hb_2)
    have Hm_2 := hide ((unhide Hm_1).below hb_2)
    have Hc2_2 := hide hr_2
    have HB_2 := hide (bstep (unhide HB_1) hb_2)
    clear hg_2 hr_2 hb_2 HC_2 Hx_1 Hc_1 Ht_1 Hp_1 Hm_1
    have HC_3 := hide (refIntz_any (age : Int) (by omega) (by omega) wq_2)
    go_wp2_with fail
    refine (unhide HC_3).mono ?_
    rintro e wq_3 ⟨b_i, rfl, hg_3, hr_3, hb_3⟩
    have Hx_3 := hide ((unhide Hx_2).below hb_3)
    have Hc_3 := hide ((unhide Hc_2).below hb_3)
    have Ht_3 := hide ((unhide Ht_2).below hb_3)
    have Hp_3 := hide ((unhide Hp_2).below hb_3)
    have Hm_3 := hide ((unhide Hm_2).below hb_3)
    have Hc2_3 := hide ((unhide Hc2_2).below hb_3)
    have Hi_3 := hide hr_3
    have HB_3 := hide (bstep (unhide HB_2) hb_3)
    clear hg_3 hr_3 hb_3 HC_3 Hx_2 Hc_2 Ht_2 Hp_2 Hm_2 Hc2_2
    have HC_4 := hide (refMul_any b_x b_i 1 1 _ _ wq_3 (unhide Hx_3) (unhide Hi_3) ((unhide HRx)) ((unhide HRi)) (by decide))
    go_wp2_with fail
    refine (unhide HC_4).mono ?_
    rintro e wq_4 ⟨b_m2, rfl, hg_4, hr_4, hb_4⟩
    have Hx_4 := hide ((unhide Hx_3).below hb_4)
    have Hc_4 := hide ((unhide Hc_3).below hb_4)
    have Ht_4 := hide ((unhide Ht_3).below hb_4)
    have Hp_4 := hide ((unhide Hp_3).below hb_4)
    have Hm_4 := hide ((unhide Hm_3).below hb_4)
    have Hc2_4 := hide ((unhide Hc2_3).below hb_4)
    have Hi_4 := hide ((unhide Hi_3).below hb_4)
    have Hm2_4 := hide hr_4
    have HB_4 := hide (bstep (unhide HB_3) hb_4)
    clear hg_4 hr_4 hb_4 HC_4 Hx_3 Hc_3 Ht_3 Hp_3 Hm_3 Hc2_3 Hi_3
    have HC_5 := hide (refAdd_any b_t b_m2 (k * 3 + 1) (1 + 1) _ _ wq_4 (unhide Ht_4) (unhide Hm2_4) ((unhide HRt)) (((unhide HRx).mul (unhide HRi))) (by omega))
    go_wp2_with fail
    refine (unhide HC_5).mono ?_
    rintro e wq_5 ⟨b_t2, rfl, hg_5, hr_5, hb_5⟩
    have Hx_5 := hide ((unhide Hx_4).below hb_5)
    have Hc_5 := hide ((unhide Hc_4).below hb_5)
    have Ht_5 := hide ((unhide Ht_4).below hb_5)
    have Hp_5 := hide ((unhide Hp_4).below hb_5)
    have Hm_5 := hide ((unhide Hm_4).below hb_5)
    have Hc2_5 := hide ((unhide Hc2_4).below hb_5)
    have Hi_5 := hide ((unhide Hi_4).below hb_5)
    have Hm2_5 := hide ((unhide Hm2_4).below hb_5)
    have Ht2_5 := hide hr_5
    have HB_5 := hide (bstep (unhide HB_4) hb_5)
    clear hg_5 hr_5 hb_5 HC_5 Hx_4 Hc_4 Ht_4 Hp_4 Hm_4 Hc2_4 Hi_4 Hm2_4
    go_wp2_with fail
    exact ⟨⟨k + 1, b_c2, b_t2, rfl, rfl, by go_num, unhide HLT, by rw [unhide HE1]; exact unhide Hc2_5, by rw [unhide HE2]; exact unhide Ht2_5, unhide HB_5⟩, by have := unhide HLT; simp [intOf]; omega⟩
  ·obtain rfl : k = n := by omega
   have j1 : ¬ (k : Int) < (k : Int) := by omega
   have HQ := hide (refQuot_any b_c b_t (k * 3 + 1) (k * 3 + 1) _ _ wr zc zt (unhide HRC k hk) (unhide HRT k hk) (by omega) (unhide HNE))
   rw [unhide HCS] at HQ
   have HBV := hide hbv
   clear zc zt hbv
   go_wp2_with fail
   refine (unhide HQ).mono ?_
   rintro e w9 ⟨b9, rfl, hg9, z9, hb9⟩
   have HZ9 := hide z9
   have HG9 := hide (Nat.le_trans (unhide HBV).size hg9)
   have HB9 := hide (bstep (unhide HBV) hb9)
   clear z9 hg9 hb9 HQ
   go_wp2
   (try simp only [Exit.inBlock, Exit.then])
   (try go_wp2)
   go_ret
   exact ⟨b9, rfl, unhide HG9, unhide HZ9, unhide HB9⟩
end Go.Proofs.YtcelbgleajpenaaGreatDoor
namespace Go.Proofs.YtcelbgleajpenaaGreatDoor
open Go.RowKit Go.Sort Go.Shelf

theorem sg_lt_iff {a b : Rat} : Wd.sg (a.num * b.den) (b.num * a.den) < 0 ↔ a < b := by
 rw [Rat.lt_iff]
 constructor
 ·intro h
  rcases Int.lt_or_le (a.num * (b.den : Int)) (b.num * (a.den : Int)) with c | c
  ·exact c
  ·rcases Int.lt_or_eq_of_le c with d | d
   ·rw [Wd.sg_gt d] at h; exact absurd h (by decide)
   ·rw [Wd.sg_eq d.symm] at h; exact absurd h (by decide)
 ·intro h
  rw [Wd.sg_lt h]; decide
theorem bst_next (f : Nat → Rat) {j : Nat} (h : 1 ≤ j) : Rnw.bst f (j + 1) = if f (j + 1) < f (Rnw.bst f j) then j + 1 else Rnw.bst f j := by
 have := (Rnw.bst_le f j h).1
 show (if Rnw.bst f j = 0 then _ else _) = _
 rw [if_neg (by omega)]
set_option maxHeartbeats 16000000 in
set_option maxRecDepth 100000 in
set_option linter.unusedSimpArgs false in
theorem refAge_any (v : Value) (qs : List Rat) (qf qp : Rat) (b_f b_p : Nat) (w : World) (h : RList w v qs) (hk : rnc qs = 0) (hr : ∀ j, j < qs.length → RS qs[j]! 1) (zf : BRz w b_f 0 qf) (zp : BRz w b_p 0 qp) (rf : RS qf 1) (rp : RS qp 1) :
  Calls Tryz.prog 35 #[v, .pointer (some ⟨b_f, 0, none⟩), .pointer (some ⟨b_p, 0, none⟩)] w fun e w' => ∃ g, e = .returned (.tuple #[.int .i64 (Rnw.bst (Rnw.cst qf qp (xq qs)) (gst qs) : Int), .pointer (some ⟨g, 0, none⟩)]) ∧ BRz w' g 0 (Rnw.cst qf qp (xq qs) (Rnw.bst (Rnw.cst qf qp (xq qs)) (gst qs))) ∧ Below w.heap.size w w' := by
 obtain ⟨hA, ht, hl1, hl2⟩ := rnc_age hk
 have hg1 := hA.g1
 have HT := hide (refTrim_any v qs w h (by omega) (by omega))
 rw [← ht] at HT
 obtain ⟨m, hm⟩ : ∃ m, gst qs + 1 = m := ⟨_, rfl⟩
 obtain ⟨hT, hx, hlen⟩ := agl_take hk hr hm
 have HCO0 : Hid (∀ W u (age : Nat), RList W u (qs.take m) → Below w.heap.size w W → 1 ≤ age → age ≤ 1000 → Calls Tryz.prog 38 #[u, .pointer (some ⟨b_f, 0, none⟩), .pointer (some ⟨b_p, 0, none⟩), .int .i64 (age : Int)] W (NewsZ W (Rnw.cst qf qp (xq qs) age))) := fun W u age hu hW h1 h2 => by
  have := refCost_any u (qs.take m) (gst qs) qf qp b_f b_p age W hu hT (zf.below hW) (zp.below hW) rf rp h1 h2
  rw [hx] at this
  exact this
 have HRS : Hid (∀ (age : Nat), 1 ≤ age → age ≤ 1000 → RS (Rnw.cst qf qp (xq qs) age) 700) := fun age h1 h2 => by
  have := hT.cs (qf := qf) (qp := qp) rf rp h1 h2
  rw [hx] at this
  exact this
 rw [hm] at HT hl1
 obtain ⟨f, hf⟩ : ∃ f, Rnw.cst qf qp (xq qs) = f := ⟨_, rfl⟩
 rw [hf] at HCO0 HRS ⊢
 obtain ⟨tq, htq⟩ : ∃ l, qs.take m = l := ⟨_, rfl⟩
 rw [htq] at HT HCO0 hlen
 obtain ⟨g, hg⟩ : ∃ g, gst qs = g := ⟨_, rfl⟩
 rw [hg] at hm hg1 ⊢
 obtain ⟨nq, hnq⟩ : ∃ n, qs.length = n := ⟨_, rfl⟩
 obtain ⟨a, c, rfl, q1, q2, -⟩ := h
 rw [hnq] at q1 HT ⊢
 have HTL := hide hlen
 have hm101 : m ≤ 101 := by omega
 clear hr zf zp rf rp hA ht hl1 hl2 hT hx hf htq hg hnq hlen hk
 go_enter Tryz.func35, Tryz.ntmps35
 go_wp2_with fail
 refine (unhide HT).mono ?_
 rintro e w1 ⟨v1, rfl, hl1, hb1⟩
 have HL1 := hide hl1
 have HB1 := hide hb1
 obtain ⟨a1, c1, rfl, m1, m2, -⟩ := id hl1
 rw [unhide HTL] at m1 HL1 ⊢
 have HCO : Hid (∀ W (age : Nat), Below w1.heap.size w1 W → 1 ≤ age → age ≤ 1000 → Calls Tryz.prog 38 #[.slice a1 m c1, .pointer (some ⟨b_f, 0, none⟩), .pointer (some ⟨b_p, 0, none⟩), .int .i64 (age : Int)] W (NewsZ W (f age))) := fun W age hW h1 h2 => unhide HCO0 W _ age ((unhide HL1).below hW) (below_step (unhide HB1) hW) h1 h2
 clear hl1 hb1 HT HCO0
 go_wp2_with fail
 go_loopw [8, 9] (fun va vj wr => ∃ (j at_ : Nat), va = .int .i64 (at_ : Int) ∧ vj = .int .i64 (j : Int) ∧ 2 ≤ j ∧ j ≤ m ∧ at_ = Rnw.bst f (j - 1) ∧ Below w1.heap.size w1 wr) (fun _ vj _ => m - (intOf vj).toNat)
 case atStart => exact ⟨2, 1, rfl, rfl, Nat.le_refl _, by omega, rfl, Below.refl _ _⟩
 case round =>
  obtain ⟨j, at_, rfl, rfl, hj2, hj, hat, hbv⟩ := hrel
  have hbl := Rnw.bst_le f (j - 1) (by omega)
  rw [← hat] at hbl
  have HAT : Hid (1 ≤ at_ ∧ at_ ≤ 1000) := ⟨hbl.1, by omega⟩
  have HBV := hide hbv
  by_cases hlt : j < m
  ·have HJ : Hid (2 ≤ j ∧ j < m) := ⟨hj2, hlt⟩
   have HJ2 : Hid (1 ≤ j ∧ j ≤ 1000) := ⟨by omega, by omega⟩
   have j1 : (j : Int) < (m : Int) := by omega
   have HC1 := hide (unhide HCO wr j hbv (by omega) (by omega))
   have hbn := bst_next f (j := j - 1) (by omega)
   rw [show j - 1 + 1 = j by omega, ← hat] at hbn
   by_cases hc' : f j < f at_
   ·have hc := sg_lt_iff.2 hc'
    have HBT : Hid (j = Rnw.bst f (j + 1 - 1)) := show _ = _ by
     rw [show j + 1 - 1 = j by omega, hbn, if_pos hc']
    clear hbl hbv hbn hc' hat
    go_wp2_with fail
    refine (unhide HC1).mono ?_
    rintro e w20 ⟨b20, rfl, -, z20, hb20⟩
    have HZ20 := hide z20
    have HB20 := hide (below_step (unhide HBV) hb20)
    have HC2 := hide (unhide HCO w20 at_ (unhide HB20) (unhide HAT).1 (unhide HAT).2)
    clear z20 hb20 HC1 HBV
    go_wp2_with fail
    refine (unhide HC2).mono ?_
    rintro e w21 ⟨b21, rfl, -, z21, hb21⟩
    have HCM := hide (rcmp_any b20 0 b21 0 700 700 _ _ w21 ((unhide HZ20).below hb21) z21 (unhide HRS j (unhide HJ2).1 (unhide HJ2).2) (unhide HRS at_ (unhide HAT).1 (unhide HAT).2) (by decide))
    obtain ⟨sg, hsg⟩ : ∃ s, Wd.sg ((f j).num * (f at_).den) ((f at_).num * (f j).den) = s := ⟨_, rfl⟩
    rw [hsg] at HCM hc
    have HB21 := hide (below_step (unhide HB20) hb21)
    clear z21 hb21 HC2 HZ20 HB20 hsg
    go_wp2_with fail
    refine (unhide HCM).mono ?_
    rintro e w22 ⟨rfl, hb22⟩
    have HB22 := hide (below_step (unhide HB21) hb22)
    clear hb22 HCM HB21
    go_wp2_with fail
    exact ⟨⟨j + 1, j, rfl, by go_num, by have := unhide HJ; omega, by have := unhide HJ; omega, unhide HBT, unhide HB22⟩, by have := unhide HJ; simp [intOf]; omega⟩
   ·have hc : ¬ Wd.sg ((f j).num * (f at_).den) ((f at_).num * (f j).den) < 0 := fun h => hc' (sg_lt_iff.1 h)
    have HBN : Hid (at_ = Rnw.bst f (j + 1 - 1)) := show _ = _ by
     rw [show j + 1 - 1 = j by omega, hbn, if_neg hc']
    clear hbl hbv hbn hc' hat
    go_wp2_with fail
    refine (unhide HC1).mono ?_
    rintro e w20 ⟨b20, rfl, -, z20, hb20⟩
    have HZ20 := hide z20
    have HB20 := hide (below_step (unhide HBV) hb20)
    have HC2 := hide (unhide HCO w20 at_ (unhide HB20) (unhide HAT).1 (unhide HAT).2)
    clear z20 hb20 HC1 HBV
    go_wp2_with fail
    refine (unhide HC2).mono ?_
    rintro e w21 ⟨b21, rfl, -, z21, hb21⟩
    have HCM := hide (rcmp_any b20 0 b21 0 700 700 _ _ w21 ((unhide HZ20).below hb21) z21 (unhide HRS j (unhide HJ2).1 (unhide HJ2).2) (unhide HRS at_ (unhide HAT).1 (unhide HAT).2) (by decide))
    obtain ⟨sg, hsg⟩ : ∃ s, Wd.sg ((f j).num * (f at_).den) ((f at_).num * (f j).den) = s := ⟨_, rfl⟩
    rw [hsg] at HCM hc
    have HB21 := hide (below_step (unhide HB20) hb21)
    clear z21 hb21 HC2 HZ20 HB20 hsg
    go_wp2_with fail
    refine (unhide HCM).mono ?_
    rintro e w22 ⟨rfl, hb22⟩
    have HB22 := hide (below_step (unhide HB21) hb22)
    clear hb22 HCM HB21
    go_wp2_with fail
    exact ⟨⟨j + 1, at_, rfl, by go_num, by have := unhide HJ; omega, by have := unhide HJ; omega, unhide HBN, unhide HB22⟩, by have := unhide HJ; simp [intOf]; omega⟩
  ·obtain rfl : j = m := by omega
   have j1 : ¬ (j : Int) < (j : Int) := by omega
   have HC1 := hide (unhide HCO wr at_ hbv (unhide HAT).1 (unhide HAT).2)
   have hag : at_ = Rnw.bst f g := by rw [hat, show j - 1 = g by omega]
   have HAG := hide hag
   clear hbl hbv hat hag
   go_wp2_with fail
   refine (unhide HC1).mono ?_
   rintro e w9 ⟨b9, rfl, hg9, z9, hb9⟩
   have HZ9 := hide z9
   have HB9 := hide (below_step (unhide HB1) (below_step (unhide HBV) hb9))
   clear z9 hg9 hb9 HC1
   go_wp2
   (try simp only [Exit.inBlock, Exit.then])
   (try go_wp2)
   exact bodyPost_ret (v := .tuple #[.int .i64 (at_ : Int), .pointer (some ⟨b9, 0, none⟩)]) (by simp [results, Tryz.results35, go_sem]) rfl ⟨b9, by rw [← unhide HAG], by rw [← unhide HAG]; exact unhide HZ9, unhide HB9⟩
end Go.Proofs.YtcelbgleajpenaaGreatDoor
