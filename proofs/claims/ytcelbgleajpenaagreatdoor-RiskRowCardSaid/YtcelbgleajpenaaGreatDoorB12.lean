/- The document's quotient. -/
import Derived.Test.YtcelbgleajpenaaGreatDoorBG
import Derived.Test.YtcelbgleajpenaaGreatDoorB46
import Derived.Test.YtcelbgleajpenaaGreatDoorBI
import Derived.Test.YtcelbgleajpenaaGreatDoorB4
import Derived.Test.YtcelbgleajpenaaGreatDoorB1
import Derived.Test.YtcelbgleajpenaaGreatDoorT10z
import Derived.Test.YtcelbgleajpenaaGreatDoorB11
import Derived.Laws.CopyOwn
namespace Go.Proofs.YtcelbgleajpenaaGreatDoor
open Go.RowKit Go.Sort Go.Shelf

set_option maxHeartbeats 4000000 in
set_option maxRecDepth 100000 in
set_option linter.unusedSimpArgs false in
theorem refQuot_any (b1 b2 i j : Nat) (qx qy : Rat) (w : World) (x : BRz w b1 0 qx) (y : BRz w b2 0 qy) (rx : RS qx i) (ry : RS qy j) (hij : i + j ≤ 400000) (hy : qy.num ≠ 0) :
    Calls Tryz.prog 74 #[.pointer (some ⟨b1, 0, none⟩), .pointer (some ⟨b2, 0, none⟩)] w (NewsZ w (qx / qy)) := by
  have k := slotR_new w
  have bA := abelow w (.cells #[.bool false, .slice none 0 0, .bool false, .slice none 0 0] 86)
  obtain ⟨W0, hW0⟩ : ∃ W, w.alloc (.cells #[.bool false, .slice none 0 0, .bool false, .slice none 0 0] 86) = W := ⟨_, rfl⟩
  obtain ⟨g, hg⟩ : ∃ g, w.heap.size = g := ⟨_, rfl⟩
  rw [hW0, hg] at k
  rw [hW0] at bA
  have HS := hide (rquoz_any g 0 b1 0 b2 0 i j qx qy W0 k (x.below bA) (y.below bA) rx ry hij hy)
  have HB := hide bA
  have HG := hide hg
  have HSG := hide (signz_any b2 0 qy w y)
  have hs : (qy.num.sign == 0) = false := by
    rw [beq_eq_false_iff_ne]
    exact fun e => hy (Int.sign_eq_zero_iff_zero.1 e)
  have HW0 := hide hW0
  clear k bA x y rx ry hij hW0 hg hy
  go_enter Tryz.func74, Tryz.ntmps74
  go_wp2_with fail
  refine (unhide HSG).mono ?_
  rintro e w1 ⟨rfl, hw⟩
  have hw := hw.symm
  subst hw
  have hW0 := unhide HW0
  have hg := unhide HG
  go_wp2_with fail
  clear hW0 hg
  refine (unhide HS).mono ?_
  rintro e w1 ⟨rfl, hr, hf⟩
  have HR := hide hr
  have HF := hide (hf w (unhide HB) (Nat.le_of_eq (unhide HG)))
  clear hr hf HS
  go_wp2
  go_ret
  exact ⟨g, rfl, Nat.le_of_eq (unhide HG), (unhide HR).z, unhide HF⟩
set_option maxHeartbeats 4000000 in
set_option maxRecDepth 100000 in
set_option linter.unusedSimpArgs false in
theorem refDivz_any (b1 b2 : Nat) (qx qy : Rat) (w : World) (y : BRz w b2 0 qy) (hy : qy = 0) :
    Calls Tryz.prog 74 #[.pointer (some ⟨b1, 0, none⟩), .pointer (some ⟨b2, 0, none⟩)] w (NewsZ w (qx / qy)) := by
  have hz : qx / qy = 0 := by rw [hy, Rat.div_def, Rat.inv_zero, Rat.mul_zero]
  rw [hz]
  have hsg := signz_any b2 0 qy w y
  rw [hy] at hsg
  have HSG := hide hsg
  have HB := hide (abelow w (.cells #[.bool false, .slice none 0 0, .bool false, .slice none 0 0] 86))
  have HZ := hide (rz_new w)
  clear y hy hsg hz
  go_enter Tryz.func74, Tryz.ntmps74
  go_wp2_with fail
  refine (unhide HSG).mono ?_
  rintro e w1 ⟨rfl, hw⟩
  have hw := hw.symm
  subst hw
  go_wp2
  go_ret
  exact ⟨_, rfl, Nat.le_refl _, unhide HZ, unhide HB⟩
end Go.Proofs.YtcelbgleajpenaaGreatDoor
/- What chance.Moment and Over say where something is wrong; the document's Power, Moment, Over. -/
namespace Go.Proofs.YtcelbgleajpenaaGreatDoor
open Go.RowKit Go.Sort Go.Shelf

theorem RS_int {x : Int} (h : I64 x) : RS (x : Rat) 1 := by
  refine ⟨?_, ?_⟩
  · rw [Rat.num_intCast, Wd.pw_one]; have := h.1; have := h.2; omega
  · rw [Rat.den_intCast]; decide
/-- A whole number's power, as a fraction. -/
def powR (x p : Nat) : Rat := (((x ^ p : Nat) : Int) : Rat)
set_option maxHeartbeats 8000000 in
set_option maxRecDepth 100000 in
set_option linter.unusedSimpArgs false in
theorem refPower_any (x p b : Nat) (hx : x ≤ 100) (hp : p ≤ 4) (w : World) (h : BRz w b 0 (((x : Nat) : Int) : Rat)) :
    Calls Tryz.prog 62 #[.pointer (some ⟨b, 0, none⟩), .int .i64 (p : Int)] w (NewsZ w (powR x p)) := by
  have HH := hide h
  have HX := hide hx
  have HI := hide (refIntz_any 1 (by decide) (by decide) w)
  clear h hx
  go_enter Tryz.func62, Tryz.ntmps62
  go_wp2_with fail
  refine (unhide HI).mono ?_
  rintro e w1 ⟨b1, rfl, hge, hr, hb⟩
  have HR := hide hr
  have HB := hide hb
  have HG := hide hge
  clear hr hb hge HI
  go_wp2_with fail
  go_loopw [5, 6] (fun vs vi wr => ∃ (i b' : Nat), vs = .pointer (some ⟨b', 0, none⟩) ∧ vi = .int .i64 (i : Int) ∧ i ≤ p ∧ BRz wr b' 0 (powR x i) ∧ Below w.heap.size w wr ∧ w.heap.size ≤ b') (fun _ vi _ => p - (intOf vi).toNat)
  case atStart => exact ⟨0, b1, rfl, rfl, Nat.zero_le _, by simpa [powR] using unhide HR, unhide HB, unhide HG⟩
  case round =>
    obtain ⟨i, b', rfl, rfl, hi, hr, hb, hge⟩ := hrel
    have HGE := hide hge
    have HBB := hide hb
    by_cases hlt : i < p
    · have f1 : (i : Int) < (p : Int) := by omega
      have f3 : IntKind.i64.wrap ((i : Int) + 1) = (i : Int) + 1 := by rw [IntKind.wrap_i64]; omega
      have HM := hide (refMul_any b' b 1 1 _ _ wr hr ((unhide HH).below hb) (RS_int (pow_I64 (unhide HX) (by omega))) (RS_int ⟨by have := unhide HX; omega, by have := unhide HX; omega⟩) (by decide))
      have e : powR x i * (((x : Nat) : Int) : Rat) = powR x (i + 1) := by
        unfold powR
        rw [← Rat.intCast_mul, Nat.pow_succ, Int.natCast_mul]
      rw [e] at HM
      clear hr hb hge e
      go_wp2_with fail
      refine (unhide HM).mono ?_
      rintro e w2 ⟨b2, rfl, hge2, hr2, hb2⟩
      have HR2 := hide hr2
      have HB2 := hide (bstep (unhide HBB) hb2)
      have HG2 := hide (Nat.le_trans (unhide HBB).size hge2)
      clear hr2 hb2 hge2 HM
      go_wp2_with fail
      exact ⟨⟨i + 1, b2, rfl, by go_num, hlt, unhide HR2, unhide HB2, unhide HG2⟩, by simp [intOf]; omega⟩
    · obtain rfl : p = i := by omega
      have f1 : ¬ (p : Int) < (p : Int) := by omega
      have HR2 := hide hr
      clear hr hb hge
      go_wp2
      (try simp only [Exit.inBlock, Exit.then])
      (try go_wp2)
      go_ret
      exact ⟨b', rfl, unhide HGE, unhide HR2, unhide HBB⟩
set_option maxHeartbeats 8000000 in
set_option maxRecDepth 100000 in
set_option linter.unusedSimpArgs false in
theorem refMoment_any (v : Value) (qs : List Rat) (p : Nat) (w : World) (h : RList w v qs) (hq : ∀ j, j < qs.length → RS qs[j]! 1) (hl : qs.length ≤ 101) (hp : p ≤ 4) :
    Calls Tryz.prog 75 #[v, .int .i64 (p : Int)] w (NewsZ w (wsum qs (fun j => ((j ^ p : Nat) : Int)) qs.length)) := by
  obtain ⟨a, c, rfl, h1, h2, h3⟩ := h
  obtain ⟨n, hn⟩ : ∃ n, qs.length = n := ⟨_, rfl⟩
  rw [hn] at h1 h3 hl ⊢
  have H3 := hide h3
  have HQ := hide hq
  have HN := hide hn
  have HL := hide hl
  have HP := hide hp
  have HI := hide (refIntz_any 0 (by decide) (by decide) w)
  rw [Rat.intCast_zero] at HI
  clear h3 hq hn hl hp
  go_enter Tryz.func75, Tryz.ntmps75
  go_wp2_with fail
  refine (unhide HI).mono ?_
  rintro e w1 ⟨b1, rfl, hge, hr, hb⟩
  have HR := hide hr
  have HB := hide hb
  have HG := hide hge
  clear hr hb hge HI
  go_wp2_with fail
  go_loopw [5, 11] (fun vs vi wr => ∃ (i b' : Nat), vs = .pointer (some ⟨b', 0, none⟩) ∧ vi = .int .i64 (i : Int) ∧ i ≤ n ∧ BRz wr b' 0 (wsum qs (fun j => ((j ^ p : Nat) : Int)) i) ∧ Below w.heap.size w wr ∧ w.heap.size ≤ b') (fun _ vi _ => n - (intOf vi).toNat)
  case atStart => exact ⟨0, b1, rfl, rfl, Nat.zero_le _, unhide HR, unhide HB, unhide HG⟩
  case round =>
    obtain ⟨i, b', rfl, rfl, hi, hr, hb, hge⟩ := hrel
    have HGE := hide hge
    have HBB := hide hb
    have HRR := hide hr
    by_cases hlt : i < n
    · obtain ⟨bl, ol, rfl, hblt, hcs⟩ := unhide H3 (by omega)
      obtain ⟨x, k0, kx⟩ := hcs i hlt
      rw [← hb.cell (p := ⟨bl, ol + i, none⟩) hblt] at k0
      have HKX := hide (kx.below hb)
      have hi0 : (0 : Int) ≤ (i : Int) := by omega
      have hi1 : (i : Int) < (n : Int) := by omega
      have hI : i ≤ 100 := by have := unhide HL; omega
      have HI1 := hide hI
      have hF : I64 ((fun j => ((j ^ p : Nat) : Int)) i) := pow_I64 hI (unhide HP)
      have HF := hide hF
      have HWS := hide (wsum_RS (F := (fun j => ((j ^ p : Nat) : Int))) (unhide HQ) (fun j hj => pow_I64 (by have := unhide HL; have := unhide HN; omega) (unhide HP)) i (by rw [unhide HN]; exact hi))
      have HQI := hide (unhide HQ i (by rw [unhide HN]; exact hlt))
      have e9 : wsum qs (fun j => ((j ^ p : Nat) : Int)) (i + 1) = wsum qs (fun j => ((j ^ p : Nat) : Int)) i + qs[i]! * (((fun j => ((j ^ p : Nat) : Int)) i : Int) : Rat) := rfl
      have HE9 := hide e9
      have HJJ : Hid (i * (1 + 2) + 1 + (1 + 1) ≤ 400000) := by show _ ≤ _; omega
      clear hr hb hge kx hcs hF hI e9
      have HIN := hide (refIntz_any (i : Int) (by have := unhide HI1; omega) (by have := unhide HI1; omega) wr)
      go_wp2_with fail
      refine (unhide HIN).mono ?_
      rintro e w3 ⟨b3, rfl, -, hr3, hb3⟩
      have HB3 := hide hb3
      have HPW := hide (refPower_any i p b3 (unhide HI1) (unhide HP) w3 hr3)
      clear hr3 hb3 HIN
      go_wp2_with fail
      refine (unhide HPW).mono ?_
      rintro e wz ⟨bz, rfl, -, hrz, hbz⟩
      have HRZ : Hid (BRz wz bz 0 ((((i ^ p : Nat) : Int) : Int) : Rat)) := hrz
      have HBZ := hide (bstep (unhide HB3) hbz)
      clear hrz hbz HPW
      go_wp2_with fail
      refine (refMul_any x bz 1 1 _ _ wz ((unhide HKX).below (unhide HBZ)) (unhide HRZ) (unhide HQI) (RS_int (unhide HF)) (by decide)).mono ?_
      rintro e w5 ⟨b5, rfl, -, hr5, hb5⟩
      have HB5 := hide (bstep (unhide HBZ) hb5)
      have HA := hide (refAdd_any b' b5 (i * (1 + 2) + 1) (1 + 1) _ _ w5 ((unhide HRR).below (unhide HB5)) hr5 (unhide HWS) (RS.mul (unhide HQI) (RS_int (unhide HF))) (unhide HJJ))
      rw [← unhide HE9] at HA
      clear hr5 hb5
      go_wp2_with fail
      refine (unhide HA).mono ?_
      rintro e w6 ⟨b6, rfl, hge6, hr6, hb6⟩
      have HR6 := hide hr6
      have HB6 := hide (bstep (bstep (unhide HBB) (unhide HB5)) hb6)
      have HG6 := hide (Nat.le_trans (bstep (unhide HBB) (unhide HB5)).size hge6)
      clear hr6 hb6 hge6 HA
      go_wp2_with fail
      exact ⟨⟨i + 1, b6, rfl, by go_num, hlt, unhide HR6, unhide HB6, unhide HG6⟩, by simp [intOf]; omega⟩
    · obtain rfl : n = i := by omega
      clear hr hb hge
      go_wp2
      (try simp only [Exit.inBlock, Exit.then])
      (try go_wp2)
      go_ret
      exact ⟨b', rfl, unhide HGE, unhide HRR, unhide HBB⟩
end Go.Proofs.YtcelbgleajpenaaGreatDoor
/- Renewals: what is taken from elsewhere; the law of ages in a row of fractions. -/
namespace Go.Proofs.YtcelbgleajpenaaGreatDoor
open Go.RowKit Go.Sort Go.Shelf

/-- A law's cells, by its length. -/
theorem LawIs.open {w : World} {l : Sl} {qs : List Rat} {n : Nat} (h : LawIs w l.val qs) (hl : qs.length = n) (hp : 0 < n) : ∃ b o, l.a = some ⟨b, o, none⟩ ∧ b < w.heap.size ∧ ∀ j, j < n → ∃ t : Tri, w.cell? ⟨b, o + j * 3, none⟩ = some (.bool t.s) ∧ w.cell? ⟨b, o + j * 3 + 1, none⟩ = some (.slice t.a1 t.n1 t.c1) ∧ w.cell? ⟨b, o + j * 3 + 2, none⟩ = some (.slice t.a2 t.n2 t.c2) ∧ RatIs w t.val qs[j]! := by
  obtain ⟨a, c, e, _, _, h3⟩ := h
  obtain ⟨b, o, ea, hlt, hc⟩ := h3 (by omega)
  have e1 : l.a = a := by injection e
  refine ⟨b, o, by rw [e1, ea], hlt, fun j hj => ?_⟩
  obtain ⟨s, a1, a2, n1, c1, n2, c2, k0, k1, k2, r⟩ := hc j (by omega)
  exact ⟨⟨s, a1, a2, n1, c1, n2, c2⟩, k0, k1, k2, r⟩
theorem KK_is : KK = 1099511627776 := rfl
/-- A fresh row of fractions. -/
def RowPost (w : World) (qs : List Rat) (e : Ending) (w' : World) : Prop := ∃ g n, e = .returned (.slice (some ⟨g, 0, none⟩) n n) ∧ n = qs.length ∧ w.heap.size ≤ g ∧ LawIs w' (.slice (some ⟨g, 0, none⟩) n n) qs ∧ Below w.heap.size w w'
theorem SumsAt.rebase {w w1 wr : World} {g : Nat} {us : List Tri} {qs : List Rat} (h : SumsAt w1 wr g us qs) (hb : Below w.heap.size w w1) : SumsAt w wr g us qs :=
  ⟨h.row, h.len, h.rat, below_step hb h.bl, Nat.le_trans hb.size h.gl⟩
theorem LawIs.cap {w : World} {l : Sl} {qs : List Rat} {n : Nat} (h : LawIs w l.val qs) (e : qs.length = n) : n ≤ l.c ∧ l.c ≤ 9223372036854775807 := by
  obtain ⟨a, c, e', i1, i2, _⟩ := h
  have e1 : l.c = c := by injection e'
  rw [e1]; exact ⟨by omega, i2⟩
theorem row_setq {f g : Nat → Rat} {n j : Nat} {v : Rat} (hj : j < n) (h1 : g j = v) (h2 : ∀ i, i < n → i ≠ j → g i = f i) : (row f n).set j v = row g n := by
  refine row_eq (by rw [List.length_set, row_length]) (fun i hi => ?_)
  rw [List.getElem!_eq_getElem?_getD, List.getElem?_set]
  by_cases e : j = i
  · subst e
    rw [if_pos rfl, if_pos (by rw [row_length]; exact hj)]
    exact h1.symm
  · rw [if_neg e, ← List.getElem!_eq_getElem?_getD, row_get hi]
    exact (h2 i hi (Ne.symm e)).symm
theorem abelowz (w : World) (o : Obj) : Below w.heap.size w (w.alloc o) := (Below.refl _ _).alloc (Nat.le_refl _) _








/-- The row's numbers as a function: 0 behind its end. -/
def xq (qs : List Rat) (i : Nat) : Rat := qs[i]!
theorem xq_out {qs : List Rat} {i : Nat} (h : qs.length ≤ i) : xq qs i = 0 := by
  show qs[i]! = 0
  rw [List.getElem!_eq_getElem?_getD, List.getElem?_eq_none h]; rfl
theorem qsum_xq (qs : List Rat) : ∀ k, qsum qs k = Bth.ps (xq qs) k
  | 0 => rfl
  | k + 1 => by show qsum qs k + qs[k]! = _; rw [qsum_xq qs k]; rfl
theorem wsum_ps (qs : List Rat) (F : Nat → Int) : ∀ k, wsum qs F k = Bth.ps (fun j => xq qs j * ((F j : Int) : Rat)) k
  | 0 => rfl
  | k + 1 => by show wsum qs F k + qs[k]! * _ = _; rw [wsum_ps qs F k]; rfl
theorem tlen_zero' (qs : List Rat) : ∀ n j, tlen qs n ≤ j → j < n → qs[j]! = 0
  | 0, _, _, h => absurd h (Nat.not_lt_zero _)
  | 1, j, h, h' => by unfold tlen at h; omega
  | n + 2, j, h, h' => by
    unfold tlen at h
    split at h
    · rename_i hz
      rcases Nat.lt_or_ge j (n + 1) with h1 | h1
      · exact tlen_zero' qs (n + 1) j h h1
      · obtain rfl : j = n + 1 := by omega
        exact Rat.num_eq_zero.1 hz
    · omega
/-- What renew's check says: as Check, and 11 where one may fail at 0. -/
def rnc (qs : List Rat) : Int := if chk qs = 0 then (if 0 < (xq qs 0).num then 11 else 0) else chk qs
theorem rnc_zero {qs : List Rat} (h : rnc qs = 0) : chk qs = 0 ∧ xq qs 0 = 0 := by
  unfold rnc at h
  by_cases hc : chk qs = 0
  · rw [if_pos hc] at h
    refine ⟨hc, ?_⟩
    by_cases h0 : 0 < (xq qs 0).num
    · rw [if_pos h0] at h; exact absurd h (by decide)
    · obtain ⟨a, _, c, _⟩ := chk_zero hc
      have := c 0 a
      exact Rat.num_eq_zero.1 (by show (qs[0]!).num = 0; have h0' : ¬ 0 < (qs[0]!).num := h0; omega)
  · rw [if_neg hc] at h; exact absurd h hc
/-- The greatest age. -/
def gst (qs : List Rat) : Nat := tlen qs qs.length - 1
theorem rnc_age {qs : List Rat} (h : rnc qs = 0) : Rnw.Age (xq qs) (gst qs) ∧ gst qs + 1 = tlen qs qs.length ∧ gst qs + 1 ≤ qs.length ∧ qs.length ≤ 101 := by
  obtain ⟨hc, h0⟩ := rnc_zero h
  obtain ⟨a, b, c, d⟩ := chk_zero hc
  have t1 := tlen_pos' qs a
  have t2 := tlen_le qs qs.length
  have e : gst qs + 1 = tlen qs qs.length := by unfold gst; omega
  have hout : ∀ j, gst qs < j → xq qs j = 0 := fun j hj => by
    rcases Nat.lt_or_ge j qs.length with h1 | h1
    · exact tlen_zero' qs qs.length j (by omega) h1
    · exact xq_out h1
  refine ⟨⟨h0, fun j => ?_, ?_, hout⟩, e, by omega, b⟩
  · rcases Nat.lt_or_ge j qs.length with h1 | h1
    · exact Rat.num_nonneg.1 (c j h1)
    · rw [xq_out h1]; exact Rat.le_refl
  · rw [← Rnw.ps_cut (xq qs) (gst qs + 1) qs.length (by omega) (fun j p _ => hout j (by omega)), ← qsum_xq]; exact d
theorem LawIs.parts {w : World} {a : Option Addr} {n c : Nat} {qs : List Rat} (h : LawIs w (.slice a n c) qs) : qs.length = n ∧ n ≤ c ∧ c ≤ 9223372036854775807 ∧ (0 < n → ∃ b o, a = some ⟨b, o, none⟩ ∧ b < w.heap.size ∧ ∀ j, j < n → ∃ t : Tri, w.cell? ⟨b, o + j * 3, none⟩ = some (.bool t.s) ∧ w.cell? ⟨b, o + j * 3 + 1, none⟩ = some (.slice t.a1 t.n1 t.c1) ∧ w.cell? ⟨b, o + j * 3 + 2, none⟩ = some (.slice t.a2 t.n2 t.c2) ∧ RatIs w t.val (xq qs j)) := by
  have h' := h
  obtain ⟨a', c', e, h1, h2, h3⟩ := h
  injection e with e1 e2 e3
  subst e1; subst e3; subst e2
  refine ⟨rfl, h1, h2, fun hp => ?_⟩
  obtain ⟨b, o, ea, hlt, hc⟩ := h3 hp
  refine ⟨b, o, ea, hlt, fun j hj => ?_⟩
  obtain ⟨s, a1, a2, n1, c1, n2, c2, k0, k1, k2, r⟩ := hc j hj
  exact ⟨⟨s, a1, a2, n1, c1, n2, c2⟩, k0, k1, k2, r⟩
end Go.Proofs.YtcelbgleajpenaaGreatDoor
/- Renewals: check, checkTime, checkCosts, greatest, divided, cost. -/
namespace Go.Proofs.YtcelbgleajpenaaGreatDoor
open Go.RowKit Go.Sort Go.Shelf

set_option maxHeartbeats 16000000 in
set_option maxRecDepth 100000 in
set_option linter.unusedSimpArgs false in
theorem rcheck_any (v : Value) (qs : List Rat) (J : Nat) (w : World) (h : LawIs w v qs) (hq : ∀ j, j < qs.length → RS qs[j]! J) (hJ : (qs.length * (J + 1) + 1 + J) + (qs.length * (J + 1) + 1 + J) + 1 ≤ KK) :
    Calls Tryz.prog 76 #[v] w fun e w' => e = .returned (errV (rnc qs)) ∧ Below w.heap.size w w' := by
  have HC := hide (check_any v qs J w h hq hJ)
  have h' := h
  obtain ⟨a, c, rfl, -⟩ := h'
  by_cases hc : chk qs = 0
  · have hr : rnc qs = if 0 < (xq qs 0).num then 11 else 0 := by unfold rnc; rw [if_pos hc]
    rw [hr]
    rw [hc, errV_zero] at HC
    obtain ⟨p1, p2, _, _⟩ := chk_zero hc
    obtain ⟨_, hc1, hc2, h3⟩ := h.parts
    obtain ⟨b, o, rfl, hlt, hcs⟩ := h3 p1
    obtain ⟨t, k0, k1, k2, r⟩ := hcs 0 p1
    rw [Nat.zero_mul, Nat.add_zero] at k0 k1 k2
    obtain ⟨n, hn⟩ : ∃ n, qs.length = n := ⟨_, rfl⟩
    rw [hn] at HC p1 p2 hc1 ⊢
    have HK : Hid (∀ W, Below w.heap.size w W → W.cell? ⟨b, o, none⟩ = some (.bool t.s) ∧ W.cell? ⟨b, o + 1, none⟩ = some (.slice t.a1 t.n1 t.c1) ∧ W.cell? ⟨b, o + 2, none⟩ = some (.slice t.a2 t.n2 t.c2)) := fun W hW => ⟨by rw [hW.cell (p := ⟨b, o, none⟩) hlt]; exact k0, by rw [hW.cell (p := ⟨b, o + 1, none⟩) hlt]; exact k1, by rw [hW.cell (p := ⟨b, o + 2, none⟩) hlt]; exact k2⟩
    have HSG : Hid (∀ W, Below w.heap.size w W → Calls Tryz.prog 103 #[.agg #[.bool t.s, .slice t.a1 t.n1 t.c1, .slice t.a2 t.n2 t.c2]] W fun e w' => e = .returned (.int .i64 (xq qs 0).num.sign) ∧ Below W.heap.size W w') := fun W hW => sign_any t.val (xq qs 0) W (r.below hW)
    obtain ⟨q, hq'⟩ : ∃ q, xq qs 0 = q := ⟨_, rfl⟩
    rw [hq'] at HSG ⊢
    have i0 : (0 : Int) < (n : Int) := by omega
    clear h hq hJ hr hc hcs r h3 hn hq' hlt k0 k1 k2
    by_cases hneg : 0 < q.num
    · rw [if_pos hneg]
      have hsn : q.num.sign = 1 := Int.sign_eq_one_of_pos hneg
      rw [hsn] at HSG
      clear hneg hsn
      go_enter Tryz.func76, Tryz.ntmps76
      go_wp2_with fail
      refine (unhide HC).mono ?_
      rintro e w1 ⟨rfl, hb1⟩
      have HS1 := hide (unhide HSG w1 hb1)
      have ⟨k0, k1, k2⟩ := unhide HK w1 hb1
      have HB1 := hide hb1
      clear hb1 HC HSG HK
      go_wp2_with fail
      refine (unhide HS1).mono ?_
      rintro e w2 ⟨rfl, hb2⟩
      have HB2 := hide (below_step (unhide HB1) hb2)
      clear hb2 k0 k1 k2
      go_wp2
      go_ret
      exact ⟨rfl, unhide HB2⟩
    · rw [if_neg hneg]
      have bd := sign_bd q.num
      have hsn : q.num.sign ≤ 0 := by
        rcases Int.lt_trichotomy q.num 0 with h | h | h
        · rw [Int.sign_eq_neg_one_of_neg h]; decide
        · rw [h]; decide
        · omega
      obtain ⟨bda, bdb⟩ := bd
      generalize q.num.sign = x at *
      have hd : decide (0 < x) = false := decide_eq_false (by omega)
      clear hneg bda bdb hsn
      go_enter Tryz.func76, Tryz.ntmps76
      go_wp2_with fail
      refine (unhide HC).mono ?_
      rintro e w1 ⟨rfl, hb1⟩
      have HS1 := hide (unhide HSG w1 hb1)
      have ⟨k0, k1, k2⟩ := unhide HK w1 hb1
      have HB1 := hide hb1
      clear hb1 HC HSG HK
      go_wp2_with fail
      refine (unhide HS1).mono ?_
      rintro e w2 ⟨rfl, hb2⟩
      have HB2 := hide (below_step (unhide HB1) hb2)
      clear hb2 k0 k1 k2
      go_wp2
      go_ret
      exact ⟨rfl, unhide HB2⟩
  · have hr : rnc qs = chk qs := by unfold rnc; rw [if_neg hc]
    rw [hr]
    rw [errV_not hc] at HC ⊢
    generalize chk qs = k at *
    clear h hq hJ hr hc
    generalize qs.length = n at *
    go_enter Tryz.func76, Tryz.ntmps76
    go_wp2_with fail
    refine (unhide HC).mono ?_
    rintro e w1 ⟨rfl, hb1⟩
    go_wp2
    go_ret
    exact ⟨rfl, hb1⟩

/-- What checkTime says. -/
def rtc (qs : List Rat) (up : Int) : Int := if rnc qs = 0 then (if up < 0 ∨ 100 < up then 2 else 0) else rnc qs
set_option maxHeartbeats 16000000 in
set_option maxRecDepth 100000 in
set_option linter.unusedSimpArgs false in
theorem rtime_any (v : Value) (qs : List Rat) (J : Nat) (up : Int) (w : World) (h : LawIs w v qs) (hq : ∀ j, j < qs.length → RS qs[j]! J) (hJ : (qs.length * (J + 1) + 1 + J) + (qs.length * (J + 1) + 1 + J) + 1 ≤ KK) :
    Calls Tryz.prog 70 #[v, .int .i64 up] w fun e w' => e = .returned (errV (rtc qs up)) ∧ Below w.heap.size w w' := by
  have HC := hide (rcheck_any v qs J w h hq hJ)
  have h' := h
  obtain ⟨a, c, rfl, -⟩ := h'
  by_cases hc : rnc qs = 0
  · have hr : rtc qs up = if up < 0 ∨ 100 < up then 2 else 0 := by unfold rtc; rw [if_pos hc]
    rw [hr]
    rw [hc, errV_zero] at HC
    clear h hq hJ hr hc
    generalize qs.length = n at *
    by_cases h0 : up < 0
    · rw [if_pos (Or.inl h0)]
      go_enter Tryz.func70, Tryz.ntmps70
      go_wp2_with fail
      refine (unhide HC).mono ?_
      rintro e w1 ⟨rfl, hb1⟩
      go_wp2
      go_ret
      exact ⟨rfl, hb1⟩
    · by_cases h1 : 100 < up
      · rw [if_pos (Or.inr h1)]
        go_enter Tryz.func70, Tryz.ntmps70
        go_wp2_with fail
        refine (unhide HC).mono ?_
        rintro e w1 ⟨rfl, hb1⟩
        go_wp2
        go_ret
        exact ⟨rfl, hb1⟩
      · rw [if_neg (fun h => h.elim h0 h1)]
        go_enter Tryz.func70, Tryz.ntmps70
        go_wp2_with fail
        refine (unhide HC).mono ?_
        rintro e w1 ⟨rfl, hb1⟩
        go_wp2
        go_ret
        exact ⟨rfl, hb1⟩
  · have hr : rtc qs up = rnc qs := by unfold rtc; rw [if_neg hc]
    rw [hr]
    rw [errV_not hc] at HC ⊢
    generalize rnc qs = k at *
    clear h hq hJ hr hc
    generalize qs.length = n at *
    go_enter Tryz.func70, Tryz.ntmps70
    go_wp2_with fail
    refine (unhide HC).mono ?_
    rintro e w1 ⟨rfl, hb1⟩
    go_wp2
    go_ret
    exact ⟨rfl, hb1⟩

set_option maxHeartbeats 16000000 in
set_option maxRecDepth 100000 in
set_option linter.unusedSimpArgs false in
theorem greatest_any (v : Value) (qs : List Rat) (w : World) (h : LawIs w v qs) (hp : 0 < qs.length) (hl : qs.length ≤ 1000) :
    Calls Tryz.prog 78 #[v] w fun e w' => e = .returned (.int .i64 (gst qs : Int)) ∧ Below w.heap.size w w' := by
  have HT := hide (trim_any v qs w h hp hl)
  obtain ⟨a, c, rfl, -⟩ := h
  have t1 := tlen_pos' qs hp
  have t2 := tlen_le qs qs.length
  have htl : (qs.take (tlen qs qs.length)).length = tlen qs qs.length := by rw [List.length_take]; omega
  have HTL := hide htl
  have e : (gst qs : Int) = (tlen qs qs.length : Int) - 1 := by unfold gst; omega
  rw [e]
  have HM := hide (And.intro t1 (show tlen qs qs.length ≤ 1000 by omega))
  generalize tlen qs qs.length = m at *
  clear hp hl t2 htl e
  generalize qs.length = n at *
  go_enter Tryz.func78, Tryz.ntmps78
  go_wp2_with fail
  refine (unhide HT).mono ?_
  rintro e w1 ⟨v1, rfl, hv, hb1⟩
  obtain ⟨a1, c1, rfl, -⟩ := hv
  rw [unhide HTL]
  obtain ⟨m1, m2⟩ := unhide HM
  have HB := hide hb1
  clear HT HTL HM hb1
  go_wp2
  go_ret
  exact ⟨by congr 2, unhide HB⟩

set_option maxHeartbeats 4000000 in
set_option maxRecDepth 100000 in
set_option linter.unusedSimpArgs false in
theorem rdivided_any (va vb : Value) (qa qb : Rat) (w : World) (ha : RatIs w va qa) (hb : RatIs w vb qb) (J : Nat) (hqa : RS qa J) (hqb : RS qb J) (hJ : J + J + 1 ≤ KK) (hz : qb.num ≠ 0) :
    Calls Tryz.prog 80 #[va, vb] w fun e w' => ∃ v, e = .returned v ∧ RatIs w' v (qa / qb) ∧ Below w.heap.size w w' := by
  obtain ⟨ta, rfl, ha'⟩ := tri_of ha
  obtain ⟨tb, rfl, hb'⟩ := tri_of hb
  have bA := below_step (below_step (alloc_below w (.cells #[.bool ta.s, .slice ta.a1 ta.n1 ta.c1, .slice ta.a2 ta.n2 ta.c2] 37)) (alloc_below _ (.cells #[.bool tb.s, .slice tb.a1 tb.n1 tb.c1, .slice tb.a2 tb.n2 tb.c2] 37))) (alloc_below _ (.cells #[.bool false, .slice none 0 0, .slice none 0 0] 37))
  have HDV := hide (divR_any ta.val tb.val qa qb _ (ha'.below bA) (hb'.below bA) J hqa hqb hJ hz)
  have HB_0 := hide bA
  have HX_b4_0 := hide (BoxIs.new (w := (w.alloc (.cells #[.bool ta.s, .slice ta.a1 ta.n1 ta.c1, .slice ta.a2 ta.n2 ta.c2] 37)).alloc (.cells #[.bool tb.s, .slice tb.a1 tb.n1 tb.c1, .slice tb.a2 tb.n2 tb.c2] 37)) (t := zTri) (q := 0) (rat_zero _))
  obtain ⟨W0, hW0⟩ : ∃ W, ((w.alloc (.cells #[.bool ta.s, .slice ta.a1 ta.n1 ta.c1, .slice ta.a2 ta.n2 ta.c2] 37)).alloc (.cells #[.bool tb.s, .slice tb.a1 tb.n1 tb.c1, .slice tb.a2 tb.n2 tb.c2] 37)).alloc (.cells #[.bool false, .slice none 0 0, .slice none 0 0] 37) = W := ⟨_, rfl⟩
  have e5 : ((w.alloc (.cells #[.bool ta.s, .slice ta.a1 ta.n1 ta.c1, .slice ta.a2 ta.n2 ta.c2] 37)).alloc (.cells #[.bool tb.s, .slice tb.a1 tb.n1 tb.c1, .slice tb.a2 tb.n2 tb.c2] 37)).heap.size = w.heap.size + 1 + 1 := by rw [alloc_size, alloc_size]
  rw [show ((w.alloc (.cells #[.bool ta.s, .slice ta.a1 ta.n1 ta.c1, .slice ta.a2 ta.n2 ta.c2] 37)).alloc (.cells #[.bool tb.s, .slice tb.a1 tb.n1 tb.c1, .slice tb.a2 tb.n2 tb.c2] 37)).alloc (.cells #[.bool zTri.s, .slice zTri.a1 zTri.n1 zTri.c1, .slice zTri.a2 zTri.n2 zTri.c2] 37) = W0 from hW0, e5] at HX_b4_0
  rw [hW0] at HB_0 HDV
  have HWE := hide hW0
  clear e5 ha hb ha' hb' hW0 bA
  simp only [Tri.val]
  generalize qa / qb = q at *
  go_enter Tryz.func80, Tryz.ntmps80
  go_wp2_with fail
  rw [unhide HWE]
  clear HWE
  obtain ⟨b4, hb4⟩ : ∃ b, w.heap.size + 1 + 1 = b := ⟨_, rfl⟩
  have HG_b4 : Hid (w.heap.size ≤ b4) := show _ ≤ _ by omega
  rw [hb4] at HX_b4_0 ⊢
  clear hb4
  refine (unhide HDV).mono ?_
  rintro e w_1 ⟨v4, rfl, hv4, hbx⟩
  obtain ⟨t5, rfl, hr_1⟩ := tri_of hv4
  simp only [Tri.val]
  have HL_b4_b5 := hide (Nat.lt_of_lt_of_le (unhide HX_b4_0).lt hbx.size)
  have HG_b5 := hide (below_step (unhide HB_0) hbx).size
  have hb_1 := below_step hbx (alloc_below w_1 (.cells #[.bool t5.s, .slice t5.a1 t5.n1 t5.c1, .slice t5.a2 t5.n2 t5.c2] 37))
  have HB_2 := hide (below_step (unhide HB_0) hb_1)
  have HX_b4_2 := hide ((unhide HX_b4_0).keep hb_1)
  clear HB_0 HX_b4_0
  have HX_b5_1 := hide (BoxIs.new hr_1)
  obtain ⟨Wb5, hW_1⟩ : ∃ W, w_1.alloc (.cells #[.bool t5.s, .slice t5.a1 t5.n1 t5.c1, .slice t5.a2 t5.n2 t5.c2] 37) = W := ⟨_, rfl⟩
  obtain ⟨b5, hc_1⟩ : ∃ b, w_1.heap.size = b := ⟨_, rfl⟩
  rw [hW_1] at HB_2 HX_b4_2 HX_b5_1
  rw [hc_1] at HX_b5_1 HL_b4_b5 HG_b5
  clear hv4 hr_1 hbx hb_1
  have ⟨l0, l1, l2⟩ := (unhide HX_b4_2).free
  have ⟨y0, y1, y2⟩ := (unhide HX_b4_2).cells _ (Below.refl _ _)
  have ⟨y3, y4, y5⟩ := (unhide HX_b5_1).cells _ (Below.refl _ _)
  have FIN := hide ((unhide HX_b4_2).set (unhide HX_b5_1).2)
  have FB := hide ((((unhide HB_2).setCell (p := ⟨b4, 0, none⟩) (unhide HG_b4) (.bool t5.s)).setCell (p := ⟨b4, 1, none⟩) (unhide HG_b4) (.slice t5.a1 t5.n1 t5.c1)).setCell (p := ⟨b4, 2, none⟩) (unhide HG_b4) (.slice t5.a2 t5.n2 t5.c2))
  obtain ⟨Wf, hWf⟩ : ∃ W, ((Wb5.setCell ⟨b4, 0, none⟩ (.bool t5.s)).setCell ⟨b4, 1, none⟩ (.slice t5.a1 t5.n1 t5.c1)).setCell ⟨b4, 2, none⟩ (.slice t5.a2 t5.n2 t5.c2) = W := ⟨_, rfl⟩
  rw [hWf] at FIN FB
  have ⟨x0, x1, x2⟩ := (unhide FIN).cells _ (Below.refl _ _)
  go_wp2
  exact bodyPost_ret (v := .agg #[.bool t5.s, .slice t5.a1 t5.n1 t5.c1, .slice t5.a2 t5.n2 t5.c2]) (by simp [results, Tryz.results80, go_sem, x0, x1, x2]) rfl ⟨_, rfl, (unhide FIN).2, unhide FB⟩
end Go.Proofs.YtcelbgleajpenaaGreatDoor
