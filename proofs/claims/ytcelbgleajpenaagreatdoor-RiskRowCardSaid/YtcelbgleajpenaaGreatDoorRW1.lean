/- A row of parts by the document: Power, Row. -/
import Derived.Test.YtcelbgleajpenaaGreatDoorRW0
import Derived.Test.YtcelbgleajpenaaGreatDoorB47
import Derived.Test.YtcelbgleajpenaaGreatDoorBI
namespace Go.Proofs.YtcelbgleajpenaaGreatDoor
open Go.RowKit Go.Sort Go.Shelf

theorem den_numr (q : Rat) : q * (q.den : Rat) = (q.num : Rat) := by
  have h0 : (q.den : Rat) ≠ 0 := by simp [q.den_nz]
  have e : q = (q.num : Rat) / (q.den : Rat) := by rw [← Rat.mkRat_eq_div, Rat.mkRat_self]
  calc q * (q.den : Rat) = (q.num : Rat) / (q.den : Rat) * (q.den : Rat) := congrArg (· * (q.den : Rat)) e
    _ = (q.num : Rat) := Rat.div_mul_cancel h0
/-- Ovrer this denominator the fraction is whole, and below so many words. -/
def Ovr (q : Rat) (D t : Nat) : Prop := ∃ z : Int, q * (D : Rat) = (z : Rat) ∧ (z.natAbs : Int) < Wd.pw t
theorem Ovr.rs {q : Rat} {D t : Nat} (h : Ovr q D t) (hD : D ≠ 0) (hd : (D : Int) < Wd.pw t) : RS q t := by
  obtain ⟨z, e, hz⟩ := h
  have h0 : (D : Rat) ≠ 0 := by simpa using hD
  have e2 : q = mkRat z D := by
    rw [Rat.mkRat_eq_div, ← e]
    exact (Rat.mul_div_cancel h0).symm
  have m := mkRat_bd z D hD
  rw [← e2] at m
  exact ⟨by omega, by omega⟩
theorem Iv_rs {q : Rat} {D t : Nat} (h : Rsk.Iv q D) (h0 : 0 ≤ q) (h1 : q ≤ 1) (hD : D ≠ 0) (ht : (D : Int) < Wd.pw t) : RS q t := by
  obtain ⟨z, hz⟩ := h
  refine Ovr.rs ⟨z, hz, ?_⟩ hD ht
  have hDp : (0 : Rat) ≤ (D : Rat) := Rat.natCast_nonneg
  have e0 : (0 : Rat) ≤ (z : Rat) := by rw [← hz]; exact Rat.mul_nonneg h0 hDp
  have e1 : (z : Rat) ≤ (((D : Nat) : Int) : Rat) := by
    rw [← hz]
    have := Rat.mul_nonneg (show (0 : Rat) ≤ 1 - q by grind) hDp
    show q * (D : Rat) ≤ (D : Rat)
    grind
  have e2 : 0 ≤ z := Rat.intCast_nonneg.1 e0
  have e3 : z ≤ ((D : Nat) : Int) := Rat.intCast_le_intCast.1 e1
  omega
theorem den_Iv (q : Rat) : Rsk.Iv q q.den := ⟨q.num, den_numr q⟩
theorem den_pw {q : Rat} (h : RS q 1) : ∀ m, ((q.den ^ m : Nat) : Int) < Wd.pw (m + 1)
  | 0 => by rw [Nat.pow_zero, Wd.pw_one]; decide
  | m + 1 => by
    have ih := den_pw h m
    have hd := h.2
    have hp := Wd.pw_pos (m + 1)
    rw [Nat.pow_succ, Int.natCast_mul, show m + 1 + 1 = (m + 1) + 1 from rfl, Wd.pw_add (m + 1) 1]
    rw [Wd.pw_one] at hd ⊢
    have hn : (0 : Int) ≤ ((q.den ^ m : Nat) : Int) := Int.natCast_nonneg _
    have e1 := Int.mul_le_mul_of_nonneg_left (show ((q.den : Nat) : Int) ≤ 18446744073709551616 by omega) hn
    omega
theorem den_ne (q : Rat) (m : Nat) : q.den ^ m ≠ 0 := Nat.ne_of_gt (Nat.pow_pos q.den_pos)
/-- What Row's numbers are. -/
structure RwS (p : Rat) (b : Nat) : Prop where
  q0 : 0 ≤ ((1 : Int) : Rat) - p
  q1 : ((1 : Int) : Rat) - p ≤ 1
  pq : p = 1 - (((1 : Int) : Rat) - p)
  p0 : 0 ≤ p
  p1 : p ≤ 1
  rs : RS p 1
theorem rwS {p : Rat} {b : Nat} (h : icB p = true) (rs : RS p 1) : RwS p b := by
  have := of_decide_eq_true h
  have e : ((1 : Int) : Rat) = 1 := by simp
  refine ⟨?_, ?_, ?_, this.1, this.2, rs⟩ <;> rw [e] <;> grind
theorem iq_of (p : Rat) : Rsk.Iv (((1 : Int) : Rat) - p) p.den := by
  have e : ((1 : Int) : Rat) = 1 := by simp
  rw [e]
  exact (Rsk.Iv.one _).sub (den_Iv p)
theorem RwS.pw {p : Rat} {b : Nat} (h : RwS p b) (k : Nat) : RS (Rsk.pwr (((1 : Int) : Rat) - p) k) (k + 1) := by
  have := Rsk.pwr_01 h.q0 h.q1 k
  exact Iv_rs (Rsk.pwr_Iv (iq_of p) k) this.1 this.2 (den_ne p k) (den_pw h.rs k)
theorem RwS.w {p : Rat} {b : Nat} (h : RwS p b) (k : Nat) : RS (Rsk.rrv p (((1 : Int) : Rat) - p) b k) (k + 1) := by
  have := Rsk.rrv_01 (b := b) h.pq h.q0 h.q1 k
  exact Iv_rs (Rsk.rrv_Iv (den_Iv p) (iq_of p) k) this.1 this.2 (den_ne p k) (den_pw h.rs k)
theorem RwS.s {p : Rat} {b : Nat} (h : RwS p b) {m i : Nat} (hi : i ≤ m) : RS (Rsk.rrs p (((1 : Int) : Rat) - p) (Rsk.rrv p (((1 : Int) : Rat) - p) b) m i) (m + 1) := by
  have e := Rsk.rrs_01 h.pq h.q0 h.q1 (fun j _ => Rsk.rrv_01 (b := b) h.pq h.q0 h.q1 j) i hi
  have f := Rsk.pwr_01 h.q0 h.q1 i
  exact Iv_rs (Rsk.rrs_Iv (den_Iv p) (iq_of p) (fun j _ => Rsk.rrv_Iv (den_Iv p) (iq_of p) j) i hi) e.1 (by have := f.1; have := e.2; grind) (den_ne p m) (den_pw h.rs m)
theorem PAt.one {w0 w : World} {x : Nat} {qs : List Rat} (hb : Below w0.heap.size w0 w) (hx : BRz w x 0 qs[0]!) : PAt w0 (w.alloc (.cells #[.pointer (some ⟨x, 0, none⟩)] 31)) w0.heap.size (.slice (some ⟨w.heap.size, 0, none⟩) 1 1) [x] qs := by
  refine ⟨⟨by simp [ptrs], Or.inr ⟨w.heap.size, 1, #[.pointer (some ⟨x, 0, none⟩)], rfl, hb.size, heap_alloc_new w _, Nat.le_refl _, by decide, rfl, rfl⟩⟩, fun g hg => ?_, fun j hj => ?_, below_step hb (alloc_below w _), Nat.le_refl _⟩
  · have : w.heap.size = g := Option.some.inj hg
    rw [← this]
    exact ptrly_of (heap_alloc_new w _) (fun u hu => by
      have := List.mem_singleton.1 (Array.mem_toList_iff.2 hu)
      exact is_ptr x u (by rw [this]; exact List.mem_singleton.2 rfl))
  · obtain rfl : j = 0 := by simp at hj; omega
    exact hx.below (alloc_below w _)
theorem PAt.list {w wr : World} {B : Nat} {v : Value} {gs : List Nat} {f : Nat → Rat} {N k : Nat} (h : PAt w wr B v gs (row f N)) (hg : gs.length = k) (hk : k ≤ N) : RList wr v (row f k) :=
  rlist_of (qs := row f k) h.own (by rw [row_length, hg]) (fun j hj => by
    have := h.rat j hj
    rw [row_get (by omega)] at this
    rw [row_get (by omega)]
    exact this)
set_option maxHeartbeats 16000000 in
set_option maxRecDepth 100000 in
set_option linter.unusedSimpArgs false in
theorem refPowq_any (q : Rat) (p b : Nat) (w : World) (h : BRz w b 0 q) (hq : RS q 1) (hr : ∀ k, k ≤ p → RS (Rsk.pwr q k) (k + 1)) (hp : p ≤ 1000) :
    Calls Tryz.prog 62 #[.pointer (some ⟨b, 0, none⟩), .int .i64 (p : Int)] w (NewsZ w (Rsk.pwr q p)) := by
  have HH := hide h
  have HQ := hide hq
  have HR0 := hide hr
  have HI := hide (refIntz_any 1 (by decide) (by decide) w)
  clear h hq hr
  go_enter Tryz.func62, Tryz.ntmps62
  go_wp2_with fail
  refine (unhide HI).mono ?_
  rintro e w1 ⟨b1, rfl, hge, hr, hb⟩
  have HR := hide hr
  have HB := hide hb
  have HG := hide hge
  clear hr hb hge HI
  go_wp2_with fail
  go_loopw [5, 6] (fun vs vi wr => ∃ (i b' : Nat), vs = .pointer (some ⟨b', 0, none⟩) ∧ vi = .int .i64 (i : Int) ∧ i ≤ p ∧ BRz wr b' 0 (Rsk.pwr q i) ∧ Below w.heap.size w wr ∧ w.heap.size ≤ b') (fun _ vi _ => p - (intOf vi).toNat)
  case atStart => exact ⟨0, b1, rfl, rfl, Nat.zero_le _, by have := unhide HR; rw [show ((1 : Int) : Rat) = 1 by simp] at this; exact this, unhide HB, unhide HG⟩
  case round =>
    obtain ⟨i, b', rfl, rfl, hi, hr, hb, hge⟩ := hrel
    have HGE := hide hge
    have HBB := hide hb
    by_cases hlt : i < p
    · have f1 : (i : Int) < (p : Int) := by omega
      have f3 : IntKind.i64.wrap ((i : Int) + 1) = (i : Int) + 1 := by rw [IntKind.wrap_i64]; omega
      have HM := hide (refMul_any b' b (i + 1) 1 _ _ wr hr ((unhide HH).below hb) (unhide HR0 i hi) (unhide HQ) (by omega))
      have e : Rsk.pwr q i * q = Rsk.pwr q (i + 1) := rfl
      rw [e] at HM
      clear hr hb hge e
      go_wp2_with fail
      refine (unhide HM).mono ?_
      rintro e w2 ⟨b2, rfl, hge2, hr2, hb2⟩
      have HR2 := hide hr2
      have HB2 := hide (bstep (unhide HBB) hb2)
      have HG2 := hide (Nat.le_trans (unhide HBB).size hge2)
      clear hr2 hb2 hge2 HM
      go_wp2_with fail
      exact ⟨⟨i + 1, b2, rfl, by go_num, hlt, unhide HR2, unhide HB2, unhide HG2⟩, by simp [intOf]; omega⟩
    · obtain rfl : p = i := by omega
      have f1 : ¬ (p : Int) < (p : Int) := by omega
      have HR2 := hide hr
      clear hr hb hge
      go_wp2
      (try simp only [Exit.inBlock, Exit.then])
      (try go_wp2)
      go_ret
      exact ⟨b', rfl, unhide HGE, unhide HR2, unhide HBB⟩
set_option maxHeartbeats 16000000 in
set_option maxRecDepth 100000 in
set_option linter.unusedSimpArgs false in
theorem refRow_any (p : Rat) (n b bp : Nat) (w : World) (h : BRz w bp 0 p) (hS : RwS p b) (hn : n ≤ 15) (hb1 : 1 ≤ b) (hb2 : b ≤ 100) :
    Calls Tryz.prog 23 #[.int .i64 (n : Int), .int .i64 (b : Int), .pointer (some ⟨bp, 0, none⟩)] w fun e w' => ∃ g, e = .returned (.pointer (some ⟨g, 0, none⟩)) ∧ BRz w' g 0 (Rsk.rrv p (((1 : Int) : Rat) - p) b n) ∧ Below w.heap.size w w' := by
  have HPB0 : Hid (∀ W, Below w.heap.size w W → BRz W bp 0 p) := fun W hW => h.below hW
  have HRP : Hid (RS p 1) := hS.rs
  have HRQ : Hid (∀ i, RS (Rsk.pwr (((1 : Int) : Rat) - p) i) (i + 1)) := fun i => hS.pw i
  have HRQ1 : Hid (RS (((1 : Int) : Rat) - p) 1) := show RS _ _ from by
    have := Iv_rs (t := 1) (iq_of p) hS.q0 hS.q1 p.den_nz (by have := hS.rs.2; rwa [Wd.pw_one] at this)
    exact this
  have HRW : Hid (∀ i, RS (Rsk.rrv p (((1 : Int) : Rat) - p) b i) (i + 1)) := fun i => hS.w i
  have HRS : Hid (∀ m i, i ≤ m → RS (Rsk.rrs p (((1 : Int) : Rat) - p) (Rsk.rrv p (((1 : Int) : Rat) - p) b) m i) (m + 1)) := fun m i hi => hS.s hi
  have HRV : Hid (∀ k, Rsk.rrv p (((1 : Int) : Rat) - p) b (k + 1) = Rsk.rrs p (((1 : Int) : Rat) - p) (Rsk.rrv p (((1 : Int) : Rat) - p) b) (k + 1) (min b (k + 1)) + if k + 1 < b then Rsk.pwr (((1 : Int) : Rat) - p) (k + 1) else 0) := fun k => Rsk.rrv_step _ _ _ _
  have HF0 : Hid (Rsk.rrv p (((1 : Int) : Rat) - p) b 0 = 1) := Rsk.rrv_zero _ _ _
  have HI1 := hide (refIntz_any 1 (by decide) (by decide) w)
  have HSU : Hid (∀ W b1, Below w.heap.size w W → BRz W b1 0 ((1 : Int) : Rat) → Calls Tryz.prog 44 #[.pointer (some ⟨b1, 0, none⟩), .pointer (some ⟨bp, 0, none⟩)] W (NewsZ W (((1 : Int) : Rat) - p))) := fun W b1 hW z => refSub_any b1 bp 1 1 _ _ W z (unhide HPB0 W hW) (RS_int ⟨by decide, by decide⟩) hS.rs (by decide)
  obtain ⟨q, hq⟩ : ∃ q, ((1 : Int) : Rat) - p = q := ⟨_, rfl⟩
  rw [hq] at HRQ HRQ1 HRW HRS HRV HF0 HSU ⊢
  have HPOW : Hid (∀ {bq : Nat} (i : Nat), i ≤ 100 → ∀ W, BRz W bq 0 q → Calls Tryz.prog 62 #[.pointer (some ⟨bq, 0, none⟩), .int .i64 (i : Int)] W (NewsZ W (Rsk.pwr q i))) := fun {bq} i hi W z => refPowq_any q i bq W z (unhide HRQ1) (fun k _ => unhide HRQ k) (by omega)
  obtain ⟨f, hf⟩ : ∃ f, Rsk.rrv p q b = f := ⟨_, rfl⟩
  rw [hf] at HRW HRS HRV HF0 ⊢
  obtain ⟨N, hN⟩ : ∃ N, n + 1 = N := ⟨_, rfl⟩
  obtain ⟨ti, hi, hz0, hz1, hz2⟩ := info_parts Tryz.infoP
  have HI := hide hi
  have HZ := hide hz0
  clear h hS hq hf hi hz0 HRQ1
  go_enter Tryz.func23, Tryz.ntmps23
  go_wp2_with fail
  refine (unhide HI1).mono ?_
  rintro e w1 ⟨b1, rfl, -, z1, hb1'⟩
  have HSU1 := hide (unhide HSU w1 b1 hb1' z1)
  have HB1 := hide hb1'
  clear z1 hb1' HI1 HSU
  go_wp2_with fail
  refine (unhide HSU1).mono ?_
  rintro e w2 ⟨b7, rfl, -, z2, hb2'⟩
  have HB2 := hide (below_step (unhide HB1) hb2')
  have HQ2 := hide z2
  have HI2 := hide (refIntz_any 1 (by decide) (by decide) w2)
  clear z2 hb2' HSU1 HB1
  go_wp2_with fail
  refine (unhide HI2).mono ?_
  rintro e wb ⟨bx, rfl, -, z3, hb3⟩
  have HQB : Hid (∀ W, Below wb.heap.size wb W → BRz W b7 0 q) := fun W hW => ((unhide HQ2).below hb3).below hW
  have HPB : Hid (∀ W, Below wb.heap.size wb W → BRz W bp 0 p) := fun W hW => unhide HPB0 W (below_step (unhide HB2) (below_step hb3 hW))
  have HB3 := hide (below_step (unhide HB2) hb3)
  have HT0 := hide (PAt.one (qs := row f N) (Below.refl wb.heap.size wb) (x := bx) (by rw [row_get (by omega), unhide HF0, show (1 : Rat) = ((1 : Int) : Rat) by simp]; exact z3))
  clear z3 hb3 HI2 HQ2 HB2 HPB0
  go_wp2_with fail
  go_loopw [8, 9] (fun vw vk wr => ∃ (k : Nat) (gs : List Nat), vk = .int .i64 (k : Int) ∧ 1 ≤ k ∧ k ≤ N ∧ gs.length = k ∧ PAt wb wr wb.heap.size vw gs (row f N)) (fun _ vk _ => N - (intOf vk).toNat)
  case atStart => exact ⟨1, _, rfl, Nat.le_refl _, by omega, rfl, unhide HT0⟩
  case round =>
    obtain ⟨k, gs, rfl, hk1, hk, hgl, T⟩ := hrel
    clear HT0
    by_cases hkn : k < N
    · have HKN := hide hkn
      have j1 : (k : Int) ≤ (n : Int) := by omega
      obtain ⟨wo, hwo⟩ : ∃ W, W = wr := ⟨_, rfl⟩
      subst hwo
      have HL := hide (T.list hgl hk)
      obtain ⟨a8, c8, rfl, m1, m2, m3⟩ := id (unhide HL)
      rw [row_length] at m1 m3 T ⊢
      obtain ⟨b8, o8, rfl, hlt8, hcs⟩ := m3 (by omega)
      have HCS := hide hcs
      have HT := hide T
      have HGL := hide hgl
      have HTW := hide T.bl
      have HI3 := hide (refIntz_any 0 (by decide) (by decide) wo)
      obtain ⟨k', hk'⟩ : ∃ j, k = j + 1 := ⟨k - 1, by omega⟩
      have hrv := unhide HRV k'
      rw [← hk'] at hrv
      clear T hgl hcs m3 hk'
      go_wp2_with fail
      refine (unhide HI3).mono ?_
      rintro e w5 ⟨b5, rfl, -, z5, hb5⟩
      have HB5 := hide hb5
      have HZ5 := hide z5
      have HVR := hide hrv
      clear hb5 z5 HI3 hrv
      go_wp2_with fail
      go_loopw [10, 11] (fun vs vi wr => ∃ (i bs : Nat), vs = .pointer (some ⟨bs, 0, none⟩) ∧ vi = .int .i64 (i : Int) ∧ i ≤ b ∧ i ≤ k ∧ BRz wr bs 0 (Rsk.rrs p q f k i) ∧ Below wo.heap.size wo wr) (fun _ vi _ => b - (intOf vi).toNat)
      case atStart => exact ⟨0, b5, rfl, rfl, Nat.zero_le _, Nat.zero_le _, by have := unhide HZ5; rw [show ((0 : Int) : Rat) = 0 by simp] at this; exact this, unhide HB5⟩
      case round =>
        obtain ⟨i, bs, rfl, rfl, hib, hik, hsr, hbv⟩ := hrel
        by_cases h1 : i < b
        · have e1 : (i : Int) < (b : Int) := by omega
          by_cases h2 : i < k
          · have e2 : (i : Int) < (k : Int) := by omega
            obtain ⟨d1, hd1⟩ : ∃ d, k - i = d := ⟨_, rfl⟩
            obtain ⟨d, hd⟩ : ∃ d, k - i - 1 = d := ⟨_, rfl⟩
            have jd1 : (k : Int) - (i : Int) = (d1 : Int) := by omega
            have jd1w : IntKind.i64.wrap (d1 : Int) = (d1 : Int) := by rw [IntKind.wrap_i64]; omega
            have jd : (d1 : Int) - 1 = (d : Int) := by omega
            have jdw : IntKind.i64.wrap (d : Int) = (d : Int) := by rw [IntKind.wrap_i64]; omega
            have d0 : (0 : Int) ≤ (d : Int) := by omega
            have dk : (d : Int) < (k : Int) := by omega
            have dkn : d < k := by omega
            obtain ⟨xd, k0, kx⟩ := unhide HCS d (by first | exact dkn | (rw [row_length]; exact dkn))
            rw [row_get dkn] at kx
            have HC10 : Hid (∀ W, Below wr.heap.size wr W → (fun w' : World => w'.cell? ⟨b8, o8 + d, none⟩ = some (.pointer (some ⟨xd, 0, none⟩))) W) := fun W hW => by
              show W.cell? _ = _
              rw [(below_step hbv hW).cell (p := ⟨b8, o8 + d, none⟩) hlt8]; exact k0
            have HXd := hide (kx.below hbv)
            have HSr := hide hsr
            have HQr := hide (unhide HQB wr (below_step (unhide HTW) hbv))
            have HPr := hide (unhide HPB wr (below_step (unhide HTW) hbv))
            have HNX : Hid (Rsk.rrs p q f k i + Rsk.pwr q i * p * f d = Rsk.rrs p q f k (i + 1)) := show _ = _ by rw [← hd]; rfl
            have HBV := hide hbv
            have H12 : Hid (i < b ∧ i < k) := ⟨h1, h2⟩
            clear hsr hbv k0 kx hd hd1
            go_wp2_with fail
            refine wp_region_hold (fun w' : World => w'.cell? ⟨b8, o8 + d, none⟩ = some (.pointer (some ⟨xd, 0, none⟩))) (by kernel_rfl) ?_
            have bd0 : Below wr.heap.size wr wr.drew := (Below.refl _ _).drew
            have hC0 : (fun w' : World => w'.cell? ⟨b8, o8 + d, none⟩ = some (.pointer (some ⟨xd, 0, none⟩))) wr.drew := unhide HC10 _ bd0
            refine wpHold_take (i := 0) (v := ?_) rfl (by kernel_rfl) (by kernel_rfl) (by kernel_rfl) (fun _ _ _ h => h) (Or.inl ⟨by rfl, ?_⟩) hC0 ?_
            rotate_left
            · intro w hSw; clear hSw; go_simp; (try with_reducible rfl)
            (try simp only [List.getElem_toArray, List.getElem_cons_succ, List.getElem_cons_zero])
            (try simp only [Act.put, List.setIfInBounds_toArray, List.set_cons_zero, List.set_cons_succ])
            refine wpHold_take (i := 1) (v := ?_) rfl (by kernel_rfl) (by kernel_rfl) (by kernel_rfl) (fun _ _ _ h => h) (Or.inl ⟨by rfl, ?_⟩) hC0 ?_
            rotate_left
            · intro w hSw; clear hSw; go_simp; (try with_reducible rfl)
            (try simp only [List.getElem_toArray, List.getElem_cons_succ, List.getElem_cons_zero])
            (try simp only [Act.put, List.setIfInBounds_toArray, List.set_cons_zero, List.set_cons_succ])
            refine wpHold_take (i := 2) (v := ?_) rfl (by kernel_rfl) (by kernel_rfl) (by kernel_rfl) (fun _ _ _ h => h) (Or.inl ⟨by rfl, ?_⟩) hC0 ?_
            rotate_left
            · intro w hSw; clear hSw; go_simp; (try with_reducible rfl)
            (try simp only [List.getElem_toArray, List.getElem_cons_succ, List.getElem_cons_zero])
            (try simp only [Act.put, List.setIfInBounds_toArray, List.set_cons_zero, List.set_cons_succ])
            refine wpHold_take (i := 4) (v := ?_) rfl (by kernel_rfl) (by kernel_rfl) (by kernel_rfl) (fun _ _ _ h => h) (Or.inl ⟨by rfl, ?_⟩) hC0 ?_
            rotate_left
            · intro w hSw; clear hSw; go_simp; (try with_reducible rfl)
            (try simp only [List.getElem_toArray, List.getElem_cons_succ, List.getElem_cons_zero])
            (try simp only [Act.put, List.setIfInBounds_toArray, List.set_cons_zero, List.set_cons_succ])
            refine wpHold_take (i := 6) (v := ?_) rfl (by kernel_rfl) (by kernel_rfl) (by kernel_rfl) (fun _ _ _ h => h) (Or.inl ⟨by rfl, ?_⟩) hC0 ?_
            rotate_left
            · intro w hSw; clear hSw; go_simp; (try with_reducible rfl)
            (try simp only [List.getElem_toArray, List.getElem_cons_succ, List.getElem_cons_zero])
            (try simp only [Act.put, List.setIfInBounds_toArray, List.set_cons_zero, List.set_cons_succ])
            refine wpHold_take (i := 7) (v := ?_) rfl (by kernel_rfl) (by kernel_rfl) (by kernel_rfl) (fun _ _ _ h => h) (Or.inl ⟨by rfl, ?_⟩) hC0 ?_
            rotate_left
            · intro w hSw; clear hSw; go_simp; (try with_reducible rfl)
            (try simp only [List.getElem_toArray, List.getElem_cons_succ, List.getElem_cons_zero])
            (try simp only [Act.put, List.setIfInBounds_toArray, List.set_cons_zero, List.set_cons_succ])
            refine wpHold_take (i := 8) (v := ?_) rfl (by kernel_rfl) (by kernel_rfl) (by kernel_rfl) (fun _ _ _ h => h) (Or.inl ⟨by rfl, ?_⟩) hC0 ?_
            rotate_left
            · intro w hSw; clear hSw; go_simp; (try with_reducible rfl)
            (try simp only [List.getElem_toArray, List.getElem_cons_succ, List.getElem_cons_zero])
            (try simp only [Act.put, List.setIfInBounds_toArray, List.set_cons_zero, List.set_cons_succ])
            refine wpHold_take (i := 9) (v := ?_) rfl (by kernel_rfl) (by kernel_rfl) (by kernel_rfl) (fun _ _ _ h => h) (Or.inl ⟨by rfl, ?_⟩) hC0 ?_
            rotate_left
            · intro w hSw; clear hSw; go_simp; (try with_reducible rfl)
            (try simp only [List.getElem_toArray, List.getElem_cons_succ, List.getElem_cons_zero])
            (try simp only [Act.put, List.setIfInBounds_toArray, List.set_cons_zero, List.set_cons_succ])
            refine wpHold_take (i := 10) (v := ?_) rfl (by kernel_rfl) (by kernel_rfl) (by kernel_rfl) (fun _ _ _ h => h) (Or.inl ⟨by rfl, ?_⟩) hC0 ?_
            rotate_left
            · intro w hSw; clear hSw; go_simp; (try with_reducible rfl)
            (try simp only [List.getElem_toArray, List.getElem_cons_succ, List.getElem_cons_zero])
            (try simp only [Act.put, List.setIfInBounds_toArray, List.set_cons_zero, List.set_cons_succ])
            refine wpHold_take (i := 11) (v := ?_) rfl (by kernel_rfl) (by kernel_rfl) (by kernel_rfl) (fun _ _ _ h => h) (Or.inl ⟨by rfl, ?_⟩) hC0 ?_
            rotate_left
            · intro w hSw; clear hSw; go_simp; (try with_reducible rfl)
            (try simp only [List.getElem_toArray, List.getElem_cons_succ, List.getElem_cons_zero])
            (try simp only [Act.put, List.setIfInBounds_toArray, List.set_cons_zero, List.set_cons_succ])
            refine wpHold_take (i := 12) (v := ?_) rfl (by kernel_rfl) (by kernel_rfl) (by kernel_rfl) (fun _ _ _ h => h) (Or.inl ⟨by rfl, ?_⟩) hC0 ?_
            rotate_left
            · intro w hSw; (try dsimp only at hSw); obtain u0 := hSw; go_simp; (try with_reducible rfl)
            (try simp only [List.getElem_toArray, List.getElem_cons_succ, List.getElem_cons_zero])
            (try simp only [Act.put, List.setIfInBounds_toArray, List.set_cons_zero, List.set_cons_succ])
            refine wpHold_one (k := 3) (by kernel_rfl) rfl (fun K hK => ?_)
            (try simp only [List.getElem_toArray, List.getElem_cons_succ, List.getElem_cons_zero])
            go_simp
            refine (unhide HPOW i (by omega) wr.drew ((unhide HQr).below bd0)).mono ?_
            rintro e xw_1 ⟨xb_1, rfl, -, hz_1, hb_1⟩
            have cc_1 := below_step bd0 hb_1
            have hC_1 : (fun w' : World => w'.cell? ⟨b8, o8 + d, none⟩ = some (.pointer (some ⟨xd, 0, none⟩))) xw_1 := unhide HC10 _ cc_1
            refine hK.out _ _ hC_1 ?_
            clear hK K
            (try simp only [Act.put, List.setIfInBounds_toArray, List.set_cons_zero, List.set_cons_succ])
            refine wpHold_one (k := 5) (by kernel_rfl) rfl (fun K hK => ?_)
            (try simp only [List.getElem_toArray, List.getElem_cons_succ, List.getElem_cons_zero])
            go_simp
            refine (refMul_any xb_1 bp (i + 1) 1 _ _ xw_1 hz_1 ((unhide HPr).below cc_1) (unhide HRQ i) (unhide HRP) (by omega)).mono ?_
            rintro e xw_2 ⟨xb_2, rfl, -, hz_2, hb_2⟩
            have cc_2 := below_step cc_1 hb_2
            have hC_2 : (fun w' : World => w'.cell? ⟨b8, o8 + d, none⟩ = some (.pointer (some ⟨xd, 0, none⟩))) xw_2 := unhide HC10 _ cc_2
            refine hK.out _ _ hC_2 ?_
            clear hK K
            (try simp only [Act.put, List.setIfInBounds_toArray, List.set_cons_zero, List.set_cons_succ])
            refine wpHold_one (k := 13) (by kernel_rfl) rfl (fun K hK => ?_)
            (try simp only [List.getElem_toArray, List.getElem_cons_succ, List.getElem_cons_zero])
            go_simp
            refine (refMul_any xb_2 xd (i + 1 + 1) (d + 1) _ _ xw_2 hz_2 ((unhide HXd).below cc_2) ((unhide HRQ i).mul (unhide HRP)) (unhide HRW d) (by omega)).mono ?_
            rintro e xw_3 ⟨xb_3, rfl, -, hz_3, hb_3⟩
            have cc_3 := below_step cc_2 hb_3
            have hC_3 : (fun w' : World => w'.cell? ⟨b8, o8 + d, none⟩ = some (.pointer (some ⟨xd, 0, none⟩))) xw_3 := unhide HC10 _ cc_3
            refine hK.out _ _ hC_3 ?_
            clear hK K
            (try simp only [Act.put, List.setIfInBounds_toArray, List.set_cons_zero, List.set_cons_succ])
            refine wpHold_one (k := 14) (by kernel_rfl) rfl (fun K hK => ?_)
            (try simp only [List.getElem_toArray, List.getElem_cons_succ, List.getElem_cons_zero])
            go_simp
            refine (refAdd_any bs xb_3 (k + 1) (i + 1 + 1 + (d + 1)) _ _ xw_3 ((unhide HSr).below cc_3) hz_3 (unhide HRS k i (by omega)) (((unhide HRQ i).mul (unhide HRP)).mul (unhide HRW d)) (by omega)).mono ?_
            rintro e xw_4 ⟨xb_4, rfl, -, hz_4, hb_4⟩
            have cc_4 := below_step cc_3 hb_4
            have hC_4 : (fun w' : World => w'.cell? ⟨b8, o8 + d, none⟩ = some (.pointer (some ⟨xd, 0, none⟩))) xw_4 := unhide HC10 _ cc_4
            refine hK.out _ _ hC_4 ?_
            clear hK K
            (try simp only [Act.put, List.setIfInBounds_toArray, List.set_cons_zero, List.set_cons_succ])
            refine wpHold_one (k := 15) (by kernel_rfl) rfl (fun K hK => ?_)
            (try simp only [List.getElem_toArray, List.getElem_cons_succ, List.getElem_cons_zero])
            go_simp
            refine hK.out _ _ hC_4 ?_
            clear hK K
            (try simp only [Act.put, List.setIfInBounds_toArray, List.set_cons_zero, List.set_cons_succ])
            refine wpHold_done (by kernel_rfl) ?_ _
            have hnx := hz_4
            rw [unhide HNX] at hnx
            have HN := hide hnx
            have HBN := hide (below_step (unhide HBV) cc_4)
            clear hnx HC10 HXd HSr HQr HPr
            go_wp2_with fail
            exact ⟨⟨i + 1, _, rfl, by go_num, by have := unhide H12; omega, by have := unhide H12; omega, unhide HN, unhide HBN⟩, by have := unhide H12; simp [intOf]; omega⟩
          · have e2 : ¬ (i : Int) < (k : Int) := by omega
            have hik' : i = k := by omega
            have hkb : (k : Int) < (b : Int) := by omega
            rw [hik'] at hsr
            have HE1 : Hid (Rsk.rrs p q f k k + Rsk.pwr q k = f k) := show _ = _ by
              rw [unhide HVR, show min b k = k by omega, if_pos (by omega)]
            clear h2
            have HPW := hide (unhide HPOW k (by omega) wr ((unhide HQB) wr (below_step (unhide HTW) hbv)))
            have HBV := hide hbv
            have HSr := hide hsr
            clear hbv hsr
            go_wp2_with fail
            refine (unhide HPW).mono ?_
            rintro e w20 ⟨b20, rfl, -, z20, hb20⟩
            have HAD := hide (refAdd_any bs b20 (k + 1) (k + 1) _ _ w20 ((unhide HSr).below hb20) z20 (unhide HRS k k (Nat.le_refl _)) (unhide HRQ k) (by omega))
            rw [unhide HE1] at HAD
            have HB20 := hide (below_step (unhide HBV) hb20)
            clear z20 hb20 HPW HSr HBV
            go_wp2_with fail
            refine (unhide HAD).mono ?_
            rintro e w21 ⟨b21, rfl, -, z21, hb21⟩
            have hbw := below_step (unhide HB20) hb21
            clear hb21 HAD HB20
            have hr2 : BRz w21 b21 0 (row f N)[gs.length]! := by rw [unhide HGL, row_get (unhide HKN)]; exact z21
            have T2 := ((unhide HT).keep hbw).keep (abelow w21 (.cells #[.pointer (some ⟨b21, 0, none⟩)] 31))
            have hr3 := hr2.below (abelow w21 (.cells #[.pointer (some ⟨b21, 0, none⟩)] 31))
            have hgl := unhide HGL
            have hlen8 : (gs.length + 1) * 8 ≤ 140737488355328 := by omega
            have hlen63 : gs.length + 1 ≤ maxLen := by unfold maxLen; omega
            have hbase : wb.heap.size ≤ (w21.alloc (.cells #[.pointer (some ⟨b21, 0, none⟩)] 31)).heap.size := T2.bl.size
            have hsz2 : (w21.alloc (.cells #[.pointer (some ⟨b21, 0, none⟩)] 31)).heap.size = w21.heap.size + 1 := by rw [alloc_heap, Array.size_push]
            have HT2 := hide T2
            have HR3 := hide hr3
            have HBA := hide hbase
            have HSZ := hide hsz2
            have HL8 := hide hlen8
            have HL63 := hide hlen63
            clear T2 hr2 hr3 hbase hsz2 hlen8 hlen63 hgl z21 hbw
            go_wp2_with (at_builtin; go_loud (refine wpList_append_ptr _ rfl _ _ _ rfl wb.heap.size 31 ti 8 Tryz.underlying29 (unhide HI) (unhide HZ) hz1 hz2 _ gs.length (ptrs gs) rfl (unhide HT2).own (unhide HT2).no ⟨w21.heap.size, 0, none⟩ 1 1 [.pointer (some ⟨b21, 0, none⟩)] rfl rfl (news_ptr w21 b21 _) (one_ptr b21) (is_ptr b21) (by decide) (unhide HL63) (unhide HL8) (unhide HBA) (w21.heap.size + 1) (unhide HSZ) ?_; intro g cap w4 hown4 hgrow hat hlt4 hno4))
            have FIN := hide ((unhide HT2).push (unhide HR3) hown4 hgrow hno4 (unhide HBA))
            clear hown4 hgrow hat hno4 HT2 HR3
            go_wp2_with fail
            exact ⟨⟨k + 1, gs ++ [b21], by go_num, by omega, by have := unhide HKN; omega, by rw [List.length_append, unhide HGL]; rfl, unhide FIN⟩, by have := unhide HKN; simp [intOf]; omega⟩
        · have e1 : ¬ (i : Int) < (b : Int) := by omega
          have hib' : i = b := by omega
          have hkb : ¬ (k : Int) < (b : Int) := by omega
          rw [hib'] at hsr
          have HE2 : Hid (Rsk.rrs p q f k b = f k) := show _ = _ by
            rw [unhide HVR, show min b k = b by omega, if_neg (by omega)]; grind
          have z21 := hsr
          rw [unhide HE2] at z21
          have hbw := hbv
          clear hsr hbv
          have hr2 : BRz wr bs 0 (row f N)[gs.length]! := by rw [unhide HGL, row_get (unhide HKN)]; exact z21
          have T2 := ((unhide HT).keep hbw).keep (abelow wr (.cells #[.pointer (some ⟨bs, 0, none⟩)] 31))
          have hr3 := hr2.below (abelow wr (.cells #[.pointer (some ⟨bs, 0, none⟩)] 31))
          have hgl := unhide HGL
          have hlen8 : (gs.length + 1) * 8 ≤ 140737488355328 := by omega
          have hlen63 : gs.length + 1 ≤ maxLen := by unfold maxLen; omega
          have hbase : wb.heap.size ≤ (wr.alloc (.cells #[.pointer (some ⟨bs, 0, none⟩)] 31)).heap.size := T2.bl.size
          have hsz2 : (wr.alloc (.cells #[.pointer (some ⟨bs, 0, none⟩)] 31)).heap.size = wr.heap.size + 1 := by rw [alloc_heap, Array.size_push]
          have HT2 := hide T2
          have HR3 := hide hr3
          have HBA := hide hbase
          have HSZ := hide hsz2
          have HL8 := hide hlen8
          have HL63 := hide hlen63
          clear T2 hr2 hr3 hbase hsz2 hlen8 hlen63 hgl z21 hbw
          go_wp2_with (at_builtin; go_loud (refine wpList_append_ptr _ rfl _ _ _ rfl wb.heap.size 31 ti 8 Tryz.underlying29 (unhide HI) (unhide HZ) hz1 hz2 _ gs.length (ptrs gs) rfl (unhide HT2).own (unhide HT2).no ⟨wr.heap.size, 0, none⟩ 1 1 [.pointer (some ⟨bs, 0, none⟩)] rfl rfl (news_ptr wr bs _) (one_ptr bs) (is_ptr bs) (by decide) (unhide HL63) (unhide HL8) (unhide HBA) (wr.heap.size + 1) (unhide HSZ) ?_; intro g cap w4 hown4 hgrow hat hlt4 hno4))
          have FIN := hide ((unhide HT2).push (unhide HR3) hown4 hgrow hno4 (unhide HBA))
          clear hown4 hgrow hat hno4 HT2 HR3
          go_wp2_with fail
          exact ⟨⟨k + 1, gs ++ [bs], by go_num, by omega, by have := unhide HKN; omega, by rw [List.length_append, unhide HGL]; rfl, unhide FIN⟩, by have := unhide HKN; simp [intOf]; omega⟩
    · obtain rfl : k = N := by omega
      have j1 : ¬ (k : Int) ≤ (n : Int) := by omega
      have hL := T.list hgl (Nat.le_refl _)
      obtain ⟨a8, c8, rfl, m1, m2, m3⟩ := id hL
      rw [row_length] at m1 m3 ⊢
      obtain ⟨b8, o8, rfl, hlt8, hcs⟩ := m3 (by omega)
      obtain ⟨xd, k0, kx⟩ := hcs n (by first | omega | (rw [row_length]; omega))
      rw [row_get (by omega)] at kx
      have n0 : (0 : Int) ≤ (n : Int) := by omega
      have n1 : (n : Int) < (k : Int) := by omega
      have HFB := hide (below_step (unhide HB3) T.bl)
      have HKX := hide kx
      clear T hL hcs m3 kx hgl
      go_wp2
      (try simp only [Exit.inBlock, Exit.then])
      (try go_wp2)
      go_ret
      exact ⟨xd, rfl, unhide HKX, unhide HFB⟩
end Go.Proofs.YtcelbgleajpenaaGreatDoor
