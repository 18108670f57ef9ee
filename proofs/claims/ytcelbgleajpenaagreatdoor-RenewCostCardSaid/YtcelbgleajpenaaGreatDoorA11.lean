/- The greatest common divisor of numbers of any length. -/
import Derived.Test.YtcelbgleajpenaaGreatDoorA7
import Derived.Test.YtcelbgleajpenaaGreatDoorA9
namespace Go.Proofs.YtcelbgleajpenaaGreatDoor
open Go.RowKit Go.Sort Go.Shelf

theorem NatIs.uniq {w : World} {v : Value} {M N : Int} (h : NatIs w v M) (k : NatIs w v N) : M = N := by
 obtain ⟨a, n, c, rfl, hl, hr⟩ := h
 obtain ⟨a', n', c', e, hl', hr'⟩ := k
 injection e with e1 e2 e3
 subst e1; subst e2
 rcases Nat.eq_zero_or_pos n with h0 | h0
 ·subst h0; rw [Wd.Len.zero hl, Wd.Len.zero hl']
 ·obtain ⟨b, o, e4, _, hc⟩ := hr.2.2 h0
  obtain ⟨b', o', e5, _, hc'⟩ := hr'.2.2 h0
  subst e4
  injection e5 with e5
  injection e5 with e6 e7
  subst e6; subst e7
  rw [← Wd.vl_dig_all hl.1 hl.2.1, ← Wd.vl_dig_all hl'.1 hl'.2.1]
  refine Wd.vl_congr (fun j hj => ?_)
  have e8 := (hc j hj).symm.trans (hc' j hj)
  injection e8 with e8
  injection e8

theorem exists_numOf : ∃ numOf : World → Value → Nat, ∀ (w : World) (v : Value) (N : Int), NatIs w v N → numOf w v = N.toNat :=
 ⟨fun w v => (Classical.epsilon (fun N : Int => NatIs w v N)).toNat, fun w v N h => by
  have := Classical.epsilon_spec (p := fun N : Int => NatIs w v N) ⟨N, h⟩
  show (Classical.epsilon (fun N : Int => NatIs w v N)).toNat = _
  rw [NatIs.uniq this h]⟩

theorem TwoAt.natA {base : Nat} {w : World} {ga gb ma mb ca cb : Nat} {da db : Array Int} {A B : Int} (h : TwoAt base w ga gb ma mb ca cb da db A B) : RowIs w (some ⟨ga, 0, none⟩) ma ca (Wd.dig A) := by
 refine ⟨Nat.le_trans h.sa h.sca, h.ka, fun hp => ⟨ga, 0, rfl, h.oa.lt, fun j hj => ?_⟩⟩
 rw [(h.oa.holds j (by have := h.sa; omega)).1, ← h.va, Wd.dig_vl (fun j hj => h.wa j (by have := h.sa; omega)) hj]
theorem TwoAt.natB {base : Nat} {w : World} {ga gb ma mb ca cb : Nat} {da db : Array Int} {A B : Int} (h : TwoAt base w ga gb ma mb ca cb da db A B) : RowIs w (some ⟨gb, 0, none⟩) mb cb (Wd.dig B) := by
 refine ⟨Nat.le_trans h.sb h.scb, h.kb, fun hp => ⟨gb, 0, rfl, h.ob.lt, fun j hj => ?_⟩⟩
 rw [(h.ob.holds j (by have := h.sb; omega)).1, ← h.vb, Wd.dig_vl (fun j hj => h.wb j (by have := h.sb; omega)) hj]
theorem OwnTwo.nats {base : Nat} {w : World} {va vb : Value} {A B : Int} (h : OwnTwo base w va vb A B) : NatIs w va A ∧ NatIs w vb B := by
 obtain ⟨ga, gb, ma, mb, ca, cb, da, db, rfl, rfl, T⟩ := h
 exact ⟨⟨_, _, _, rfl, T.la, T.natA⟩, ⟨_, _, _, rfl, T.lb, T.natB⟩⟩
theorem TwoAt.under {base : Nat} {w w' : World} {ga gb ma mb ca cb : Nat} {da db : Array Int} {A B : Int} (h : TwoAt base w ga gb ma mb ca cb da db A B) (hb : Below w.heap.size w w') : TwoAt base w' ga gb ma mb ca cb da db A B :=
 { h with oa := h.oa.below hb h.oa.lt, ob := h.ob.below hb h.ob.lt }

theorem OwnTwo.divided {base : Nat} {w w' : World} {va vb vr : Value} {A B R : Int} (h : OwnTwo base w va vb A B) (hb : Below w.heap.size w w') (hr : OwnNat w.heap.size w' vr R) : OwnTwo base w' vb vr B R := by
 obtain ⟨ga, gb, ma, mb, ca, cb, da, db, rfl, rfl, T⟩ := h
 obtain ⟨g, m, d, rfl, hg, ho, hm, hd, hw, hl, hv⟩ := hr
 have := T.ob.lt
 exact ⟨gb, g, mb, m, cb, d.size, db, d, rfl, rfl, by omega, T.bb, by have := T.bb; omega, T.ob.below hb T.ob.lt, ho.head, T.sb, hm, T.scb, Nat.le_refl _, T.kb, by omega, T.wb, hw, T.lb, hl, T.vb, hv⟩

theorem sm_le {A B : Int} (h : B ≤ A) (hA : Sm A) : Sm B := Int.lt_of_le_of_lt h hA

def slen : Value → Nat | .slice _ n _ => n | _ => 0
theorem word_of_len {B : Int} {n : Nat} (hl : Wd.Len B n) (h : n ≤ 1) : B < 18446744073709551616 := by
 have := Int.lt_of_lt_of_le hl.2.1 (Wd.pw_mono h)
 rw [Wd.pw_one] at this; exact this

set_option maxHeartbeats 4000000 in
set_option maxRecDepth 100000 in
theorem reduced_any (va vb : Value) (A B : Int) (base : Nat) (w : World) (hbase : base ≤ w.heap.size) (h : OwnTwo base w va vb A B) (hle : B ≤ A) (hA : Sm A) :
  Calls Tryz.prog 139 #[va, vb] w fun e w' => ∃ v1 v2 A' B', e = .returned (.tuple #[v1, v2]) ∧ NatIs w' v1 A' ∧ NatIs w' v2 B' ∧ B' < 18446744073709551616 ∧ Sm A' ∧ Int.gcd A' B' = Int.gcd A B ∧ Below base w w' := by
 have hva : ∃ a1 n1 c1, va = .slice a1 n1 c1 := by obtain ⟨ga, gb, ma, mb, ca, cb, da, db, rfl, rfl, T⟩ := h; exact ⟨_, _, _, rfl⟩
 have hvb : ∃ a1 n1 c1, vb = .slice a1 n1 c1 := by obtain ⟨ga, gb, ma, mb, ca, cb, da, db, rfl, rfl, T⟩ := h; exact ⟨_, _, _, rfl⟩
 obtain ⟨a1, n1, c1, rfl⟩ := hva
 obtain ⟨a2, n2, c2, rfl⟩ := hvb
 have HO := hide h
 clear h
 obtain ⟨numOf, numEq⟩ := exists_numOf
 have NUM := hide numEq
 clear numEq
 go_enter Tryz.func139, Tryz.ntmps139
 go_wp2_with fail
 go_loopw [0, 1] (fun v1 v2 wr => ∃ (A' B' : Int), OwnTwo base wr v1 v2 A' B' ∧ B' ≤ A' ∧ A' ≤ A ∧ Int.gcd A' B' = Int.gcd A B ∧ Below base w wr ∧ base ≤ wr.heap.size) (fun _ v2 wr => numOf wr v2)
 case atStart => exact ⟨A, B, unhide HO, hle, Int.le_refl _, rfl, Below.refl _ _, hbase⟩
 case round =>
  obtain ⟨A', B', O, hle', hAA, hg, hb, hbs⟩ := hrel
  have HO' := hide O
  have hN := O.nats
  obtain ⟨ga, gb, ma, mb, ca, cb, da, db, rfl, rfl, T⟩ := O
  by_cases hm : mb ≤ 1
  ·have hB1 := word_of_len T.lb hm
   have dm : decide (1 < (mb : Int)) = false := decide_eq_false (by omega)
   have RES := hide (⟨hN.1, hN.2, hB1, sm_le hAA hA, hg, hb⟩ : NatIs wr _ A' ∧ NatIs wr _ B' ∧ B' < 18446744073709551616 ∧ Sm A' ∧ Int.gcd A' B' = Int.gcd A B ∧ Below base w wr)
   clear T hN HO HO' hA hg hB1
   go_wp2
   go_ret2
   have R := unhide RES
   exact ⟨_, _, A', B', rfl, R.1, R.2.1, R.2.2.1, R.2.2.2.1, R.2.2.2.2.1, R.2.2.2.2.2⟩
  ·have dm : decide (1 < (mb : Int)) = true := decide_eq_true (by omega)
   have hma : mb ≤ ma := by
    rcases Nat.lt_or_ge ma mb with h | h
    ·have := Wd.Len.lt T.la T.lb h; omega
    ·exact h
   obtain ⟨k, rfl⟩ : ∃ k, ma = k + 2 := ⟨ma - 2, by omega⟩
   have HF := hide (foresee_any (some ⟨ga, 0, none⟩) (some ⟨gb, 0, none⟩) k mb ca cb A' B' wr T.la T.natA T.lb T.natB (by omega) hle')
   have HN := hide hN
   have HT := hide T
   have HGG := hide hg
   have HBB := hide hb
   clear T hN hg hb HO
   go_wp2_with fail
   refine (unhide HF).mono ?_
   rintro e w1 ⟨v, ok, rfl, F, hb1⟩
   obtain ⟨sw, p, q, r, s, rfl, FF⟩ := F
   have hbA := (Below.refl w1.heap.size w1).alloc (Nat.le_refl _) (.cells #[.int .u64 p, .int .u64 q, .int .u64 r, .int .u64 s, .bool sw] 214)
   obtain ⟨W1, hW1⟩ : ∃ W, w1.alloc (.cells #[.int .u64 p, .int .u64 q, .int .u64 r, .int .u64 s, .bool sw] 214) = W := ⟨_, rfl⟩
   rw [hW1] at hbA
   have hbW := below_on hb1 hbA
   have T1 := (unhide HT).under hbW
   have O1 : OwnTwo base W1 (.slice (some ⟨ga, 0, none⟩) (k + 2 : Nat) ca) (.slice (some ⟨gb, 0, none⟩) mb cb) A' B' := ⟨ga, gb, _, _, _, _, _, _, rfl, rfl, T1⟩
   have hbs1 : base ≤ W1.heap.size := Nat.le_trans hbs hbW.size
   have hbB1 : Below base w W1 := (unhide HBB).trans (hbW.mono hbs)
   have HB1 := hide hbB1
   have MS := unhide NUM _ _ _ (unhide HN).2
   have HMS := hide MS
   have hB0 : 0 ≤ B' := (unhide HT).lb.1
   cases ok with
   | true =>
    obtain ⟨hp, hq, hr, hs, f0, f1⟩ := FF rfl
    have LS : ∃ A'' B'' : Int, (sw = false → A'' = p * A' - q * B' ∧ B'' = r * B' - s * A') ∧ (sw = true → A'' = p * B' - q * A' ∧ B'' = r * A' - s * B') ∧ Wd.Less A' B' A'' B'' := by
     cases sw with
     | false => exact ⟨_, _, fun _ => ⟨rfl, rfl⟩, (fun h => by cases h), f0 rfl⟩
     | true => exact ⟨_, _, (fun h => by cases h), fun _ => ⟨rfl, rfl⟩, f1 rfl⟩
    obtain ⟨A2, B2, e0, e1, L0, L1, L2, LG⟩ := LS
    have HDN := hide (done_any sw p q r s _ _ A' B' A2 B2 base W1 hbs1 O1 hle' hp hq hr hs e0 e1 L0 L1 L2)
    unfold stV at HDN
    have HLG := hide LG
    have HW1 := hide hW1
    unfold stV
    clear FF f0 f1 hp hq hr hs e0 e1 LG T1 O1 hbA hbW hb1 MS HF HT hbB1 hW1
    go_wp2_with fail
    rw [unhide HW1]
    refine (unhide HDN).mono ?_
    rintro e w2 ⟨v1, v2, rfl, O2, hb2, hs2⟩
    have HO2 := hide O2
    have hN2 := O2.nats
    have HM2 := hide (unhide NUM _ _ _ hN2.2)
    have hv1 : ∃ a n c, v1 = .slice a n c := by obtain ⟨_, _, _, _, _, _, _, _, rfl, rfl, _⟩ := O2; exact ⟨_, _, _, rfl⟩
    have hv2 : ∃ a n c, v2 = .slice a n c := by obtain ⟨_, _, _, _, _, _, _, _, rfl, rfl, _⟩ := O2; exact ⟨_, _, _, rfl⟩
    obtain ⟨a3, n3, c3, rfl⟩ := hv1
    obtain ⟨a4, n4, c4, rfl⟩ := hv2
    have HB2 := hide ((unhide HB1).trans hb2)
    clear O2 hN2 hb2 HDN
    go_wp2_with fail
    refine ⟨⟨A2, B2, unhide HO2, by omega, by omega, by rw [unhide HLG]; exact unhide HGG, unhide HB2, hs2⟩, ?_⟩
    rw [unhide HM2, unhide HMS]
    omega
   | false =>
    obtain ⟨k', rfl⟩ : ∃ k', mb = k' + 2 := ⟨mb - 2, by omega⟩
    have HDV := hide (divide_long (some ⟨ga, 0, none⟩) (some ⟨gb, 0, none⟩) (k + 2) ca k' cb A' B' W1 T1.la T1.natA T1.lb T1.natB (sm_le hAA hA) hle')
    have hB1 : 0 < B' := Wd.Len.pos T1.lb (by omega)
    have m0 := Int.emod_nonneg A' (b := B') (by omega)
    have m1 := Int.emod_lt_of_pos A' hB1
    have HW1 := hide hW1
    have HO1 := hide O1
    have HGE := hide (gcd_emod A' B')
    unfold stV
    clear FF T1 O1 hbA hbW hb1 MS HF HT hbB1 hW1
    go_wp2_with fail
    rw [unhide HW1]
    refine (unhide HDV).mono ?_
    rintro e w2 ⟨v1, v2, rfl, hv1, O2, hb2⟩
    have HO2 := hide ((unhide HO1).divided hb2 O2)
    have HM2 := hide (unhide NUM _ _ _ O2.natIs)
    have hv1' : ∃ a n c, v1 = .slice a n c := by obtain ⟨_, _, _, rfl, _, _⟩ := hv1; exact ⟨_, _, _, rfl⟩
    have hv2 : ∃ a n c, v2 = .slice a n c := by obtain ⟨_, _, _, rfl, _⟩ := O2; exact ⟨_, _, _, rfl⟩
    obtain ⟨a3, n3, c3, rfl⟩ := hv1'
    obtain ⟨a4, n4, c4, rfl⟩ := hv2
    have HB2 := hide ((unhide HB1).trans (hb2.mono hbs1))
    have hs2 : base ≤ w2.heap.size := Nat.le_trans hbs1 hb2.size
    clear O2 hv1 hb2 HDV HO1
    go_wp2_with fail
    refine ⟨⟨B', A' % B', unhide HO2, by omega, by omega, by rw [unhide HGE]; exact unhide HGG, unhide HB2, hs2⟩, ?_⟩
    rw [unhide HM2, unhide HMS]
    omega
end Go.Proofs.YtcelbgleajpenaaGreatDoor
/- The greatest common divisor of any two numbers. -/
namespace Go.Proofs.YtcelbgleajpenaaGreatDoor
open Go.RowKit Go.Sort Go.Shelf

theorem head_dgs {w : World} {g n : Nat} {A : Int} (h : Head w g n (Wd.dig A)) : HeadRow w g (dgs A n) := by
 obtain ⟨cur, h, hc⟩ := h
 exact ⟨cur, h, fun j hj => by rw [dgs_size] at hj; rw [hc j hj, dgs_get A n j hj]⟩

theorem clone_nat (a : Option Addr) (n c : Nat) (A : Int) (w : World) (hl : Wd.Len A n) (hr : RowIs w a n c (Wd.dig A)) (hp : 0 < n) (hA : Sm A) :
  Calls Tryz.prog 127 #[.slice a n c] w fun e w' => ∃ g cap, e = .returned (.slice (some ⟨g, 0, none⟩) n cap) ∧ HeadRow w' g (dgs A n) ∧ w.heap.size ≤ g ∧ n ≤ cap ∧ cap ≤ 9223372036854775807 ∧ Below w.heap.size w w' := by
 obtain ⟨b, o, rfl, hb, hc⟩ := hr.2.2 hp
 refine (clone_pos b o n c w (Wd.dig A) hp (hA.len hl) hc).mono ?_
 rintro e w' ⟨g, cap, rfl, h, h1, h2, h3, h4⟩
 exact ⟨g, cap, rfl, head_dgs h, h1, h2, h3, h4⟩

theorem two_of {w1 w2 : World} {base g1 g2 n1 n2 c1 c2 : Nat} {A B : Int} (h1 : HeadRow w1 g1 (dgs A n1)) (hb : Below w1.heap.size w1 w2) (h2 : HeadRow w2 g2 (dgs B n2)) (b1 : base ≤ g1) (b2 : w1.heap.size ≤ g2) (l1 : Wd.Len A n1) (l2 : Wd.Len B n2) (k1 : n1 ≤ c1) (k2 : n2 ≤ c2) (k1' : c1 ≤ 9223372036854775807) (k2' : c2 ≤ 9223372036854775807) :
  OwnTwo base w2 (.slice (some ⟨g1, 0, none⟩) n1 c1) (.slice (some ⟨g2, 0, none⟩) n2 c2) A B := by
 have := h1.lt
 refine ⟨g1, g2, n1, n2, c1, c2, dgs A n1, dgs B n2, rfl, rfl, by omega, b1, by omega, h1.below hb h1.lt, h2, by rw [dgs_size]; exact Nat.le_refl _, by rw [dgs_size]; exact Nat.le_refl _, by rw [dgs_size]; exact k1, by rw [dgs_size]; exact k2, k1', k2', ?_, ?_, l1, l2, ?_, ?_⟩
 ·rw [dgs_size]; exact dgs_w A n1
 ·rw [dgs_size]; exact dgs_w B n2
 ·rw [dgs_vl]; exact Wd.vl_dig_all l1.1 l1.2.1
 ·rw [dgs_vl]; exact Wd.vl_dig_all l2.1 l2.2.1

set_option maxHeartbeats 4000000 in
set_option maxRecDepth 100000 in
theorem gcd_long (a a' : Option Addr) (n n' c c' : Nat) (A B : Int) (w : World) (hl : Wd.Len A n) (hra : RowIs w a n c (Wd.dig A)) (hl' : Wd.Len B n') (hrb : RowIs w a' n' c' (Wd.dig B)) (hA : Sm A) (hB : Sm B) (hAw : 18446744073709551616 ≤ A) (hBw : 18446744073709551616 ≤ B) :
  Calls Tryz.prog 104 #[.slice a n c, .slice a' n' c'] w fun e w' => ∃ v, e = .returned v ∧ NatIs w' v (Int.gcd A B) ∧ Below w.heap.size w w' := by
 have hn : 2 ≤ n := by
  rcases Nat.lt_or_ge n 2 with h3 | h3
  ·have := Int.lt_of_lt_of_le hl.2.1 (Wd.pw_mono (m := n) (n := 1) (by omega))
   rw [Wd.pw_one] at this; omega
  ·exact h3
 have hn' : 2 ≤ n' := by
  rcases Nat.lt_or_ge n' 2 with h3 | h3
  ·have := Int.lt_of_lt_of_le hl'.2.1 (Wd.pw_mono (m := n') (n := 1) (by omega))
   rw [Wd.pw_one] at this; omega
  ·exact h3
 have HO1 := hide (isOne_any (.slice a n c) A w ⟨_, _, _, rfl, hl, hra⟩)
 have HO2 := hide (isOne_any (.slice a' n' c') B w ⟨_, _, _, rfl, hl', hrb⟩)
 have HCM := hide (cmp_any (.slice a n c) (.slice a' n' c') A B w ⟨_, _, _, rfl, hl, hra⟩ ⟨_, _, _, rfl, hl', hrb⟩)
 rw [show (A == 1) = false by rw [beq_eq_false_iff_ne]; omega] at HO1
 rw [show (B == 1) = false by rw [beq_eq_false_iff_ne]; omega] at HO2
 have HCA := hide (fun (W : World) (hb : Below w.heap.size w W) => clone_nat a n c A W hl (hra.below hb) (by omega) hA)
 have HCB := hide (fun (W : World) (hb : Below w.heap.size w W) => clone_nat a' n' c' B W hl' (hrb.below hb) (by omega) hB)
 have HL := hide hl
 have HL' := hide hl'
 have hnc := hra.1
 have hcc := hra.2.1
 have hnc' := hrb.1
 have hcc' := hrb.2.1
 have HSA := hide hA
 have HSB := hide hB
 have d1 : decide (1 < (n : Int)) = true := decide_eq_true (by omega)
 have d2 : decide (1 < (n' : Int)) = true := decide_eq_true (by omega)
 clear hl hl' hra hrb hA hB
 rcases Int.lt_or_le A B with hlt | hge
 ·rw [Wd.sg_lt hlt] at HCM
  have HGC := hide (Int.gcd_comm B A)
  go_enter Tryz.func104, Tryz.ntmps104
  go_wp2_with fail
  refine (unhide HO1).mono ?_
  rintro e w' ⟨rfl, hw'⟩
  obtain rfl := hw'.symm
  go_wp2_with fail
  refine (unhide HO2).mono ?_
  rintro e w' ⟨rfl, hw'⟩
  obtain rfl := hw'.symm
  go_wp2_with fail
  refine (unhide HCM).mono ?_
  rintro e w' ⟨rfl, k, hw'⟩
  subst hw'
  go_wp2_with fail
  refine (unhide HCB _ (below_drewN w k)).mono ?_
  rintro e w1 ⟨g1, q1, rfl, hh1, hg1, hq1, hq1', hb1⟩
  have g1e : (w.drewN k).heap.size = w.heap.size := rfl
  rw [g1e] at hg1 hb1
  have hbw1 : Below w.heap.size w w1 := (below_drewN w k).trans hb1
  have HC2 := hide (unhide HCA w1 hbw1)
  have HH1 := hide hh1
  have HBW1 := hide hbw1
  clear hh1 hb1 hbw1 HCA HCB HO1 HO2 HCM
  go_wp2_with fail
  refine (unhide HC2).mono ?_
  rintro e w2 ⟨g2, q2, rfl, hh2, hg2, hq2, hq2', hb2⟩
  have O := two_of (base := w.heap.size) (unhide HH1) hb2 hh2 hg1 hg2 (unhide HL') (unhide HL) hq1 hq2 hq1' hq2'
  have hbw2 : Below w.heap.size w w2 := below_on (unhide HBW1) hb2
  have HRD := hide (reduced_any _ _ B A w.heap.size w2 hbw2.size O (by omega) (unhide HSB))
  have HBW2 := hide hbw2
  clear hh2 hb2 O hbw2 HC2 HH1 HBW1
  go_wp2_with fail
  refine (unhide HRD).mono ?_
  rintro e w3 ⟨v1, v2, A2, B2, rfl, hv1, hv2, hB2w, hSA2, hG, hb3⟩
  have hbw3 : Below w.heap.size w w3 := (unhide HBW2).trans hb3
  have HN1 := hide hv1
  have HG := hide hG
  have HBW3 := hide hbw3
  have hA20 := hv1.nn
  obtain ⟨a1, m1, k1, rfl, hl1, hr1⟩ := hv1
  obtain ⟨a2, m2, k2, rfl, hl2, hr2⟩ := hv2
  clear hb3 hbw3 HRD HBW2 hG
  by_cases hz : B2 = 0
  ·subst hz
   have hm0 : m2 = 0 := hl2.of_zero
   subst hm0
   have HF := hide (show (A2 : Int) = (Int.gcd A B : Int) by rw [← unhide HGC, ← unhide HG, Int.gcd_zero_right]; omega)
   clear hl1 hr1 hl2 hr2 HG hSA2
   go_wp2
   go_ret
   refine ⟨_, rfl, ?_, unhide HBW3⟩
   rw [← unhide HF]
   exact unhide HN1
  ·have hBp : 0 < B2 := by have := hl2.1; omega
   obtain ⟨hn1, b, o, hab, hbl, hcw⟩ := natIs_word hl2 hr2 hBp hB2w
   subst hn1
   subst hab
   have hmod0 : 0 ≤ A2 % B2 := Int.emod_nonneg _ (by omega)
   have hmod1 : A2 % B2 < B2 := Int.emod_lt_of_pos _ hBp
   have HF := hide (show Int.gcd B2 (A2 % B2) = Int.gcd A B by rw [← unhide HGC, ← unhide HG, gcd_emod])
   have HDW := hide (divideWord_any (.slice a1 m1 k1) A2 B2 w3 (unhide HN1) hSA2 hBp hB2w)
   clear hl1 hr1 hl2 hr2 HG hSA2 HN1
   go_wp2_with fail
   refine (unhide HDW).mono ?_
   rintro e w4 ⟨v4, rfl, _, hb4⟩
   have hc4 : w4.cell? ⟨b, o, none⟩ = some (.int .u64 B2) := by rw [hb4.cell (p := ⟨b, o, none⟩) hbl]; exact hcw
   have HBW4 := hide (below_on (unhide HBW3) hb4)
   clear hb4 HDW hcw
   go_wp2_with fail
   refine (gcdWord_any B2 (A2 % B2) ⟨by omega, hB2w⟩ ⟨hmod0, by omega⟩ _).mono ?_
   rintro e w5 ⟨rfl, k5, hw5⟩
   subst hw5
   go_wp2_with fail
   refine (word_any _ (gcd_word ⟨by omega, hB2w⟩ ⟨hmod0, by omega⟩) _).mono ?_
   rintro e w6 ⟨v6, rfl, hv6, hb6⟩
   have hbw6 : Below w.heap.size w w6 := below_on (unhide HBW4) ((below_drewN w4 k5).trans hb6)
   clear hb6
   go_wp2
   go_ret
   refine ⟨_, rfl, ?_, hbw6⟩
   rw [← unhide HF]
   exact hv6
 ·have hcs : ∃ t, Wd.sg A B = t ∧ 0 ≤ t ∧ t ≤ 1 := by
   rcases Int.lt_or_le B A with h | h
   ·exact ⟨1, Wd.sg_gt h, by decide, by decide⟩
   ·exact ⟨0, Wd.sg_eq (by omega), by decide, by decide⟩
  obtain ⟨t, ht, ht0, ht1⟩ := hcs
  rw [ht] at HCM
  have htd : decide (t < 0) = false := decide_eq_false (by omega)
  clear ht ht0 ht1
  go_enter Tryz.func104, Tryz.ntmps104
  go_wp2_with fail
  refine (unhide HO1).mono ?_
  rintro e w' ⟨rfl, hw'⟩
  obtain rfl := hw'.symm
  go_wp2_with fail
  refine (unhide HO2).mono ?_
  rintro e w' ⟨rfl, hw'⟩
  obtain rfl := hw'.symm
  go_wp2_with fail
  refine (unhide HCM).mono ?_
  rintro e w' ⟨rfl, k, hw'⟩
  subst hw'
  go_wp2_with fail
  refine (unhide HCA _ (below_drewN w k)).mono ?_
  rintro e w1 ⟨g1, q1, rfl, hh1, hg1, hq1, hq1', hb1⟩
  have g1e : (w.drewN k).heap.size = w.heap.size := rfl
  rw [g1e] at hg1 hb1
  have hbw1 : Below w.heap.size w w1 := (below_drewN w k).trans hb1
  have HC2 := hide (unhide HCB w1 hbw1)
  have HH1 := hide hh1
  have HBW1 := hide hbw1
  clear hh1 hb1 hbw1 HCA HCB HO1 HO2 HCM
  go_wp2_with fail
  refine (unhide HC2).mono ?_
  rintro e w2 ⟨g2, q2, rfl, hh2, hg2, hq2, hq2', hb2⟩
  have O := two_of (base := w.heap.size) (unhide HH1) hb2 hh2 hg1 hg2 (unhide HL) (unhide HL') hq1 hq2 hq1' hq2'
  have hbw2 : Below w.heap.size w w2 := below_on (unhide HBW1) hb2
  have HRD := hide (reduced_any _ _ A B w.heap.size w2 hbw2.size O (by omega) (unhide HSA))
  have HBW2 := hide hbw2
  clear hh2 hb2 O hbw2 HC2 HH1 HBW1
  go_wp2_with fail
  refine (unhide HRD).mono ?_
  rintro e w3 ⟨v1, v2, A2, B2, rfl, hv1, hv2, hB2w, hSA2, hG, hb3⟩
  have hbw3 : Below w.heap.size w w3 := (unhide HBW2).trans hb3
  have HN1 := hide hv1
  have HG := hide hG
  have HBW3 := hide hbw3
  have hA20 := hv1.nn
  obtain ⟨a1, m1, k1, rfl, hl1, hr1⟩ := hv1
  obtain ⟨a2, m2, k2, rfl, hl2, hr2⟩ := hv2
  clear hb3 hbw3 HRD HBW2 hG
  by_cases hz : B2 = 0
  ·subst hz
   have hm0 : m2 = 0 := hl2.of_zero
   subst hm0
   have HF := hide (show (A2 : Int) = (Int.gcd A B : Int) by rw [← unhide HG, Int.gcd_zero_right]; omega)
   clear hl1 hr1 hl2 hr2 HG hSA2
   go_wp2
   go_ret
   refine ⟨_, rfl, ?_, unhide HBW3⟩
   rw [← unhide HF]
   exact unhide HN1
  ·have hBp : 0 < B2 := by have := hl2.1; omega
   obtain ⟨hn1, b, o, hab, hbl, hcw⟩ := natIs_word hl2 hr2 hBp hB2w
   subst hn1
   subst hab
   have hmod0 : 0 ≤ A2 % B2 := Int.emod_nonneg _ (by omega)
   have hmod1 : A2 % B2 < B2 := Int.emod_lt_of_pos _ hBp
   have HF := hide (show Int.gcd B2 (A2 % B2) = Int.gcd A B by rw [← unhide HG, gcd_emod])
   have HDW := hide (divideWord_any (.slice a1 m1 k1) A2 B2 w3 (unhide HN1) hSA2 hBp hB2w)
   clear hl1 hr1 hl2 hr2 HG hSA2 HN1
   go_wp2_with fail
   refine (unhide HDW).mono ?_
   rintro e w4 ⟨v4, rfl, _, hb4⟩
   have hc4 : w4.cell? ⟨b, o, none⟩ = some (.int .u64 B2) := by rw [hb4.cell (p := ⟨b, o, none⟩) hbl]; exact hcw
   have HBW4 := hide (below_on (unhide HBW3) hb4)
   clear hb4 HDW hcw
   go_wp2_with fail
   refine (gcdWord_any B2 (A2 % B2) ⟨by omega, hB2w⟩ ⟨hmod0, by omega⟩ _).mono ?_
   rintro e w5 ⟨rfl, k5, hw5⟩
   subst hw5
   go_wp2_with fail
   refine (word_any _ (gcd_word ⟨by omega, hB2w⟩ ⟨hmod0, by omega⟩) _).mono ?_
   rintro e w6 ⟨v6, rfl, hv6, hb6⟩
   have hbw6 : Below w.heap.size w w6 := below_on (unhide HBW4) ((below_drewN w4 k5).trans hb6)
   clear hb6
   go_wp2
   go_ret
   refine ⟨_, rfl, ?_, hbw6⟩
   rw [← unhide HF]
   exact hv6

theorem gcd_any (va vb : Value) (A B : Int) (w : World) (ha : NatIs w va A) (hb : NatIs w vb B) (hAs : Sm A) (hBs : Sm B) :
  Calls Tryz.prog 104 #[va, vb] w fun e w' => ∃ v, e = .returned v ∧ NatIs w' v (Int.gcd A B) ∧ Below w.heap.size w w' := by
 rcases Int.lt_or_le A 18446744073709551616 with h | h
 ·exact gcd_small va vb A B w ha hb hAs hBs (Or.inl h)
 rcases Int.lt_or_le B 18446744073709551616 with h2 | h2
 ·exact gcd_small va vb A B w ha hb hAs hBs (Or.inr h2)
 obtain ⟨a, n, c, rfl, hl, hra⟩ := ha
 obtain ⟨a', n', c', rfl, hl', hrb⟩ := hb
 exact gcd_long a a' n n' c c' A B w hl hra hl' hrb hAs hBs h h2
end Go.Proofs.YtcelbgleajpenaaGreatDoor
