/- The greatest common divisor of numbers of any length. -/
import Derived.Test.YtdicbnchkfclaaaDoorW42
import Derived.Test.YtdicbnchkfclaaaDoorB5
namespace Go.Proofs.YtdicbnchkfclaaaDoor
open Go.RowKit Go.Sort Go.Shelf

theorem NatIs.uniq {w : World} {v : Value} {M N : Int} (h : NatIs w v M) (k : NatIs w v N) : M = N := by
  obtain ⟨a, n, c, rfl, hl, hr⟩ := h
  obtain ⟨a', n', c', e, hl', hr'⟩ := k
  injection e with e1 e2 e3
  subst e1; subst e2
  rcases Nat.eq_zero_or_pos n with h0 | h0
  · subst h0; rw [Wd.Len.zero hl, Wd.Len.zero hl']
  · obtain ⟨b, o, e4, _, hc⟩ := hr.2.2 h0
    obtain ⟨b', o', e5, _, hc'⟩ := hr'.2.2 h0
    subst e4
    injection e5 with e5
    injection e5 with e6 e7
    subst e6; subst e7
    rw [← Wd.vl_dig_all hl.1 hl.2.1, ← Wd.vl_dig_all hl'.1 hl'.2.1]
    refine Wd.vl_congr (fun j hj => ?_)
    have e8 := (hc j hj).symm.trans (hc' j hj)
    injection e8 with e8
    injection e8

/-- The number that a value stands for, for a loop's measure. -/
noncomputable def numOf (w : World) (v : Value) : Nat := (Classical.epsilon (fun N : Int => NatIs w v N)).toNat
theorem numOf_eq {w : World} {v : Value} {N : Int} (h : NatIs w v N) : numOf w v = N.toNat := by
  have := Classical.epsilon_spec (p := fun N : Int => NatIs w v N) ⟨N, h⟩
  unfold numOf
  rw [NatIs.uniq this h]

theorem TwoAt.natA {base : Nat} {w : World} {ga gb ma mb ca cb : Nat} {da db : Array Int} {A B : Int} (h : TwoAt base w ga gb ma mb ca cb da db A B) : RowIs w (some ⟨ga, 0, none⟩) ma ca (Wd.dig A) := by
  refine ⟨Nat.le_trans h.sa h.sca, h.ka, fun hp => ⟨ga, 0, rfl, h.oa.lt, fun j hj => ?_⟩⟩
  rw [(h.oa.holds j (by have := h.sa; omega)).1, ← h.va, Wd.dig_vl (fun j hj => h.wa j (by have := h.sa; omega)) hj]
theorem TwoAt.natB {base : Nat} {w : World} {ga gb ma mb ca cb : Nat} {da db : Array Int} {A B : Int} (h : TwoAt base w ga gb ma mb ca cb da db A B) : RowIs w (some ⟨gb, 0, none⟩) mb cb (Wd.dig B) := by
  refine ⟨Nat.le_trans h.sb h.scb, h.kb, fun hp => ⟨gb, 0, rfl, h.ob.lt, fun j hj => ?_⟩⟩
  rw [(h.ob.holds j (by have := h.sb; omega)).1, ← h.vb, Wd.dig_vl (fun j hj => h.wb j (by have := h.sb; omega)) hj]
theorem OwnTwo.nats {base : Nat} {w : World} {va vb : Value} {A B : Int} (h : OwnTwo base w va vb A B) : NatIs w va A ∧ NatIs w vb B := by
  obtain ⟨ga, gb, ma, mb, ca, cb, da, db, rfl, rfl, T⟩ := h
  exact ⟨⟨_, _, _, rfl, T.la, T.natA⟩, ⟨_, _, _, rfl, T.lb, T.natB⟩⟩
theorem TwoAt.under {base : Nat} {w w' : World} {ga gb ma mb ca cb : Nat} {da db : Array Int} {A B : Int} (h : TwoAt base w ga gb ma mb ca cb da db A B) (hb : Below w.heap.size w w') : TwoAt base w' ga gb ma mb ca cb da db A B :=
  { h with oa := h.oa.below hb h.oa.lt, ob := h.ob.below hb h.ob.lt }

/-- One division: the lesser one and what is left. -/
theorem OwnTwo.divided {base : Nat} {w w' : World} {va vb vr : Value} {A B R : Int} (h : OwnTwo base w va vb A B) (hb : Below w.heap.size w w') (hr : OwnNat w.heap.size w' vr R) : OwnTwo base w' vb vr B R := by
  obtain ⟨ga, gb, ma, mb, ca, cb, da, db, rfl, rfl, T⟩ := h
  obtain ⟨g, m, d, rfl, hg, ho, hm, hd, hw, hl, hv⟩ := hr
  have := T.ob.lt
  exact ⟨gb, g, mb, m, cb, d.size, db, d, rfl, rfl, by omega, T.bb, by have := T.bb; omega, T.ob.below hb T.ob.lt, ho.head, T.sb, hm, T.scb, Nat.le_refl _, T.kb, by omega, T.wb, hw, T.lb, hl, T.vb, hv⟩

theorem sm_le {A B : Int} (h : B ≤ A) (hA : Sm A) : Sm B := Int.lt_of_le_of_lt h hA

def slen : Value → Nat | .slice _ n _ => n | _ => 0
theorem word_of_len {B : Int} {n : Nat} (hl : Wd.Len B n) (h : n ≤ 1) : B < 18446744073709551616 := by
  have := Int.lt_of_lt_of_le hl.2.1 (Wd.pw_mono h)
  rw [Wd.pw_one] at this; exact this

set_option maxHeartbeats 4000000 in
set_option maxRecDepth 100000 in
theorem reduced_any (va vb : Value) (A B : Int) (base : Nat) (w : World) (hbase : base ≤ w.heap.size) (h : OwnTwo base w va vb A B) (hle : B ≤ A) (hA : Sm A) :
    Calls Tryd.prog 68 #[va, vb] w fun e w' => ∃ v1 v2 A' B', e = .returned (.tuple #[v1, v2]) ∧ NatIs w' v1 A' ∧ NatIs w' v2 B' ∧ B' < 18446744073709551616 ∧ Sm A' ∧ Int.gcd A' B' = Int.gcd A B ∧ Below base w w' := by
  have hva : ∃ a1 n1 c1, va = .slice a1 n1 c1 := by obtain ⟨ga, gb, ma, mb, ca, cb, da, db, rfl, rfl, T⟩ := h; exact ⟨_, _, _, rfl⟩
  have hvb : ∃ a1 n1 c1, vb = .slice a1 n1 c1 := by obtain ⟨ga, gb, ma, mb, ca, cb, da, db, rfl, rfl, T⟩ := h; exact ⟨_, _, _, rfl⟩
  obtain ⟨a1, n1, c1, rfl⟩ := hva
  obtain ⟨a2, n2, c2, rfl⟩ := hvb
  have HO := hide h
  clear h
  go_enter Tryd.func68, Tryd.ntmps68
  go_wp2_with fail
  go_loopw [0, 1] (fun v1 v2 wr => ∃ (A' B' : Int), OwnTwo base wr v1 v2 A' B' ∧ B' ≤ A' ∧ A' ≤ A ∧ Int.gcd A' B' = Int.gcd A B ∧ Below base w wr ∧ base ≤ wr.heap.size) (fun _ v2 wr => numOf wr v2)
  case atStart => exact ⟨A, B, unhide HO, hle, Int.le_refl _, rfl, Below.refl _ _, hbase⟩
  case round =>
    obtain ⟨A', B', O, hle', hAA, hg, hb, hbs⟩ := hrel
    have HO' := hide O
    have hN := O.nats
    obtain ⟨ga, gb, ma, mb, ca, cb, da, db, rfl, rfl, T⟩ := O
    by_cases hm : mb ≤ 1
    · have hB1 := word_of_len T.lb hm
      have dm : decide (1 < (mb : Int)) = false := decide_eq_false (by omega)
      have RES := hide (⟨hN.1, hN.2, hB1, sm_le hAA hA, hg, hb⟩ : NatIs wr _ A' ∧ NatIs wr _ B' ∧ B' < 18446744073709551616 ∧ Sm A' ∧ Int.gcd A' B' = Int.gcd A B ∧ Below base w wr)
      clear T hN HO HO' hA hg hB1
      go_wp2
      go_ret2
      have R := unhide RES
      exact ⟨_, _, A', B', rfl, R.1, R.2.1, R.2.2.1, R.2.2.2.1, R.2.2.2.2.1, R.2.2.2.2.2⟩
    · have dm : decide (1 < (mb : Int)) = true := decide_eq_true (by omega)
      have hma : mb ≤ ma := by
        rcases Nat.lt_or_ge ma mb with h | h
        · have := Wd.Len.lt T.la T.lb h; omega
        · exact h
      obtain ⟨k, rfl⟩ : ∃ k, ma = k + 2 := ⟨ma - 2, by omega⟩
      have HF := hide (foresee_any (some ⟨ga, 0, none⟩) (some ⟨gb, 0, none⟩) k mb ca cb A' B' wr T.la T.natA T.lb T.natB (by omega) hle')
      have HN := hide hN
      have HT := hide T
      have HGG := hide hg
      have HBB := hide hb
      clear T hN hg hb HO
      go_wp2_with fail
      refine (unhide HF).mono ?_
      rintro e w1 ⟨v, ok, rfl, F, hb1⟩
      obtain ⟨sw, p, q, r, s, rfl, FF⟩ := F
      have hbA := (Below.refl w1.heap.size w1).alloc (Nat.le_refl _) (.cells #[.int .u64 p, .int .u64 q, .int .u64 r, .int .u64 s, .bool sw] 119)
      obtain ⟨W1, hW1⟩ : ∃ W, w1.alloc (.cells #[.int .u64 p, .int .u64 q, .int .u64 r, .int .u64 s, .bool sw] 119) = W := ⟨_, rfl⟩
      rw [hW1] at hbA
      have hbW := below_on hb1 hbA
      have T1 := (unhide HT).under hbW
      have O1 : OwnTwo base W1 (.slice (some ⟨ga, 0, none⟩) (k + 2 : Nat) ca) (.slice (some ⟨gb, 0, none⟩) mb cb) A' B' := ⟨ga, gb, _, _, _, _, _, _, rfl, rfl, T1⟩
      have hbs1 : base ≤ W1.heap.size := Nat.le_trans hbs hbW.size
      have hbB1 : Below base w W1 := (unhide HBB).trans (hbW.mono hbs)
      have HB1 := hide hbB1
      have MS := numOf_eq (unhide HN).2
      have HMS := hide MS
      have hB0 : 0 ≤ B' := (unhide HT).lb.1
      cases ok with
      | true =>
        obtain ⟨hp, hq, hr, hs, f0, f1⟩ := FF rfl
        have LS : ∃ A'' B'' : Int, (sw = false → A'' = p * A' - q * B' ∧ B'' = r * B' - s * A') ∧ (sw = true → A'' = p * B' - q * A' ∧ B'' = r * A' - s * B') ∧ Wd.Less A' B' A'' B'' := by
          cases sw with
          | false => exact ⟨_, _, fun _ => ⟨rfl, rfl⟩, (fun h => by cases h), f0 rfl⟩
          | true => exact ⟨_, _, (fun h => by cases h), fun _ => ⟨rfl, rfl⟩, f1 rfl⟩
        obtain ⟨A2, B2, e0, e1, L0, L1, L2, LG⟩ := LS
        have HDN := hide (done_any sw p q r s _ _ A' B' A2 B2 base W1 hbs1 O1 hle' hp hq hr hs e0 e1 L0 L1 L2)
        unfold stV at HDN
        have HLG := hide LG
        have HW1 := hide hW1
        unfold stV
        clear FF f0 f1 hp hq hr hs e0 e1 LG T1 O1 hbA hbW hb1 MS HF HT hbB1 hW1
        go_wp2_with fail
        rw [unhide HW1]
        refine (unhide HDN).mono ?_
        rintro e w2 ⟨v1, v2, rfl, O2, hb2, hs2⟩
        have HO2 := hide O2
        have hN2 := O2.nats
        have HM2 := hide (numOf_eq hN2.2)
        have hv1 : ∃ a n c, v1 = .slice a n c := by obtain ⟨_, _, _, _, _, _, _, _, rfl, rfl, _⟩ := O2; exact ⟨_, _, _, rfl⟩
        have hv2 : ∃ a n c, v2 = .slice a n c := by obtain ⟨_, _, _, _, _, _, _, _, rfl, rfl, _⟩ := O2; exact ⟨_, _, _, rfl⟩
        obtain ⟨a3, n3, c3, rfl⟩ := hv1
        obtain ⟨a4, n4, c4, rfl⟩ := hv2
        have HB2 := hide ((unhide HB1).trans hb2)
        clear O2 hN2 hb2 HDN
        go_wp2_with fail
        refine ⟨⟨A2, B2, unhide HO2, by omega, by omega, by rw [unhide HLG]; exact unhide HGG, unhide HB2, hs2⟩, ?_⟩
        rw [unhide HM2, unhide HMS]
        omega
      | false =>
        obtain ⟨k', rfl⟩ : ∃ k', mb = k' + 2 := ⟨mb - 2, by omega⟩
        have HDV := hide (divide_long (some ⟨ga, 0, none⟩) (some ⟨gb, 0, none⟩) (k + 2) ca k' cb A' B' W1 T1.la T1.natA T1.lb T1.natB (sm_le hAA hA) hle')
        have hB1 : 0 < B' := Wd.Len.pos T1.lb (by omega)
        have m0 := Int.emod_nonneg A' (b := B') (by omega)
        have m1 := Int.emod_lt_of_pos A' hB1
        have HW1 := hide hW1
        have HO1 := hide O1
        have HGE := hide (gcd_emod A' B')
        unfold stV
        clear FF T1 O1 hbA hbW hb1 MS HF HT hbB1 hW1
        go_wp2_with fail
        rw [unhide HW1]
        refine (unhide HDV).mono ?_
        rintro e w2 ⟨v1, v2, rfl, hv1, O2, hb2⟩
        have HO2 := hide ((unhide HO1).divided hb2 O2)
        have HM2 := hide (numOf_eq O2.natIs)
        have hv1' : ∃ a n c, v1 = .slice a n c := by obtain ⟨_, _, _, rfl, _, _⟩ := hv1; exact ⟨_, _, _, rfl⟩
        have hv2 : ∃ a n c, v2 = .slice a n c := by obtain ⟨_, _, _, rfl, _⟩ := O2; exact ⟨_, _, _, rfl⟩
        obtain ⟨a3, n3, c3, rfl⟩ := hv1'
        obtain ⟨a4, n4, c4, rfl⟩ := hv2
        have HB2 := hide ((unhide HB1).trans (hb2.mono hbs1))
        have hs2 : base ≤ w2.heap.size := Nat.le_trans hbs1 hb2.size
        clear O2 hv1 hb2 HDV HO1
        go_wp2_with fail
        refine ⟨⟨B', A' % B', unhide HO2, by omega, by omega, by rw [unhide HGE]; exact unhide HGG, unhide HB2, hs2⟩, ?_⟩
        rw [unhide HM2, unhide HMS]
        omega
end Go.Proofs.YtdicbnchkfclaaaDoor
