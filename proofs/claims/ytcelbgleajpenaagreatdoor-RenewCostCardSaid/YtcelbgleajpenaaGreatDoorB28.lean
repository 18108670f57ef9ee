/- The checker's fractions: sizes; whole numbers taken away; what regions with new numbers hold. -/
import Derived.Test.YtcelbgleajpenaaGreatDoorB26
import Derived.Test.YtcelbgleajpenaaGreatDoorB12
import Derived.Test.YtcelbgleajpenaaGreatDoorB8
import Derived.Test.YtcelbgleajpenaaGreatDoorBE
import Derived.Test.YtcelbgleajpenaaGreatDoorB13
import Derived.Test.YtcelbgleajpenaaGreatDoorBH
import Derived.Test.YtcelbgleajpenaaGreatDoorA15
import Derived.Test.YtcelbgleajpenaaGreatDoorA14
namespace Go.Proofs.YtcelbgleajpenaaGreatDoor
open Go.RowKit Go.Sort Go.Shelf

theorem pw1 : Wh.pw 1 = 4294967296 := rfl
theorem pw2' : Wh.pw 2 = 18446744073709551616 := by decide

set_option maxHeartbeats 4000000 in
set_option maxRecDepth 100000 in
set_option linter.unusedSimpArgs false in
theorem div32_less (va vb : Value) (A B : Int) (w : World) (ha : HNat w va A) (hb : HNat w vb B) (sa : SmH A) (hB : 0 < B) (hAB : A < B) :
  Calls Tryz.prog 150 #[va, vb] w (DivPost w A B) := by
 have A0 : 0 ≤ A := ha.nn
 have HCM := hide (cmp32_any va vb A B w ha hb)
 have HA := hide ha
 obtain ⟨a, n, c, rfl, hl, h1, h2, h3⟩ := ha
 obtain ⟨a', m, c', rfl, hl', h1', h2', h3'⟩ := hb
 have hm0 : 0 < m := by
  rcases Nat.eq_zero_or_pos m with h0 | h0
  ·subst h0; have := hl'.zero; omega
  ·exact h0
 have mb : ((m : Int) == 0) = false := by simp; omega
 have HTW : Hid (∀ k, Calls Tryz.prog 147 #[.slice a n c] (w.drewN k) fun e w' => ∃ a n c, e = .returned (.slice a n c) ∧ HNat w' (.slice a n c) A ∧ Below (w.drewN k).heap.size (w.drewN k) w') := fun k => twin_any _ A _ ((unhide HA).below (bdrew _ k)) sa
 rw [Wh.sg_lt hAB] at HCM
 have HQ : Hid (A / B = 0 ∧ A % B = A) := ⟨Int.ediv_eq_zero_of_lt A0 hAB, Int.emod_eq_of_lt A0 hAB⟩
 clear h3 h3' hl hl' hm0 sa hB hAB A0
 go_enter Tryz.func150, Tryz.ntmps150
 go_wp2_with fail
 refine (unhide HCM).mono ?_
 rintro e w1 ⟨rfl, k, rfl⟩
 have HT2 := hide (unhide HTW k)
 go_wp2_with fail
 refine (unhide HT2).mono ?_
 rintro e w2 ⟨a1, n1, c1, rfl, hv1, hb1⟩
 have HV := hide hv1
 have HBB := hide (bstep (bdrew w k) hb1)
 clear hv1 hb1
 go_wp2
 exact bodyPost_ret (v := .tuple #[.slice none 0 0, .slice a1 n1 c1]) (by simp [results, Tryz.results150, go_sem]) rfl ⟨_, _, rfl, by rw [(unhide HQ).1]; exact hNat_zero _ _ _ (by decide), by rw [(unhide HQ).2]; exact unhide HV, unhide HBB⟩

set_option maxHeartbeats 4000000 in
set_option maxRecDepth 100000 in
set_option linter.unusedSimpArgs false in
theorem div32_word (va vb : Value) (A B : Int) (w : World) (ha : HNat w va A) (hb : HNat w vb B) (sa : SmH A) (hB : 0 < B) (hBA : B ≤ A) (hA2 : Wh.pw 2 ≤ A) (hB1 : B < Wh.pw 1) :
  Calls Tryz.prog 150 #[va, vb] w (DivPost w A B) := by
 have HA := hide ha
 obtain ⟨a, n, c, rfl, hl, hra⟩ := ha
 obtain ⟨a', m, c', rfl, hl', hrb⟩ := hb
 have hn3 : 3 ≤ n := by
  rcases Nat.lt_or_ge n 3 with h | h
  ·have := Wh.pw_mono (m := n) (n := 2) (by omega); have := hl.2.1; omega
  ·exact h
 have hm1 : m = 1 := by
  have h1 := len_le hl' hB1
  rcases Nat.eq_zero_or_pos m with h0 | h0
  ·subst h0; have := hl'.zero; omega
  ·omega
 subst hm1
 have hsg : ¬ Wh.sg A B < 0 := by
  unfold Wh.sg
  rw [if_neg (by omega)]
  by_cases e : A = B
  ·rw [if_pos e]; decide
  ·rw [if_neg e]; decide
 have HCP := hide (cmp32_any (.slice a n c) (.slice a' 1 c') A B w ⟨a, n, c, rfl, hl, hra⟩ ⟨a', 1, c', rfl, hl', hrb⟩)
 obtain ⟨z, hz⟩ : ∃ z, Wh.sg A B = z := ⟨_, rfl⟩
 rw [hz] at HCP hsg
 have hsg' : decide (z < 0) = false := by rw [decide_eq_false_iff_not]; exact hsg
 have e2 : decide ((n : Int) ≤ 2) = false := by rw [decide_eq_false_iff_not]; omega
 have hvB : Wh.dig B 0 = B := by
  have := Wh.vl_dig_all hl'.1 hl'.2.1
  rw [Wh.vl_one] at this
  exact this
 obtain ⟨h1, h2, h3⟩ := hrb
 obtain ⟨b, o, rfl, hlt, hc⟩ := h3 (by decide)
 have c0 := hc 0 (by decide)
 rw [Nat.add_zero, hvB] at c0
 have HSM : Hid (∀ k, Calls Tryz.prog 176 #[.slice a n c, .int .u32 B] (w.drewN k) fun e w' => ∃ v, e = .returned (.tuple #[v, .int .u32 (A % B)]) ∧ HNat w' v (A / B) ∧ Below (w.drewN k).heap.size (w.drewN k) w') := fun k => small_any _ A B _ ((unhide HA).below (bdrew _ k)) sa (by omega) (by rw [← pw1]; exact hB1)
 have r0 : 0 ≤ A % B := Int.emod_nonneg _ (by omega)
 have r1 : A % B < B := Int.emod_lt_of_pos _ hB
 obtain ⟨r, hr⟩ : ∃ r, A % B = r := ⟨_, rfl⟩
 rw [hr] at r0 r1
 have HR := hide hr
 have HRW : Hid (Wh.W32 r) := ⟨r0, by rw [pw1] at hB1; omega⟩
 rw [hr] at HSM
 clear hl hl' hra h3 hc hsg hz hn3 sa hBA hA2 hB1 hvB r0 r1 hr hB
 go_enter Tryz.func150, Tryz.ntmps150
 go_wp2_with fail
 refine (unhide HCP).mono ?_
 rintro e w1 ⟨rfl, k, rfl⟩
 have HS2 := hide (unhide HSM k)
 go_wp2_with fail
 refine (unhide HS2).mono ?_
 rintro e w2 ⟨v2, rfl, hv2, hb2⟩
 have hrow : HRow (w2.alloc (.cells #[.int .u32 r] 175)) (some ⟨w2.heap.size, 0, none⟩) 1 1 (fun _ => r) := by
  refine ⟨by decide, by decide, fun _ => ⟨_, 0, rfl, (Array.getElem?_eq_some_iff.1 (heap_alloc_new w2 _)).1, fun j hj => ?_⟩⟩
  obtain rfl : j = 0 := by omega
  simp
 have HT := hide (trim32_any _ 1 1 _ _ hrow (fun _ _ => unhide HRW))
 have HN : Hid (∀ m, m ≤ 1 → Wh.Len (Wh.vl (fun _ => r) 1) m → HNat (w2.alloc (.cells #[.int .u32 r] 175)) (.slice (some ⟨w2.heap.size, 0, none⟩) m 1) r) := fun m hm hl => by
  have h := hNat_trim hrow (fun _ _ => unhide HRW) hm hl
  rw [Wh.vl_one] at h
  exact h
 have HBA := hide (abelow w2 (.cells #[.int .u32 r] 175))
 have HV2 := hide (hv2.below (unhide HBA))
 have HB2 := hide (bstep (bstep (bdrew w k) hb2) (unhide HBA))
 obtain ⟨a2, n2, cc2, rfl, _⟩ := hv2
 clear hrow hb2
 go_wp2_with fail
 refine (unhide HT).mono ?_
 rintro e w3 ⟨m, rfl, hm, hl, rfl⟩
 have HV := hide (unhide HN m hm hl)
 clear hl
 go_wp2
 go_ret2
 exact ⟨_, _, rfl, unhide HV2, by rw [unhide HR]; exact unhide HV, unhide HB2⟩

theorem div32_any (va vb : Value) (A B : Int) (w : World) (ha : HNat w va A) (hb : HNat w vb B) (sa : SmH A) (hB : 0 < B) :
  Calls Tryz.prog 150 #[va, vb] w (DivPost w A B) := by
 by_cases h2 : A < 18446744073709551616
 ·exact (divS_any va vb A B w ha hb h2 hB).mono (fun e w' h => h)
 by_cases hAB : A < B
 ·exact div32_less va vb A B w ha hb sa hB hAB
 by_cases h1 : B < Wh.pw 1
 ·exact div32_word va vb A B w ha hb sa hB (by omega) (by rw [pw2']; omega) h1
 ·exact div32_long va vb A B w ha hb sa (by omega) (by rw [pw2']; omega) (by omega)

theorem smh_nat {A B : Nat} (h : SmH (A : Int)) (hle : B ≤ A) : SmH (B : Int) := h.le (by omega)
theorem HNat.uniq {w : World} {v : Value} {M N : Int} (h : HNat w v M) (h' : HNat w v N) : M = N := by
 obtain ⟨a, n, c, rfl, hl, hr⟩ := h
 obtain ⟨a', n', c', e, hl', hr'⟩ := h'
 injection e with e1 e2 e3
 subst e1 e2 e3
 rcases Nat.eq_zero_or_pos n with h0 | h0
 ·subst h0
  rw [hl.zero, hl'.zero]
 ·obtain ⟨b, o, e4, _, hc⟩ := hr.2.2 h0
  obtain ⟨b', o', e5, _, hc'⟩ := hr'.2.2 h0
  subst e4
  injection e5 with e5
  injection e5 with e6 e7
  subst e6; subst e7
  rw [← Wh.vl_dig_all hl.1 hl.2.1, ← Wh.vl_dig_all hl'.1 hl'.2.1]
  refine Wh.vl_congr (fun j hj => ?_)
  have e8 := (hc j hj).symm.trans (hc' j hj)
  injection e8 with e8
  injection e8
theorem exists_numH : ∃ numH : World → Value → Nat, ∀ (w : World) (v : Value) (N : Int), HNat w v N → numH w v = N.toNat :=
 ⟨fun w v => (Classical.epsilon (fun N : Int => HNat w v N)).toNat, fun w v N h => by
  have := Classical.epsilon_spec (p := fun N : Int => HNat w v N) ⟨N, h⟩
  show (Classical.epsilon (fun N : Int => HNat w v N)).toNat = _
  rw [HNat.uniq this h]⟩
theorem len_pos {w : World} {a : Option Addr} {n c : Nat} {D : Int} (h : HNat w (.slice a n c) D) (hn : 0 < n) : 0 < D := by
 obtain ⟨a', n', c', e, hl, _⟩ := h
 injection e with e1 e2 e3
 subst e2
 exact hl.pos hn
theorem len_two {w : World} {a : Option Addr} {n c : Nat} {D : Int} (h : HNat w (.slice a n c) D) (hn : n ≤ 2) : D < 18446744073709551616 := by
 obtain ⟨a', n', c', e, hl, _⟩ := h
 injection e with e1 e2 e3
 subst e2
 have := Wh.pw_mono (m := n) (n := 2) hn
 have := hl.2.1
 rw [pw2'] at *
 omega
set_option maxHeartbeats 8000000 in
set_option maxRecDepth 100000 in
set_option linter.unusedSimpArgs false in
theorem common_any (va vb : Value) (A B : Nat) (w : World) (ha : HNat w va (A : Int)) (hb : HNat w vb (B : Int)) (sa : SmH (A : Int)) (sb : SmH (B : Int)) :
  Calls Tryz.prog 149 #[va, vb] w fun e w' => ∃ v, e = .returned v ∧ HNat w' v ((Nat.gcd A B : Nat) : Int) ∧ Below w.heap.size w w' := by
 have HA := hide ha
 have HB := hide hb
 have HSA := hide sa
 have HSB := hide sb
 obtain ⟨a0, n0, c0, rfl, -⟩ := ha
 obtain ⟨a1, n1, c1, rfl, -⟩ := hb
 obtain ⟨numH, numEq⟩ := exists_numH
 have HNE := hide numEq
 clear sa sb numEq
 go_enter Tryz.func149, Tryz.ntmps149
 go_wp2_with fail
 go_loopw [0, 1] (fun va vb wr => ∃ (X Y : Nat) (a a' : Option Addr) (n c m c' : Nat), va = .slice a n c ∧ vb = .slice a' m c' ∧ HNat wr va (X : Int) ∧ HNat wr vb (Y : Int) ∧ SmH (X : Int) ∧ SmH (Y : Int) ∧ Nat.gcd X Y = Nat.gcd A B ∧ Below w.heap.size w wr) (fun _ vb wr => numH wr vb)
 case atStart => exact ⟨A, B, _, _, _, _, _, _, rfl, rfl, unhide HA, unhide HB, unhide HSA, unhide HSB, rfl, Below.refl _ _⟩
 case round =>
  obtain ⟨X, Y, a, a', n, c, m, c', rfl, rfl, hX, hY, sX, sY, hg, hbl⟩ := hrel
  obtain ⟨wq, rfl⟩ : ∃ W, W = wr := ⟨_, rfl⟩
  have HX := hide hX
  have HY := hide hY
  have HSX := hide sX
  have HSY := hide sY
  have HG := hide hg
  have HBL := hide hbl
  have hm6 : m ≤ 1000000 := by obtain ⟨a', n', c', e, hl, _⟩ := hY; injection e with e1 e2 e3; subst e2; exact sY.len hl
  have hn6 : n ≤ 1000000 := by obtain ⟨a', n', c', e, hl, _⟩ := hX; injection e with e1 e2 e3; subst e2; exact sX.len hl
  by_cases hm : 2 < m
  ·have m2 : (2 : Int) < (m : Int) := by omega
   have hYp : 0 < Y := by have := len_pos hY (by omega); omega
   have HYP := hide hYp
   have HDV := hide (div32_any (.slice a n c) (.slice a' m c') X Y wq hX hY sX (by omega))
   clear hX hY sX sY hg hbl hYp hm hm6 hn6
   go_wp2_with fail
   refine (unhide HDV).mono ?_
   rintro e w1 ⟨v1, v2, rfl, h1, h2, hb⟩
   have hc : ((X : Int) % (Y : Int)) = ((X % Y : Nat) : Int) := rfl
   rw [hc] at h2
   have HV2 := hide h2
   have HBB := hide hb
   obtain ⟨a2, n2, c2, rfl, -⟩ := h2
   clear h1 hb hc
   go_wp2_with fail
   have hmod := Nat.mod_lt X (unhide HYP)
   have q1 := unhide HNE _ _ _ (unhide HV2)
   have q2 := unhide HNE _ _ _ (unhide HY)
   exact ⟨⟨Y, X % Y, _, _, _, _, _, _, rfl, rfl, (unhide HY).below (unhide HBB), unhide HV2, unhide HSY, smh_nat (unhide HSY) (by omega), by rw [gcd_step]; exact unhide HG, bstep (unhide HBL) (unhide HBB)⟩, by rw [q1, q2]; omega⟩
  ·have m2 : ¬ (2 : Int) < (m : Int) := by omega
   have hY2 := len_two hY (by omega)
   by_cases hm0 : m = 0
   ·subst hm0
    have hy0 : Y = 0 := by obtain ⟨a', n', c', e, hl, _⟩ := hY; injection e with e1 e2 e3; subst e2; have := hl.zero; omega
    subst hy0
    rw [Nat.gcd_zero_right] at hg
    have HG2 := hide hg
    clear hX hY sX sY hg hbl hm hm6 hn6 hY2
    go_wp2_with fail
    (try simp only [Exit.inBlock, Exit.then])
    go_wp2
    go_ret
    exact ⟨_, rfl, by rw [← unhide HG2]; exact unhide HX, unhide HBL⟩
   ·have mb : ((m : Int) == 0) = false := by simp; omega
    have hYp : 0 < Y := by have := len_pos hY (by omega); omega
    have HYP := hide hYp
    by_cases hn : 2 < n
    ·have nn2 : (2 : Int) < (n : Int) := by omega
     have HDV := hide (div32_any (.slice a n c) (.slice a' m c') X Y wq hX hY sX (by omega))
     have HY2 := hide hY2
     clear hX hY sX sY hg hbl hYp hm hm6 hn6 hY2 hn hm0
     go_wp2_with fail
     (try simp only [Exit.inBlock, Exit.then])
     go_wp2_with fail
     refine (unhide HDV).mono ?_
     rintro e w1 ⟨v1, v2, rfl, h1, h2, hb⟩
     have hc : ((X : Int) % (Y : Int)) = ((X % Y : Nat) : Int) := rfl
     rw [hc] at h2
     have hmod := Nat.mod_lt X (unhide HYP)
     have HPA := hide (plain_any (.slice a' m c') (Y : Int) w1 ((unhide HY).below hb) (unhide HY2))
     have HPB := hide (plain_any v2 ((X % Y : Nat) : Int) w1 h2 (by have := unhide HY2; omega))
     have HGC : Hid (Nat.gcd Y (X % Y) = Nat.gcd A B) := by show _ = _; rw [gcd_step]; exact unhide HG
     have HZ2 : Hid (((X % Y : Nat) : Int) < 18446744073709551616) := by show _ < _; have := unhide HY2; omega
     obtain ⟨Z, hZ⟩ : ∃ Z, X % Y = Z := ⟨_, rfl⟩
     rw [hZ] at HPB HGC HZ2
     have HBB := hide (bstep (unhide HBL) hb)
     obtain ⟨a2, n2, c2, rfl, -⟩ := h2
     clear h1 hb hc hmod hZ
     go_wp2_with fail
     refine (unhide HPA).mono ?_
     rintro e wa ⟨rfl, hw1⟩
     subst hw1
     go_wp2_with fail
     refine (unhide HPB).mono ?_
     rintro e wb ⟨rfl, hw2⟩
     subst hw2
     go_wp2_with fail
     clear nn2 m2 mb
     go_loopw [9, 10] (fun vx vy wz => ∃ x y k : Nat, vx = .int .u64 (x : Int) ∧ vy = .int .u64 (y : Int) ∧ x < 18446744073709551616 ∧ y < 18446744073709551616 ∧ Nat.gcd x y = Nat.gcd A B ∧ wz = wb.drewN k) (fun _ vy _ => (intOf vy).toNat)
     case atStart => exact ⟨Y, Z, 0, rfl, rfl, by have := unhide HY2; omega, by have := unhide HZ2; omega, unhide HGC, rfl⟩
     case round =>
      obtain ⟨x, y, k, rfl, rfl, hx, hy, hgc, hwz⟩ := hrel
      by_cases hy0 : y = 0
      ·subst hy0
       rw [Nat.gcd_zero_right] at hgc
       have HWO := hide (words_any (x : Int) (by omega) (by omega) (wb.drewN k))
       have HGF := hide hgc
       subst hwz
       clear hgc
       go_wp2_with fail
       (try simp only [Exit.inBlock, Exit.then])
       go_wp2_with fail
       refine (unhide HWO).mono ?_
       rintro e w9 ⟨v, rfl, hv, hb9⟩
       have HV := hide hv
       have HB9 := hide (bstep (bdrew wb k) hb9)
       clear hv hb9
       go_wp2
       go_ret
       exact ⟨_, rfl, by rw [← unhide HGF]; exact unhide HV, bstep (unhide HBB) (unhide HB9)⟩
      ·have y0 : 0 < y := by omega
       have yz : ¬ (y : Int) = 0 := by omega
       have hgy : (x % y) < y := Nat.mod_lt _ (by omega)
       have tm : (x : Int).tmod (y : Int) = ((x % y : Nat) : Int) := by rw [Int.tmod_eq_emod_of_nonneg (by omega)]; rfl
       have te : (x : Int) % (y : Int) = ((x % y : Nat) : Int) := rfl
       obtain ⟨z, hz⟩ : ∃ z, x % y = z := ⟨_, rfl⟩
       rw [hz] at tm te hgy
       have uz : IntKind.u64.wrap (z : Int) = (z : Int) := by rw [IntKind.wrap_u64]; omega
       have HGF : Hid (Nat.gcd y z = Nat.gcd A B) := by show _ = _; rw [← hz, gcd_step, hgc]
       have HYF := hide hy
       have HZY := hide hgy
       subst hwz
       clear hgc hz hy0 hgy
       go_wp2_with fail
       go_quiet (fail)
       go_wp2
       exact ⟨⟨y, z, k + nq, rfl, rfl, unhide HYF, by have := unhide HZY; have := unhide HYF; omega, unhide HGF, by simp⟩, by have := unhide HZY; simp [intOf]; omega⟩
    ·have nn2 : ¬ (2 : Int) < (n : Int) := by omega
     have HPA := hide (plain_any (.slice a n c) (X : Int) wq hX (len_two hX (by omega)))
     have HPB := hide (plain_any (.slice a' m c') (Y : Int) wq hY hY2)
     have HY2 := hide (len_two hX (by omega))
     have HZ2 := hide hY2
     have HGC := hide hg
     have HBB := hide hbl
     clear hX hY sX sY hg hbl hYp hm hm6 hn6 hY2 hn hm0
     go_wp2_with fail
     (try simp only [Exit.inBlock, Exit.then])
     go_wp2_with fail
     refine (unhide HPA).mono ?_
     rintro e wa ⟨rfl, hw1⟩
     subst hw1
     go_wp2_with fail
     refine (unhide HPB).mono ?_
     rintro e wb ⟨rfl, hw2⟩
     subst hw2
     go_wp2_with fail
     clear nn2 m2 mb
     go_loopw [9, 10] (fun vx vy wz => ∃ x y k : Nat, vx = .int .u64 (x : Int) ∧ vy = .int .u64 (y : Int) ∧ x < 18446744073709551616 ∧ y < 18446744073709551616 ∧ Nat.gcd x y = Nat.gcd A B ∧ wz = wb.drewN k) (fun _ vy _ => (intOf vy).toNat)
     case atStart => exact ⟨X, Y, 0, rfl, rfl, by have := unhide HY2; omega, by have := unhide HZ2; omega, unhide HGC, rfl⟩
     case round =>
      obtain ⟨x, y, k, rfl, rfl, hx, hy, hgc, hwz⟩ := hrel
      by_cases hy0 : y = 0
      ·subst hy0
       rw [Nat.gcd_zero_right] at hgc
       have HWO := hide (words_any (x : Int) (by omega) (by omega) (wb.drewN k))
       have HGF := hide hgc
       subst hwz
       clear hgc
       go_wp2_with fail
       (try simp only [Exit.inBlock, Exit.then])
       go_wp2_with fail
       refine (unhide HWO).mono ?_
       rintro e w9 ⟨v, rfl, hv, hb9⟩
       have HV := hide hv
       have HB9 := hide (bstep (bdrew wb k) hb9)
       clear hv hb9
       go_wp2
       go_ret
       exact ⟨_, rfl, by rw [← unhide HGF]; exact unhide HV, bstep (unhide HBB) (unhide HB9)⟩
      ·have y0 : 0 < y := by omega
       have yz : ¬ (y : Int) = 0 := by omega
       have hgy : (x % y) < y := Nat.mod_lt _ (by omega)
       have tm : (x : Int).tmod (y : Int) = ((x % y : Nat) : Int) := by rw [Int.tmod_eq_emod_of_nonneg (by omega)]; rfl
       have te : (x : Int) % (y : Int) = ((x % y : Nat) : Int) := rfl
       obtain ⟨z, hz⟩ : ∃ z, x % y = z := ⟨_, rfl⟩
       rw [hz] at tm te hgy
       have uz : IntKind.u64.wrap (z : Int) = (z : Int) := by rw [IntKind.wrap_u64]; omega
       have HGF : Hid (Nat.gcd y z = Nat.gcd A B) := by show _ = _; rw [← hz, gcd_step, hgc]
       have HYF := hide hy
       have HZY := hide hgy
       subst hwz
       clear hgc hz hy0 hgy
       go_wp2_with fail
       go_quiet (fail)
       go_wp2
       exact ⟨⟨y, z, k + nq, rfl, rfl, unhide HYF, by have := unhide HZY; have := unhide HYF; omega, unhide HGF, by simp⟩, by have := unhide HZY; simp [intOf]; omega⟩
theorem divs_any : Divs (fun m => SmH (m : Int)) where
 down := fun m k h1 h2 => smh_nat h2 h1
 sm := fun m h => h
 cm := fun W va vb A B ha hb pa pb _ => common_any va vb A B W ha hb pa pb
 dv := fun W va vb A B ha hb pa _ hB => (div32_any va vb A B W ha hb pa (by omega)).mono (by rintro e w' ⟨v, u, rfl, h1, h2, h3⟩; exact ⟨v, u, rfl, by simpa using h1, h3⟩)
end Go.Proofs.YtcelbgleajpenaaGreatDoor
namespace Go.Proofs.YtcelbgleajpenaaGreatDoor
open Go.RowKit Go.Sort

set_option maxHeartbeats 4000000 in
set_option maxRecDepth 100000 in
set_option linter.unusedSimpArgs false in
theorem iadd_any (b o b' o' b'' o'' : Nat) (N M : Int) (w : World) (k : SlotI w b o) (x : BInt w b' o' N) (y : BInt w b'' o'' M) (sn : SmH (N.natAbs : Int)) (sm : SmH (M.natAbs : Int)) :
  Calls Tryz.prog 119 #[.pointer (some ⟨b, o, none⟩), .pointer (some ⟨b', o', none⟩), .pointer (some ⟨b'', o'', none⟩)] w (GivesAt w b o (N + M)) := by
 obtain ⟨a, n, c, ea, hn⟩ := x.ab
 obtain ⟨a2, n2, c2, ea2, hn2⟩ := y.ab
 have es := x.sg
 have hlt := x.lt
 have es2 := y.sg
 have hlt2 := y.lt
 obtain ⟨s, hs⟩ : ∃ s, decide (N < 0) = s := ⟨_, rfl⟩
 obtain ⟨s2, hs2⟩ : ∃ s, decide (M < 0) = s := ⟨_, rfl⟩
 rw [hs] at es
 rw [hs2] at es2
 have HMU : Hid (∀ W, Below w.heap.size w W → Calls Tryz.prog 152 #[.bool s, .slice a n c, .bool s2, .slice a2 n2 c2] W (SumPost W (N + M))) := fun W hW => sum32_any s s2 _ _ N M W (hn.below hW) (hn2.below hW) (fun _ => hs.symm) (fun _ => hs2.symm) sn sm
 have HCC : Hid (∀ W, Below w.heap.size w W → (fun w' : World => (w'.cell? ⟨b', o', none⟩ = some (.bool s) ∧ w'.cell? ⟨b', o' + 1, none⟩ = some (.slice a n c)) ∧ w'.cell? ⟨b'', o'', none⟩ = some (.bool s2) ∧ w'.cell? ⟨b'', o'' + 1, none⟩ = some (.slice a2 n2 c2)) W) := fun W hW => ⟨⟨by rw [hW.cell (p := ⟨b', o', none⟩) hlt]; exact es, by rw [hW.cell (p := ⟨b', o' + 1, none⟩) hlt]; exact ea⟩, by rw [hW.cell (p := ⟨b'', o'', none⟩) hlt2]; exact es2, by rw [hW.cell (p := ⟨b'', o'' + 1, none⟩) hlt2]; exact ea2⟩
 have HK := hide k
 clear x y k hn hn2 es ea es2 ea2 hlt hlt2 hs hs2 sn sm
 go_enter Tryz.func119, Tryz.ntmps119
 go_wp2_with fail
 refine wp_region_till (fun w' : World => (w'.cell? ⟨b', o', none⟩ = some (.bool s) ∧ w'.cell? ⟨b', o' + 1, none⟩ = some (.slice a n c)) ∧ w'.cell? ⟨b'', o'', none⟩ = some (.bool s2) ∧ w'.cell? ⟨b'', o'' + 1, none⟩ = some (.slice a2 n2 c2)) 20 (by kernel_rfl) ?_
 have bd0 : Below w.heap.size w w.drew := (Below.refl _ _).drew
 have hC0 : (fun w' : World => (w'.cell? ⟨b', o', none⟩ = some (.bool s) ∧ w'.cell? ⟨b', o' + 1, none⟩ = some (.slice a n c)) ∧ w'.cell? ⟨b'', o'', none⟩ = some (.bool s2) ∧ w'.cell? ⟨b'', o'' + 1, none⟩ = some (.slice a2 n2 c2)) w.drew := unhide HCC _ bd0
 refine wpTill_pure (i := 0) (v := ?_) rfl (by kernel_rfl) (by kernel_rfl) (by kernel_rfl) (by kernel_rfl) (fun _ _ _ h => h) (Or.inl ⟨by rfl, ?_⟩) (fun _ => hC0) ?_
 rotate_left
 ·intro w hSw; clear hSw; go_simp; (try with_reducible rfl)
 (try simp only [List.getElem_toArray, List.getElem_cons_succ, List.getElem_cons_zero])
 (try simp only [Act.put, List.setIfInBounds_toArray, List.set_cons_zero, List.set_cons_succ])
 refine wpTill_pure (i := 1) (v := ?_) rfl (by kernel_rfl) (by kernel_rfl) (by kernel_rfl) (by kernel_rfl) (fun _ _ _ h => h) (Or.inl ⟨by rfl, ?_⟩) (fun _ => hC0) ?_
 rotate_left
 ·intro w hSw; clear hSw; go_simp; (try with_reducible rfl)
 (try simp only [List.getElem_toArray, List.getElem_cons_succ, List.getElem_cons_zero])
 (try simp only [Act.put, List.setIfInBounds_toArray, List.set_cons_zero, List.set_cons_succ])
 refine wpTill_pure (i := 2) (v := ?_) rfl (by kernel_rfl) (by kernel_rfl) (by kernel_rfl) (by kernel_rfl) (fun _ _ _ h => h) (Or.inl ⟨by rfl, ?_⟩) (fun _ => hC0) ?_
 rotate_left
 ·intro w hSw; clear hSw; go_simp; (try with_reducible rfl)
 (try simp only [List.getElem_toArray, List.getElem_cons_succ, List.getElem_cons_zero])
 (try simp only [Act.put, List.setIfInBounds_toArray, List.set_cons_zero, List.set_cons_succ])
 refine wpTill_pure (i := 3) (v := ?_) rfl (by kernel_rfl) (by kernel_rfl) (by kernel_rfl) (by kernel_rfl) (fun _ _ _ h => h) (Or.inl ⟨by rfl, ?_⟩) (fun _ => hC0) ?_
 rotate_left
 ·intro w hSw; clear hSw; go_simp; (try with_reducible rfl)
 (try simp only [List.getElem_toArray, List.getElem_cons_succ, List.getElem_cons_zero])
 (try simp only [Act.put, List.setIfInBounds_toArray, List.set_cons_zero, List.set_cons_succ])
 refine wpTill_deep (i := 4) (v := ?_) [17, 18, 19, 20] rfl (by kernel_rfl) (by kernel_rfl) (by kernel_rfl) (by kernel_rfl) (by kernel_rfl) (by kernel_rfl) (by kernel_rfl) (fun _ _ _ h => h) (Or.inl ⟨by rfl, ?_⟩) hC0 ?_
 rotate_left
 ·intro w hSw; (try dsimp only at hSw); obtain ⟨⟨z0, z1⟩, z2, z3⟩ := hSw; go_simp; (try with_reducible rfl)
 (try simp only [List.getElem_toArray, List.getElem_cons_succ, List.getElem_cons_zero])
 (try simp only [Act.put, List.setIfInBounds_toArray, List.set_cons_zero, List.set_cons_succ])
 refine wpTill_pure (i := 5) (v := ?_) rfl (by kernel_rfl) (by kernel_rfl) (by kernel_rfl) (by kernel_rfl) (fun _ _ _ h => h) (Or.inl ⟨by rfl, ?_⟩) (fun _ => hC0) ?_
 rotate_left
 ·intro w hSw; clear hSw; go_simp; (try with_reducible rfl)
 (try simp only [List.getElem_toArray, List.getElem_cons_succ, List.getElem_cons_zero])
 (try simp only [Act.put, List.setIfInBounds_toArray, List.set_cons_zero, List.set_cons_succ])
 refine wpTill_pure (i := 6) (v := ?_) rfl (by kernel_rfl) (by kernel_rfl) (by kernel_rfl) (by kernel_rfl) (fun _ _ _ h => h) (Or.inl ⟨by rfl, ?_⟩) (fun _ => hC0) ?_
 rotate_left
 ·intro w hSw; clear hSw; go_simp; (try with_reducible rfl)
 (try simp only [List.getElem_toArray, List.getElem_cons_succ, List.getElem_cons_zero])
 (try simp only [Act.put, List.setIfInBounds_toArray, List.set_cons_zero, List.set_cons_succ])
 refine wpTill_pure (i := 7) (v := ?_) rfl (by kernel_rfl) (by kernel_rfl) (by kernel_rfl) (by kernel_rfl) (fun _ _ _ h => h) (Or.inl ⟨by rfl, ?_⟩) (fun _ => hC0) ?_
 rotate_left
 ·intro w hSw; clear hSw; go_simp; (try with_reducible rfl)
 (try simp only [List.getElem_toArray, List.getElem_cons_succ, List.getElem_cons_zero])
 (try simp only [Act.put, List.setIfInBounds_toArray, List.set_cons_zero, List.set_cons_succ])
 refine wpTill_deep (i := 8) (v := ?_) [17, 18, 19, 20] rfl (by kernel_rfl) (by kernel_rfl) (by kernel_rfl) (by kernel_rfl) (by kernel_rfl) (by kernel_rfl) (by kernel_rfl) (fun _ _ _ h => h) (Or.inl ⟨by rfl, ?_⟩) hC0 ?_
 rotate_left
 ·intro w hSw; (try dsimp only at hSw); obtain ⟨⟨z0, z1⟩, z2, z3⟩ := hSw; go_simp; (try with_reducible rfl)
 (try simp only [List.getElem_toArray, List.getElem_cons_succ, List.getElem_cons_zero])
 (try simp only [Act.put, List.setIfInBounds_toArray, List.set_cons_zero, List.set_cons_succ])
 refine wpTill_pure (i := 9) (v := ?_) rfl (by kernel_rfl) (by kernel_rfl) (by kernel_rfl) (by kernel_rfl) (fun _ _ _ h => h) (Or.inl ⟨by rfl, ?_⟩) (fun _ => hC0) ?_
 rotate_left
 ·intro w hSw; clear hSw; go_simp; (try with_reducible rfl)
 (try simp only [List.getElem_toArray, List.getElem_cons_succ, List.getElem_cons_zero])
 (try simp only [Act.put, List.setIfInBounds_toArray, List.set_cons_zero, List.set_cons_succ])
 refine wpTill_pure (i := 10) (v := ?_) rfl (by kernel_rfl) (by kernel_rfl) (by kernel_rfl) (by kernel_rfl) (fun _ _ _ h => h) (Or.inl ⟨by rfl, ?_⟩) (fun _ => hC0) ?_
 rotate_left
 ·intro w hSw; clear hSw; go_simp; (try with_reducible rfl)
 (try simp only [List.getElem_toArray, List.getElem_cons_succ, List.getElem_cons_zero])
 (try simp only [Act.put, List.setIfInBounds_toArray, List.set_cons_zero, List.set_cons_succ])
 refine wpTill_pure (i := 11) (v := ?_) rfl (by kernel_rfl) (by kernel_rfl) (by kernel_rfl) (by kernel_rfl) (fun _ _ _ h => h) (Or.inl ⟨by rfl, ?_⟩) (fun _ => hC0) ?_
 rotate_left
 ·intro w hSw; clear hSw; go_simp; (try with_reducible rfl)
 (try simp only [List.getElem_toArray, List.getElem_cons_succ, List.getElem_cons_zero])
 (try simp only [Act.put, List.setIfInBounds_toArray, List.set_cons_zero, List.set_cons_succ])
 refine wpTill_deep (i := 12) (v := ?_) [17, 18, 19, 20] rfl (by kernel_rfl) (by kernel_rfl) (by kernel_rfl) (by kernel_rfl) (by kernel_rfl) (by kernel_rfl) (by kernel_rfl) (fun _ _ _ h => h) (Or.inl ⟨by rfl, ?_⟩) hC0 ?_
 rotate_left
 ·intro w hSw; (try dsimp only at hSw); obtain ⟨⟨z0, z1⟩, z2, z3⟩ := hSw; go_simp; (try with_reducible rfl)
 (try simp only [List.getElem_toArray, List.getElem_cons_succ, List.getElem_cons_zero])
 (try simp only [Act.put, List.setIfInBounds_toArray, List.set_cons_zero, List.set_cons_succ])
 refine wpTill_pure (i := 13) (v := ?_) rfl (by kernel_rfl) (by kernel_rfl) (by kernel_rfl) (by kernel_rfl) (fun _ _ _ h => h) (Or.inl ⟨by rfl, ?_⟩) (fun _ => hC0) ?_
 rotate_left
 ·intro w hSw; clear hSw; go_simp; (try with_reducible rfl)
 (try simp only [List.getElem_toArray, List.getElem_cons_succ, List.getElem_cons_zero])
 (try simp only [Act.put, List.setIfInBounds_toArray, List.set_cons_zero, List.set_cons_succ])
 refine wpTill_pure (i := 14) (v := ?_) rfl (by kernel_rfl) (by kernel_rfl) (by kernel_rfl) (by kernel_rfl) (fun _ _ _ h => h) (Or.inl ⟨by rfl, ?_⟩) (fun _ => hC0) ?_
 rotate_left
 ·intro w hSw; clear hSw; go_simp; (try with_reducible rfl)
 (try simp only [List.getElem_toArray, List.getElem_cons_succ, List.getElem_cons_zero])
 (try simp only [Act.put, List.setIfInBounds_toArray, List.set_cons_zero, List.set_cons_succ])
 refine wpTill_pure (i := 15) (v := ?_) rfl (by kernel_rfl) (by kernel_rfl) (by kernel_rfl) (by kernel_rfl) (fun _ _ _ h => h) (Or.inl ⟨by rfl, ?_⟩) (fun _ => hC0) ?_
 rotate_left
 ·intro w hSw; clear hSw; go_simp; (try with_reducible rfl)
 (try simp only [List.getElem_toArray, List.getElem_cons_succ, List.getElem_cons_zero])
 (try simp only [Act.put, List.setIfInBounds_toArray, List.set_cons_zero, List.set_cons_succ])
 refine wpTill_deep (i := 16) (v := ?_) [17, 18, 19, 20] rfl (by kernel_rfl) (by kernel_rfl) (by kernel_rfl) (by kernel_rfl) (by kernel_rfl) (by kernel_rfl) (by kernel_rfl) (fun _ _ _ h => h) (Or.inl ⟨by rfl, ?_⟩) hC0 ?_
 rotate_left
 ·intro w hSw; (try dsimp only at hSw); obtain ⟨⟨z0, z1⟩, z2, z3⟩ := hSw; go_simp; (try with_reducible rfl)
 (try simp only [List.getElem_toArray, List.getElem_cons_succ, List.getElem_cons_zero])
 (try simp only [Act.put, List.setIfInBounds_toArray, List.set_cons_zero, List.set_cons_succ])
 refine wpTill_one (k := 17) (by kernel_rfl) rfl (fun K hK => ?_)
 (try simp only [List.getElem_toArray, List.getElem_cons_succ, List.getElem_cons_zero])
 go_simp
 refine (unhide HMU _ bd0).mono ?_
 rintro e w1 ⟨t, a1, n1, c1, rfl, hv2, hsg, hb1⟩
 have cc_1 := bstep bd0 hb1
 have hC_1 : (fun w' : World => (w'.cell? ⟨b', o', none⟩ = some (.bool s) ∧ w'.cell? ⟨b', o' + 1, none⟩ = some (.slice a n c)) ∧ w'.cell? ⟨b'', o'', none⟩ = some (.bool s2) ∧ w'.cell? ⟨b'', o'' + 1, none⟩ = some (.slice a2 n2 c2)) w1 := unhide HCC _ cc_1
 refine hK.out _ _ (fun _ => hC_1) ?_
 clear hK K
 (try simp only [Act.put, List.setIfInBounds_toArray, List.set_cons_zero, List.set_cons_succ])
 refine wpTill_pure (i := 18) (v := ?_) rfl (by kernel_rfl) (by kernel_rfl) (by kernel_rfl) (by kernel_rfl) (fun _ _ _ h => h) (Or.inl ⟨by rfl, ?_⟩) (fun _ => hC_1) ?_
 rotate_left
 ·intro w hSw; clear hSw; go_simp; (try with_reducible rfl)
 (try simp only [List.getElem_toArray, List.getElem_cons_succ, List.getElem_cons_zero])
 (try simp only [Act.put, List.setIfInBounds_toArray, List.set_cons_zero, List.set_cons_succ])
 refine wpTill_pure (i := 19) (v := ?_) rfl (by kernel_rfl) (by kernel_rfl) (by kernel_rfl) (by kernel_rfl) (fun _ _ _ h => h) (Or.inl ⟨by rfl, ?_⟩) (fun _ => hC_1) ?_
 rotate_left
 ·intro w hSw; clear hSw; go_simp; (try with_reducible rfl)
 (try simp only [List.getElem_toArray, List.getElem_cons_succ, List.getElem_cons_zero])
 (try simp only [Act.put, List.setIfInBounds_toArray, List.set_cons_zero, List.set_cons_succ])
 refine wpTill_one (k := 20) (by kernel_rfl) rfl (fun K hK => ?_)
 (try simp only [List.getElem_toArray, List.getElem_cons_succ, List.getElem_cons_zero])
 go_simp
 refine (give_any b o t a1 n1 c1 w1 ((unhide HK).below cc_1)).mono ?_
 rintro e w2 ⟨rfl, rfl⟩
 refine hK.out _ _ (fun h => absurd (h.symm.trans (by kernel_rfl)) Bool.false_ne_true) ?_
 clear hK K
 (try simp only [Act.put, List.setIfInBounds_toArray, List.set_cons_zero, List.set_cons_succ])
 refine wpTill_one (k := 21) (by kernel_rfl) rfl (fun K hK => ?_)
 (try simp only [List.getElem_toArray, List.getElem_cons_succ, List.getElem_cons_zero])
 go_simp
 refine hK.out _ _ (fun h => absurd (h.symm.trans (by kernel_rfl)) Bool.false_ne_true) ?_
 clear hK K
 (try simp only [Act.put, List.setIfInBounds_toArray, List.set_cons_zero, List.set_cons_succ])
 refine wpTill_done (by kernel_rfl) ?_ _
 have hq : (t && decide (0 < n1)) = decide (N + M < 0) := neg_len (N := N + M) hv2 hsg
 have HV := hide hv2
 have HB := hide cc_1
 have HQ := hide hq
 clear hq hv2 cc_1 hb1 hC_1 hC0 bd0 HCC HMU hsg
 go_wp2
 go_ret
 exact ⟨rfl, w1, a1, n1, c1, unhide HB, unhide HV, by rw [unhide HQ]⟩
end Go.Proofs.YtcelbgleajpenaaGreatDoor
namespace Go.Proofs.YtcelbgleajpenaaGreatDoor
open Go.RowKit Go.Sort Go.Shelf

theorem rquo_math (x y : Rat) : Rat.divInt (x.num * (y.den : Int)) ((x.den : Int) * y.num) = x / y := by
 rw [Rat.div_def, Rat.inv_def]
 conv => rhs; lhs; rw [← Rat.num_divInt_den x]
 rw [Rat.divInt_mul_divInt]
theorem radd_math (x y : Rat) : Rat.divInt (x.num * (y.den : Int) + y.num * (x.den : Int)) ((x.den : Int) * (y.den : Int)) = x + y := by
 conv => rhs; rw [← Rat.num_divInt_den x, ← Rat.num_divInt_den y]
 rw [Rat.divInt_add_divInt _ _ (by have := x.den_pos; omega) (by have := y.den_pos; omega)]
theorem rmul_math (x y : Rat) : Rat.divInt (x.num * y.num) ((x.den : Int) * (y.den : Int)) = x * y := by
 conv => rhs; rw [← Rat.num_divInt_den x, ← Rat.num_divInt_den y]
 rw [Rat.divInt_mul_divInt]
theorem pw_both (j : Nat) : Wd.pw j = Wh.pw (2 * j) := by
 induction j with
 | zero => rfl
 | succ j ih =>
  rw [Wd.pw_succ, show 2 * (j + 1) = 2 * j + 1 + 1 by omega, Wh.pw_succ, Wh.pw_succ, ih]
  omega
theorem smh_pw {N : Int} {j : Nat} (h : N < Wd.pw j) (hj : j ≤ 500000) : SmH N := by
 rw [pw_both] at h
 exact Int.lt_of_lt_of_le h (Wh.pw_mono (by omega))
theorem txt_pw {N : Int} {j : Nat} (h : (N.natAbs : Int) < Wd.pw j) (hj : j ≤ 200000) : Txt N := by
 refine ⟨smh_pw h (by omega), ?_⟩
 have h1 := Int.lt_of_lt_of_le h (pw_dec j)
 have h2 : N.natAbs < 10 ^ (20 * j + 19 + 1) := by
  have e : 10 ^ (20 * j) ≤ 10 ^ (20 * j + 19 + 1) := Nat.pow_le_pow_right (by decide) (by omega)
  have h0 : 0 < 10 ^ (20 * j) := Nat.pow_pos (by decide)
  generalize 10 ^ (20 * j + 19 + 1) = Y at *
  generalize 10 ^ (20 * j) = X at *
  omega
 have h3 := Dd.dec_len_le (20 * j + 19) N.natAbs h2
 omega
theorem RS.txt {q : Rat} {j : Nat} (h : RS q j) (hj : j ≤ 200000) : Txt q.num ∧ Txt (q.den : Int) := ⟨txt_pw h.1 hj, txt_pw (by rw [Int.natAbs_natCast]; exact h.2) hj⟩
theorem smh_mul {x y : Int} {i j : Nat} (hx : (x.natAbs : Int) < Wd.pw i) (hy : (y.natAbs : Int) < Wd.pw j) (h : i + j ≤ 400001) : SmH ((x * y).natAbs : Int) := by
 rw [Int.natAbs_mul]
 exact smh_pw (prod_bd hx hy) (by omega)
theorem smh_add {x y : Int} {k : Nat} (hx : (x.natAbs : Int) < Wd.pw k) (hy : (y.natAbs : Int) < Wd.pw k) (h : k ≤ 400001) : SmH ((x + y).natAbs : Int) := by
 have t := pw_two hx hy
 exact smh_pw (j := k + 1) (Int.lt_of_le_of_lt (by have := Int.natAbs_add_le x y; omega) t) (by omega)

def BRz (w : World) (b o : Nat) (q : Rat) : Prop := BInt w b o q.num ∧ (BInt w b (o + 2) (q.den : Int) ∨ (q = 0 ∧ BInt w b (o + 2) 0))
theorem BRat.z {w : World} {b o : Nat} {q : Rat} (h : BRat w b o q) : BRz w b o q := ⟨h.1, Or.inl h.2⟩
theorem BRz.below {w w' : World} {b o : Nat} {q : Rat} (h : BRz w b o q) (hb : Below w.heap.size w w') : BRz w' b o q := ⟨h.1.below hb, h.2.imp (fun k => k.below hb) (fun k => ⟨k.1, k.2.below hb⟩)⟩
theorem bint_of {W : World} {g o : Nat} {T : TypeId} {cs : Array Value} (h : W.heap[g]? = some (.cells cs T)) (h0 : cs[o]? = some (.bool false)) (h1 : cs[o + 1]? = some (.slice none 0 0)) : BInt W g o 0 :=
 ⟨by simp [World.cell?, h, h0], ⟨none, 0, 0, by simp [World.cell?, h, h1], hNat_zero _ _ _ (by decide)⟩, by simp [World.frozen?, h], by simp [World.frozen?, h], (Array.getElem?_eq_some_iff.1 h).1⟩
theorem rz_new (w : World) : BRz (w.alloc (.cells #[.bool false, .slice none 0 0, .bool false, .slice none 0 0] 86)) w.heap.size 0 0 :=
 ⟨bint_of (heap_alloc_new w _) rfl rfl, Or.inr ⟨rfl, bint_of (heap_alloc_new w _) rfl rfl⟩⟩
def DenAt (w : World) (b o : Nat) (D : Int) (e : Ending) (w' : World) : Prop := ∃ b' o', e = .returned (.pointer (some ⟨b', o', none⟩)) ∧ BInt w' b' o' D ∧ Below w.heap.size w w' ∧ ((b' = b ∧ o' = o + 2) ∨ w.heap.size ≤ b')
set_option maxHeartbeats 16000000 in
set_option maxRecDepth 100000 in
set_option linter.unusedSimpArgs false in
theorem denz_any (b o : Nat) (q : Rat) (w : World) (x : BRz w b o q) :
  Calls Tryz.prog 59 #[.pointer (some ⟨b, o, none⟩)] w (DenAt w b o (q.den : Int)) := by
 rcases x with ⟨x1, x2 | ⟨rfl, x2⟩⟩
 ·refine (den_any b o q w ⟨x1, x2⟩).mono ?_
  rintro e w' ⟨rfl, rfl⟩
  exact ⟨b, o + 2, rfl, x2, Below.refl _ _, Or.inl ⟨rfl, rfl⟩⟩
 ·obtain ⟨a, n, c, ea, a', n', c', e, hl, _⟩ := x2.ab
  injection e with e1 e2 e3
  subst e2
  obtain rfl : n = 0 := hl.of_zero
  have HN := hide (newInt_any 1 (by decide) (by decide) w)
  clear hl x1 x2
  go_enter Tryz.func59, Tryz.ntmps59
  go_wp2_with fail
  refine (unhide HN).mono ?_
  rintro e w1 ⟨b1, rfl, hb1, hi1, hl1⟩
  have HI := hide hi1
  have HL := hide hl1
  have HB := hide hb1
  clear hi1 hl1 hb1
  go_wp2
  go_ret
  exact ⟨b1, 0, rfl, unhide HI, unhide HL, Or.inr (unhide HB)⟩
structure Tags (n : Nat) (w0 w : World) (t : Nat → Option (Nat × Nat × Int)) : Prop where
 bl : Below w0.heap.size w0 w
 int : ∀ i g o N, t i = some (g, o, N) → BInt w g o N
 own : ∀ i g o N, i < n → t i = some (g, o, N) → w0.heap.size ≤ g ∧ o = 0
 far : ∀ i j g o N g' o' N', i < n → i ≠ j → t i = some (g, o, N) → t j = some (g', o', N') → ApartI g o g' o'
def upd (t : Nat → Option (Nat × Nat × Int)) (i : Nat) (x : Nat × Nat × Int) : Nat → Option (Nat × Nat × Int) := fun j => if j = i then some x else t j
theorem Tags.start (n : Nat) (w : World) : Tags n w w (fun _ => none) := ⟨Below.refl _ _, fun _ _ _ _ h => (by cases h), fun _ _ _ _ _ h => (by cases h), fun _ _ _ _ _ _ _ _ _ _ h => (by cases h)⟩
theorem upd_cases {t : Nat → Option (Nat × Nat × Int)} {i j : Nat} {x y : Nat × Nat × Int} (h : upd t i x j = some y) : (j = i ∧ x = y) ∨ (j ≠ i ∧ t j = some y) := by
 unfold upd at h
 by_cases e : j = i
 ·rw [if_pos e] at h; exact Or.inl ⟨e, Option.some.inj h⟩
 ·rw [if_neg e] at h; exact Or.inr ⟨e, h⟩
theorem Tags.new {n : Nat} {w0 w : World} {t : Nat → Option (Nat × Nat × Int)} (h : Tags n w0 w t) (i : Nat) : Tags n w0 (w.alloc (.cells #[.bool false, .slice none 0 0] 84)) (upd t i (w.heap.size, 0, 0)) := by
 have bm := abelow w (.cells #[.bool false, .slice none 0 0] 84)
 refine ⟨bstep h.bl bm, fun j g o N e => ?_, fun j g o N hj e => ?_, fun j k g o N g' o' N' hj hne e e' => ?_⟩
 ·rcases upd_cases e with ⟨rfl, q⟩ | ⟨_, q⟩
  ·injection q with e1 e2; injection e2 with e2 e3; subst e1 e2 e3; exact int_new w
  ·exact (h.int j g o N q).below bm
 ·rcases upd_cases e with ⟨rfl, q⟩ | ⟨_, q⟩
  ·injection q with e1 e2; injection e2 with e2 e3; subst e1 e2 e3; exact ⟨h.bl.size, rfl⟩
  ·exact h.own j g o N hj q
 ·rcases upd_cases e with ⟨rfl, q⟩ | ⟨h1, q⟩
  ·rcases upd_cases e' with ⟨rfl, q'⟩ | ⟨h2, q'⟩
   ·exact absurd rfl hne
   ·injection q with e1 e2; subst e1; have := (h.int k g' o' N' q').lt; exact fun ee => by omega
  ·rcases upd_cases e' with ⟨rfl, q'⟩ | ⟨h2, q'⟩
   ·injection q' with e1 e2; subst e1; have := (h.int j g o N q).lt; exact fun ee => by omega
   ·exact h.far j k g o N g' o' N' hj hne q q'
theorem Tags.den {n : Nat} {w0 w w' : World} {t : Nat → Option (Nat × Nat × Int)} (h : Tags n w0 w t) {i b b' o' : Nat} {D : Int} (hi : n ≤ i) (hb : b < w0.heap.size) (hd : BInt w' b' o' D) (hl : Below w.heap.size w w') (ho : b' = b ∨ w.heap.size ≤ b') : Tags n w0 w' (upd t i (b', o', D)) := by
 refine ⟨bstep h.bl hl, fun j g o N e => ?_, fun j g o N hj e => ?_, fun j k g o N g' o1 N' hj hne e e' => ?_⟩
 ·rcases upd_cases e with ⟨rfl, q⟩ | ⟨_, q⟩
  ·injection q with e1 e2; injection e2 with e2 e3; subst e1 e2 e3; exact hd
  ·exact (h.int j g o N q).below hl
 ·rcases upd_cases e with ⟨rfl, q⟩ | ⟨_, q⟩
  ·omega
  ·exact h.own j g o N hj q
 ·rcases upd_cases e with ⟨rfl, q⟩ | ⟨h1, q⟩
  ·omega
  ·rcases upd_cases e' with ⟨rfl, q'⟩ | ⟨h2, q'⟩
   ·injection q' with e1 e2; subst e1; have := (h.int j g o N q).lt; have := (h.own j g o N hj q).1; exact fun ee => by omega
   ·exact h.far j k g o N g' o1 N' hj hne q q'
theorem Tags.gives {n : Nat} {w0 w w' : World} {t : Nat → Option (Nat × Nat × Int)} (h : Tags n w0 w t) {i g : Nat} {N M : Int} {e : Ending} (hi : i < n) (ht : t i = some (g, 0, M)) (hG : GivesAt w g 0 N e w') : Tags n w0 w' (upd t i (g, 0, N)) := by
 have sl := (h.int i g 0 M ht).slot
 refine ⟨hG.bl h.bl (h.own i g 0 M hi ht).1, fun j g' o N' e => ?_, fun j g' o N' hj e => ?_, fun j k g1 o N1 g' o1 N' hj hne e e' => ?_⟩
 ·rcases upd_cases e with ⟨rfl, q⟩ | ⟨hn, q⟩
  ·injection q with e1 e2; injection e2 with e2 e3; subst e1 e2 e3; exact hG.int sl
  ·exact hG.other sl (h.int j g' o N' q) (h.far i j g 0 M g' o N' hi (Ne.symm hn) ht q)
 ·rcases upd_cases e with ⟨rfl, q⟩ | ⟨_, q⟩
  ·injection q with e1 e2; injection e2 with e2 e3; subst e1 e2 e3; exact h.own j g 0 M hj ht
  ·exact h.own j g' o N' hj q
 ·rcases upd_cases e with ⟨rfl, q⟩ | ⟨h1, q⟩
  ·rcases upd_cases e' with ⟨rfl, q'⟩ | ⟨h2, q'⟩
   ·exact absurd rfl hne
   ·injection q with e1 e2; injection e2 with e2 e3; subst e1 e2; exact h.far j k g 0 M g' o1 N' hj hne ht q'
  ·rcases upd_cases e' with ⟨rfl, q'⟩ | ⟨h2, q'⟩
   ·injection q' with e1 e2; injection e2 with e2 e3; subst e1 e2; exact h.far j k g1 o N1 g 0 M hj hne q ht
   ·exact h.far j k g1 o N1 g' o1 N' hj hne q q'
def allB (f : Bool → Bool) : Bool := f false && f true
theorem allB_of {f : Bool → Bool} (h : allB f = true) (b : Bool) : f b = true := by
 unfold allB at h
 rw [Bool.and_eq_true] at h
 cases b
 ·exact h.1
 ·exact h.2
def upto5 (f : Nat → Bool) : Bool := f 0 && (f 1 && (f 2 && (f 3 && f 4)))
theorem upto5_of {f : Nat → Bool} (h : upto5 f = true) (k : Nat) (hk : k ≤ 4) : f k = true := by
 unfold upto5 at h
 simp only [Bool.and_eq_true] at h
 match k, hk with
 | 0, _ => exact h.1
 | 1, _ => exact h.2.1
 | 2, _ => exact h.2.2.1
 | 3, _ => exact h.2.2.2.1
 | 4, _ => exact h.2.2.2.2
theorem not_of {g : Bool} (h : (!g) = true) : g = false := by cases g <;> simp_all
theorem walk_any {P : Program} {ops : Array Oper} {Q : Exit → Act → World → Prop} {C : World → Prop} {md : Region.Mode} {S : Type} (mk : S → Array Bool) (fuel : S → Nat) (fin : S → Bool) (next : S → Nat → Option S) (I : S → Act → World → Prop)
  (hne : ∀ s, fin s = false → (Region.ready md ops (mk s)).isEmpty = false)
  (hck : ∀ s, fin s = false → (Region.ready md ops (mk s)).all (fun i => match next s i with | some s' => ((mk s).setIfInBounds i true == mk s') && (fuel s == fuel s' + 1) | none => false) = true)
  (hst : ∀ s i s', next s i = some s' → ∀ a w, I s a w → wpOp P ops Q i (fun a' w' => C w' ∧ I s' a' w') a w)
  (hf : ∀ s, fin s = true → ∀ a w, I s a w → wpHold P md ops Q C (fuel s) (mk s) a w) :
  ∀ n s, fuel s = n → ∀ a w, I s a w → wpHold P md ops Q C n (mk s) a w := by
 have hr : ∀ s, fin s = false → ∀ i ∈ Region.ready md ops (mk s), ∃ s', (mk s).setIfInBounds i true = mk s' ∧ fuel s = fuel s' + 1 ∧ ∀ a w, I s a w → wpOp P ops Q i (fun a' w' => C w' ∧ I s' a' w') a w := fun s e i hi => by
  have hk := List.all_eq_true.1 (hck s e) i hi
  cases en : next s i with
  | none => rw [en] at hk; cases hk
  | some s' =>
   rw [en] at hk
   simp only [Bool.and_eq_true, beq_iff_eq] at hk
   exact ⟨s', hk.1, hk.2, hst s i s' en⟩
 intro n
 induction n with
 | zero =>
  intro s hs a w h
  cases e : fin s with
  | true => rw [← hs]; exact hf s e a w h
  | false =>
   have hn := hne s e
   cases el : Region.ready md ops (mk s) with
   | nil => rw [el] at hn; cases hn
   | cons i r =>
    obtain ⟨s', _, h2, _⟩ := hr s e i (by rw [el]; exact List.mem_cons_self ..)
    omega
 | succ n ih =>
  intro s hs a w h
  cases e : fin s with
  | true => rw [← hs]; exact hf s e a w h
  | false =>
   have hn := hne s e
   refine ⟨fun e' => (by rw [e'] at hn; cases hn), fun i hi => ?_⟩
   obtain ⟨s', h1, h2, h3⟩ := hr s e i hi
   exact wpOp_mono (fun a' w' h' => ⟨h'.1, by rw [h1]; exact ih s' (by omega) a' w' h'.2⟩) (h3 a w h)
theorem wpHoldz_listed {P : Program} {md : Region.Mode} {ops : Array Oper} {Q : Exit → Act → World → Prop} {C : World → Prop} {m n : Nat} {L L' : Array Bool} {a : Act} {w : World} (hn : m = n) (h : L = L') (H : wpHold P md ops Q C n L' a w) : wpHold P md ops Q C m L a w := by subst hn; subst h; exact H
theorem wpHoldz_name {P : Program} {md : Region.Mode} {ops : Array Oper} {Q : Exit → Act → World → Prop} {C : World → Prop} {n : Nat} {L : Array Bool} {a : Act} {w : World} (H : ∀ a0, a0 = a → wpHold P md ops Q C n L a0 w) : wpHold P md ops Q C n L a w := H a rfl
end Go.Proofs.YtcelbgleajpenaaGreatDoor
