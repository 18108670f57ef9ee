/- The checker's division, and its greatest divisor, of numbers of any length. -/
import Derived.Test.YtcelbgleajpenaaGreatDoorB26
import Derived.Test.YtcelbgleajpenaaGreatDoorB12
namespace Go.Proofs.YtcelbgleajpenaaGreatDoor
open Go.RowKit Go.Sort Go.Shelf

theorem pw1 : Wh.pw 1 = 4294967296 := rfl
theorem pw2' : Wh.pw 2 = 18446744073709551616 := by decide

set_option maxHeartbeats 4000000 in
set_option maxRecDepth 100000 in
set_option linter.unusedSimpArgs false in
theorem div32_less (va vb : Value) (A B : Int) (w : World) (ha : HNat w va A) (hb : HNat w vb B) (sa : SmH A) (hB : 0 < B) (hAB : A < B) :
    Calls Tryz.prog 150 #[va, vb] w (DivPost w A B) := by
  have A0 : 0 ≤ A := ha.nn
  have HCM := hide (cmp32_any va vb A B w ha hb)
  have HA := hide ha
  obtain ⟨a, n, c, rfl, hl, h1, h2, h3⟩ := ha
  obtain ⟨a', m, c', rfl, hl', h1', h2', h3'⟩ := hb
  have hm0 : 0 < m := by
    rcases Nat.eq_zero_or_pos m with h0 | h0
    · subst h0; have := hl'.zero; omega
    · exact h0
  have mb : ((m : Int) == 0) = false := by simp; omega
  have HTW : Hid (∀ k, Calls Tryz.prog 147 #[.slice a n c] (w.drewN k) fun e w' => ∃ a n c, e = .returned (.slice a n c) ∧ HNat w' (.slice a n c) A ∧ Below (w.drewN k).heap.size (w.drewN k) w') := fun k => twin_any _ A _ ((unhide HA).below (bdrew _ k)) sa
  rw [Wh.sg_lt hAB] at HCM
  have HQ : Hid (A / B = 0 ∧ A % B = A) := ⟨Int.ediv_eq_zero_of_lt A0 hAB, Int.emod_eq_of_lt A0 hAB⟩
  clear h3 h3' hl hl' hm0 sa hB hAB A0
  go_enter Tryz.func150, Tryz.ntmps150
  go_wp2_with fail
  refine (unhide HCM).mono ?_
  rintro e w1 ⟨rfl, k, rfl⟩
  have HT2 := hide (unhide HTW k)
  go_wp2_with fail
  refine (unhide HT2).mono ?_
  rintro e w2 ⟨a1, n1, c1, rfl, hv1, hb1⟩
  have HV := hide hv1
  have HBB := hide (bstep (bdrew w k) hb1)
  clear hv1 hb1
  go_wp2
  exact bodyPost_ret (v := .tuple #[.slice none 0 0, .slice a1 n1 c1]) (by simp [results, Tryz.results150, go_sem]) rfl ⟨_, _, rfl, by rw [(unhide HQ).1]; exact hNat_zero _ _ _ (by decide), by rw [(unhide HQ).2]; exact unhide HV, unhide HBB⟩

set_option maxHeartbeats 4000000 in
set_option maxRecDepth 100000 in
set_option linter.unusedSimpArgs false in
theorem div32_word (va vb : Value) (A B : Int) (w : World) (ha : HNat w va A) (hb : HNat w vb B) (sa : SmH A) (hB : 0 < B) (hBA : B ≤ A) (hA2 : Wh.pw 2 ≤ A) (hB1 : B < Wh.pw 1) :
    Calls Tryz.prog 150 #[va, vb] w (DivPost w A B) := by
  have HA := hide ha
  obtain ⟨a, n, c, rfl, hl, hra⟩ := ha
  obtain ⟨a', m, c', rfl, hl', hrb⟩ := hb
  have hn3 : 3 ≤ n := by
    rcases Nat.lt_or_ge n 3 with h | h
    · have := Wh.pw_mono (m := n) (n := 2) (by omega); have := hl.2.1; omega
    · exact h
  have hm1 : m = 1 := by
    have h1 := len_le hl' hB1
    rcases Nat.eq_zero_or_pos m with h0 | h0
    · subst h0; have := hl'.zero; omega
    · omega
  subst hm1
  have hsg : ¬ Wh.sg A B < 0 := by
    unfold Wh.sg
    rw [if_neg (by omega)]
    by_cases e : A = B
    · rw [if_pos e]; decide
    · rw [if_neg e]; decide
  have HCP := hide (cmp32_any (.slice a n c) (.slice a' 1 c') A B w ⟨a, n, c, rfl, hl, hra⟩ ⟨a', 1, c', rfl, hl', hrb⟩)
  obtain ⟨z, hz⟩ : ∃ z, Wh.sg A B = z := ⟨_, rfl⟩
  rw [hz] at HCP hsg
  have hsg' : decide (z < 0) = false := by rw [decide_eq_false_iff_not]; exact hsg
  have e2 : decide ((n : Int) ≤ 2) = false := by rw [decide_eq_false_iff_not]; omega
  have hvB : Wh.dig B 0 = B := by
    have := Wh.vl_dig_all hl'.1 hl'.2.1
    rw [Wh.vl_one] at this
    exact this
  obtain ⟨h1, h2, h3⟩ := hrb
  obtain ⟨b, o, rfl, hlt, hc⟩ := h3 (by decide)
  have c0 := hc 0 (by decide)
  rw [Nat.add_zero, hvB] at c0
  have HSM : Hid (∀ k, Calls Tryz.prog 176 #[.slice a n c, .int .u32 B] (w.drewN k) fun e w' => ∃ v, e = .returned (.tuple #[v, .int .u32 (A % B)]) ∧ HNat w' v (A / B) ∧ Below (w.drewN k).heap.size (w.drewN k) w') := fun k => small_any _ A B _ ((unhide HA).below (bdrew _ k)) sa (by omega) (by rw [← pw1]; exact hB1)
  have r0 : 0 ≤ A % B := Int.emod_nonneg _ (by omega)
  have r1 : A % B < B := Int.emod_lt_of_pos _ hB
  obtain ⟨r, hr⟩ : ∃ r, A % B = r := ⟨_, rfl⟩
  rw [hr] at r0 r1
  have HR := hide hr
  have HRW : Hid (Wh.W32 r) := ⟨r0, by rw [pw1] at hB1; omega⟩
  rw [hr] at HSM
  clear hl hl' hra h3 hc hsg hz hn3 sa hBA hA2 hB1 hvB r0 r1 hr hB
  go_enter Tryz.func150, Tryz.ntmps150
  go_wp2_with fail
  refine (unhide HCP).mono ?_
  rintro e w1 ⟨rfl, k, rfl⟩
  have HS2 := hide (unhide HSM k)
  go_wp2_with fail
  refine (unhide HS2).mono ?_
  rintro e w2 ⟨v2, rfl, hv2, hb2⟩
  have hrow : HRow (w2.alloc (.cells #[.int .u32 r] 175)) (some ⟨w2.heap.size, 0, none⟩) 1 1 (fun _ => r) := by
    refine ⟨by decide, by decide, fun _ => ⟨_, 0, rfl, (Array.getElem?_eq_some_iff.1 (heap_alloc_new w2 _)).1, fun j hj => ?_⟩⟩
    obtain rfl : j = 0 := by omega
    simp
  have HT := hide (trim32_any _ 1 1 _ _ hrow (fun _ _ => unhide HRW))
  have HN : Hid (∀ m, m ≤ 1 → Wh.Len (Wh.vl (fun _ => r) 1) m → HNat (w2.alloc (.cells #[.int .u32 r] 175)) (.slice (some ⟨w2.heap.size, 0, none⟩) m 1) r) := fun m hm hl => by
    have h := hNat_trim hrow (fun _ _ => unhide HRW) hm hl
    rw [Wh.vl_one] at h
    exact h
  have HBA := hide (abelow w2 (.cells #[.int .u32 r] 175))
  have HV2 := hide (hv2.below (unhide HBA))
  have HB2 := hide (bstep (bstep (bdrew w k) hb2) (unhide HBA))
  obtain ⟨a2, n2, cc2, rfl, _⟩ := hv2
  clear hrow hb2
  go_wp2_with fail
  refine (unhide HT).mono ?_
  rintro e w3 ⟨m, rfl, hm, hl, rfl⟩
  have HV := hide (unhide HN m hm hl)
  clear hl
  go_wp2
  go_ret2
  exact ⟨_, _, rfl, unhide HV2, by rw [unhide HR]; exact unhide HV, unhide HB2⟩

theorem div32_any (va vb : Value) (A B : Int) (w : World) (ha : HNat w va A) (hb : HNat w vb B) (sa : SmH A) (hB : 0 < B) :
    Calls Tryz.prog 150 #[va, vb] w (DivPost w A B) := by
  by_cases h2 : A < 18446744073709551616
  · exact (divS_any va vb A B w ha hb h2 hB).mono (fun e w' h => h)
  by_cases hAB : A < B
  · exact div32_less va vb A B w ha hb sa hB hAB
  by_cases h1 : B < Wh.pw 1
  · exact div32_word va vb A B w ha hb sa hB (by omega) (by rw [pw2']; omega) h1
  · exact div32_long va vb A B w ha hb sa (by omega) (by rw [pw2']; omega) (by omega)

theorem smh_nat {A B : Nat} (h : SmH (A : Int)) (hle : B ≤ A) : SmH (B : Int) := h.le (by omega)
theorem HNat.uniq {w : World} {v : Value} {M N : Int} (h : HNat w v M) (h' : HNat w v N) : M = N := by
  obtain ⟨a, n, c, rfl, hl, hr⟩ := h
  obtain ⟨a', n', c', e, hl', hr'⟩ := h'
  injection e with e1 e2 e3
  subst e1 e2 e3
  rcases Nat.eq_zero_or_pos n with h0 | h0
  · subst h0
    rw [hl.zero, hl'.zero]
  · obtain ⟨b, o, e4, _, hc⟩ := hr.2.2 h0
    obtain ⟨b', o', e5, _, hc'⟩ := hr'.2.2 h0
    subst e4
    injection e5 with e5
    injection e5 with e6 e7
    subst e6; subst e7
    rw [← Wh.vl_dig_all hl.1 hl.2.1, ← Wh.vl_dig_all hl'.1 hl'.2.1]
    refine Wh.vl_congr (fun j hj => ?_)
    have e8 := (hc j hj).symm.trans (hc' j hj)
    injection e8 with e8
    injection e8
/-- The number that a value stands for, for a loop's measure. -/
theorem exists_numH : ∃ numH : World → Value → Nat, ∀ (w : World) (v : Value) (N : Int), HNat w v N → numH w v = N.toNat :=
  ⟨fun w v => (Classical.epsilon (fun N : Int => HNat w v N)).toNat, fun w v N h => by
    have := Classical.epsilon_spec (p := fun N : Int => HNat w v N) ⟨N, h⟩
    show (Classical.epsilon (fun N : Int => HNat w v N)).toNat = _
    rw [HNat.uniq this h]⟩
theorem len_pos {w : World} {a : Option Addr} {n c : Nat} {D : Int} (h : HNat w (.slice a n c) D) (hn : 0 < n) : 0 < D := by
  obtain ⟨a', n', c', e, hl, _⟩ := h
  injection e with e1 e2 e3
  subst e2
  exact hl.pos hn
theorem len_two {w : World} {a : Option Addr} {n c : Nat} {D : Int} (h : HNat w (.slice a n c) D) (hn : n ≤ 2) : D < 18446744073709551616 := by
  obtain ⟨a', n', c', e, hl, _⟩ := h
  injection e with e1 e2 e3
  subst e2
  have := Wh.pw_mono (m := n) (n := 2) hn
  have := hl.2.1
  rw [pw2'] at *
  omega
set_option maxHeartbeats 8000000 in
set_option maxRecDepth 100000 in
set_option linter.unusedSimpArgs false in
theorem common_any (va vb : Value) (A B : Nat) (w : World) (ha : HNat w va (A : Int)) (hb : HNat w vb (B : Int)) (sa : SmH (A : Int)) (sb : SmH (B : Int)) :
    Calls Tryz.prog 149 #[va, vb] w fun e w' => ∃ v, e = .returned v ∧ HNat w' v ((Nat.gcd A B : Nat) : Int) ∧ Below w.heap.size w w' := by
  have HA := hide ha
  have HB := hide hb
  have HSA := hide sa
  have HSB := hide sb
  obtain ⟨a0, n0, c0, rfl, -⟩ := ha
  obtain ⟨a1, n1, c1, rfl, -⟩ := hb
  obtain ⟨numH, numEq⟩ := exists_numH
  have HNE := hide numEq
  clear sa sb numEq
  go_enter Tryz.func149, Tryz.ntmps149
  go_wp2_with fail
  go_loopw [0, 1] (fun va vb wr => ∃ (X Y : Nat) (a a' : Option Addr) (n c m c' : Nat), va = .slice a n c ∧ vb = .slice a' m c' ∧ HNat wr va (X : Int) ∧ HNat wr vb (Y : Int) ∧ SmH (X : Int) ∧ SmH (Y : Int) ∧ Nat.gcd X Y = Nat.gcd A B ∧ Below w.heap.size w wr) (fun _ vb wr => numH wr vb)
  case atStart => exact ⟨A, B, _, _, _, _, _, _, rfl, rfl, unhide HA, unhide HB, unhide HSA, unhide HSB, rfl, Below.refl _ _⟩
  case round =>
    obtain ⟨X, Y, a, a', n, c, m, c', rfl, rfl, hX, hY, sX, sY, hg, hbl⟩ := hrel
    obtain ⟨wq, rfl⟩ : ∃ W, W = wr := ⟨_, rfl⟩
    have HX := hide hX
    have HY := hide hY
    have HSX := hide sX
    have HSY := hide sY
    have HG := hide hg
    have HBL := hide hbl
    have hm6 : m ≤ 1000000 := by obtain ⟨a', n', c', e, hl, _⟩ := hY; injection e with e1 e2 e3; subst e2; exact sY.len hl
    have hn6 : n ≤ 1000000 := by obtain ⟨a', n', c', e, hl, _⟩ := hX; injection e with e1 e2 e3; subst e2; exact sX.len hl
    by_cases hm : 2 < m
    · have m2 : (2 : Int) < (m : Int) := by omega
      have hYp : 0 < Y := by have := len_pos hY (by omega); omega
      have HYP := hide hYp
      have HDV := hide (div32_any (.slice a n c) (.slice a' m c') X Y wq hX hY sX (by omega))
      clear hX hY sX sY hg hbl hYp hm hm6 hn6
      go_wp2_with fail
      refine (unhide HDV).mono ?_
      rintro e w1 ⟨v1, v2, rfl, h1, h2, hb⟩
      have hc : ((X : Int) % (Y : Int)) = ((X % Y : Nat) : Int) := rfl
      rw [hc] at h2
      have HV2 := hide h2
      have HBB := hide hb
      obtain ⟨a2, n2, c2, rfl, -⟩ := h2
      clear h1 hb hc
      go_wp2_with fail
      have hmod := Nat.mod_lt X (unhide HYP)
      have q1 := unhide HNE _ _ _ (unhide HV2)
      have q2 := unhide HNE _ _ _ (unhide HY)
      exact ⟨⟨Y, X % Y, _, _, _, _, _, _, rfl, rfl, (unhide HY).below (unhide HBB), unhide HV2, unhide HSY, smh_nat (unhide HSY) (by omega), by rw [gcd_step]; exact unhide HG, bstep (unhide HBL) (unhide HBB)⟩, by rw [q1, q2]; omega⟩
    · have m2 : ¬ (2 : Int) < (m : Int) := by omega
      have hY2 := len_two hY (by omega)
      by_cases hm0 : m = 0
      · subst hm0
        have hy0 : Y = 0 := by obtain ⟨a', n', c', e, hl, _⟩ := hY; injection e with e1 e2 e3; subst e2; have := hl.zero; omega
        subst hy0
        rw [Nat.gcd_zero_right] at hg
        have HG2 := hide hg
        clear hX hY sX sY hg hbl hm hm6 hn6 hY2
        go_wp2_with fail
        (try simp only [Exit.inBlock, Exit.then])
        go_wp2
        go_ret
        exact ⟨_, rfl, by rw [← unhide HG2]; exact unhide HX, unhide HBL⟩
      · have mb : ((m : Int) == 0) = false := by simp; omega
        have hYp : 0 < Y := by have := len_pos hY (by omega); omega
        have HYP := hide hYp
        by_cases hn : 2 < n
        · have nn2 : (2 : Int) < (n : Int) := by omega
          have HDV := hide (div32_any (.slice a n c) (.slice a' m c') X Y wq hX hY sX (by omega))
          have HY2 := hide hY2
          clear hX hY sX sY hg hbl hYp hm hm6 hn6 hY2 hn hm0
          go_wp2_with fail
          (try simp only [Exit.inBlock, Exit.then])
          go_wp2_with fail
          refine (unhide HDV).mono ?_
          rintro e w1 ⟨v1, v2, rfl, h1, h2, hb⟩
          have hc : ((X : Int) % (Y : Int)) = ((X % Y : Nat) : Int) := rfl
          rw [hc] at h2
          have hmod := Nat.mod_lt X (unhide HYP)
          have HPA := hide (plain_any (.slice a' m c') (Y : Int) w1 ((unhide HY).below hb) (unhide HY2))
          have HPB := hide (plain_any v2 ((X % Y : Nat) : Int) w1 h2 (by have := unhide HY2; omega))
          have HGC : Hid (Nat.gcd Y (X % Y) = Nat.gcd A B) := by show _ = _; rw [gcd_step]; exact unhide HG
          have HZ2 : Hid (((X % Y : Nat) : Int) < 18446744073709551616) := by show _ < _; have := unhide HY2; omega
          obtain ⟨Z, hZ⟩ : ∃ Z, X % Y = Z := ⟨_, rfl⟩
          rw [hZ] at HPB HGC HZ2
          have HBB := hide (bstep (unhide HBL) hb)
          obtain ⟨a2, n2, c2, rfl, -⟩ := h2
          clear h1 hb hc hmod hZ
          go_wp2_with fail
          refine (unhide HPA).mono ?_
          rintro e wa ⟨rfl, hw1⟩
          subst hw1
          go_wp2_with fail
          refine (unhide HPB).mono ?_
          rintro e wb ⟨rfl, hw2⟩
          subst hw2
          go_wp2_with fail
          clear nn2 m2 mb
          go_loopw [9, 10] (fun vx vy wz => ∃ x y k : Nat, vx = .int .u64 (x : Int) ∧ vy = .int .u64 (y : Int) ∧ x < 18446744073709551616 ∧ y < 18446744073709551616 ∧ Nat.gcd x y = Nat.gcd A B ∧ wz = wb.drewN k) (fun _ vy _ => (intOf vy).toNat)
          case atStart => exact ⟨Y, Z, 0, rfl, rfl, by have := unhide HY2; omega, by have := unhide HZ2; omega, unhide HGC, rfl⟩
          case round =>
            obtain ⟨x, y, k, rfl, rfl, hx, hy, hgc, hwz⟩ := hrel
            by_cases hy0 : y = 0
            · subst hy0
              rw [Nat.gcd_zero_right] at hgc
              have HWO := hide (words_any (x : Int) (by omega) (by omega) (wb.drewN k))
              have HGF := hide hgc
              subst hwz
              clear hgc
              go_wp2_with fail
              (try simp only [Exit.inBlock, Exit.then])
              go_wp2_with fail
              refine (unhide HWO).mono ?_
              rintro e w9 ⟨v, rfl, hv, hb9⟩
              have HV := hide hv
              have HB9 := hide (bstep (bdrew wb k) hb9)
              clear hv hb9
              go_wp2
              go_ret
              exact ⟨_, rfl, by rw [← unhide HGF]; exact unhide HV, bstep (unhide HBB) (unhide HB9)⟩
            · have y0 : 0 < y := by omega
              have yz : ¬ (y : Int) = 0 := by omega
              have hgy : (x % y) < y := Nat.mod_lt _ (by omega)
              have tm : (x : Int).tmod (y : Int) = ((x % y : Nat) : Int) := by rw [Int.tmod_eq_emod_of_nonneg (by omega)]; rfl
              have te : (x : Int) % (y : Int) = ((x % y : Nat) : Int) := rfl
              obtain ⟨z, hz⟩ : ∃ z, x % y = z := ⟨_, rfl⟩
              rw [hz] at tm te hgy
              have uz : IntKind.u64.wrap (z : Int) = (z : Int) := by rw [IntKind.wrap_u64]; omega
              have HGF : Hid (Nat.gcd y z = Nat.gcd A B) := by show _ = _; rw [← hz, gcd_step, hgc]
              have HYF := hide hy
              have HZY := hide hgy
              subst hwz
              clear hgc hz hy0 hgy
              go_wp2_with fail
              go_quiet (fail)
              go_wp2
              exact ⟨⟨y, z, k + nq, rfl, rfl, unhide HYF, by have := unhide HZY; have := unhide HYF; omega, unhide HGF, by simp⟩, by have := unhide HZY; simp [intOf]; omega⟩
        · have nn2 : ¬ (2 : Int) < (n : Int) := by omega
          have HPA := hide (plain_any (.slice a n c) (X : Int) wq hX (len_two hX (by omega)))
          have HPB := hide (plain_any (.slice a' m c') (Y : Int) wq hY hY2)
          have HY2 := hide (len_two hX (by omega))
          have HZ2 := hide hY2
          have HGC := hide hg
          have HBB := hide hbl
          clear hX hY sX sY hg hbl hYp hm hm6 hn6 hY2 hn hm0
          go_wp2_with fail
          (try simp only [Exit.inBlock, Exit.then])
          go_wp2_with fail
          refine (unhide HPA).mono ?_
          rintro e wa ⟨rfl, hw1⟩
          subst hw1
          go_wp2_with fail
          refine (unhide HPB).mono ?_
          rintro e wb ⟨rfl, hw2⟩
          subst hw2
          go_wp2_with fail
          clear nn2 m2 mb
          go_loopw [9, 10] (fun vx vy wz => ∃ x y k : Nat, vx = .int .u64 (x : Int) ∧ vy = .int .u64 (y : Int) ∧ x < 18446744073709551616 ∧ y < 18446744073709551616 ∧ Nat.gcd x y = Nat.gcd A B ∧ wz = wb.drewN k) (fun _ vy _ => (intOf vy).toNat)
          case atStart => exact ⟨X, Y, 0, rfl, rfl, by have := unhide HY2; omega, by have := unhide HZ2; omega, unhide HGC, rfl⟩
          case round =>
            obtain ⟨x, y, k, rfl, rfl, hx, hy, hgc, hwz⟩ := hrel
            by_cases hy0 : y = 0
            · subst hy0
              rw [Nat.gcd_zero_right] at hgc
              have HWO := hide (words_any (x : Int) (by omega) (by omega) (wb.drewN k))
              have HGF := hide hgc
              subst hwz
              clear hgc
              go_wp2_with fail
              (try simp only [Exit.inBlock, Exit.then])
              go_wp2_with fail
              refine (unhide HWO).mono ?_
              rintro e w9 ⟨v, rfl, hv, hb9⟩
              have HV := hide hv
              have HB9 := hide (bstep (bdrew wb k) hb9)
              clear hv hb9
              go_wp2
              go_ret
              exact ⟨_, rfl, by rw [← unhide HGF]; exact unhide HV, bstep (unhide HBB) (unhide HB9)⟩
            · have y0 : 0 < y := by omega
              have yz : ¬ (y : Int) = 0 := by omega
              have hgy : (x % y) < y := Nat.mod_lt _ (by omega)
              have tm : (x : Int).tmod (y : Int) = ((x % y : Nat) : Int) := by rw [Int.tmod_eq_emod_of_nonneg (by omega)]; rfl
              have te : (x : Int) % (y : Int) = ((x % y : Nat) : Int) := rfl
              obtain ⟨z, hz⟩ : ∃ z, x % y = z := ⟨_, rfl⟩
              rw [hz] at tm te hgy
              have uz : IntKind.u64.wrap (z : Int) = (z : Int) := by rw [IntKind.wrap_u64]; omega
              have HGF : Hid (Nat.gcd y z = Nat.gcd A B) := by show _ = _; rw [← hz, gcd_step, hgc]
              have HYF := hide hy
              have HZY := hide hgy
              subst hwz
              clear hgc hz hy0 hgy
              go_wp2_with fail
              go_quiet (fail)
              go_wp2
              exact ⟨⟨y, z, k + nq, rfl, rfl, unhide HYF, by have := unhide HZY; have := unhide HYF; omega, unhide HGF, by simp⟩, by have := unhide HZY; simp [intOf]; omega⟩
theorem divs_any : Divs (fun m => SmH (m : Int)) where
  down := fun m k h1 h2 => smh_nat h2 h1
  sm := fun m h => h
  cm := fun W va vb A B ha hb pa pb _ => common_any va vb A B W ha hb pa pb
  dv := fun W va vb A B ha hb pa _ hB => (div32_any va vb A B W ha hb pa (by omega)).mono (by rintro e w' ⟨v, u, rfl, h1, h2, h3⟩; exact ⟨v, u, rfl, by simpa using h1, h3⟩)
end Go.Proofs.YtcelbgleajpenaaGreatDoor
