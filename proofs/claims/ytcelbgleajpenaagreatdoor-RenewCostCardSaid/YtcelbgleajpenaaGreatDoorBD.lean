/- The checker's numbers of up to two words: as plain numbers, divided, their greatest divisor. -/
import Derived.Test.YtcelbgleajpenaaGreatDoorB8
namespace Go.Proofs.YtcelbgleajpenaaGreatDoor
open Go.RowKit Go.Sort Go.Shelf

theorem bdrew (w : World) (k : Nat) : Below w.heap.size w (w.drewN k) := by
 have h := Below.refl w.heap.size w
 exact ⟨h.os, h.tape, h.output, h.size, h.block⟩
theorem len_le {A : Int} {n k : Nat} (h : Wh.Len A n) (hk : A < Wh.pw k) : n ≤ k := by
 rcases h.2.2 with h0 | h0
 ·omega
 ·rcases Nat.lt_or_ge k n with h1 | h1
  ·have := Wh.pw_mono (m := k) (n := n - 1) (by omega)
   omega
  ·exact h1
theorem pw2 : Wh.pw 2 = 18446744073709551616 := by decide
theorem smh_small {A : Int} (h : A < 18446744073709551616) : SmH A := Int.lt_of_lt_of_le (show A < Wh.pw 2 by rw [pw2]; exact h) (Wh.pw_mono (show 2 ≤ 1000000 by omega))
theorem or32' {x y : Int} (hx : Wh.W32 x) (hy : Wh.W32 y) : bits .or .u64 x (y * 4294967296) = x + y * 4294967296 := by
 rw [show bits .or .u64 x (y * 4294967296) = bits .or .u64 (y * 4294967296) x by simp only [bits, BitVec.or_comm], or32 hy.1 hy.2 hx]
 omega

set_option maxHeartbeats 4000000 in
set_option maxRecDepth 100000 in
set_option linter.unusedSimpArgs false in
theorem plain_any (va : Value) (A : Int) (w : World) (ha : HNat w va A) (sa : A < 18446744073709551616) :
  Calls Tryz.prog 175 #[va] w fun e w' => e = .returned (.int .u64 A) ∧ w' = w := by
 obtain ⟨a, n, c, rfl, hl, h1, h2, h3⟩ := ha
 have hn2 : n ≤ 2 := len_le hl (by rw [pw2]; exact sa)
 have hA : Wh.vl (Wh.dig A) n = A := Wh.vl_dig_all hl.1 hl.2.1
 have hn : n = 0 ∨ n = 1 ∨ n = 2 := by omega
 rcases hn with rfl | rfl | rfl
 ·have h0 := hl.zero
  subst h0
  clear h3 hl hA sa
  go_enter Tryz.func175, Tryz.ntmps175
  go_wp2
  go_ret
  exact ⟨rfl, rfl⟩
 ·obtain ⟨b, o, rfl, hlt, hc⟩ := h3 (by decide)
  have c0 := hc 0 (by decide)
  rw [Nat.add_zero] at c0
  rw [Wh.vl_one] at hA
  rw [hA] at c0
  have u0 : IntKind.u64.wrap A = A := by rw [IntKind.wrap_u64]; have := hl.1; omega
  clear h3 hl hA sa hc
  go_enter Tryz.func175, Tryz.ntmps175
  go_wp2
  go_ret
  exact ⟨rfl, rfl⟩
 ·obtain ⟨b, o, rfl, hlt, hc⟩ := h3 (by decide)
  have c0 := hc 0 (by decide)
  have c1 := hc 1 (by decide)
  rw [Nat.add_zero] at c0
  have w0 := Wh.dig_w A 0
  have w1 := Wh.dig_w A 1
  obtain ⟨x, hx⟩ : ∃ x, Wh.dig A 0 = x := ⟨_, rfl⟩
  obtain ⟨y, hy⟩ : ∃ y, Wh.dig A 1 = y := ⟨_, rfl⟩
  have hv : x + y * 4294967296 = A := by
   rw [show (2 : Nat) = 1 + 1 from rfl, Wh.vl_succ, Wh.vl_one, hx, hy, Wh.pw_one] at hA
   omega
  rw [hx] at c0 w0
  rw [hy] at c1 w1
  have ux : IntKind.u64.wrap x = x := by rw [IntKind.wrap_u64]; have := w0.1; have := w0.2; omega
  have uy : IntKind.u64.wrap y = y := by rw [IntKind.wrap_u64]; have := w1.1; have := w1.2; omega
  have us : IntKind.u64.wrap (y * 4294967296) = y * 4294967296 := by rw [IntKind.wrap_u64]; have := w1.1; have := w1.2; omega
  have uo := or32' w0 w1
  rw [hv] at uo
  clear h3 hl hA sa hc hx hy hv w0 w1
  go_enter Tryz.func175, Tryz.ntmps175
  go_wp2
  go_ret
  exact ⟨rfl, rfl⟩

set_option maxHeartbeats 4000000 in
set_option maxRecDepth 100000 in
set_option linter.unusedSimpArgs false in
theorem divS_any (va vb : Value) (A B : Int) (w : World) (ha : HNat w va A) (hb : HNat w vb B) (sa : A < 18446744073709551616) (hB : 0 < B) :
  Calls Tryz.prog 150 #[va, vb] w fun e w' => ∃ v u, e = .returned (.tuple #[v, u]) ∧ HNat w' v (A / B) ∧ HNat w' u (A % B) ∧ Below w.heap.size w w' := by
 have A0 : 0 ≤ A := ha.nn
 have HCM := hide (cmp32_any va vb A B w ha hb)
 have HA := hide ha
 have HB := hide hb
 obtain ⟨a, n, c, rfl, hl, h1, h2, h3⟩ := ha
 obtain ⟨a', m, c', rfl, hl', h1', h2', h3'⟩ := hb
 have hn2 : n ≤ 2 := len_le hl (by rw [pw2]; exact sa)
 have hm0 : 0 < m := by
  rcases Nat.eq_zero_or_pos m with h0 | h0
  ·subst h0; have := hl'.zero; omega
  ·exact h0
 have mb : ((m : Int) == 0) = false := by simp; omega
 have nb : (n : Int) ≤ 2 := by omega
 clear h3 h3' hl hl' hm0
 by_cases hAB : A < B
 ·have HTW : Hid (∀ k, Calls Tryz.prog 147 #[.slice a n c] (w.drewN k) fun e w' => ∃ a n c, e = .returned (.slice a n c) ∧ HNat w' (.slice a n c) A ∧ Below (w.drewN k).heap.size (w.drewN k) w') := fun k => twin_any _ A _ ((unhide HA).below (bdrew _ k)) (smh_small sa)
  rw [Wh.sg_lt hAB] at HCM
  have HQ : Hid (A / B = 0 ∧ A % B = A) := ⟨Int.ediv_eq_zero_of_lt A0 hAB, Int.emod_eq_of_lt A0 hAB⟩
  clear sa hB hAB
  go_enter Tryz.func150, Tryz.ntmps150
  go_wp2_with fail
  refine (unhide HCM).mono ?_
  rintro e w1 ⟨rfl, k, rfl⟩
  have HT2 := hide (unhide HTW k)
  go_wp2_with fail
  refine (unhide HT2).mono ?_
  rintro e w2 ⟨a1, n1, c1, rfl, hv1, hb1⟩
  have HV := hide hv1
  have HBB := hide (bstep (bdrew w k) hb1)
  clear hv1 hb1
  go_wp2
  exact bodyPost_ret (v := .tuple #[.slice none 0 0, .slice a1 n1 c1]) (by simp [results, Tryz.results150, go_sem]) rfl ⟨_, _, rfl, by rw [(unhide HQ).1]; exact hNat_zero _ _ _ (by decide), by rw [(unhide HQ).2]; exact unhide HV, unhide HBB⟩
 ·have hBA : B ≤ A := by omega
  have HSG : Hid (∃ x : Int, 0 ≤ x ∧ x ≤ 1 ∧ Calls Tryz.prog 100 #[.slice a n c, .slice a' m c'] w fun e w' => e = .returned (.int .i64 x) ∧ ∃ k, w' = w.drewN k) := ⟨Wh.sg A B, by unfold Wh.sg; rw [if_neg hAB]; split <;> decide, by unfold Wh.sg; rw [if_neg hAB]; split <;> decide, unhide HCM⟩
  obtain ⟨x, x0, x1, hx⟩ := unhide HSG
  have HX := hide hx
  have HPA : Hid (∀ k, Calls Tryz.prog 175 #[.slice a n c] (w.drewN k) fun e w' => e = .returned (.int .u64 A) ∧ w' = w.drewN k) := fun k => plain_any _ A _ ((unhide HA).below (bdrew _ k)) sa
  have HPB : Hid (∀ k, Calls Tryz.prog 175 #[.slice a' m c'] (w.drewN k) fun e w' => e = .returned (.int .u64 B) ∧ w' = w.drewN k) := fun k => plain_any _ B _ ((unhide HB).below (bdrew _ k)) (by omega)
  have bz : (B == 0) = false := by simp; omega
  have bz' : ¬ B = 0 := by omega
  have q0 : 0 ≤ A / B := Int.ediv_nonneg A0 (by omega)
  have q1 : A / B ≤ A := Int.ediv_le_self _ A0
  have r0 : 0 ≤ A % B := Int.emod_nonneg _ (by omega)
  have r1 : A % B < B := Int.emod_lt_of_pos _ hB
  have td : A.tdiv B = A / B := Int.tdiv_eq_ediv_of_nonneg A0
  have tm : A.tmod B = A % B := Int.tmod_eq_emod_of_nonneg A0
  obtain ⟨q, hq⟩ : ∃ q, A / B = q := ⟨_, rfl⟩
  obtain ⟨r, hr⟩ : ∃ r, A % B = r := ⟨_, rfl⟩
  have uq : IntKind.u64.wrap q = q := by rw [IntKind.wrap_u64]; omega
  have ur : IntKind.u64.wrap r = r := by rw [IntKind.wrap_u64]; omega
  have HWQ : Hid (∀ W, Calls Tryz.prog 151 #[.int .u64 q] W fun e w' => ∃ v, e = .returned v ∧ HNat w' v q ∧ Below W.heap.size W w') := fun W => words_any q (by omega) (by omega) W
  have HWR : Hid (∀ W, Calls Tryz.prog 151 #[.int .u64 r] W fun e w' => ∃ v, e = .returned v ∧ HNat w' v r ∧ Below W.heap.size W w') := fun W => words_any r (by omega) (by omega) W
  have HQ := hide hq
  have HR := hide hr
  rw [hq] at td
  rw [hr] at tm
  clear hx HSG HCM hBA hAB sa hB q0 q1 r0 r1 A0
  go_enter Tryz.func150, Tryz.ntmps150
  go_wp2_with fail
  refine (unhide HX).mono ?_
  rintro e w1 ⟨rfl, k, rfl⟩
  have HP1 := hide (unhide HPA k)
  have HP2 := hide (unhide HPB k)
  go_wp2_with fail
  refine (unhide HP1).mono ?_
  rintro e w2 ⟨rfl, rfl⟩
  go_wp2_with fail
  refine (unhide HP2).mono ?_
  rintro e w3 ⟨rfl, rfl⟩
  obtain ⟨W, hW⟩ : ∃ W, w.drewN k = W := ⟨_, rfl⟩
  have HBW : Hid (Below w.heap.size w W) := by show Below _ _ _; rw [← hW]; exact bdrew w k
  rw [hW]
  have HT0 : Hid (∀ W', Below W.heap.size W W' → (fun _ : World => True) W') := fun _ _ => trivial
  clear hW HP1 HP2
  go_wp2_with fail
  refine wp_region_hold (fun _ : World => True) (by kernel_rfl) ?_
  have bd0 : Below W.heap.size W W.drew := (Below.refl _ _).drew
  have hC0 : (fun _ : World => True) W.drew := unhide HT0 _ bd0
  refine wpHold_take (i := 0) (v := ?_) rfl (by kernel_rfl) (by kernel_rfl) (by kernel_rfl) (fun _ _ _ h => h) (Or.inl ⟨by rfl, ?_⟩) hC0 ?_
  rotate_left
  ·intro w hSw; clear hSw; go_simp; (try with_reducible rfl)
  (try simp only [List.getElem_toArray, List.getElem_cons_succ, List.getElem_cons_zero])
  (try simp only [Act.put, List.setIfInBounds_toArray, List.set_cons_zero, List.set_cons_succ])
  refine wpHold_take (i := 1) (v := ?_) rfl (by kernel_rfl) (by kernel_rfl) (by kernel_rfl) (fun _ _ _ h => h) (Or.inl ⟨by rfl, ?_⟩) hC0 ?_
  rotate_left
  ·intro w hSw; clear hSw; go_simp; (try with_reducible rfl)
  (try simp only [List.getElem_toArray, List.getElem_cons_succ, List.getElem_cons_zero])
  (try simp only [Act.put, List.setIfInBounds_toArray, List.set_cons_zero, List.set_cons_succ])
  refine wpHold_take (i := 2) (v := ?_) rfl (by kernel_rfl) (by kernel_rfl) (by kernel_rfl) (fun _ _ _ h => h) (Or.inl ⟨by rfl, ?_⟩) hC0 ?_
  rotate_left
  ·intro w hSw; clear hSw; go_simp; (try with_reducible rfl)
  (try simp only [List.getElem_toArray, List.getElem_cons_succ, List.getElem_cons_zero])
  (try simp only [Act.put, List.setIfInBounds_toArray, List.set_cons_zero, List.set_cons_succ])
  refine wpHold_take (i := 4) (v := ?_) rfl (by kernel_rfl) (by kernel_rfl) (by kernel_rfl) (fun _ _ _ h => h) (Or.inl ⟨by rfl, ?_⟩) hC0 ?_
  rotate_left
  ·intro w hSw; clear hSw; go_simp; (try with_reducible rfl)
  (try simp only [List.getElem_toArray, List.getElem_cons_succ, List.getElem_cons_zero])
  (try simp only [Act.put, List.setIfInBounds_toArray, List.set_cons_zero, List.set_cons_succ])
  refine wpHold_take (i := 5) (v := ?_) rfl (by kernel_rfl) (by kernel_rfl) (by kernel_rfl) (fun _ _ _ h => h) (Or.inl ⟨by rfl, ?_⟩) hC0 ?_
  rotate_left
  ·intro w hSw; clear hSw; go_simp; (try with_reducible rfl)
  (try simp only [List.getElem_toArray, List.getElem_cons_succ, List.getElem_cons_zero])
  (try simp only [Act.put, List.setIfInBounds_toArray, List.set_cons_zero, List.set_cons_succ])
  refine wpHold_take (i := 6) (v := ?_) rfl (by kernel_rfl) (by kernel_rfl) (by kernel_rfl) (fun _ _ _ h => h) (Or.inl ⟨by rfl, ?_⟩) hC0 ?_
  rotate_left
  ·intro w hSw; clear hSw; go_simp; (try with_reducible rfl)
  (try simp only [List.getElem_toArray, List.getElem_cons_succ, List.getElem_cons_zero])
  (try simp only [Act.put, List.setIfInBounds_toArray, List.set_cons_zero, List.set_cons_succ])
  refine wpHold_one (k := 3) (by kernel_rfl) rfl (fun K hK => ?_)
  (try simp only [List.getElem_toArray, List.getElem_cons_succ, List.getElem_cons_zero])
  go_simp
  refine (unhide HWQ _).mono ?_
  rintro e xw_1 ⟨xv_1, rfl, hv_1, hb_1⟩
  have cc_1 := below_step bd0 hb_1
  have hC_1 : (fun _ : World => True) xw_1 := unhide HT0 _ cc_1
  refine hK.out _ _ hC_1 ?_
  clear hK K
  (try simp only [Act.put, List.setIfInBounds_toArray, List.set_cons_zero, List.set_cons_succ])
  refine wpHold_one (k := 7) (by kernel_rfl) rfl (fun K hK => ?_)
  (try simp only [List.getElem_toArray, List.getElem_cons_succ, List.getElem_cons_zero])
  go_simp
  refine (unhide HWR _).mono ?_
  rintro e xw_2 ⟨xv_2, rfl, hv_2, hb_2⟩
  have cc_2 := below_step cc_1 hb_2
  have hC_2 : (fun _ : World => True) xw_2 := unhide HT0 _ cc_2
  refine hK.out _ _ hC_2 ?_
  clear hK K
  (try simp only [Act.put, List.setIfInBounds_toArray, List.set_cons_zero, List.set_cons_succ])
  refine wpHold_take (i := 8) (v := ?_) rfl (by kernel_rfl) (by kernel_rfl) (by kernel_rfl) (fun _ _ _ h => h) (Or.inl ⟨by rfl, ?_⟩) hC_2 ?_
  rotate_left
  ·intro w hSw; clear hSw; go_simp; (try with_reducible rfl)
  (try simp only [List.getElem_toArray, List.getElem_cons_succ, List.getElem_cons_zero])
  (try simp only [Act.put, List.setIfInBounds_toArray, List.set_cons_zero, List.set_cons_succ])
  refine wpHold_take (i := 9) (v := ?_) rfl (by kernel_rfl) (by kernel_rfl) (by kernel_rfl) (fun _ _ _ h => h) (Or.inl ⟨by rfl, ?_⟩) hC_2 ?_
  rotate_left
  ·intro w hSw; clear hSw; go_simp; (try with_reducible rfl)
  (try simp only [List.getElem_toArray, List.getElem_cons_succ, List.getElem_cons_zero])
  (try simp only [Act.put, List.setIfInBounds_toArray, List.set_cons_zero, List.set_cons_succ])
  refine wpHold_done (by kernel_rfl) ?_ _
  have HVQ := hide (hv_1.below hb_2)
  have HVR := hide hv_2
  have HBF := hide (bstep (unhide HBW) cc_2)
  clear hv_1 hv_2 hb_1 hb_2 hC0 hC_1 hC_2 cc_1 cc_2 bd0 HT0 HWQ HWR
  go_wp2
  exact bodyPost_ret (v := .tuple #[_, _]) (by simp [results, Tryz.results150, go_sem]; exact ⟨rfl, rfl⟩) rfl ⟨_, _, rfl, by rw [unhide HQ]; exact unhide HVQ, by rw [unhide HR]; exact unhide HVR, unhide HBF⟩
end Go.Proofs.YtcelbgleajpenaaGreatDoor
/- The checker's greatest divisor of numbers of up to two words; whole numbers compared. -/
namespace Go.Proofs.YtcelbgleajpenaaGreatDoor
open Go.RowKit Go.Sort Go.Shelf

theorem gcd_step (x y : Nat) : Nat.gcd y (x % y) = Nat.gcd x y := by rw [Nat.gcd_comm x y, Nat.gcd_rec y x, Nat.gcd_comm]

set_option maxHeartbeats 4000000 in
set_option maxRecDepth 100000 in
set_option linter.unusedSimpArgs false in
theorem commonS_any (va vb : Value) (A B : Nat) (w : World) (ha : HNat w va (A : Int)) (hb : HNat w vb (B : Int)) (sa : A < 18446744073709551616) (sb : B < 18446744073709551616) (hB : 0 < B) :
  Calls Tryz.prog 149 #[va, vb] w fun e w' => ∃ v, e = .returned v ∧ HNat w' v ((Nat.gcd A B : Nat) : Int) ∧ Below w.heap.size w w' := by
 have HPA := hide (plain_any va (A : Int) w ha (by omega))
 have HPB := hide (plain_any vb (B : Int) w hb (by omega))
 obtain ⟨a, n, c, rfl, hl, h1, h2, h3⟩ := ha
 obtain ⟨a', m, c', rfl, hl', h1', h2', h3'⟩ := hb
 have hn2 : n ≤ 2 := len_le hl (by rw [pw2]; omega)
 have hm2 : m ≤ 2 := len_le hl' (by rw [pw2]; omega)
 have hm0 : 0 < m := by
  rcases Nat.eq_zero_or_pos m with h0 | h0
  ·subst h0; have := hl'.zero; omega
  ·exact h0
 have mb : ((m : Int) == 0) = false := by simp; omega
 have n2 : ¬ (2 : Int) < (n : Int) := by omega
 have m2 : ¬ (2 : Int) < (m : Int) := by omega
 clear h3 h3' hl hl' hm0 hB
 go_enter Tryz.func149, Tryz.ntmps149
 go_wp2_with fail
 go_loopw [0, 1] (fun va vb wr => va = .slice a n c ∧ vb = .slice a' m c' ∧ wr = w) (fun _ _ _ => 0)
 case atStart => exact ⟨rfl, rfl, rfl⟩
 case round =>
  obtain ⟨rfl, rfl, rfl⟩ := hrel
  go_wp2_with fail
  (try simp only [Exit.inBlock, Exit.then])
  go_wp2_with fail
  refine (unhide HPA).mono ?_
  rintro e w1 ⟨rfl, hw1⟩
  subst hw1
  go_wp2_with fail
  refine (unhide HPB).mono ?_
  rintro e w2 ⟨rfl, hw2⟩
  subst hw2
  go_wp2_with fail
  go_loopw [9, 10] (fun vx vy wz => ∃ x y k : Nat, vx = .int .u64 (x : Int) ∧ vy = .int .u64 (y : Int) ∧ x < 18446744073709551616 ∧ y < 18446744073709551616 ∧ Nat.gcd x y = Nat.gcd A B ∧ wz = w2.drewN k) (fun _ vy _ => (intOf vy).toNat)
  case atStart => exact ⟨A, B, 0, rfl, rfl, sa, sb, rfl, rfl⟩
  case round =>
   obtain ⟨x, y, k, rfl, rfl, hx, hy, hgc, hwz⟩ := hrel
   by_cases hy0 : y = 0
   ·subst hy0
    rw [Nat.gcd_zero_right] at hgc
    have HWO := hide (words_any (x : Int) (by omega) (by omega) (w2.drewN k))
    have HG := hide hgc
    subst hwz
    clear hgc
    go_wp2_with fail
    (try simp only [Exit.inBlock, Exit.then])
    go_wp2_with fail
    refine (unhide HWO).mono ?_
    rintro e w9 ⟨v, rfl, hv, hb9⟩
    have HV := hide hv
    have HB9 := hide (bstep (bdrew w2 k) hb9)
    clear hv hb9
    go_wp2
    go_ret
    exact ⟨_, rfl, by rw [← unhide HG]; exact unhide HV, unhide HB9⟩
   ·have y0 : (0 : Int) < (y : Int) := by omega
    have yz : ¬ (y : Int) = 0 := by omega
    have hgy : (x % y) < y := Nat.mod_lt _ (by omega)
    have tm : (x : Int).tmod (y : Int) = ((x % y : Nat) : Int) := by rw [Int.tmod_eq_emod_of_nonneg (by omega)]; rfl
    have te : (x : Int) % (y : Int) = ((x % y : Nat) : Int) := rfl
    obtain ⟨z, hz⟩ : ∃ z, x % y = z := ⟨_, rfl⟩
    rw [hz] at tm te hgy
    have uz : IntKind.u64.wrap (z : Int) = (z : Int) := by rw [IntKind.wrap_u64]; omega
    have HG : Hid (Nat.gcd y z = Nat.gcd A B) := by show _ = _; rw [← hz, gcd_step, hgc]
    have HY := hide hy
    have HZY := hide hgy
    subst hwz
    clear hgc hz hy0 hgy
    go_wp2_with fail
    go_quiet (fail)
    go_wp2
    exact ⟨⟨y, z, k + nq, rfl, rfl, unhide HY, by have := unhide HZY; have := unhide HY; omega, unhide HG, by simp⟩, by have := unhide HZY; simp [intOf]; omega⟩
end Go.Proofs.YtcelbgleajpenaaGreatDoor
