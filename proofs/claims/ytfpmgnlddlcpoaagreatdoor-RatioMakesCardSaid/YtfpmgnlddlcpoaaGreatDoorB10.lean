/- The checker's greatest divisor of numbers of up to two words; whole numbers compared. -/
import Derived.Test.YtfpmgnlddlcpoaaGreatDoorB9
namespace Go.Proofs.YtfpmgnlddlcpoaaGreatDoor
open Go.RowKit Go.Sort Go.Shelf

theorem gcd_step (x y : Nat) : Nat.gcd y (x % y) = Nat.gcd x y := by rw [Nat.gcd_comm x y, Nat.gcd_rec y x, Nat.gcd_comm]

set_option maxHeartbeats 4000000 in
set_option maxRecDepth 100000 in
set_option linter.unusedSimpArgs false in
theorem commonS_any (va vb : Value) (A B : Nat) (w : World) (ha : HNat w va (A : Int)) (hb : HNat w vb (B : Int)) (sa : A < 18446744073709551616) (sb : B < 18446744073709551616) (hB : 0 < B) :
    Calls Tryz.prog 75 #[va, vb] w fun e w' => ∃ v, e = .returned v ∧ HNat w' v ((Nat.gcd A B : Nat) : Int) ∧ Below w.heap.size w w' := by
  have HPA := hide (plain_any va (A : Int) w ha (by omega))
  have HPB := hide (plain_any vb (B : Int) w hb (by omega))
  obtain ⟨a, n, c, rfl, hl, h1, h2, h3⟩ := ha
  obtain ⟨a', m, c', rfl, hl', h1', h2', h3'⟩ := hb
  have hn2 : n ≤ 2 := len_le hl (by rw [pw2]; omega)
  have hm2 : m ≤ 2 := len_le hl' (by rw [pw2]; omega)
  have hm0 : 0 < m := by
    rcases Nat.eq_zero_or_pos m with h0 | h0
    · subst h0; have := hl'.zero; omega
    · exact h0
  have mb : ((m : Int) == 0) = false := by simp; omega
  have n2 : ¬ (2 : Int) < (n : Int) := by omega
  have m2 : ¬ (2 : Int) < (m : Int) := by omega
  clear h3 h3' hl hl' hm0 hB
  go_enter Tryz.func75, Tryz.ntmps75
  go_wp2_with fail
  go_loopw [0, 1] (fun va vb wr => va = .slice a n c ∧ vb = .slice a' m c' ∧ wr = w) (fun _ _ _ => 0)
  case atStart => exact ⟨rfl, rfl, rfl⟩
  case round =>
    obtain ⟨rfl, rfl, rfl⟩ := hrel
    go_wp2_with fail
    (try simp only [Exit.inBlock, Exit.then])
    go_wp2_with fail
    refine (unhide HPA).mono ?_
    rintro e w1 ⟨rfl, hw1⟩
    subst hw1
    go_wp2_with fail
    refine (unhide HPB).mono ?_
    rintro e w2 ⟨rfl, hw2⟩
    subst hw2
    go_wp2_with fail
    go_loopw [9, 10] (fun vx vy wz => ∃ x y k : Nat, vx = .int .u64 (x : Int) ∧ vy = .int .u64 (y : Int) ∧ x < 18446744073709551616 ∧ y < 18446744073709551616 ∧ Nat.gcd x y = Nat.gcd A B ∧ wz = w2.drewN k) (fun _ vy _ => (intOf vy).toNat)
    case atStart => exact ⟨A, B, 0, rfl, rfl, sa, sb, rfl, rfl⟩
    case round =>
      obtain ⟨x, y, k, rfl, rfl, hx, hy, hgc, hwz⟩ := hrel
      by_cases hy0 : y = 0
      · subst hy0
        rw [Nat.gcd_zero_right] at hgc
        have HWO := hide (words_any (x : Int) (by omega) (by omega) (w2.drewN k))
        have HG := hide hgc
        subst hwz
        clear hgc
        go_wp2_with fail
        (try simp only [Exit.inBlock, Exit.then])
        go_wp2_with fail
        refine (unhide HWO).mono ?_
        rintro e w9 ⟨v, rfl, hv, hb9⟩
        have HV := hide hv
        have HB9 := hide (bstep (bdrew w2 k) hb9)
        clear hv hb9
        go_wp2
        go_ret
        exact ⟨_, rfl, by rw [← unhide HG]; exact unhide HV, unhide HB9⟩
      · have y0 : (0 : Int) < (y : Int) := by omega
        have yz : ¬ (y : Int) = 0 := by omega
        have hgy : (x % y) < y := Nat.mod_lt _ (by omega)
        have tm : (x : Int).tmod (y : Int) = ((x % y : Nat) : Int) := by rw [Int.tmod_eq_emod_of_nonneg (by omega)]; rfl
        have te : (x : Int) % (y : Int) = ((x % y : Nat) : Int) := rfl
        obtain ⟨z, hz⟩ : ∃ z, x % y = z := ⟨_, rfl⟩
        rw [hz] at tm te hgy
        have uz : IntKind.u64.wrap (z : Int) = (z : Int) := by rw [IntKind.wrap_u64]; omega
        have HG : Hid (Nat.gcd y z = Nat.gcd A B) := by show _ = _; rw [← hz, gcd_step, hgc]
        have HY := hide hy
        have HZY := hide hgy
        subst hwz
        clear hgc hz hy0 hgy
        go_wp2_with fail
        go_quiet (fail)
        go_wp2
        exact ⟨⟨y, z, k + nq, rfl, rfl, unhide HY, by have := unhide HZY; have := unhide HY; omega, unhide HG, by simp⟩, by have := unhide HZY; simp [intOf]; omega⟩
end Go.Proofs.YtfpmgnlddlcpoaaGreatDoor
