/- package walk's whole numbers: how many rows of steps. -/
import Derived.Test.YtdicbnchkfclaaaDoorRows
import Derived.WalkKit
import Derived.WalkSpells
import Derived.WalkLawsBesides
import Derived.Test.YtdicbnchkfclaaaDoorA1
namespace Go.Proofs.YtdicbnchkfclaaaDoor
open Go.RowKit

theorem pick_any (a : Int) (n : Nat) (hn : 0 < n) (hn1 : n ≤ 1000) (w : World) :
    Calls Tryd.prog 23 #[.int .i64 a, .int .i64 (n : Int)] w fun e w' => ∃ k : Nat, e = .returned (.int .i64 (k : Int)) ∧ k < n ∧ w' = w := by
  have e1 : IntKind.u64.wrap (n : Int) = (n : Int) := by rw [IntKind.wrap_u64]; omega
  obtain ⟨x, hx⟩ : ∃ x, IntKind.u64.wrap a = x := ⟨_, rfl⟩
  have hx0 : 0 ≤ x := by rw [← hx, IntKind.wrap_u64]; omega
  have hx1 : x < 18446744073709551616 := by rw [← hx, IntKind.wrap_u64]; omega
  have hz : ((n : Int) == 0) = false := by rw [beq_eq_false_iff_ne]; omega
  have hm0 : 0 ≤ x % (n : Int) := Int.emod_nonneg _ (by omega)
  have hm1 : x % (n : Int) < (n : Int) := Int.emod_lt_of_pos _ (by omega)
  obtain ⟨k, hk⟩ : ∃ k : Nat, x % (n : Int) = (k : Int) := ⟨(x % (n : Int)).toNat, by omega⟩
  have hkn : k < n := by omega
  clear hm0 hm1
  go_enter Tryd.func23, Tryd.ntmps23
  go_wp2
  go_ret
  exact ⟨k, rfl, hkn, rfl⟩

/-- How many rows of n steps have k up: step by step. -/
def wv (n : Nat) : Nat → Nat
  | 0 => 1
  | k + 1 => wv n k * (n - k) / (k + 1)

theorem wv_small : ((List.range 61).all fun n => (List.range (n + 1)).all fun k => decide (wv n k * n < 9223372036854775807)) = true := by decide +kernel
theorem wv_lt {n k : Nat} (hn : n ≤ 60) (hk : k ≤ n) : wv n k * n < 9223372036854775807 := by
  have h1 := List.all_eq_true.1 wv_small n (List.mem_range.2 (by omega))
  have h2 := List.all_eq_true.1 h1 k (List.mem_range.2 (by omega))
  simpa using h2

def waysv (N : Nat) (to : Int) : Int := if to < -(N : Int) ∨ (N : Int) < to ∨ ((N : Int) + to) % 2 ≠ 0 then 0 else (wv N (((N : Int) + to) / 2).toNat : Int)
def abovev (N : Nat) (to : Int) : Int := if to < 0 ∨ (N : Int) < to then 0 else waysv N to - waysv N (to + 2)

theorem waysv_bd {N : Nat} (hN : N ≤ 60) (to : Int) : 0 ≤ waysv N to ∧ waysv N to < 9223372036854775807 := by
  unfold waysv
  split
  · exact ⟨by decide, by decide⟩
  · have hw := wv_lt hN (show (((N : Int) + to) / 2).toNat ≤ N by omega)
    have hKN : (((N : Int) + to) / 2).toNat ≤ N := by omega
    generalize (((N : Int) + to) / 2).toNat = K at *
    rcases Nat.eq_zero_or_pos N with h | h
    · have hK0 : K = 0 := by omega
      subst hK0
      exact ⟨by omega, by show ((1 : Nat) : Int) < _; decide⟩
    · have := Nat.le_mul_of_pos_right (wv N K) h
      omega

set_option maxHeartbeats 2000000 in
theorem ways_any (N : Nat) (to : Int) (hN : N ≤ 60) (h0 : -1000 ≤ to) (h1 : to ≤ 1000) (w : World) :
    Calls Tryd.prog 54 #[.int .i64 (N : Int), .int .i64 to] w fun e w' => e = .returned (.int .i64 (waysv N to)) ∧ w' = w := by
  by_cases c1 : to < -(N : Int)
  · have e : waysv N to = 0 := by unfold waysv; rw [if_pos (Or.inl c1)]
    rw [e]
    go_enter Tryd.func54, Tryd.ntmps54
    go_wp2
    go_ret
    exact ⟨rfl, rfl⟩
  · by_cases c2 : (N : Int) < to
    · have e : waysv N to = 0 := by unfold waysv; rw [if_pos (Or.inr (Or.inl c2))]
      rw [e]
      go_enter Tryd.func54, Tryd.ntmps54
      go_wp2
      go_ret
      exact ⟨rfl, rfl⟩
    · by_cases c3 : ((N : Int) + to) % 2 = 0
      · have e : waysv N to = (wv N (((N : Int) + to) / 2).toNat : Int) := by unfold waysv; rw [if_neg (by omega)]
        rw [e]
        obtain ⟨K, hK⟩ : ∃ K : Nat, ((N : Int) + to) / 2 = (K : Int) := ⟨(((N : Int) + to) / 2).toNat, by omega⟩
        have hKN : K ≤ N := by omega
        have eK : (((N : Int) + to) / 2).toNat = K := by omega
        rw [eK]
        have hb : ((((N : Int) + to) % 2) != 0) = false := by rw [c3]; rfl
        clear e eK
        go_enter Tryd.func54, Tryd.ntmps54
        go_wp2
        go_loop [5, 27] (fun vo vi => ∃ i : Nat, vi = .int .i64 (i : Int) ∧ i ≤ K ∧ vo = .int .i64 (wv N i : Int)) (fun _ vi => K - (intOf vi).toNat)
        case atStart => exact ⟨0, rfl, Nat.zero_le _, rfl⟩
        case round =>
          obtain ⟨i, rfl, hi, rfl⟩ := hrel
          by_cases hlt : i < K
          · have hlt' : (i : Int) < (K : Int) := by omega
            have hw := wv_lt hN (show i ≤ N by omega)
            have HS : Hid (wv N (i + 1) = wv N i * (N - i) / (i + 1)) := rfl
            obtain ⟨X, hX⟩ : ∃ X, wv N i = X := ⟨_, rfl⟩
            rw [hX] at hw HS
            obtain ⟨P, hP⟩ : ∃ P, X * (N - i) = P := ⟨_, rfl⟩
            have hPb : P < 9223372036854775807 := by
              have := Nat.mul_le_mul_left X (Nat.sub_le N i)
              omega
            have hPi : (X : Int) * ((N : Int) - (i : Int)) = (P : Int) := by
              rw [← hP, Int.natCast_mul, Int.natCast_sub (by omega)]
            have hXb : X < 9223372036854775807 := by
              rcases Nat.eq_zero_or_pos N with h | h
              · omega
              · have := Nat.le_mul_of_pos_right X h
                omega
            rw [hP] at HS
            have HX := hide hX
            clear hw hP
            rw [hX]
            clear hX
            obtain ⟨D, hD⟩ : ∃ D, P / (i + 1) = D := ⟨_, rfl⟩
            have hDb : D < 9223372036854775807 := by have := Nat.div_le_self P (i + 1); omega
            have hDi : (P : Int) / ((i : Int) + 1) = (D : Int) := by rw [← hD, Int.natCast_ediv]; rfl
            rw [hD] at HS
            clear hD
            have hz1 : (((i : Int) + 1) == 0) = false := by rw [beq_eq_false_iff_ne]; omega
            go_wp2
            exact ⟨⟨i + 1, by go_num, by omega, by rw [unhide HS]⟩, by simp [intOf]; omega⟩
          · obtain rfl : i = K := by omega
            have hlt' : ¬ (i : Int) < (i : Int) := by omega
            go_wp2
            go_ret
            exact ⟨rfl, rfl⟩
      · have e : waysv N to = 0 := by unfold waysv; rw [if_pos (Or.inr (Or.inr c3))]
        rw [e]
        have hb : ((((N : Int) + to) % 2) != 0) = true := by rw [bne_iff_ne]; exact c3
        go_enter Tryd.func54, Tryd.ntmps54
        go_wp2
        go_ret
        exact ⟨rfl, rfl⟩

theorem above_any (N : Nat) (to : Int) (hN : N ≤ 60) (h0 : -900 ≤ to) (h1 : to ≤ 900) (w : World) :
    Calls Tryd.prog 55 #[.int .i64 (N : Int), .int .i64 to] w fun e w' => e = .returned (.int .i64 (abovev N to)) ∧ w' = w := by
  by_cases c1 : to < 0
  · have e : abovev N to = 0 := by unfold abovev; rw [if_pos (Or.inl c1)]
    rw [e]
    go_enter Tryd.func55, Tryd.ntmps55
    go_wp2
    go_ret
    exact ⟨rfl, rfl⟩
  · by_cases c2 : (N : Int) < to
    · have e : abovev N to = 0 := by unfold abovev; rw [if_pos (Or.inr c2)]
      rw [e]
      go_enter Tryd.func55, Tryd.ntmps55
      go_wp2
      go_ret
      exact ⟨rfl, rfl⟩
    · have e : abovev N to = waysv N to - waysv N (to + 2) := by unfold abovev; rw [if_neg (by omega)]
      rw [e]
      have H1 := hide (ways_any N to hN (by omega) (by omega) w)
      have H2 := hide (ways_any N (to + 2) hN (by omega) (by omega) w)
      have b1 := waysv_bd hN to
      have b2 := waysv_bd hN (to + 2)
      generalize waysv N to = x at *
      generalize waysv N (to + 2) = y at *
      obtain ⟨b1, b1'⟩ := b1
      obtain ⟨b2, b2'⟩ := b2
      clear e
      go_enter Tryd.func55, Tryd.ntmps55
      go_wp2_with fail
      refine (unhide H1).mono ?_
      rintro e w1 ⟨rfl, rfl⟩
      go_wp2_with fail
      refine (unhide H2).mono ?_
      rintro e w2 ⟨rfl, rfl⟩
      go_wp2
      go_ret
      exact ⟨rfl, rfl⟩

theorem outside_any (n : Int) (h0 : 0 ≤ n) (h1 : n ≤ 60) (w : World) :
    Calls Tryd.prog 52 #[.int .i64 n] w fun e w' => e = .returned (.bool false) ∧ w' = w := by
  have d1 : ¬ n < 0 := by omega
  have d2 : ¬ 60 < n := by omega
  go_enter Tryd.func52, Tryd.ntmps52
  go_wp2
  go_ret
  exact ⟨rfl, rfl⟩
end Go.Proofs.YtdicbnchkfclaaaDoor
