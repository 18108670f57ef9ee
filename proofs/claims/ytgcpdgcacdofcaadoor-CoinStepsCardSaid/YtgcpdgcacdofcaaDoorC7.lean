/- coin.Steps. -/
import Derived.Test.YtgcpdgcacdofcaaDoorC6
import Derived.Test.YtgcpdgcacdofcaaDoorT1
namespace Go.Proofs.YtgcpdgcacdofcaaDoor
open Go.RowKit Go.Sort

def Limit (Lt : Int) (M : Nat) : Prop := Lt < 1 ∨ 100 < Lt ∨ M < 1 ∨ 12 < M
def Bad (Lt : Int) (M : Nat) (g : Nat → Int) : Prop := ∃ i, i < M ∧ (g i < 0 ∨ Lt ≤ g i) ∧ ∀ j, j < i → 0 ≤ g j ∧ g j < Lt

theorem bad_or (Lt : Int) (M : Nat) (g : Nat → Int) : Bad Lt M g ∨ ∀ i, i < M → 0 ≤ g i ∧ g i < Lt := by
  induction M with
  | zero => exact Or.inr fun i hi => absurd hi (Nat.not_lt_zero _)
  | succ n ih =>
    rcases ih with ⟨i, h1, h2, h3⟩ | h
    · exact Or.inl ⟨i, by omega, h2, h3⟩
    · by_cases hn : g n < 0 ∨ Lt ≤ g n
      · exact Or.inl ⟨n, Nat.lt_succ_self n, hn, h⟩
      · refine Or.inr fun i hi => ?_
        rcases Nat.lt_or_ge i n with h' | h'
        · exact h i h'
        · obtain rfl : i = n := by omega
          omega

theorem Steps_limit (a : Option Addr) (c M : Nat) (Lt : Int) (w : World) (h : Limit Lt M) :
    Calls Tryd.prog 4 #[.int .i64 Lt, .slice a M c] w fun e w' => e = .returned (.tuple #[.slice none 0 0, .iface 23 (.int .i64 4)]) ∧ w' = w := by
  by_cases c1 : Lt < 1
  · go_enter Tryd.func4, Tryd.ntmps4
    go_wp2
    go_ret2
    exact ⟨rfl, rfl⟩
  · by_cases c2 : 100 < Lt
    · go_enter Tryd.func4, Tryd.ntmps4
      go_wp2
      go_ret2
      exact ⟨rfl, rfl⟩
    · by_cases c3 : (M : Int) < 1
      · go_enter Tryd.func4, Tryd.ntmps4
        go_wp2
        go_ret2
        exact ⟨rfl, rfl⟩
      · have c4 : (12 : Int) < (M : Int) := by unfold Limit at h; omega
        go_enter Tryd.func4, Tryd.ntmps4
        go_wp2
        go_ret2
        exact ⟨rfl, rfl⟩

set_option maxHeartbeats 2000000 in
theorem Steps_bad (a : Option Addr) (c M : Nat) (Lt : Int) (g : Nat → Int) (w : World) (ha : IRow w a M c g) (h : ¬ Limit Lt M) (hb : Bad Lt M g) :
    Calls Tryd.prog 4 #[.int .i64 Lt, .slice a M c] w fun e w' => e = .returned (.tuple #[.slice none 0 0, .iface 23 (.int .i64 2)]) ∧ w' = w := by
  unfold Limit at h
  have c1 : ¬ Lt < 1 := by omega
  have c2 : ¬ 100 < Lt := by omega
  have c3 : ¬ (M : Int) < 1 := by omega
  have c4 : ¬ (12 : Int) < (M : Int) := by omega
  obtain ⟨n, hn, hbad, hgood⟩ := hb
  obtain ⟨h1, h2, h3⟩ := ha
  obtain ⟨b, o, rfl, hbl, hc⟩ := h3 (by omega)
  have HC := hide hc
  have HG := hide hgood
  clear h3 hc hgood h
  go_enter Tryd.func4, Tryd.ntmps4
  go_wp2
  go_loop [27] (fun v => ∃ m : Nat, v = .int .i64 (m : Int) ∧ m ≤ n) (fun v => M - (intOf v).toNat)
  case atStart => exact ⟨0, rfl, Nat.zero_le _⟩
  case round =>
    obtain ⟨m, rfl, hm⟩ := hrel
    have i1 : (m : Int) < (M : Int) := by omega
    have hcm := unhide HC m (by omega)
    by_cases e : m = n
    · subst e
      obtain ⟨x, hx⟩ : ∃ x, g m = x := ⟨_, rfl⟩
      rw [hx] at hcm hbad
      clear hx
      rcases hbad with hb | hb
      · go_wp2
        go_ret2
        exact ⟨rfl, rfl⟩
      · by_cases hx0 : x < 0
        · omega
        · go_wp2
          go_ret2
          exact ⟨rfl, rfl⟩
    · have hgm := unhide HG m (by omega)
      obtain ⟨x, hx⟩ : ∃ x, g m = x := ⟨_, rfl⟩
      rw [hx] at hcm hgm
      obtain ⟨hx0, hx1⟩ := hgm
      clear hx
      go_wp2
      exact ⟨⟨m + 1, by go_num, by omega⟩, by simp [intOf]; omega⟩

set_option maxHeartbeats 2000000 in
theorem Steps_good (a : Option Addr) (c M Lt : Nat) (g : Nat → Int) (w : World) (ha : IRow w a M c g) (h : ¬ Limit (Lt : Int) M) (hg : ∀ i, i < M → 0 ≤ g i ∧ g i < (Lt : Int)) :
    Calls Tryd.prog 4 #[.int .i64 (Lt : Int), .slice a M c] w fun e w' => ∃ v R, e = .returned (.tuple #[v, .nilIface]) ∧ RowsF w' v (M + 1) Lt R ∧ (∀ n k, n ≤ M → k < Lt → StandsAt g M n (k : Int) (R n k)) ∧ Below w.heap.size w w' := by
  unfold Limit at h
  have HS := hide (steps_any a c M Lt g w ha (by omega) (by omega) (by omega) (by omega) hg)
  have c1 : ¬ (Lt : Int) < 1 := by omega
  have c2 : ¬ 100 < (Lt : Int) := by omega
  have c3 : ¬ (M : Int) < 1 := by omega
  have c4 : ¬ (12 : Int) < (M : Int) := by omega
  obtain ⟨h1, h2, h3⟩ := ha
  obtain ⟨b, o, rfl, hbl, hc⟩ := h3 (by omega)
  have HC := hide hc
  have HG := hide hg
  clear h3 hc hg h
  go_enter Tryd.func4, Tryd.ntmps4
  go_wp2
  go_loop [27] (fun v => ∃ m : Nat, v = .int .i64 (m : Int) ∧ m ≤ M) (fun v => M - (intOf v).toNat)
  case atStart => exact ⟨0, rfl, Nat.zero_le _⟩
  case round =>
    obtain ⟨m, rfl, hm⟩ := hrel
    by_cases e : m < M
    · have hcm := unhide HC m e
      have hgm := unhide HG m e
      have i1 : (m : Int) < (M : Int) := by omega
      obtain ⟨x, hx⟩ : ∃ x, g m = x := ⟨_, rfl⟩
      rw [hx] at hcm hgm
      obtain ⟨hx0, hx1⟩ := hgm
      clear hx
      go_wp2
      exact ⟨⟨m + 1, by go_num, by omega⟩, by simp [intOf]; omega⟩
    · obtain rfl : m = M := by omega
      have i1 : ¬ (m : Int) < (m : Int) := by omega
      go_wp2_with fail
      refine (unhide HS).mono ?_
      rintro e w2 ⟨v, R, rfl, hR, hSt, hB⟩
      have HR := hide hR
      have HSt := hide hSt
      have HB := hide hB
      clear hR hSt hB
      go_wp2
      go_ret2
      exact ⟨_, R, rfl, unhide HR, unhide HSt, unhide HB⟩
end Go.Proofs.YtgcpdgcacdofcaaDoor
