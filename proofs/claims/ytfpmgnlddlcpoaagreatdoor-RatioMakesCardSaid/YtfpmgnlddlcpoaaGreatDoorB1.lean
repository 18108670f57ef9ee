/- The checker's whole numbers, by words of 32 bits: without noughts, of 64 bits, compared. -/
import Derived.Test.YtfpmgnlddlcpoaaGreatDoorM11
import Derived.Test.YtfpmgnlddlcpoaaGreatDoorA1
namespace Go.Proofs.YtfpmgnlddlcpoaaGreatDoor
open Go.RowKit

/-- A row of words in memory: n of them, word j is f j. -/
def HRow (w : World) (a : Option Addr) (n c : Nat) (f : Nat → Int) : Prop :=
  n ≤ c ∧ c ≤ 9223372036854775807 ∧ (0 < n → ∃ b o, a = some ⟨b, o, none⟩ ∧ b < w.heap.size ∧ ∀ j, j < n → w.cell? ⟨b, o + j, none⟩ = some (.int .u32 (f j)))

/-- A number in memory. -/
def HNat (w : World) (v : Value) (N : Int) : Prop := ∃ a n c, v = .slice a n c ∧ Wh.Len N n ∧ HRow w a n c (Wh.dig N)

theorem HRow.below {w w' : World} {a : Option Addr} {n c : Nat} {f : Nat → Int} (h : HRow w a n c f) (hb : Below w.heap.size w w') : HRow w' a n c f := by
  obtain ⟨h1, h2, h3⟩ := h
  refine ⟨h1, h2, fun hn => ?_⟩
  obtain ⟨b, o, e, hlt, hc⟩ := h3 hn
  refine ⟨b, o, e, Nat.lt_of_lt_of_le hlt hb.size, fun j hj => ?_⟩
  rw [hb.cell (p := ⟨b, o + j, none⟩) hlt]
  exact hc j hj

theorem HNat.below {w w' : World} {v : Value} {N : Int} (h : HNat w v N) (hb : Below w.heap.size w w') : HNat w' v N := by
  obtain ⟨a, n, c, e, hl, hr⟩ := h
  exact ⟨a, n, c, e, hl, hr.below hb⟩

theorem HNat.nn {w : World} {v : Value} {N : Int} (h : HNat w v N) : 0 ≤ N := by
  obtain ⟨a, n, c, e, hl, hr⟩ := h
  exact hl.1

theorem hNat_zero (w : World) (a : Option Addr) (c : Nat) (hc : c ≤ 9223372036854775807) : HNat w (.slice a 0 c) 0 :=
  ⟨a, 0, c, rfl, ⟨by decide, by decide, Or.inl rfl⟩, ⟨by omega, hc, fun h => by omega⟩⟩

theorem trim_len32 {f : Nat → Int} {n m : Nat} (hf : ∀ j, j < n → Wh.W32 (f j)) (hm : m ≤ n) (hz : ∀ j, m ≤ j → j < n → f j = 0) (ht : m = 0 ∨ f (m - 1) ≠ 0) : Wh.Len (Wh.vl f n) m := by
  rw [Wh.vl_ext f hm hz]
  have b := Wh.vl_bd (f := f) (n := m) (fun j hj => hf j (by omega))
  refine ⟨b.1, b.2, ?_⟩
  rcases Nat.eq_zero_or_pos m with h | h
  · exact Or.inl h
  · obtain ⟨k, rfl⟩ : ∃ k, m = k + 1 := ⟨m - 1, by omega⟩
    rcases ht with ht | ht
    · omega
    · exact Or.inr (Wh.le_of_top (fun j hj => hf j (by omega)) ht)

/-- What 'trimmed' gives is the number. -/
theorem hNat_trim {w : World} {a : Option Addr} {n c m : Nat} {f : Nat → Int} (h : HRow w a n c f) (hf : ∀ j, j < n → Wh.W32 (f j)) (hm : m ≤ n) (hl : Wh.Len (Wh.vl f n) m) : HNat w (.slice a m c) (Wh.vl f n) := by
  obtain ⟨h1, h2, h3⟩ := h
  refine ⟨a, m, c, rfl, hl, by omega, h2, fun hp => ?_⟩
  obtain ⟨b, o, e, hlt, hc⟩ := h3 (by omega)
  exact ⟨b, o, e, hlt, fun j hj => by rw [hc j (by omega), Wh.dig_vl hf (by omega)]⟩

set_option maxHeartbeats 1000000 in
theorem trim32_any (a : Option Addr) (n c : Nat) (f : Nat → Int) (w : World) (h : HRow w a n c f) (hf : ∀ j, j < n → Wh.W32 (f j)) :
    Calls Tryz.prog 77 #[.slice a n c] w fun e w' => ∃ m, e = .returned (.slice a m c) ∧ m ≤ n ∧ Wh.Len (Wh.vl f n) m ∧ w' = w := by
  obtain ⟨h1, h2, h3⟩ := h
  have H3 := hide h3
  clear h3
  go_enter Tryz.func77, Tryz.ntmps77
  go_wp2
  go_loop [3] (fun v => ∃ m : Nat, v = .int .i64 (m : Int) ∧ m ≤ n ∧ (∀ j, m ≤ j → j < n → f j = 0)) (fun v => (intOf v).toNat)
  case atStart => exact ⟨n, rfl, Nat.le_refl _, fun j h1 h2 => absurd h1 (Nat.not_le.2 h2)⟩
  case round =>
    obtain ⟨m, rfl, hm, hz⟩ := hrel
    have HZ : Hid (∀ j, m ≤ j → j < n → f j = 0) := hz
    clear hz
    have q1 : (m : Int) ≤ (c : Int) := by omega
    by_cases hm0 : m = 0
    · subst hm0
      go_wp2
      go_ret
      exact ⟨0, rfl, hm, trim_len32 hf hm (unhide HZ) (Or.inl rfl), rfl⟩
    · have hp : 0 < m := Nat.pos_of_ne_zero hm0
      have hmn : m - 1 < n := by omega
      have hpn : 0 < n := by omega
      obtain ⟨b, o, rfl, hlt, hc⟩ := unhide H3 hpn
      obtain ⟨x, hx⟩ : ∃ x, f (m - 1) = x := ⟨_, rfl⟩
      have hcm := hc (m - 1) hmn
      rw [hx] at hcm
      have HX : Hid (f (m - 1) = x) := hx
      have e0 : (0 : Int) < (m : Int) := by omega
      have e1 : ((m : Int) - 1).toNat = m - 1 := by omega
      have e2 : (0 : Int) ≤ (m : Int) - 1 := by omega
      have e3 : (m : Int) - 1 < (n : Int) := by omega
      clear hc H3 hx
      by_cases hx0 : x = 0
      · subst hx0
        go_wp2
        go_round
        case rel => exact ⟨m - 1, by congr 1; omega, by omega, fun j h1 h2 => by
          rcases Nat.lt_or_ge j m with h | h
          · rw [show j = m - 1 by omega]; exact HX.out
          · exact HZ.out j h h2⟩
        case measure => simp [intOf]; omega
      · have hxb : (x == 0) = false := by simpa using hx0
        go_wp2
        go_ret
        exact ⟨m, rfl, hm, trim_len32 hf hm HZ.out (Or.inr (by rw [HX.out]; exact hx0)), rfl⟩

/-- A number of 64 bits in two words. -/
theorem two_vl (x : Int) : Wh.vl (fun j => if j = 0 then x % 4294967296 else x / 4294967296) 2 = x := by
  simp [Wh.vl, Wh.pw]
  omega

set_option maxHeartbeats 1000000 in
theorem words_any (x : Int) (h0 : 0 ≤ x) (h1 : x < 18446744073709551616) (w : World) :
    Calls Tryz.prog 78 #[.int .u64 x] w fun e w' => ∃ v, e = .returned v ∧ HNat w' v x ∧ Below w.heap.size w w' := by
  have hlt : w.heap.size < (w.alloc (.cells #[.int .u32 (x % 4294967296), .int .u32 (x / 4294967296)] 127)).heap.size := by
    rw [show (w.alloc (.cells #[.int .u32 (x % 4294967296), .int .u32 (x / 4294967296)] 127)).heap = w.heap.push (.cells #[.int .u32 (x % 4294967296), .int .u32 (x / 4294967296)] 127) from rfl, Array.size_push]
    omega
  have hrow : HRow (w.alloc (.cells #[.int .u32 (x % 4294967296), .int .u32 (x / 4294967296)] 127)) (some ⟨w.heap.size, 0, none⟩) 2 2 (fun j => if j = 0 then x % 4294967296 else x / 4294967296) := by
    refine ⟨by decide, by decide, fun _ => ⟨_, 0, rfl, hlt, fun j hj => ?_⟩⟩
    have : j = 0 ∨ j = 1 := by omega
    rcases this with rfl | rfl
    · simp
    · simp
  have hw32 : ∀ j, j < 2 → Wh.W32 ((fun j => if j = 0 then x % 4294967296 else x / 4294967296) j) := fun j _ => by
    dsimp only
    split
    · exact ⟨by omega, by omega⟩
    · exact ⟨by omega, by omega⟩
  have HT := hide (trim32_any _ 2 2 _ _ hrow hw32)
  have HN : Hid (∀ m, m ≤ 2 → Wh.Len (Wh.vl (fun j => if j = 0 then x % 4294967296 else x / 4294967296) 2) m → HNat (w.alloc (.cells #[.int .u32 (x % 4294967296), .int .u32 (x / 4294967296)] 127)) (.slice (some ⟨w.heap.size, 0, none⟩) m 2) x) := fun m hm hl => by
    have h := hNat_trim hrow hw32 hm hl
    rw [two_vl] at h
    exact h
  have HB := hide ((Below.refl w.heap.size w).alloc (Nat.le_refl _) (.cells #[.int .u32 (x % 4294967296), .int .u32 (x / 4294967296)] 127))
  clear hrow hw32 hlt
  go_enter Tryz.func78, Tryz.ntmps78
  go_wp2_with fail
  refine (unhide HT).mono ?_
  rintro e w1 ⟨m, rfl, hm, hl, rfl⟩
  have HV := hide (unhide HN m hm hl)
  clear hl
  go_wp2
  go_ret
  exact ⟨_, rfl, unhide HV, unhide HB⟩

theorem drew3h (w : World) (a b c : Nat) : ∃ k, ((w.drewN a).drewN b).drewN c = w.drewN k := ⟨a + b + c, by simp⟩

set_option maxHeartbeats 1000000 in
theorem cmp32_any (va vb : Value) (A B : Int) (w : World) (ha : HNat w va A) (hb : HNat w vb B) :
    Calls Tryz.prog 88 #[va, vb] w fun e w' => e = .returned (.int .i64 (Wh.sg A B)) ∧ ∃ k, w' = w.drewN k := by
  obtain ⟨a, n, c, rfl, hl, h1, h2, h3⟩ := ha
  obtain ⟨a', n', c', rfl, hl', h1', h2', h3'⟩ := hb
  by_cases hlt : n < n'
  · have hs : Wh.sg A B = -1 := Wh.sg_lt (Wh.Len.lt hl hl' hlt)
    rw [hs]
    clear hs h3 h3'
    have hne : ((n : Int) != (n' : Int)) = true := by rw [bne_iff_ne]; omega
    go_enter Tryz.func88, Tryz.ntmps88
    go_wp2
    go_ret
    exact ⟨rfl, 0, rfl⟩
  by_cases hgt : n' < n
  · have hs : Wh.sg A B = 1 := Wh.sg_gt (Wh.Len.lt hl' hl hgt)
    rw [hs]
    clear hs h3 h3'
    have hne : ((n : Int) != (n' : Int)) = true := by rw [bne_iff_ne]; omega
    go_enter Tryz.func88, Tryz.ntmps88
    go_wp2
    go_ret
    exact ⟨rfl, 0, rfl⟩
  obtain rfl : n = n' := by omega
  have hA : Wh.vl (Wh.dig A) n = A := Wh.vl_dig_all hl.1 hl.2.1
  have hB : Wh.vl (Wh.dig B) n = B := Wh.vl_dig_all hl'.1 hl'.2.1
  have HS : Hid (∀ i, i < n → (∀ j, i < j → j < n → Wh.dig A j = Wh.dig B j) → (Wh.dig A i < Wh.dig B i → Wh.sg A B = -1) ∧ (Wh.dig B i < Wh.dig A i → Wh.sg A B = 1)) := by
    intro i hi he
    refine ⟨fun h => Wh.sg_lt ?_, fun h => Wh.sg_gt ?_⟩
    · rw [← hA, ← hB]; exact Wh.vl_lt_of_word (fun j _ => Wh.dig_w _ _) (fun j _ => Wh.dig_w _ _) hi he h
    · rw [← hA, ← hB]; exact Wh.vl_lt_of_word (fun j _ => Wh.dig_w _ _) (fun j _ => Wh.dig_w _ _) hi (fun j h1 h2 => (he j h1 h2).symm) h
  have HE : Hid ((∀ j, j < n → Wh.dig A j = Wh.dig B j) → Wh.sg A B = 0) := fun h => Wh.sg_eq (by rw [← hA, ← hB]; exact Wh.vl_congr h)
  generalize Wh.sg A B = s at *
  have H3 := hide h3
  have H3' := hide h3'
  clear hA hB hl hl' hlt hgt h3 h3'
  go_enter Tryz.func88, Tryz.ntmps88
  go_wp2
  go_loopw [5] (fun v wr => ∃ m k : Nat, v = .int .i64 ((m : Int) - 1) ∧ m ≤ n ∧ wr = w.drewN k ∧ (∀ j, m ≤ j → j < n → Wh.dig A j = Wh.dig B j)) (fun v _ => (intOf v + 1).toNat)
  case atStart => exact ⟨n, 0, rfl, Nat.le_refl _, rfl, fun j h1 h2 => absurd h1 (Nat.not_le.2 h2)⟩
  case round =>
    obtain ⟨m, k, rfl, hm, rfl, hz⟩ := hrel
    by_cases hm0 : m = 0
    · subst hm0
      go_wp2
      go_ret
      have := HE.out (fun j h => hz j (Nat.zero_le _) h)
      exact ⟨by rw [this]; rfl, k, rfl⟩
    · have hp : 0 < m := Nat.pos_of_ne_zero hm0
      have hpn : 0 < n := Nat.lt_of_lt_of_le hp hm
      have hmn : m - 1 < n := by omega
      have hgt : ∀ j, m - 1 < j → j < n → Wh.dig A j = Wh.dig B j := fun j h1 h2 => hz j (by omega) h2
      have HS1 : Hid ((Wh.dig A (m - 1) < Wh.dig B (m - 1) → s = -1) ∧ (Wh.dig B (m - 1) < Wh.dig A (m - 1) → s = 1)) := HS.out (m - 1) hmn hgt
      obtain ⟨b, o, rfl, hlt, hc⟩ := unhide H3 hpn
      obtain ⟨b', o', rfl, hlt', hc'⟩ := unhide H3' hpn
      have HZ : Hid (∀ j, m ≤ j → j < n → Wh.dig A j = Wh.dig B j) := hz
      obtain ⟨x, hx⟩ : ∃ x, Wh.dig A (m - 1) = x := ⟨_, rfl⟩
      obtain ⟨y, hy⟩ : ∃ y, Wh.dig B (m - 1) = y := ⟨_, rfl⟩
      have hcm := hc (m - 1) hmn
      have hcm' := hc' (m - 1) hmn
      have HX : Hid (Wh.dig A (m - 1) = x) := hx
      have HY : Hid (Wh.dig B (m - 1) = y) := hy
      rw [hx] at hcm
      rw [hy] at hcm'
      have e1 : ((m : Int) - 1).toNat = m - 1 := by omega
      have e2 : (0 : Int) ≤ (m : Int) - 1 := by omega
      have e3 : (m : Int) - 1 < (n : Int) := by omega
      clear hc hc' hz H3 H3' hx hy HS HE hgt
      by_cases hxy : x = y
      · subst hxy
        go_wp2_with fail
        go_quiet (fail)
        go_wp2
        refine ⟨⟨m - 1, k + nq, ?_, by omega, rfl, fun j h1 h2 => ?_⟩, ?_⟩
        · congr 1; omega
        · rcases Nat.lt_or_ge j m with h | h
          · rw [show j = m - 1 by omega, HX.out, HY.out]
          · exact HZ.out j h h2
        · simp [intOf]; omega
      · have hxb : (x != y) = true := by rw [bne_iff_ne]; exact hxy
        by_cases hl : x < y
        · go_wp2_with fail
          go_quiet (fail)
          go_wp2
          go_quiet (fail)
          go_wp2
          go_ret
          have := HS1.out.1 (by rw [HX.out, HY.out]; exact hl)
          exact ⟨by rw [this]; rfl, drew3h _ _ _ _⟩
        · have hgt : y < x := by omega
          go_wp2_with fail
          go_quiet (fail)
          go_wp2
          go_quiet (fail)
          go_wp2
          go_ret
          have := HS1.out.2 (by rw [HX.out, HY.out]; exact hgt)
          exact ⟨by rw [this]; rfl, drew3h _ _ _ _⟩
end Go.Proofs.YtfpmgnlddlcpoaaGreatDoor
