/- Decimal digits: plain mathematics. -/
import Derived.Lib.ItoaNum
import Derived.Test.YtdicbnchkfclaaaDoorW14
namespace Go.Dd
/-- The number of decimal digits. -/
def dval (acc : Int) : List UInt8 → Int
  | [] => acc
  | b :: r => dval (10 * acc + ((b.toNat : Int) - 48)) r
def IsDig (b : UInt8) : Prop := 48 ≤ b.toNat ∧ b.toNat ≤ 57
theorem dval_append (acc : Int) (l r : List UInt8) : dval acc (l ++ r) = dval (dval acc l) r := by
  induction l generalizing acc with
  | nil => rfl
  | cons b l ih => simp only [List.cons_append, dval]; exact ih _
theorem toNat_dig (k : Nat) (h : k < 10) : (UInt8.ofNat (48 + k)).toNat = 48 + k := by
  simp; omega
theorem dval_dec (u : Nat) : dval 0 (Lib.decDigits u) = u := by
  induction u using Nat.strongRecOn with
  | _ u ih =>
    unfold Lib.decDigits
    split
    · rename_i h
      simp only [dval, toNat_dig u h]; omega
    · rename_i h
      rw [dval_append, ih (u / 10) (by omega)]
      simp only [dval, toNat_dig (u % 10) (by omega)]; omega
theorem dec_digs (u : Nat) : ∀ b, b ∈ Lib.decDigits u → IsDig b := by
  induction u using Nat.strongRecOn with
  | _ u ih =>
    unfold Lib.decDigits
    split
    · rename_i h
      intro b hb
      simp only [List.mem_singleton] at hb
      subst hb
      unfold IsDig; rw [toNat_dig u h]; omega
    · rename_i h
      intro b hb
      rcases List.mem_append.1 hb with hb | hb
      · exact ih (u / 10) (by omega) b hb
      · simp only [List.mem_singleton] at hb
        subst hb
        unfold IsDig; rw [toNat_dig (u % 10) (by omega)]; omega
theorem dec_ne (u : Nat) : Lib.decDigits u ≠ [] := by
  unfold Lib.decDigits; split <;> simp
theorem dval_nn (acc : Int) (l : List UInt8) (h : ∀ b, b ∈ l → IsDig b) (h0 : 0 ≤ acc) : 0 ≤ dval acc l := by
  induction l generalizing acc with
  | nil => exact h0
  | cons b l ih =>
    have := h b (by simp)
    unfold IsDig at this
    exact ih _ (fun c hc => h c (by simp [hc])) (by omega)
theorem dval_lt (acc : Int) (l : List UInt8) (k : Nat) (h : ∀ b, b ∈ l → IsDig b) (h0 : acc < 10 ^ k) : dval acc l < 10 ^ (k + l.length) := by
  induction l generalizing acc k with
  | nil => exact h0
  | cons b l ih =>
    have := h b (by simp)
    unfold IsDig at this
    have := ih (10 * acc + ((b.toNat : Int) - 48)) (k + 1) (fun c hc => h c (by simp [hc])) (by rw [Int.pow_succ]; omega)
    rw [show k + (b :: l).length = k + 1 + l.length by simp; omega]
    exact this
end Go.Dd
/- A text's digits: where they end, and the number that they are. -/
namespace Go.Proofs.YtdicbnchkfclaaaDoor
open Go.RowKit Go.Sort Go.Shelf Go.Dd

set_option maxHeartbeats 1000000 in
theorem digitsEnd_any (s : ByteArray) (f : Nat) (w : World) (hs : s.size ≤ 9223372036854775806) (hf : f ≤ s.size) :
    Calls Tryd.prog 79 #[.string s, .int .i64 f] w fun e w' => ∃ k : Nat, e = .returned (.int .i64 (k : Int)) ∧ f ≤ k ∧ k ≤ s.size ∧ (∀ j (h : j < s.size), f ≤ j → j < k → IsDig s[j]) ∧ (∀ h : k < s.size, ¬ IsDig s[k]) ∧ w' = w := by
  go_enter Tryd.func79, Tryd.ntmps79
  go_wp2
  go_loop [1] (fun v => ∃ k : Nat, v = .int .i64 (k : Int) ∧ f ≤ k ∧ k ≤ s.size ∧ (∀ j (h : j < s.size), f ≤ j → j < k → IsDig s[j])) (fun v => s.size - (intOf v).toNat)
  case atStart => exact ⟨f, rfl, Nat.le_refl _, hf, fun j _ h1 h2 => absurd h1 (Nat.not_le.2 h2)⟩
  case round =>
    obtain ⟨k, rfl, h1, h2, h3⟩ := hrel
    have H3 := hide h3
    clear h3
    by_cases hlt : k < s.size
    · by_cases hd : IsDig s[k]
      · have hd1 : (48 : Int) ≤ (s[k].toNat : Int) := by have := hd.1; omega
        have hd2 : (s[k].toNat : Int) ≤ 57 := by have := hd.2; omega
        have HD := hide hd
        clear hd
        go_wp2
        refine ⟨⟨k + 1, by go_num, by omega, hlt, fun j h ha hb => ?_⟩, by simp [intOf]; omega⟩
        rcases Nat.lt_or_ge j k with h' | h'
        · exact unhide H3 j h ha h'
        · have : j = k := by omega
          subst this
          exact unhide HD
      · have HD := hide hd
        have hd' : (s[k].toNat : Int) < 48 ∨ 57 < (s[k].toNat : Int) := by unfold IsDig at hd; omega
        clear hd
        rcases hd' with hd' | hd'
        · go_wp2
          go_ret
          exact ⟨k, rfl, h1, h2, unhide H3, fun _ => unhide HD, rfl⟩
        · by_cases h48 : (48 : Int) ≤ (s[k].toNat : Int)
          · go_wp2
            go_ret
            exact ⟨k, rfl, h1, h2, unhide H3, fun _ => unhide HD, rfl⟩
          · exfalso; omega
    · go_wp2
      go_ret
      exact ⟨k, rfl, h1, h2, unhide H3, fun h => absurd h hlt, rfl⟩

theorem pow10_mono {m n : Nat} (h : m ≤ n) : (10 : Int) ^ m ≤ 10 ^ n := by
  obtain ⟨k, rfl⟩ := Nat.exists_eq_add_of_le h
  rw [Int.pow_add]
  have h1 : (0 : Int) < 10 ^ m := Int.pow_pos (by decide)
  have h2 : (0 : Int) < 10 ^ k := Int.pow_pos (by decide)
  have h3 : (1 : Int) ≤ 10 ^ k := by omega
  have h4 := Int.mul_le_mul_of_nonneg_left h3 (Int.le_of_lt h1)
  omega
theorem small_dval {l : List UInt8} (h : ∀ b, b ∈ l → IsDig b) (hl : l.length ≤ 40) : dval 0 l < Wd.pw 3 := by
  have h1 := dval_lt 0 l 0 h (by decide)
  have h2 := pow10_mono (m := 0 + l.length) (n := 40) (by omega)
  have h3 : (10 : Int) ^ 40 < Wd.pw 3 := by decide
  omega

theorem take_snocB (s : ByteArray) (k : Nat) (h : k < s.size) : s.data.toList.take (k + 1) = s.data.toList.take k ++ [s[k]] := by
  rw [List.take_succ_eq_append_getElem (by simpa using h)]; rfl

set_option maxHeartbeats 2000000 in
set_option maxRecDepth 100000 in
theorem digits_any (s : ByteArray) (w : World) (hs : s.size ≤ 40) (hd : ∀ b, b ∈ s.data.toList → IsDig b) :
    Calls Tryd.prog 57 #[.string s] w fun e w' => ∃ v, e = .returned v ∧ NatIs w' v (dval 0 s.data.toList) ∧ Below w.heap.size w w' := by
  go_enter Tryd.func57, Tryd.ntmps57
  go_wp2
  go_loopw [3, 7] (fun v vi wr => ∃ i : Nat, vi = .int .i64 (i : Int) ∧ i ≤ s.size ∧ NatIs wr v (dval 0 (s.data.toList.take i)) ∧ Below w.heap.size w wr) (fun _ vi _ => s.size - (intOf vi).toNat)
  case atStart => exact ⟨0, rfl, Nat.zero_le _, natIs_zero _ _ _ (by decide), Below.refl _ _⟩
  case round =>
    obtain ⟨i, rfl, hi, hv, hb⟩ := hrel
    by_cases hlt : i < s.size
    · have hdi := hd s[i] (by exact List.getElem_mem (l := s.data.toList) (by simpa using hlt))
      have hd1 : (48 : Int) ≤ (s[i].toNat : Int) := by have := hdi.1; omega
      have hd2 : (s[i].toNat : Int) ≤ 57 := by have := hdi.2; omega
      have hds : ∀ b, b ∈ s.data.toList.take i → IsDig b := fun b hb => hd b (List.mem_of_mem_take hb)
      have hsm := small_dval hds (by simp; omega)
      have hnn := dval_nn 0 _ hds (by decide)
      have hE : dval 0 (s.data.toList.take (i + 1)) = dval 0 (s.data.toList.take i) * 10 + ((s[i].toNat : Int) - 48) := by
        rw [take_snocB s i hlt, dval_append]; simp only [dval]; omega
      obtain ⟨D, hD⟩ : ∃ D, dval 0 (s.data.toList.take i) = D := ⟨_, rfl⟩
      rw [hD] at hE hsm hnn hv
      have HE := hide hE
      have HV := hide hv
      have HB := hide hb
      have HWR : Hid (IntKind.u64.wrap (IntKind.u8.wrap ((s[i].toNat : Int) - 48)) = (s[i].toNat : Int) - 48) := by
        show IntKind.u64.wrap (IntKind.u8.wrap ((s[i].toNat : Int) - 48)) = (s[i].toNat : Int) - 48
        rw [IntKind.wrap_u64]
        simp [IntKind.wrap, IntKind.bits, IntKind.signed]
        omega
      have hw48 : Wd.W64 ((s[i].toNat : Int) - 48) := ⟨by omega, by omega⟩
      have m1 : D * 10 < Wd.pw 4 := mul_small (j := 3) (k := 1) (by decide) hsm (by decide)
      clear hE hdi hds hD hv hb hd
      go_wp2_with fail
      go_region_held3 (fun _ => True) (trivial)
        (first | (go_at_call_of 47 (Value.int .u64 10); refine (word_any 10 ⟨by decide, by decide⟩ _).mono ?_; rintro e w3 ⟨v3, rfl, hv3, hr3⟩) | (go_at_call 44; refine (mul_any _ _ _ _ _ (((unhide HV).below (below_drew_ge _ _)).below hr3) hv3 (sm_of hsm (by decide)) (sm_word (by decide))).mono ?_; rintro e w4 ⟨v4, rfl, hv4, hr4⟩) | (go_at_call 47; rw [unhide HWR]; refine (word_any _ hw48 _).mono ?_; rintro e w5 ⟨v5, rfl, hv5, hr5⟩; have hv45 := hv4.below hr5) | (go_at_call 75; refine (add_any _ _ _ _ _ hv45 hv5 (sm_of m1 (by decide)) (sm_word (by omega))).mono ?_; rintro e w6 ⟨v6, rfl, hv6, hr6⟩))
      all_goals
        have hb6 : Below w.heap.size w w6 := below_step (below_step (below_step (below_step ((unhide HB).trans (below_drew_ge _ _)) hr3) hr4) hr5) hr6
        rw [← unhide HE] at hv6
        have HV6 := hide hv6
        have HB6 := hide hb6
        clear hv3 hv4 hv5 hv45 hv6 hr3 hr4 hr5 hr6 hb6
        go_wp2
        exact ⟨⟨i + 1, by go_num, hlt, unhide HV6, unhide HB6⟩, by simp [intOf]; omega⟩
    · obtain rfl : i = s.size := by omega
      have e : s.data.toList.take s.size = s.data.toList := List.take_of_length_le (by simp)
      rw [e] at hv
      have HV := hide hv
      have HB := hide hb
      clear hv hb e
      go_wp2
      go_ret
      exact ⟨_, rfl, unhide HV, unhide HB⟩
end Go.Proofs.YtdicbnchkfclaaaDoor
