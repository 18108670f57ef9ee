/- What the checker's long division needs: a copy into a row of its own, both numbers shifted so that the divisor's upper word is great. -/
import Derived.Test.YtcelbgleajpenaaGreatDoorBE
import Derived.Lib.EndianBits
import Derived.Test.YtcelbgleajpenaaGreatDoorMB
import Derived.Laws.CopyOwn
namespace Go.Proofs.YtcelbgleajpenaaGreatDoor
open Go.RowKit Go.Sort

theorem two_pos (k : Nat) : (0 : Int) < 2 ^ k := Int.pow_pos (by decide)
theorem two_mono {j k : Nat} (h : j ≤ k) : (2 : Int) ^ j ≤ 2 ^ k := by
  obtain ⟨d, rfl⟩ : ∃ d, k = j + d := ⟨k - j, by omega⟩
  rw [Int.pow_add]
  have a := two_pos j
  have b := two_pos d
  have c : (2 : Int) ^ j * 1 ≤ 2 ^ j * 2 ^ d := Int.mul_le_mul_of_nonneg_left (by omega) (by omega)
  omega

set_option maxHeartbeats 4000000 in
set_option maxRecDepth 100000 in
set_option linter.unusedSimpArgs false in
theorem length32_any (a : Option Addr) (n c : Nat) (A : Int) (w : World) (hl : Wh.Len A n) (h : HRow w a n c (Wh.dig A)) (hn : 0 < n) (hn6 : n ≤ 1000000) :
    Calls Tryz.prog 177 #[.slice a n c] w fun e w' => ∃ k : Nat, e = .returned (.int .i64 (((n : Int) - 1) * 32 + k)) ∧ 1 ≤ k ∧ k ≤ 32 ∧ (2 : Int) ^ (k - 1) ≤ Wh.dig A (n - 1) ∧ Wh.dig A (n - 1) < 2 ^ k ∧ w' = w := by
  obtain ⟨h1, h2, h3⟩ := h
  obtain ⟨b, o, rfl, hbl, hca⟩ := h3 hn
  have ca := hca (n - 1) (by omega)
  have hT := Wh.dig_w A (n - 1)
  have hT0 : Wh.dig A (n - 1) ≠ 0 := by
    obtain ⟨_, q1, q2⟩ := hl
    have e : n = n - 1 + 1 := by omega
    exact Wh.dig_top (by rw [← e]; exact q1) (by rcases q2 with h | h; omega; exact h)
  obtain ⟨T, hTe⟩ : ∃ T, Wh.dig A (n - 1) = T := ⟨_, rfl⟩
  rw [hTe] at ca hT hT0 ⊢
  have HT := hide hT
  have HT0 := hide hT0
  have e1 : ((n : Int) == 0) = false := by simp; omega
  have e2 : IntKind.i64.wrap ((n : Int) - 1) = (n : Int) - 1 := by rw [IntKind.wrap_i64]; omega
  have e3 : ((n : Int) - 1).toNat = n - 1 := by omega
  have e4 : (0 : Int) ≤ (n : Int) - 1 := by omega
  have e5 : (n : Int) - 1 < (n : Int) := by omega
  have e6 : IntKind.i64.wrap (((n : Int) - 1) * 32) = ((n : Int) - 1) * 32 := by rw [IntKind.wrap_i64]; omega
  clear hca h3 hT hT0 hTe hl
  go_enter Tryz.func177, Tryz.ntmps177
  go_wp2_with fail
  go_loopw [3, 4] (fun vn vt wr => ∃ (j : Nat) (t : Int), vn = .int .i64 (j : Int) ∧ vt = .int .u32 t ∧ t = T / 2 ^ j ∧ j ≤ 32 ∧ (j = 0 ∨ (2 : Int) ^ (j - 1) ≤ T) ∧ wr = w) (fun vn _ _ => 33 - (intOf vn).toNat)
  case atStart => exact ⟨0, T, rfl, rfl, by simp, by omega, Or.inl rfl, rfl⟩
  case round =>
    obtain ⟨j, t, rfl, rfl, ht, hj, hjT, rfl⟩ := hrel
    have HTE := hide ht
    have HJT := hide hjT
    clear ht hjT
    by_cases h0 : t = 0
    · subst h0
      have e7 : IntKind.i64.wrap (((n : Int) - 1) * 32 + (j : Int)) = ((n : Int) - 1) * 32 + (j : Int) := by rw [IntKind.wrap_i64]; omega
      go_wp2_with fail
      (try simp only [Exit.inBlock, Exit.then])
      (try go_wp2)
      go_ret
      have hlt : T < 2 ^ j := by
        have e := unhide HTE
        have p := two_pos j
        have q := Int.lt_ediv_add_one_mul_self T p
        rw [← e] at q
        omega
      have hT := unhide HT
      have hT0 := unhide HT0
      have hj0 : j ≠ 0 := fun e => by subst e; have h1 := hT.1; simp at hlt; omega
      exact ⟨j, rfl, by omega, hj, by rcases unhide HJT with h | h; exact absurd h hj0; exact h, hlt, rfl⟩
    · have e7 : (t == 0) = false := by simp; exact h0
      have e8 : IntKind.i64.wrap ((j : Int) + 1) = (j : Int) + 1 := by rw [IntKind.wrap_i64]; omega
      have HH0 := hide h0
      clear h0
      go_wp2_with fail
      have e := unhide HTE
      have p := two_pos j
      have hT := unhide HT
      have hle : (2 : Int) ^ j ≤ T := by
        rcases Int.lt_or_le T (2 ^ j) with h | h
        · rw [Int.ediv_eq_zero_of_lt hT.1 h] at e
          exact absurd e (unhide HH0)
        · exact h
      have hj2 : j < 32 := by
        rcases Nat.lt_or_ge j 32 with h | h
        · exact h
        · have m := two_mono h
          have h2 := hT.2
          have e32 : (2 : Int) ^ 32 = 4294967296 := by decide
          omega
      exact ⟨⟨j + 1, _, by go_num, rfl, by rw [e, Int.pow_succ, Int.ediv_ediv_of_nonneg (by omega)], hj2, Or.inr hle, trivial⟩, by simp [intOf]; omega⟩
/-- A word shifted to the left: what stays, and what is carried on. -/
theorem left_step {x S : Int} {s : Nat} (hs : s < 32) (hS : (2 : Int) ^ s = S) (hx : Wh.W32 x) : 0 ≤ x * S ∧ x * S < 18446744073709551616 ∧ x * S / 4294967296 < S ∧ x * S % 4294967296 % 2 ^ s = 0 ∧ x * S % 4294967296 + S ≤ 4294967296 ∧ 0 < S ∧ S ≤ 2147483648 := by
  obtain ⟨x0, x1⟩ := hx
  have p := two_pos s
  have m := two_mono (j := s) (k := 31) (by omega)
  have e31 : (2 : Int) ^ 31 = 2147483648 := by decide
  have sp : (2 : Int) ^ s * 2 ^ (32 - s) = 4294967296 := by
    rw [← Int.pow_add, show s + (32 - s) = 32 by omega]; decide
  have q := two_pos (32 - s)
  rw [hS] at sp p m
  have h1 : 0 ≤ x * S := Int.mul_nonneg x0 (by omega)
  have h2 : x * S < 4294967296 * S := Int.mul_lt_mul_of_pos_right x1 p
  have e : x * S % 4294967296 = S * (x % 2 ^ (32 - s)) := by rw [← sp, Int.mul_comm x, Int.mul_emod_mul_of_pos _ _ p]
  have m1 := Int.emod_lt_of_pos x q
  refine ⟨h1, by omega, Int.ediv_lt_of_lt_mul (by decide) (by omega), by rw [e, hS, Int.mul_emod_right], ?_, p, by omega⟩
  have t : S * (x % 2 ^ (32 - s) + 1) ≤ S * 2 ^ (32 - s) := Int.mul_le_mul_of_nonneg_left (by omega) (by omega)
  rw [Int.mul_add, Int.mul_one, sp, ← e] at t
  exact t
theorem or_low {y x : Int} {s : Nat} (hs : s < 32) (y0 : 0 ≤ y) (y1 : y < 2 ^ s) (x0 : 0 ≤ x) (x1 : x < 4294967296) (hx : x % 2 ^ s = 0) : bits .or .u32 y x = y + x := by
  have m := two_mono (j := s) (k := 32) (by omega)
  have e32 : (2 : Int) ^ 32 = 4294967296 := by decide
  exact bits_join_low .u32 32 (by decide) (fun n h1 h2 => by rw [IntKind.wrap_u32]; omega) s _ _ y0 y1 (by omega) x0 hx (by omega)

set_option maxHeartbeats 4000000 in
set_option maxRecDepth 100000 in
set_option linter.unusedSimpArgs false in
theorem left32_any (va : Value) (A : Int) (s : Nat) (w : World) (ha : HNat w va A) (sa : SmH A) (hs : s < 32) :
    Calls Tryz.prog 178 #[va, .int .u64 (s : Int)] w fun e w' => ∃ v, e = .returned v ∧ HNat w' v (A * 2 ^ s) ∧ Below w.heap.size w w' := by
  obtain ⟨a, n, c, rfl, hl, h1, h2, h3⟩ := ha
  have hn6 : n ≤ 1000000 := sa.len hl
  clear sa
  by_cases hn0 : n = 0
  · subst hn0
    have hA := hl.zero
    subst hA
    clear h3
    go_enter Tryz.func178, Tryz.ntmps178
    go_wp2
    go_ret
    exact ⟨_, rfl, by rw [Int.zero_mul]; exact hNat_zero _ _ _ (by decide), Below.refl _ _⟩
  have nn : ((n : Int) == 0) = false := by simp; omega
  have H3 := hide h3
  have HLA := hide hl
  have HS := hide hs
  obtain ⟨S, hS⟩ : ∃ S, (2 : Int) ^ s = S := ⟨_, rfl⟩
  have HSS := hide hS
  obtain ⟨L, hL⟩ : ∃ L, n + 1 = L := ⟨_, rfl⟩
  have HL := hide hL
  have qmk := make_halves L (by omega) w
  have S0 := HOwn.start w L
  obtain ⟨W0, hW0⟩ : ∃ W, w.alloc (.cells (halves (List.replicate L 0)).toArray 175) = W := ⟨_, rfl⟩
  obtain ⟨g, hg⟩ : ∃ g, w.heap.size = g := ⟨_, rfl⟩
  rw [hW0, hg] at qmk S0
  have HS0 := hide S0
  have e4 : IntKind.i64.wrap ((n : Int) + 1) = (L : Int) := by rw [IntKind.wrap_i64]; omega
  have e5 : IntKind.i64.wrap (n : Int) = (n : Int) := by rw [IntKind.wrap_i64]; omega
  have s1 : (s : Int) / 32 = 0 := by omega
  have s2 : (s : Int) % 32 = (s : Int) := by omega
  have s3 : Int.tdiv (s : Int) 32 = 0 := by rw [Int.tdiv_eq_ediv_of_nonneg (by omega)]; omega
  have s4 : Int.tmod (s : Int) 32 = (s : Int) := by rw [Int.tmod_eq_emod_of_nonneg (by omega)]; omega
  have s5 : IntKind.u64.wrap (s : Int) = (s : Int) := by rw [IntKind.wrap_u64]; omega
  have s6 : ¬ (64 : Int) ≤ (s : Int) := by omega
  clear S0 h3 hl hg hW0 hL hn0 hS hs
  go_enter Tryz.func178, Tryz.ntmps178
  go_wp2_with fail
  clear qmk
  go_loopw [8] (fun vi wr => ∃ (i : Nat) (xs : List Int), vi = .int .i64 (i : Int) ∧ i ≤ n ∧ HOwn w wr g xs ∧ xs.length = L ∧ (∀ k, k < xs.length → Wh.W32 xs[k]!) ∧ lv xs (i + 1) = Wh.vl (Wh.dig A) i * S ∧ xs[i]! < S ∧ ∀ k, i < k → k < L → xs[k]! = 0) (fun vi _ => n - (intOf vi).toNat)
  case atStart => exact ⟨0, _, rfl, Nat.zero_le _, unhide HS0, by simp, fun k hk => by simp at hk; simp [hk]; exact ⟨by decide, by decide⟩, by have := unhide HL; simp [lv, Wh.vl]; rw [← this]; simp, by have := unhide HL; rw [← this, ← unhide HSS]; simp; exact two_pos s, fun k _ hk => by simp [hk]⟩
  case round =>
    obtain ⟨i, xs, rfl, hi, own, hxl, hw32, hval, htop, hzero⟩ := hrel
    have HXL := hide hxl
    have HW := hide hw32
    have HVA := hide hval
    have HTOP := hide htop
    have HZE := hide hzero
    have hL := unhide HL
    by_cases hlt : i < n
    · have f1 : (i : Int) < (n : Int) := by omega
      have f0 : (0 : Int) ≤ (i : Int) := by omega
      have f3 : IntKind.i64.wrap ((i : Int) + 1) = (i : Int) + 1 := by rw [IntKind.wrap_i64]; omega
      have f4 : (i : Int) < (L : Int) := by omega
      have f5 : IntKind.i64.wrap (i : Int) = (i : Int) := by rw [IntKind.wrap_i64]; omega
      have f6 : (i : Int) + 1 < (L : Int) := by omega
      have f7 : (0 : Int) ≤ (i : Int) + 1 := by omega
      have f8 : ((i : Int) + 1).toNat = i + 1 := by omega
      obtain ⟨ba, oa, rfl, hbl, hca⟩ := unhide H3 (by omega)
      have ca := hca i hlt
      rw [← own.bl.cell (p := ⟨ba, oa + i, none⟩) hbl] at ca
      obtain ⟨x, hx⟩ : ∃ x, Wh.dig A i = x := ⟨_, rfl⟩
      have wx : Wh.W32 x := by rw [← hx]; exact Wh.dig_w _ _
      have ux : IntKind.u64.wrap x = x := by rw [IntKind.wrap_u64]; have := wx.1; have := wx.2; omega
      rw [hx] at ca
      obtain ⟨q1, q2, q3, q4, q5, q6, q7⟩ := left_step (unhide HS) (unhide HSS) wx
      obtain ⟨v, hv⟩ : ∃ v, x * S = v := ⟨_, rfl⟩
      rw [hv] at q1 q2 q3 q4 q5
      have us : IntKind.u64.wrap (x * 2 ^ s) = v := by rw [unhide HSS, hv, IntKind.wrap_u64]; omega
      obtain ⟨y, hy⟩ : ∃ y, xs[i]! = y := ⟨_, rfl⟩
      have wy : Wh.W32 y := by rw [← hy]; exact hw32 i (by omega)
      have uq : IntKind.u32.wrap v = v % 4294967296 := by rw [IntKind.wrap_u32]
      obtain ⟨lo, hlo⟩ : ∃ lo, v % 4294967296 = lo := ⟨_, rfl⟩
      rw [hlo] at uq q4 q5
      have ub : bits .or .u32 y lo = y + lo := or_low (unhide HS) wy.1 (by rw [unhide HSS, ← hy]; exact htop) (by omega) (by omega) q4
      obtain ⟨hi', hhi⟩ : ∃ z, v / 4294967296 = z := ⟨_, rfl⟩
      have uh : IntKind.u32.wrap (v / 4294967296) = hi' := by rw [IntKind.wrap_u32]; omega
      have uh2 : v / 4294967296 % 4294967296 = hi' := by omega
      rw [hhi] at q3
      have ub2 : bits .or .u32 0 hi' = hi' := by
        have := or_low (y := 0) (x := hi') (s := 0) (by decide) (by decide) (by decide) (by omega) (by omega) (by omega)
        rw [this, Int.zero_add]
      have hil : i < xs.length := by omega
      have ⟨cr2, fr2⟩ := own.cell hil
      rw [hy] at cr2
      have own3 := own.set i (y + lo)
      obtain ⟨W5, hW5⟩ : ∃ W, wr.setCell ⟨g, i, none⟩ (.int .u32 (y + lo)) = W := ⟨_, rfl⟩
      rw [hW5] at own3
      have hil2 : i + 1 < (xs.set i (y + lo)).length := by rw [List.length_set]; omega
      have ⟨cr3, fr3⟩ := own3.cell hil2
      rw [get_set (by omega), hzero (i + 1) (by omega) (by omega)] at cr3
      have own4 := own3.set (i + 1) hi'
      obtain ⟨W6, hW6⟩ : ∃ W, W5.setCell ⟨g, i + 1, none⟩ (.int .u32 hi') = W := ⟨_, rfl⟩
      rw [hW6] at own4
      have HO4 := hide own4
      have FIN : Hid (((xs.set i (y + lo)).set (i + 1) hi').length = L ∧ (∀ k, k < ((xs.set i (y + lo)).set (i + 1) hi').length → Wh.W32 ((xs.set i (y + lo)).set (i + 1) hi')[k]!) ∧ lv ((xs.set i (y + lo)).set (i + 1) hi') (i + 1 + 1) = Wh.vl (Wh.dig A) (i + 1) * S ∧ ((xs.set i (y + lo)).set (i + 1) hi')[i + 1]! < S ∧ ∀ k, i + 1 < k → k < L → ((xs.set i (y + lo)).set (i + 1) hi')[k]! = 0) := by
        have htop' := htop
        rw [hy] at htop'
        refine ⟨by rw [List.length_set, List.length_set]; exact hxl, w_set (w_set hw32 ⟨by have := wy.1; omega, by omega⟩) ⟨by omega, by omega⟩, ?_, ?_, fun k h1 h2 => by rw [get_set (by omega), get_set (by omega)]; exact hzero k (by omega) h2⟩
        · rw [lv_next _ hil2, lv_set _ hil (by omega), hval, hy, Wh.vl_succ, hx, Wh.pw_succ, Int.add_mul, show Wh.pw i * x * S = Wh.pw i * v by rw [Int.mul_assoc, hv]]
          have e : 4294967296 * hi' + lo = v := by rw [← hhi, ← hlo]; exact Int.mul_ediv_add_emod v 4294967296
          rw [← e]
          grind
        · have e : ((xs.set i (y + lo)).set (i + 1) hi')[i + 1]! = hi' := by have : i + 1 < xs.length := by omega
                                                                             simp [this]
          rw [e]; exact q3
      clear own own3 own4 hca hx wx wy hv hy hlo hhi hil hil2 q1 q2 q3 q4 q5 q6 q7 hxl hw32 hval htop hzero hL HXL HW HVA HTOP HZE
      go_wp2_with fail
      exact ⟨⟨i + 1, _, by go_num, hlt, unhide HO4, unhide FIN⟩, by simp [intOf]; omega⟩
    · obtain rfl : n = i := by omega
      have f1 : ¬ (n : Int) < (n : Int) := by omega
      have hrow := own.hrow (by omega)
      rw [hxl] at hrow
      have ev : Wh.vl (fun j => xs[j]!) L = A * 2 ^ s := by
        rw [hL] at hval
        unfold lv at hval
        rw [hval, Wh.vl_dig_all (unhide HLA).1 (unhide HLA).2.1, unhide HSS]
      have HTR := hide (trim32_any _ L L _ wr hrow (fun j hj => hw32 j (by omega)))
      have HHN : Hid (∀ k, k ≤ L → Wh.Len (Wh.vl (fun j => xs[j]!) L) k → HNat wr (.slice (some ⟨g, 0, none⟩) k L) (A * 2 ^ s)) := fun k hk hl => by
        have h := hNat_trim hrow (fun j hj => hw32 j (by omega)) hk hl
        rw [ev] at h
        exact h
      have HBB := hide own.bl
      clear hrow hxl own ev hw32 hval htop hzero hL HXL HW HVA HTOP HZE
      go_wp2_with fail
      (try simp only [Exit.inBlock, Exit.then])
      (try go_wp2_with fail)
      refine (unhide HTR).mono ?_
      rintro e w9 ⟨k, rfl, hk, hl9, rfl⟩
      have HV9 := hide (unhide HHN k hk hl9)
      clear hl9
      go_wp2
      go_ret
      exact ⟨_, rfl, unhide HV9, unhide HBB⟩

end Go.Proofs.YtcelbgleajpenaaGreatDoor
/- The checker's numbers shifted to the right. -/
namespace Go.Proofs.YtcelbgleajpenaaGreatDoor
open Go.RowKit Go.Sort

theorem split32 {s : Nat} (hs : s < 32) : (2 : Int) ^ s * 2 ^ (32 - s) = 4294967296 := by
  rw [← Int.pow_add, show s + (32 - s) = 32 by omega]; decide
theorem dig_shr (A : Int) {s : Nat} (hs : s < 32) (j : Nat) : Wh.dig (A / 2 ^ s) j = (Wh.dig A j + Wh.dig A (j + 1) * 4294967296) / 2 ^ s % 4294967296 := by
  unfold Wh.dig
  have sp := split32 hs
  have p := two_pos s
  generalize (2 : Int) ^ s = S at *
  generalize (2 : Int) ^ (32 - s) = R at *
  have hp := Wh.pw_pos j
  rw [Int.ediv_ediv_of_nonneg (by omega), Int.mul_comm S, ← Int.ediv_ediv_of_nonneg (by omega), Wh.pw_succ, Int.mul_comm 4294967296 (Wh.pw j), ← Int.ediv_ediv_of_nonneg (by omega)]
  generalize A / Wh.pw j = Q
  have e1 := Int.mul_ediv_add_emod Q 4294967296
  have e2 := Int.mul_ediv_add_emod (Q / 4294967296) 4294967296
  obtain ⟨r, hr⟩ : ∃ r, Q % 4294967296 + Q / 4294967296 % 4294967296 * 4294967296 = r := ⟨_, rfl⟩
  obtain ⟨k, hk⟩ : ∃ k, Q / 4294967296 / 4294967296 = k := ⟨_, rfl⟩
  rw [hr]
  have e : Q = r + S * (R * (4294967296 * k)) := by
    rw [← Int.mul_assoc S R, sp]
    omega
  have d : Q / S = r / S + R * (4294967296 * k) := by
    rw [e]
    exact Int.add_mul_ediv_left _ _ (by omega)
  rw [d, show R * (4294967296 * k) = (R * k) * 4294967296 by grind]
  generalize R * k = z
  omega

set_option maxHeartbeats 4000000 in
set_option maxRecDepth 100000 in
set_option linter.unusedSimpArgs false in
theorem right32_any (va : Value) (A : Int) (s : Nat) (w : World) (ha : HNat w va A) (sa : SmH A) (hs : s < 32) :
    Calls Tryz.prog 179 #[va, .int .u64 (s : Int)] w fun e w' => ∃ v, e = .returned v ∧ HNat w' v (A / 2 ^ s) ∧ Below w.heap.size w w' := by
  obtain ⟨a, n, c, rfl, hl, h1, h2, h3⟩ := ha
  have hn6 : n ≤ 1000000 := sa.len hl
  clear sa
  have s1 : (s : Int) / 32 = 0 := by omega
  have s2 : (s : Int) % 32 = (s : Int) := by omega
  have s3 : Int.tdiv (s : Int) 32 = 0 := by rw [Int.tdiv_eq_ediv_of_nonneg (by omega)]; omega
  have s4 : Int.tmod (s : Int) 32 = (s : Int) := by rw [Int.tmod_eq_emod_of_nonneg (by omega)]; omega
  have s5 : IntKind.u64.wrap (s : Int) = (s : Int) := by rw [IntKind.wrap_u64]; omega
  have s6 : ¬ (64 : Int) ≤ (s : Int) := by omega
  by_cases hn0 : n = 0
  · subst hn0
    have hA := hl.zero
    subst hA
    clear h3 hs
    go_enter Tryz.func179, Tryz.ntmps179
    go_wp2
    go_ret
    exact ⟨_, rfl, hNat_zero _ _ _ (by decide), Below.refl _ _⟩
  have nn : ¬ (n : Int) ≤ 0 := by omega
  have H3 := hide h3
  have HLA := hide hl
  have HS := hide hs
  have qmk := make_halves n (by omega) w
  have S0 := HOwn.start w n
  obtain ⟨W0, hW0⟩ : ∃ W, w.alloc (.cells (halves (List.replicate n 0)).toArray 175) = W := ⟨_, rfl⟩
  obtain ⟨g, hg⟩ : ∃ g, w.heap.size = g := ⟨_, rfl⟩
  rw [hW0, hg] at qmk S0
  have HS0 := hide S0
  have e5 : IntKind.i64.wrap (n : Int) = (n : Int) := by rw [IntKind.wrap_i64]; omega
  clear S0 h3 hl hg hW0 hn0 hs
  go_enter Tryz.func179, Tryz.ntmps179
  go_wp2_with fail
  clear qmk
  go_loopw [8] (fun vi wr => ∃ (i : Nat) (xs : List Int), vi = .int .i64 (i : Int) ∧ i ≤ n ∧ HOwn w wr g xs ∧ xs.length = n ∧ (∀ k, k < xs.length → Wh.W32 xs[k]!) ∧ ∀ k, k < i → xs[k]! = Wh.dig (A / 2 ^ s) k) (fun vi _ => n - (intOf vi).toNat)
  case atStart => exact ⟨0, _, rfl, Nat.zero_le _, unhide HS0, by simp, fun k hk => by simp at hk; simp [hk]; exact ⟨by decide, by decide⟩, fun k hk => by omega⟩
  case round =>
    obtain ⟨i, xs, rfl, hi, own, hxl, hw32, hval⟩ := hrel
    by_cases hlt : i < n
    · have f1 : (i : Int) < (n : Int) := by omega
      have f0 : (0 : Int) ≤ (i : Int) := by omega
      have f3 : IntKind.i64.wrap ((i : Int) + 1) = (i : Int) + 1 := by rw [IntKind.wrap_i64]; omega
      have f5 : IntKind.i64.wrap (i : Int) = (i : Int) := by rw [IntKind.wrap_i64]; omega
      have f7 : (0 : Int) ≤ (i : Int) + 1 := by omega
      have f8 : ((i : Int) + 1).toNat = i + 1 := by omega
      obtain ⟨ba, oa, rfl, hbl, hca⟩ := unhide H3 (by omega)
      have ca := hca i hlt
      rw [← own.bl.cell (p := ⟨ba, oa + i, none⟩) hbl] at ca
      obtain ⟨x, hx⟩ : ∃ x, Wh.dig A i = x := ⟨_, rfl⟩
      obtain ⟨y, hy⟩ : ∃ y, Wh.dig A (i + 1) = y := ⟨_, rfl⟩
      have wx : Wh.W32 x := by rw [← hx]; exact Wh.dig_w _ _
      have wy : Wh.W32 y := by rw [← hy]; exact Wh.dig_w _ _
      have ux : IntKind.u64.wrap x = x := by rw [IntKind.wrap_u64]; have := wx.1; have := wx.2; omega
      have uy : IntKind.u64.wrap y = y := by rw [IntKind.wrap_u64]; have := wy.1; have := wy.2; omega
      rw [hx] at ca
      obtain ⟨v, hv⟩ : ∃ v, x + y * 4294967296 = v := ⟨_, rfl⟩
      have hd := dig_shr A (unhide HS) i
      rw [hx, hy, hv] at hd
      have uq : IntKind.u32.wrap (v / 2 ^ s) = v / 2 ^ s % 4294967296 := by rw [IntKind.wrap_u32]
      obtain ⟨z, hz⟩ : ∃ z, v / 2 ^ s % 4294967296 = z := ⟨_, rfl⟩
      rw [hz] at hd uq
      have wz : Wh.W32 z := by rw [← hd]; exact Wh.dig_w _ _
      have hil : i < xs.length := by omega
      have ⟨cr2, fr2⟩ := own.cell hil
      have own3 := own.set i z
      obtain ⟨W5, hW5⟩ : ∃ W, wr.setCell ⟨g, i, none⟩ (.int .u32 z) = W := ⟨_, rfl⟩
      rw [hW5] at own3
      have HO3 := hide own3
      have FIN : Hid ((xs.set i z).length = n ∧ (∀ k, k < (xs.set i z).length → Wh.W32 (xs.set i z)[k]!) ∧ ∀ k, k < i + 1 → (xs.set i z)[k]! = Wh.dig (A / 2 ^ s) k) := by
        refine ⟨by rw [List.length_set]; exact hxl, w_set hw32 wz, fun k hk => ?_⟩
        by_cases e : k = i
        · subst e
          rw [hd]
          simp [hil]
        · rw [get_set e]; exact hval k (by omega)
      by_cases hlm : i + 1 < n
      · have g1 : (i : Int) + 1 < (n : Int) := by omega
        have cb := hca (i + 1) hlm
        rw [← own.bl.cell (p := ⟨ba, oa + (i + 1), none⟩) hbl, hy] at cb
        have us : IntKind.u64.wrap (y * 4294967296) = y * 4294967296 := by rw [IntKind.wrap_u64]; have := wy.1; have := wy.2; omega
        have ub : bits .or .u64 x (y * 4294967296) = v := by
          rw [← hv]
          have := wx.1; have := wx.2; have := wy.1; have := wy.2
          exact bits_join_low .u64 64 (by decide) (fun n h1 h2 => by rw [IntKind.wrap_u64]; omega) 32 _ _ (by omega) (by omega) (by omega) (by omega) (by omega) (by omega)
        clear own own3 hca hx hy wx wy hv hz hil hd wz hxl hw32 hval
        go_wp2_with fail
        exact ⟨⟨i + 1, _, by go_num, hlt, unhide HO3, unhide FIN⟩, by simp [intOf]; omega⟩
      · have g1 : ¬ (i : Int) + 1 < (n : Int) := by omega
        have y0 : y = 0 := by
          rw [← hy]
          exact Wh.dig_zero_of (unhide HLA).1 (by rw [show i + 1 = n by omega]; exact (unhide HLA).2.1)
        have hv' : x = v := by omega
        subst hv'
        clear own own3 hca hx hy wx wy hv hz hil hd wz hxl hw32 hval y0
        go_wp2_with fail
        exact ⟨⟨i + 1, _, by go_num, hlt, unhide HO3, unhide FIN⟩, by simp [intOf]; omega⟩
    · obtain rfl : n = i := by omega
      have f1 : ¬ (n : Int) < (n : Int) := by omega
      have hrow := own.hrow (by omega)
      rw [hxl] at hrow
      have ev : Wh.vl (fun j => xs[j]!) n = A / 2 ^ s := by
        have p := two_pos s
        rw [Wh.vl_congr (g := Wh.dig (A / 2 ^ s)) (fun j hj => hval j hj)]
        have q0 : 0 ≤ A / 2 ^ s := Int.ediv_nonneg (unhide HLA).1 (by omega)
        have q1 : A / 2 ^ s ≤ A := Int.ediv_le_self _ (unhide HLA).1
        exact Wh.vl_dig_all q0 (Int.lt_of_le_of_lt q1 (unhide HLA).2.1)
      have HTR := hide (trim32_any _ n n _ wr hrow (fun j hj => hw32 j (by omega)))
      have HHN : Hid (∀ k, k ≤ n → Wh.Len (Wh.vl (fun j => xs[j]!) n) k → HNat wr (.slice (some ⟨g, 0, none⟩) k n) (A / 2 ^ s)) := fun k hk hl => by
        have h := hNat_trim hrow (fun j hj => hw32 j (by omega)) hk hl
        rw [ev] at h
        exact h
      have HBB := hide own.bl
      clear hrow hxl own ev hw32 hval
      go_wp2_with fail
      (try simp only [Exit.inBlock, Exit.then])
      (try go_wp2_with fail)
      refine (unhide HTR).mono ?_
      rintro e w9 ⟨k, rfl, hk, hl9, rfl⟩
      have HV9 := hide (unhide HHN k hk hl9)
      clear hl9
      go_wp2
      go_ret
      exact ⟨_, rfl, unhide HV9, unhide HBB⟩
end Go.Proofs.YtcelbgleajpenaaGreatDoor
namespace Go.Proofs.YtcelbgleajpenaaGreatDoor
open Go.RowKit Go.Sort

theorem HOwn.keep {w wr w' : World} {g : Nat} {xs : List Int} (h : HOwn w wr g xs) (hb : Below wr.heap.size wr w') : HOwn w w' g xs :=
  ⟨by rw [hb.block g h.lt]; exact h.row, bstep h.bl hb, h.gl⟩
/-- The words of a number, so many. -/
def digL (A : Int) (k : Nat) : List Int := (List.range k).map (Wh.dig A)
theorem digL_length (A : Int) (k : Nat) : (digL A k).length = k := by simp [digL]
theorem digL_get {A : Int} {k j : Nat} (h : j < k) : (digL A k)[j]! = Wh.dig A j := by simp [digL, h]
theorem Tryz.size32 : (Tryz.prog.info? 175).map (·.size) = some 1 := by kernel_rfl
theorem copy_digs {A : Int} {n k : Nat} (hn : n ≤ k) (hl : Wh.Len A n) : splice (halves (List.replicate k 0)) 0 (halves (digL A n)) = halves (digL A k) := by
  apply List.ext_getElem?
  intro j
  have l1 : (halves (digL A n)).length = n := by simp [halves, digL]
  simp only [splice, List.take_zero, List.nil_append, Nat.zero_add]
  by_cases hj : j < n
  · rw [List.getElem?_append_left (by rw [l1]; exact hj), halves_get (by rw [digL_length]; exact hj), halves_get (by rw [digL_length]; omega), digL_get hj, digL_get (by omega)]
  · rw [List.getElem?_append_right (by rw [l1]; omega), l1, List.getElem?_drop]
    have e : n + (j - n) = j := by omega
    rw [e]
    by_cases hk : j < k
    · have z : Wh.dig A j = 0 := Wh.dig_zero_of hl.1 (Int.lt_of_lt_of_le hl.2.1 (Wh.pw_mono (by omega)))
      rw [halves_get (by simp; exact hk), halves_get (by rw [digL_length]; exact hk), digL_get hk, z]
      simp [hk]
    · simp [halves, digL, hk]
theorem copy32_run {w W : World} {A : Int} {g n k c : Nat} {a : Option Addr} (own : HOwn w W g (List.replicate k 0)) (hn : n ≤ k) (hl : Wh.Len A n) (hr : HRow W a n c (Wh.dig A)) :
    ∃ W', (Builtin.copy_ #[82, 82] 3 #[.slice (some ⟨g, 0, none⟩) k k, .slice a n c]).run Tryz.prog W = .ok (.int .i64 n) W' ∧ HOwn w W' g (digL A k) := by
  by_cases h0 : n = 0
  · subst h0
    refine ⟨_, run_copy_none _ _ _ _ 175 _ _ _ _ _ _ Tryz.underlying82 Tryz.size32 (Nat.zero_min _), ?_⟩
    have e := copy_digs hn hl
    have e2 : halves (List.replicate k 0) = halves (digL A k) := by rw [← e]; simp [splice, halves, digL]
    exact ⟨by rw [← e2]; exact own.row, own.bl, own.gl⟩
  · obtain ⟨h1, h2, h3⟩ := hr
    have hp : 0 < n := Nat.pos_of_ne_zero h0
    obtain ⟨b, o, rfl, hlt, hc⟩ := h3 hp
    have l1 : (halves (digL A n)).length = n := by simp [halves, digL]
    have hr := run_copy_row (P := Tryz.prog) W 82 82 3 175 g 0 k k ⟨b, o, none⟩ n c (halves (List.replicate k 0)).toArray 175 (halves (digL A n)) Tryz.underlying82 Tryz.size32 own.row
      (by rw [l1]; exact (Nat.min_eq_left hn).symm)
      (fun j v hv => by
        have hj : j < n := by
          rcases Nat.lt_or_ge j n with h | h
          · exact h
          · rw [List.getElem?_eq_none (by rw [l1]; exact h)] at hv; cases hv
        rw [halves_get (by rw [digL_length]; exact hj), digL_get hj] at hv
        injection hv with hv
        subst hv
        have := hc j hj
        by_cases hj0 : j = 0
        · subst hj0; simpa [Addr.add] using this
        · simpa [Addr.add, hj0] using this)
      (by rw [l1]; simp [halves]; exact hn)
      (fun v hv => by
        obtain ⟨j, hj⟩ := List.getElem?_of_mem hv
        have hjn : j < n := by
          rcases Nat.lt_or_ge j n with h | h
          · exact h
          · rw [List.getElem?_eq_none (by rw [l1]; exact h)] at hj; cases hj
        rw [halves_get (by rw [digL_length]; exact hjn)] at hj
        injection hj with hj
        subst hj
        rfl)
    rw [l1] at hr
    refine ⟨_, hr, ?_, below_setRow own.bl own.gl _, own.gl⟩
    rw [setRow_heap _ _ _ _ _ _ own.row]
    have e := copy_digs hn hl
    simp only [splice, List.take_zero, List.nil_append, Nat.zero_add, l1] at e
    rw [← e]
    simp
/-- The divisor shifted: as many words, and its upper one is great. -/
theorem norm_len32 {B : Int} {m k : Nat} (hl : Wh.Len B m) (hm : 0 < m) (h1 : 1 ≤ k) (h2 : k ≤ 32) (lo : (2 : Int) ^ (k - 1) ≤ Wh.dig B (m - 1)) (hi : Wh.dig B (m - 1) < 2 ^ k) : Wh.Len (B * 2 ^ (32 - k)) m ∧ 2147483648 * Wh.pw (m - 1) ≤ B * 2 ^ (32 - k) := by
  obtain ⟨r, rfl⟩ : ∃ r, m = r + 1 := ⟨m - 1, by omega⟩
  rw [Nat.add_sub_cancel] at *
  have p := Wh.pw_pos r
  have b0 := hl.1
  have b1 := hl.2.1
  have e := Wh.vl_dig_all b0 b1
  rw [Wh.vl_succ] at e
  have bd := Wh.vl_bd (f := Wh.dig B) (n := r) (fun j _ => Wh.dig_w B j)
  have sp : (2 : Int) ^ k * 2 ^ (32 - k) = 4294967296 := by
    rw [← Int.pow_add, show k + (32 - k) = 32 by omega]; decide
  have sp2 : (2 : Int) ^ (k - 1) * 2 ^ (32 - k) = 2147483648 := by
    rw [← Int.pow_add, show k - 1 + (32 - k) = 31 by omega]; decide
  have ps := two_pos (32 - k)
  generalize (2 : Int) ^ (32 - k) = S at *
  generalize (2 : Int) ^ (k - 1) = L at *
  generalize (2 : Int) ^ k = K at *
  generalize Wh.dig B r = t at *
  generalize Wh.vl (Wh.dig B) r = low at *
  have lowB : L * Wh.pw r ≤ B := by
    have : Wh.pw r * L ≤ Wh.pw r * t := Int.mul_le_mul_of_nonneg_left lo (by omega)
    rw [Int.mul_comm L]
    omega
  have upB : B < K * Wh.pw r := by
    have : Wh.pw r * (t + 1) ≤ Wh.pw r * K := Int.mul_le_mul_of_nonneg_left (by omega) (by omega)
    rw [Int.mul_comm K]
    rw [Int.mul_add] at this
    omega
  have lowS : 2147483648 * Wh.pw r ≤ B * S := by
    have : L * Wh.pw r * S ≤ B * S := Int.mul_le_mul_of_nonneg_right lowB (by omega)
    rw [Int.mul_right_comm, sp2] at this
    exact this
  have upS : B * S < 4294967296 * Wh.pw r := by
    have : B * S < K * Wh.pw r * S := Int.mul_lt_mul_of_pos_right upB ps
    rw [Int.mul_right_comm, sp] at this
    exact this
  exact ⟨⟨by omega, by rw [Wh.pw_succ]; exact upS, Or.inr (by rw [Nat.add_sub_cancel]; omega)⟩, lowS⟩
end Go.Proofs.YtcelbgleajpenaaGreatDoor
