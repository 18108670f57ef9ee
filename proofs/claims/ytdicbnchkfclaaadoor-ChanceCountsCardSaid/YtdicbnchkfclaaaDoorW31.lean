/- One digit of a long division: guessed by the upper words, taken away, put right. -/
import Derived.Test.YtdicbnchkfclaaaDoorW30
namespace Go.Proofs.YtdicbnchkfclaaaDoor
open Go.RowKit Go.Sort Go.Shelf

theorem mul64 (x y : Int) (hx : Wd.W64 x) (hy : Wd.W64 y) (w : World) :
    Calls Tryd.prog 93 #[.int .u64 x, .int .u64 y] w fun e w' => e = .returned (.tuple #[.int .u64 (x * y / 18446744073709551616), .int .u64 (x * y % 18446744073709551616)]) ∧ w' = w := by
  obtain ⟨hx0, hx1⟩ := hx
  obtain ⟨hy0, hy1⟩ := hy
  obtain ⟨X, rfl⟩ := Int.eq_ofNat_of_zero_le hx0
  obtain ⟨Y, rfl⟩ := Int.eq_ofNat_of_zero_le hy0
  have hM := Tryd.bits_Mul64 X Y (by omega) (by omega) w
  have e1 : ((X * Y / 18446744073709551616 : Nat) : Int) = (X : Int) * Y / 18446744073709551616 := by simp
  have e2 : ((X * Y % 18446744073709551616 : Nat) : Int) = (X : Int) * Y % 18446744073709551616 := by simp
  rw [e1, e2] at hM
  exact hM

theorem mul_word_lt {x y : Int} (hx : Wd.W64 x) (hy : Wd.W64 y) : 0 ≤ x * y ∧ x * y < 18446744073709551616 * 18446744073709551615 := by
  obtain ⟨hx0, hx1⟩ := hx
  obtain ⟨hy0, hy1⟩ := hy
  refine ⟨Int.mul_nonneg hx0 hy0, ?_⟩
  have : x * y ≤ 18446744073709551615 * 18446744073709551615 := Int.mul_le_mul (by omega) (by omega) (by omega) (by omega)
  omega

/-- The two words of the rest. -/
theorem Gu_over {P1 p0 top next t r : Int} (g : Wd.Gu P1 (P1 * 18446744073709551616 + p0) top (top * 18446744073709551616 + next) t r) (hn : Wd.W64 next) (hp : 0 ≤ p0) (h : 18446744073709551616 ≤ r) : t * next ≤ r * 18446744073709551616 + p0 := by
  have := (mul_word_lt ⟨g.t0, g.t1⟩ hn).2
  omega

set_option maxHeartbeats 2000000 in
set_option maxRecDepth 100000 in
theorem guess_any (a a' : Option Addr) (c c' k : Nat) (f h : Nat → Int) (w : World) (hra : RowIs w a (k + 3) c f) (hrb : RowIs w a' (k + 2) c' h) (hf : ∀ j, j < k + 3 → Wd.W64 (f j)) (hh : ∀ j, j < k + 2 → Wd.W64 (h j))
    (htop : 0 < h (k + 1)) (hle : f (k + 2) ≤ h (k + 1)) :
    Calls Tryd.prog 107 #[.slice a (k + 3 : Nat) c, .slice a' (k + 2 : Nat) c'] w fun e w' => ∃ t r, e = .returned (.int .u64 t) ∧
      Wd.Gu (f (k + 2) * 18446744073709551616 + f (k + 1)) ((f (k + 2) * 18446744073709551616 + f (k + 1)) * 18446744073709551616 + f k) (h (k + 1)) (h (k + 1) * 18446744073709551616 + h k) t r ∧
      t * h k ≤ r * 18446744073709551616 + f k ∧ ∃ z, w' = w.drewN z := by
  obtain ⟨h1, h2, h3⟩ := hra
  obtain ⟨h1', h2', h3'⟩ := hrb
  obtain ⟨b, o, rfl, hlt, hc⟩ := h3 (by omega)
  obtain ⟨b', o', rfl, hlt', hc'⟩ := h3' (by omega)
  have ca0 := hc k (by omega)
  have ca1 := hc (k + 1) (by omega)
  have ca2 := hc (k + 2) (by omega)
  have cb0 := hc' k (by omega)
  have cb1 := hc' (k + 1) (by omega)
  have wp0 := hf k (by omega)
  have wu0 := hf (k + 1) (by omega)
  have wu1 := hf (k + 2) (by omega)
  have wn := hh k (by omega)
  have wt := hh (k + 1) (by omega)
  clear hc hc' h3 h3' hf hh
  generalize f k = p0 at *
  generalize f (k + 1) = u0 at *
  generalize f (k + 2) = u1 at *
  generalize h k = next at *
  generalize h (k + 1) = top at *
  have WN := hide wn
  obtain ⟨hp0, hp1⟩ := wp0
  obtain ⟨hu00, hu01⟩ := wu0
  obtain ⟨hu10, hu11⟩ := wu1
  obtain ⟨hn0, hn1⟩ := wn
  obtain ⟨ht0, ht1⟩ := wt
  have START : Hid (∀ t r, (u1 < top → t = (u1 * 18446744073709551616 + u0) / top ∧ r = (u1 * 18446744073709551616 + u0) % top) → (u1 = top → t = 18446744073709551615 ∧ r = u0 + top) →
      Wd.Gu (u1 * 18446744073709551616 + u0) ((u1 * 18446744073709551616 + u0) * 18446744073709551616 + p0) top (top * 18446744073709551616 + next) t r) := by
    intro t r hA hB
    rcases Int.lt_or_le u1 top with h | h
    · obtain ⟨rfl, rfl⟩ := hA h
      exact Wd.Gu.start_div hu10 h hu00 hu01 hn0 hp1
    · have : u1 = top := by omega
      subst this
      obtain ⟨rfl, rfl⟩ := hB rfl
      exact Wd.Gu.start_max ht0 hu00
  obtain ⟨P1, hP1⟩ : ∃ P, u1 * 18446744073709551616 + u0 = P := ⟨_, rfl⟩
  rw [hP1] at START ⊢
  have k0 : (0 : Int) ≤ 0 := by omega
  have k1 : (0 : Int) ≤ 1 := by omega
  have sA := fun (x : Int) (hx : 0 ≤ x) => add64 x top 0 hx ht0 k0 k1
  simp only [Int.add_zero] at sA
  have i1 : ((k : Int) + 2 - 1).toNat = k + 1 := by omega
  have i2 : ((k : Int) + 2 - 2).toNat = k := by omega
  have i3 : ((k : Int) + 2).toNat = k + 2 := by omega
  have l1 : (0 : Int) ≤ (k : Int) + 2 - 1 := by omega
  have l2 : (0 : Int) ≤ (k : Int) + 2 - 2 := by omega
  have l3 : (0 : Int) ≤ (k : Int) + 2 := by omega
  have m1 : (k : Int) + 2 - 1 < (k : Int) + 2 := by omega
  have m2 : (k : Int) + 2 - 2 < (k : Int) + 2 := by omega
  have m3 : (k : Int) + 2 < (k : Int) + 3 := by omega
  have m4 : (k : Int) + 2 - 1 < (k : Int) + 3 := by omega
  have m5 : (k : Int) + 2 - 2 < (k : Int) + 3 := by omega
  have w1 : IntKind.i64.wrap ((k : Int) + 2 - 1) = (k : Int) + 2 - 1 := by rw [IntKind.wrap_i64]; omega
  rcases Int.lt_or_le u1 top with hcs | hcs
  · have HDV := hide (fun w => div64_any u1 u0 top hu10 hcs ⟨hu00, hu01⟩ ht1 w)
    have ST := hide (unhide START _ _ (fun _ => ⟨rfl, rfl⟩) (fun h => absurd h (by omega)))
    have hST : (P1 % top) < 18446744073709551616 := by have := Int.emod_lt_of_pos P1 htop; omega
    have hST0 : 0 ≤ P1 % top := Int.emod_nonneg _ (by omega)
    rw [hP1] at HDV
    clear START hP1
    go_enter Tryd.func107, Tryd.ntmps107
    go_wp2_with fail
    go_quiet (fail)
    go_wp2_with fail
    go_quiet ((go_at_call 99; refine (unhide HDV _).mono ?_; rintro e w' ⟨rfl, m, rfl⟩; exact ⟨rfl, _, by rw [World.drewN_drewN, Nat.add_assoc]⟩))
    go_wp2_with fail
    rw [World.drewN_drewN]
    go_loop [8, 9, 10] (fun vt vr vo => ∃ t r, vt = .int .u64 t ∧ vr = .int .u64 (r % 18446744073709551616) ∧ vo = .int .u64 (r / 18446744073709551616) ∧ r < 36893488147419103232 ∧
      Wd.Gu P1 (P1 * 18446744073709551616 + p0) top (top * 18446744073709551616 + next) t r) (fun vt _ _ => (intOf vt).toNat)
    case atStart => exact ⟨_, _, rfl, by rw [Int.emod_eq_of_lt (unhide ST).r0 hST], by rw [Int.ediv_eq_zero_of_lt (unhide ST).r0 hST], by omega, unhide ST⟩
    case round =>
      obtain ⟨t, r, rfl, rfl, rfl, hr2, G⟩ := hrel
      have HG := hide G
      have hr0 := G.r0
      have tt0 := G.t0
      have tt1 := G.t1
      rcases Int.lt_or_le r 18446744073709551616 with hr | hr
      · have er : r % 18446744073709551616 = r := by omega
        have eo : r / 18446744073709551616 = 0 := by omega
        rw [er, eo]
        have HM := hide (fun w => mul64 t next ⟨tt0, tt1⟩ (unhide WN) w)
        obtain ⟨hi, hhi⟩ : ∃ x, t * next / 18446744073709551616 = x := ⟨_, rfl⟩
        obtain ⟨lo, hlo⟩ : ∃ x, t * next % 18446744073709551616 = x := ⟨_, rfl⟩
        have tn := mul_word_lt ⟨tt0, tt1⟩ (unhide WN)
        rw [hhi, hlo] at HM
        have hhi0 : 0 ≤ hi := by omega
        have hhi1 : hi < 18446744073709551616 := by omega
        have hlo0 : 0 ≤ lo := by omega
        have hlo1 : lo < 18446744073709551616 := by omega
        have FIN := hide (fun (h : t * next ≤ r * 18446744073709551616 + p0) => (⟨t, r, rfl, unhide HG, h⟩ : ∃ t' r', Ending.returned (Value.int .u64 t) = .returned (.int .u64 t') ∧ Wd.Gu P1 (P1 * 18446744073709551616 + p0) top (top * 18446744073709551616 + next) t' r' ∧ t' * next ≤ r' * 18446744073709551616 + p0))
        have STEP := hide (fun h => (unhide HG).step htop hp0 h)
        have sB := sA r hr0
        clear G sA
        rcases Int.lt_or_le hi r with hq | hq
        · have OK := unhide FIN (by omega)
          have HOK := hide OK
          clear OK FIN STEP tn hhi hlo HG
          go_wp2_with (go_at_call 93; refine (unhide HM _).mono ?_; rintro e w' ⟨rfl, rfl⟩)
          go_ret
          exact by obtain ⟨t', r', h1, h2, h3⟩ := unhide HOK; exact ⟨t', r', h1, h2, h3, _, rfl⟩
        · rcases Int.lt_or_le r hi with hq2 | hq2
          · have ST2 := unhide STEP (by omega)
            have ht1' := ST2.1
            have HST := hide ST2.2
            have hne : (hi == r) = false := by rw [beq_eq_false_iff_ne]; omega
            clear ST2 FIN STEP tn hhi hlo HG
            go_wp2_with (go_at_call 93; refine (unhide HM _).mono ?_; rintro e w' ⟨rfl, rfl⟩)
            exact ⟨⟨t - 1, r + top, rfl, rfl, rfl, by omega, unhide HST⟩, by simp [intOf]; omega⟩
          · obtain rfl : hi = r := by omega
            rcases Int.lt_or_le p0 lo with hq3 | hq3
            · have ST2 := unhide STEP (by omega)
              have ht1' := ST2.1
              have HST := hide ST2.2
              clear ST2 FIN STEP tn hhi hlo HG
              go_wp2_with (go_at_call 93; refine (unhide HM _).mono ?_; rintro e w' ⟨rfl, rfl⟩)
              exact ⟨⟨t - 1, hi + top, rfl, rfl, rfl, by omega, unhide HST⟩, by simp [intOf]; omega⟩
            · have OK := unhide FIN (by omega)
              have HOK := hide OK
              clear OK FIN STEP tn hhi hlo HG
              go_wp2_with (go_at_call 93; refine (unhide HM _).mono ?_; rintro e w' ⟨rfl, rfl⟩)
              go_ret
              exact by obtain ⟨t', r', h1, h2, h3⟩ := unhide HOK; exact ⟨t', r', h1, h2, h3, _, rfl⟩
      · have hov : r / 18446744073709551616 = 1 := by omega
        rw [hov]
        have HOK := hide (⟨t, r, rfl, unhide HG, Gu_over (unhide HG) (unhide WN) hp0 hr⟩ : ∃ t' r', Ending.returned (Value.int .u64 t) = .returned (.int .u64 t') ∧ Wd.Gu P1 (P1 * 18446744073709551616 + p0) top (top * 18446744073709551616 + next) t' r' ∧ t' * next ≤ r' * 18446744073709551616 + p0)
        clear G sA HG
        go_wp2
        go_ret
        obtain ⟨t', r', h1, h2, h3⟩ := unhide HOK
        exact ⟨t', h1, r', h2, h3, _, rfl⟩
  · have ST := hide (unhide START _ _ (fun h => absurd h (by omega)) (fun _ => ⟨rfl, rfl⟩))
    clear START hP1
    go_enter Tryd.func107, Tryd.ntmps107
    go_wp2_with fail
    go_quiet (fail)
    go_wp2_with (simp only [sA u0 hu00])
    go_loop [8, 9, 10] (fun vt vr vo => ∃ t r, vt = .int .u64 t ∧ vr = .int .u64 (r % 18446744073709551616) ∧ vo = .int .u64 (r / 18446744073709551616) ∧ r < 36893488147419103232 ∧
      Wd.Gu P1 (P1 * 18446744073709551616 + p0) top (top * 18446744073709551616 + next) t r) (fun vt _ _ => (intOf vt).toNat)
    case atStart => exact ⟨_, _, rfl, rfl, rfl, by omega, unhide ST⟩
    case round =>
      obtain ⟨t, r, rfl, rfl, rfl, hr2, G⟩ := hrel
      have HG := hide G
      have hr0 := G.r0
      have tt0 := G.t0
      have tt1 := G.t1
      rcases Int.lt_or_le r 18446744073709551616 with hr | hr
      · have er : r % 18446744073709551616 = r := by omega
        have eo : r / 18446744073709551616 = 0 := by omega
        rw [er, eo]
        have HM := hide (fun w => mul64 t next ⟨tt0, tt1⟩ (unhide WN) w)
        obtain ⟨hi, hhi⟩ : ∃ x, t * next / 18446744073709551616 = x := ⟨_, rfl⟩
        obtain ⟨lo, hlo⟩ : ∃ x, t * next % 18446744073709551616 = x := ⟨_, rfl⟩
        have tn := mul_word_lt ⟨tt0, tt1⟩ (unhide WN)
        rw [hhi, hlo] at HM
        have hhi0 : 0 ≤ hi := by omega
        have hhi1 : hi < 18446744073709551616 := by omega
        have hlo0 : 0 ≤ lo := by omega
        have hlo1 : lo < 18446744073709551616 := by omega
        have FIN := hide (fun (h : t * next ≤ r * 18446744073709551616 + p0) => (⟨t, r, rfl, unhide HG, h⟩ : ∃ t' r', Ending.returned (Value.int .u64 t) = .returned (.int .u64 t') ∧ Wd.Gu P1 (P1 * 18446744073709551616 + p0) top (top * 18446744073709551616 + next) t' r' ∧ t' * next ≤ r' * 18446744073709551616 + p0))
        have STEP := hide (fun h => (unhide HG).step htop hp0 h)
        have sB := sA r hr0
        clear G sA
        rcases Int.lt_or_le hi r with hq | hq
        · have OK := unhide FIN (by omega)
          have HOK := hide OK
          clear OK FIN STEP tn hhi hlo HG
          go_wp2_with (go_at_call 93; refine (unhide HM _).mono ?_; rintro e w' ⟨rfl, rfl⟩)
          go_ret
          exact by obtain ⟨t', r', h1, h2, h3⟩ := unhide HOK; exact ⟨t', r', h1, h2, h3, _, rfl⟩
        · rcases Int.lt_or_le r hi with hq2 | hq2
          · have ST2 := unhide STEP (by omega)
            have ht1' := ST2.1
            have HST := hide ST2.2
            have hne : (hi == r) = false := by rw [beq_eq_false_iff_ne]; omega
            clear ST2 FIN STEP tn hhi hlo HG
            go_wp2_with (go_at_call 93; refine (unhide HM _).mono ?_; rintro e w' ⟨rfl, rfl⟩)
            exact ⟨⟨t - 1, r + top, rfl, rfl, rfl, by omega, unhide HST⟩, by simp [intOf]; omega⟩
          · obtain rfl : hi = r := by omega
            rcases Int.lt_or_le p0 lo with hq3 | hq3
            · have ST2 := unhide STEP (by omega)
              have ht1' := ST2.1
              have HST := hide ST2.2
              clear ST2 FIN STEP tn hhi hlo HG
              go_wp2_with (go_at_call 93; refine (unhide HM _).mono ?_; rintro e w' ⟨rfl, rfl⟩)
              exact ⟨⟨t - 1, hi + top, rfl, rfl, rfl, by omega, unhide HST⟩, by simp [intOf]; omega⟩
            · have OK := unhide FIN (by omega)
              have HOK := hide OK
              clear OK FIN STEP tn hhi hlo HG
              go_wp2_with (go_at_call 93; refine (unhide HM _).mono ?_; rintro e w' ⟨rfl, rfl⟩)
              go_ret
              exact by obtain ⟨t', r', h1, h2, h3⟩ := unhide HOK; exact ⟨t', r', h1, h2, h3, _, rfl⟩
      · have hov : r / 18446744073709551616 = 1 := by omega
        rw [hov]
        have HOK := hide (⟨t, r, rfl, unhide HG, Gu_over (unhide HG) (unhide WN) hp0 hr⟩ : ∃ t' r', Ending.returned (Value.int .u64 t) = .returned (.int .u64 t') ∧ Wd.Gu P1 (P1 * 18446744073709551616 + p0) top (top * 18446744073709551616 + next) t' r' ∧ t' * next ≤ r' * 18446744073709551616 + p0)
        clear G sA HG
        go_wp2
        go_ret
        obtain ⟨t', r', h1, h2, h3⟩ := unhide HOK
        exact ⟨t', h1, r', h2, h3, _, rfl⟩
end Go.Proofs.YtdicbnchkfclaaaDoor
