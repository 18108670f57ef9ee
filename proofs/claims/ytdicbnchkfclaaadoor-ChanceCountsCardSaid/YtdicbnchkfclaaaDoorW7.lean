/- Numbers divided by a word. -/
import Derived.Test.YtdicbnchkfclaaaDoorW6
namespace Go.Proofs.YtdicbnchkfclaaaDoor
open Go.RowKit Go.Sort Go.Shelf

theorem div64_any (hi lo y : Int) (h0 : 0 ≤ hi) (hh : hi < y) (hl : Wd.W64 lo) (hy : y < 18446744073709551616) (w : World) :
    Calls Tryd.prog 99 #[.int .u64 hi, .int .u64 lo, .int .u64 y] w fun e w' => e = .returned (.tuple #[.int .u64 ((hi * 18446744073709551616 + lo) / y), .int .u64 ((hi * 18446744073709551616 + lo) % y)]) ∧ ∃ k, w' = w.drewN k := by
  rcases Int.lt_or_le 0 hi with h | h
  · refine (div64_hard hi lo y h hh hl hy w).mono ?_
    rintro e w' ⟨rfl, hw⟩
    exact ⟨rfl, 0, hw⟩
  · have : hi = 0 := by omega
    subst this
    rw [Int.zero_mul, Int.zero_add]
    exact div64_easy lo y hl hh hy w

theorem vl_cons (f : Nat → Int) (k : Nat) : Wd.vl f (k + 1) = f 0 + 18446744073709551616 * Wd.vl (fun j => f (1 + j)) k := by
  rw [Nat.add_comm, Wd.vl_split, Wd.vl_one, Wd.pw_one]

/-- One round of dividing by a word. -/
theorem divInto_val {d dk : Array Int} {n m : Nat} {b rest x : Int} (hm : m < n) (hs : dk.size = n) (hx : d[m]! = x)
    (hv : Wd.vl (fun j => d[m + 1 + j]!) (n - (m + 1)) = Wd.vl (fun j => dk[m + 1 + j]!) (n - (m + 1)) * b + rest) :
    Wd.vl (fun j => d[m + j]!) (n - m) = Wd.vl (fun j => (dk.setIfInBounds m ((rest * 18446744073709551616 + x) / b))[m + j]!) (n - m) * b + (rest * 18446744073709551616 + x) % b := by
  obtain ⟨k, hk⟩ : ∃ k, n - m = k + 1 := ⟨n - m - 1, by omega⟩
  have hk' : n - (m + 1) = k := by omega
  rw [hk'] at hv
  rw [hk, vl_cons, vl_cons, Nat.add_zero, getElem!_set_same dk m _ (by omega), hx]
  have e1 : Wd.vl (fun j => d[m + (1 + j)]!) k = Wd.vl (fun j => d[m + 1 + j]!) k := Wd.vl_congr (fun j _ => by rw [Nat.add_assoc])
  have e2 : Wd.vl (fun j => (dk.setIfInBounds m ((rest * 18446744073709551616 + x) / b))[m + (1 + j)]!) k = Wd.vl (fun j => dk[m + 1 + j]!) k := Wd.vl_congr (fun j _ => by rw [getElem!_set_other dk m _ _ (by omega), Nat.add_assoc])
  rw [e1, e2, hv]
  have e3 := Int.mul_ediv_add_emod (rest * 18446744073709551616 + x) b
  generalize (rest * 18446744073709551616 + x) / b = q at *
  generalize (rest * 18446744073709551616 + x) % b = r at *
  rw [Int.add_mul, Int.mul_add, ← Int.mul_assoc 18446744073709551616, Int.mul_comm q b]
  omega

theorem div_word {rest x b : Int} (h0 : 0 ≤ rest) (h1 : rest < b) (hx : Wd.W64 x) : Wd.W64 ((rest * 18446744073709551616 + x) / b) := by
  obtain ⟨hx0, hx1⟩ := hx
  refine ⟨Int.ediv_nonneg (by omega) (by omega), (Int.ediv_lt_iff_lt_mul (by omega)).2 ?_⟩
  omega

theorem put_drewN (w : World) (g o k : Nat) (d : Array Int) (i : Nat) (x : Int) (hi : i < d.size) (k2 : Nat) :
    (((putRow enc w g o d).drewN k).drewN k2).setCell ⟨g, o + i, none⟩ (.int .u64 x) = (putRow enc w g o (d.setIfInBounds i x)).drewN (k + k2) := by
  rw [← putRow_set enc w g o d i x hi, World.drewN_drewN]
  rfl

set_option maxHeartbeats 1000000 in
set_option maxRecDepth 100000 in
theorem divideInto_any (g o c : Nat) (d : Array Int) (n : Nat) (b : Int) (w : World) (hn : d.size = n) (hH : Holds enc w g o d) (hd : ∀ j, j < n → Wd.W64 d[j]!) (hnc : n ≤ 9223372036854775807) (hb0 : 0 < b) (hb1 : b < 18446744073709551616) :
    Calls Tryd.prog 82 #[.slice (some ⟨g, o, none⟩) n c, .int .u64 b] w fun e w' => e = .returned (.int .u64 (Wd.vl (fun j => d[j]!) n % b)) ∧
      ∃ (d' : Array Int) (k : Nat), d'.size = n ∧ w' = (putRow enc w g o d').drewN k ∧ (∀ j, j < n → Wd.W64 d'[j]!) ∧ Wd.vl (fun j => d'[j]!) n = Wd.vl (fun j => d[j]!) n / b := by
  go_enter Tryd.func82, Tryd.ntmps82
  go_wp2
  go_loopw [5, 6] (fun vr vi wr => ∃ (m : Nat) (rest : Int) (dk : Array Int) (k : Nat), vr = .int .u64 rest ∧ vi = .int .i64 ((m : Int) - 1) ∧ m ≤ n ∧ 0 ≤ rest ∧ rest < b ∧ dk.size = n ∧ wr = (putRow enc w g o dk).drewN k ∧
      (∀ j, j < n → Wd.W64 dk[j]!) ∧ (∀ j, j < m → dk[j]! = d[j]!) ∧ Wd.vl (fun j => d[m + j]!) (n - m) = Wd.vl (fun j => dk[m + j]!) (n - m) * b + rest) (fun _ vi _ => (intOf vi + 1).toNat)
  case atStart => exact ⟨n, 0, d, 0, rfl, rfl, Nat.le_refl _, by decide, hb0, hn, (putRow_self _ _ _ _ _ hH).symm, hd, fun _ _ => rfl, by simp [Wd.vl]⟩
  case round =>
    obtain ⟨m, rest, dk, k, rfl, rfl, hm, hr0, hr1, hs, hwr, hw, hrest, hv⟩ := hrel
    by_cases hm0 : m = 0
    · subst hm0
      have e1 : Wd.vl (fun j => d[0 + j]!) (n - 0) = Wd.vl (fun j => d[j]!) n := by simp
      have e2 : Wd.vl (fun j => dk[0 + j]!) (n - 0) = Wd.vl (fun j => dk[j]!) n := by simp
      rw [e1, e2] at hv
      have f1 : Wd.vl (fun j => d[j]!) n % b = rest := by rw [hv, Int.add_comm, Int.add_mul_emod_self_right, Int.emod_eq_of_lt hr0 hr1]
      have f2 : Wd.vl (fun j => dk[j]!) n = Wd.vl (fun j => d[j]!) n / b := by rw [hv, Int.add_comm, Int.add_mul_ediv_right _ _ (by omega), Int.ediv_eq_zero_of_lt hr0 hr1]; omega
      have F1 := hide f1
      have F2 := hide f2
      have HW := hide hw
      have HWR := hide hwr
      clear hv e1 e2 f1 f2 hw hrest hd hH hwr
      go_wp2
      go_ret
      exact ⟨by rw [unhide F1]; rfl, dk, k, hs, unhide HWR, unhide HW, unhide F2⟩
    · obtain ⟨i, rfl⟩ : ∃ i, m = i + 1 := ⟨m - 1, by omega⟩
      obtain ⟨x, hx⟩ : ∃ x, d[i]! = x := ⟨_, rfl⟩
      have hxw := hd i (by omega)
      rw [hx] at hxw
      have hdx : dk[i]! = x := by rw [hrest i (by omega), hx]
      have hca : wr.cell? ⟨g, o + i, none⟩ = some (.int .u64 x) := by rw [hwr, ← hdx]; exact cell?_putRow _ _ _ _ d dk hH (by omega) i (by omega)
      have hfa : wr.frozen? ⟨g, o + i, none⟩ = false := by rw [hwr, World.frozen?_drewN, frozen?_putRow]; exact (hH i (by omega)).2
      have ei : ((i : Int) + 1 - 1).toNat = i := by omega
      have en : ((i + 1 : Nat) : Int) - 1 = (i : Int) := by omega
      have FIN : Hid (∀ k2, ∃ (m' : Nat) (rest' : Int) (dk' : Array Int) (k' : Nat), Value.int .u64 ((rest * 18446744073709551616 + x) % b) = .int .u64 rest' ∧ Value.int .i64 ((i : Int) - 1) = .int .i64 ((m' : Int) - 1) ∧ m' ≤ n ∧ 0 ≤ rest' ∧ rest' < b ∧ dk'.size = n ∧
          (wr.drewN k2).setCell ⟨g, o + i, none⟩ (.int .u64 ((rest * 18446744073709551616 + x) / b)) = (putRow enc w g o dk').drewN k' ∧
          (∀ j, j < n → Wd.W64 dk'[j]!) ∧ (∀ j, j < m' → dk'[j]! = d[j]!) ∧ Wd.vl (fun j => d[m' + j]!) (n - m') = Wd.vl (fun j => dk'[m' + j]!) (n - m') * b + rest') := by
        intro k2
        refine ⟨i, _, dk.setIfInBounds i ((rest * 18446744073709551616 + x) / b), k + k2, rfl, rfl, by omega, Int.emod_nonneg _ (by omega), Int.emod_lt_of_pos _ hb0, by simpa using hs, ?_, words_set hw (div_word hr0 hr1 hxw) (by omega), fun j hj => ?_, divInto_val (by omega) hs hx hv⟩
        · rw [hwr]; exact put_drewN w g o k dk i _ (by omega) k2
        · rw [getElem!_set_other dk i j _ (by omega)]; exact hrest j (by omega)
      have HDV := hide (div64_any rest x b hr0 hr1 hxw hb1 wr)
      rw [en]
      clear hv hw hrest hd hH hwr hx hxw hdx en hm0
      go_wp2_with (go_at_call 99; refine (unhide HDV).mono ?_; rintro e w' ⟨rfl, k2, hw2⟩; subst hw2)
      exact ⟨unhide FIN k2, by simp [intOf]⟩

/-- The call that divides the copy. -/
theorem divideInto_own {w W : World} {A b : Int} {n : Nat} (hl : Wd.Len A n) (hown : OwnRow W w.heap.size (dgs A n)) (hb : Below w.heap.size w W) (hn : n ≤ 1099511627776) (hb0 : 0 < b) (hb1 : b < 18446744073709551616) :
    Calls Tryd.prog 82 #[.slice (some ⟨w.heap.size, 0, none⟩) n n, .int .u64 b] W fun e w2 => e = .returned (.int .u64 (A % b)) ∧
      ∃ f : Nat → Int, RowIs w2 (some ⟨w.heap.size, 0, none⟩) n n f ∧ (∀ j, j < n → Wd.W64 (f j)) ∧ Wd.vl f n = A / b ∧ Below w.heap.size w w2 := by
  have h := divideInto_any w.heap.size 0 n (dgs A n) n b W (dgs_size A n) hown.holds (dgs_w A n) (by omega) hb0 hb1
  rw [dgs_vl, Wd.vl_dig_all hl.1 hl.2.1] at h
  refine h.mono ?_
  rintro e w2 ⟨rfl, d', k, hs, rfl, hd, hv⟩
  have ho := hown.put (d' := d') (by rw [dgs_size]; exact hs)
  have hr := ho.rowIs (c := n) (by omega) (by omega)
  rw [hs] at hr
  exact ⟨rfl, _, hr, hd, hv, (hb.trans (below_putRow d' (Nat.le_refl _))).trans ⟨rfl, rfl, rfl, Nat.le_refl _, fun _ _ => rfl⟩⟩

set_option maxHeartbeats 1000000 in
set_option maxRecDepth 100000 in
theorem divideWord_any (va : Value) (A b : Int) (w : World) (ha : NatIs w va A) (hA : Sm A) (hb0 : 0 < b) (hb1 : b < 18446744073709551616) :
    Calls Tryd.prog 70 #[va, .int .u64 b] w fun e w' => ∃ v, e = .returned (.tuple #[v, .int .u64 (A % b)]) ∧ NatIs w' v (A / b) ∧ Below w.heap.size w w' := by
  obtain ⟨a, n, c, rfl, hl, hra⟩ := ha
  have hn := hA.len hl
  have hmk := make_row (n : Int) (by omega) (by omega)
  simp only [Int.toNat_natCast] at hmk
  obtain ⟨W, hcp, hown, hbW⟩ := copy_run w (k := n) (Nat.le_refl _) hl hra
  have HC := hide (divideInto_own hl hown hbW hn hb0 hb1)
  have hnc := hra.1
  have hcc := hra.2.1
  clear hown hbW hl hra hA
  go_enter Tryd.func70, Tryd.ntmps70
  go_wp2_with (go_at_call 82; refine (unhide HC).mono ?_; rintro e w2 ⟨rfl, f, hr, hf, hv, hb⟩; have HR := hide hr; have HF := hide hf; have HV := hide hv; clear hr hf hv hcp hmk)
  go_wp2_with (go_at_call 74; refine (trimmed_any _ _ _ _ _ (unhide HR) (unhide HF)).mono ?_; rintro e w3 ⟨m, rfl, hm, hlm, rfl⟩)
  go_ret2
  refine ⟨_, rfl, ?_, hb⟩
  rw [← unhide HV]
  exact natIs_trim (unhide HR) (unhide HF) hm hlm

theorem gcd_emod (x y : Int) : Int.gcd y (x % y) = Int.gcd x y := by
  have e := Int.emod_add_mul_ediv x y
  rw [Int.gcd_comm x y]
  conv => rhs; rw [← e]
  rw [Int.gcd_add_mul_left_right]

theorem gcd_word {x y : Int} (hx : Wd.W64 x) (hy : Wd.W64 y) : Wd.W64 (Int.gcd x y : Int) := by
  refine ⟨by omega, ?_⟩
  obtain ⟨x0, x1⟩ := hx
  obtain ⟨y0, y1⟩ := hy
  rcases Int.lt_or_le 0 x with h | h
  · have : Int.gcd x y ≤ x.natAbs := Nat.le_of_dvd (by omega) (Int.gcd_dvd_natAbs_left x y)
    omega
  · have : x = 0 := by omega
    subst this
    rw [Int.gcd_zero_left]; omega

set_option maxHeartbeats 1000000 in
theorem gcdWord_any (a b : Int) (ha : Wd.W64 a) (hb : Wd.W64 b) (w : World) :
    Calls Tryd.prog 71 #[.int .u64 a, .int .u64 b] w fun e w' => e = .returned (.int .u64 (Int.gcd a b)) ∧ ∃ k, w' = w.drewN k := by
  go_enter Tryd.func71, Tryd.ntmps71
  go_wp2
  go_loopw [0, 1] (fun va vb wr => ∃ x y k, va = .int .u64 x ∧ vb = .int .u64 y ∧ Wd.W64 x ∧ Wd.W64 y ∧ Int.gcd x y = Int.gcd a b ∧ wr = w.drewN k) (fun _ vb _ => (intOf vb).toNat)
  case atStart => exact ⟨a, b, 0, rfl, rfl, ha, hb, rfl, rfl⟩
  case round =>
    obtain ⟨x, y, k, rfl, rfl, ⟨hx0, hx1⟩, ⟨hy0, hy1⟩, hg, rfl⟩ := hrel
    have HG := hide hg
    clear hg
    by_cases h0 : y = 0
    · subst h0
      go_wp2
      go_ret
      refine ⟨?_, k, rfl⟩
      rw [← unhide HG, Int.gcd_zero_right]
      have : x = (x.natAbs : Int) := by omega
      rw [← this]; rfl
    · have hz : (y == 0) = false := by rw [beq_eq_false_iff_ne]; exact h0
      have hz' : (y != 0) = true := by rw [bne_iff_ne]; exact h0
      have r0 : 0 ≤ x % y := Int.emod_nonneg _ h0
      have r1 : x % y < y := Int.emod_lt_of_pos _ (by omega)
      go_wp2_with fail
      go_quiet (fail)
      go_wp2
      refine ⟨⟨y, x % y, k + nq, rfl, rfl, ⟨hy0, hy1⟩, ⟨r0, by omega⟩, ?_, World.drewN_drewN _ _ _⟩, by simp [intOf]; omega⟩
      rw [gcd_emod, unhide HG]

/-- A word of a number with one word. -/
theorem natIs_word {w : World} {a : Option Addr} {n c : Nat} {N : Int} (hl : Wd.Len N n) (hr : RowIs w a n c (Wd.dig N)) (h0 : 0 < N) (h1 : N < 18446744073709551616) :
    n = 1 ∧ ∃ b o, a = some ⟨b, o, none⟩ ∧ b < w.heap.size ∧ w.cell? ⟨b, o, none⟩ = some (.int .u64 N) := by
  have hn : n = 1 := Wd.Len.uniq hl ⟨hl.1, by rw [Wd.pw_one]; exact h1, Or.inr (by simp [Wd.pw]; omega)⟩
  subst hn
  obtain ⟨_, _, h3⟩ := hr
  obtain ⟨b, o, e, hlt, hc⟩ := h3 (by decide)
  refine ⟨rfl, b, o, e, hlt, ?_⟩
  have := hc 0 (by decide)
  rw [show Wd.dig N 0 = N by unfold Wd.dig; simp [Wd.pw]; omega] at this
  simpa using this
end Go.Proofs.YtdicbnchkfclaaaDoor
