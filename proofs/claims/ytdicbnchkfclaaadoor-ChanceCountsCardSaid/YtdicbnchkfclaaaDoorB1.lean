/- A digit's multiple taken away, and put right where it was one too many. -/
import Derived.Test.YtdicbnchkfclaaaDoorW31
namespace Go.Proofs.YtdicbnchkfclaaaDoor
open Go.RowKit Go.Sort Go.Shelf

theorem take_val {d dk : Array Int} {h : Nat → Int} {i : Nat} {x y t cr bo s : Int} (hi : i < dk.size) (hx : h i = x) (hy : dk[i]! = y) (hr : dk[i]! = d[i]!) (hs : x * t + cr = s)
    (hy0 : 0 ≤ y) (hy1 : y < 18446744073709551616) (hb0 : 0 ≤ bo) (hb1 : bo ≤ 1)
    (hv : Wd.vl (fun j => dk[j]!) i + t * Wd.vl h i = Wd.vl (fun j => d[j]!) i + Wd.pw i * (cr + bo)) :
    Wd.vl (fun j => (dk.setIfInBounds i ((y - s % 18446744073709551616 - bo) % 18446744073709551616))[j]!) (i + 1) + t * Wd.vl h (i + 1) =
      Wd.vl (fun j => d[j]!) (i + 1) + Wd.pw (i + 1) * (s / 18446744073709551616 + bor y (s % 18446744073709551616 + bo)) := by
  rw [vl_set dk i _ hi, Wd.vl_succ, Wd.vl_succ, hx, ← hr, hy, Wd.pw_succ]
  have e := bor_eq y (s % 18446744073709551616 + bo) hy0 hy1 (by omega) (by omega)
  have e2 : y - s % 18446744073709551616 - bo = y - (s % 18446744073709551616 + bo) := by omega
  rw [e2, e]
  have e3 := Int.emod_add_mul_ediv s 18446744073709551616
  generalize bor y (s % 18446744073709551616 + bo) = z at *
  generalize s % 18446744073709551616 = lo at *
  generalize s / 18446744073709551616 = hi' at *
  generalize Wd.pw i = p at *
  generalize Wd.vl h i = H at *
  generalize Wd.vl (fun j => dk[j]!) i = D at *
  generalize Wd.vl (fun j => d[j]!) i = E at *
  grind

theorem take_end {d dk : Array Int} {n : Nat} {y t cr bo H : Int} (hi : n < dk.size) (hy : dk[n]! = y) (hr : dk[n]! = d[n]!)
    (hy0 : 0 ≤ y) (hy1 : y < 18446744073709551616) (hb0 : 0 ≤ bo) (hb1 : bo ≤ 1) (hc0 : 0 ≤ cr) (hc1 : cr < 18446744073709551616)
    (hv : Wd.vl (fun j => dk[j]!) n + t * H = Wd.vl (fun j => d[j]!) n + Wd.pw n * (cr + bo)) :
    Wd.vl (fun j => (dk.setIfInBounds n ((y - cr - bo) % 18446744073709551616))[j]!) (n + 1) + t * H = Wd.vl (fun j => d[j]!) (n + 1) + Wd.pw (n + 1) * bor y (cr + bo) := by
  rw [vl_set dk n _ hi, Wd.vl_succ, ← hr, hy, Wd.pw_succ]
  have e := bor_eq y (cr + bo) hy0 hy1 (by omega) (by omega)
  have e2 : y - cr - bo = y - (cr + bo) := by omega
  rw [e2, e]
  generalize bor y (cr + bo) = z at *
  generalize Wd.pw n = p at *
  generalize Wd.vl (fun j => dk[j]!) n = D at *
  generalize Wd.vl (fun j => d[j]!) n = E at *
  grind

set_option maxHeartbeats 2000000 in
set_option maxRecDepth 100000 in
theorem takeTimes_any (g o c : Nat) (d : Array Int) (n : Nat) (a' : Option Addr) (c' : Nat) (h : Nat → Int) (t : Int) (w : World) (hn : d.size = n + 1) (hH : Holds enc w g o d) (hd : ∀ j, j < n + 1 → Wd.W64 d[j]!) (hnc : n + 1 ≤ 9223372036854775807)
    (hg : RowIs w a' n c' h) (hh : ∀ j, j < n → Wd.W64 (h j)) (hne : 0 < n → ∀ b' o', a' = some ⟨b', o', none⟩ → b' ≠ g) (ht : Wd.W64 t) :
    Calls Tryd.prog 108 #[.slice (some ⟨g, o, none⟩) (n + 1 : Nat) c, .slice a' n c', .int .u64 t] w fun e w' => ∃ (bo : Int) (d' : Array Int), (bo = 0 ∨ bo = 1) ∧ e = .returned (.bool (bo != 0)) ∧ d'.size = n + 1 ∧ w' = putRow enc w g o d' ∧
      (∀ j, j < n + 1 → Wd.W64 d'[j]!) ∧ Wd.vl (fun j => d'[j]!) (n + 1) + t * Wd.vl h n = Wd.vl (fun j => d[j]!) (n + 1) + Wd.pw (n + 1) * bo := by
  obtain ⟨h1, h2, h3⟩ := hg
  have H3 := hide h3
  have HN := hide hne
  have HT := hide ht
  have HD := hide hd
  have HHW := hide hh
  have HH := hide hH
  obtain ⟨ht0, ht1⟩ := ht
  clear h3 hne hd hh
  go_enter Tryd.func108, Tryd.ntmps108
  go_wp2
  go_loopw [7, 8, 14] (fun vc vb vi wr => ∃ (i : Nat) (cr bo : Int) (dk : Array Int), vc = .int .u64 cr ∧ vb = .int .u64 bo ∧ vi = .int .i64 i ∧ 0 ≤ cr ∧ cr < 18446744073709551616 ∧ 0 ≤ bo ∧ bo ≤ 1 ∧ i ≤ n ∧ dk.size = n + 1 ∧ wr = putRow enc w g o dk ∧
      (∀ j, j < n + 1 → Wd.W64 dk[j]!) ∧ (∀ j, i ≤ j → dk[j]! = d[j]!) ∧ Wd.vl (fun j => dk[j]!) i + t * Wd.vl h i = Wd.vl (fun j => d[j]!) i + Wd.pw i * (cr + bo)) (fun _ _ vi _ => n - (intOf vi).toNat)
  case atStart => exact ⟨0, 0, 0, d, rfl, rfl, rfl, by decide, by decide, by decide, by decide, Nat.zero_le _, hn, (putRow_self _ _ _ _ _ hH).symm, unhide HD, fun _ _ => rfl, by simp [Wd.vl]⟩
  case round =>
    obtain ⟨i, cr, bo, dk, rfl, rfl, rfl, hc0, hc1, hb0, hb1, hi, hs, hwr, hw, hr, hv⟩ := hrel
    obtain ⟨y, hy⟩ : ∃ y, dk[i]! = y := ⟨_, rfl⟩
    have hyw := hw i (by omega)
    rw [hy] at hyw
    obtain ⟨hy0, hy1⟩ := hyw
    have hca : wr.cell? ⟨g, o + i, none⟩ = some (.int .u64 y) := by rw [hwr, ← hy]; exact cell?_putRow _ _ _ _ d dk (unhide HH) (by omega) i (by omega)
    have hfa : wr.frozen? ⟨g, o + i, none⟩ = false := by rw [hwr, frozen?_putRow]; exact (unhide HH i (by omega)).2
    by_cases hlt : i < n
    · obtain ⟨b', o', ha', hlt', hc'⟩ := unhide H3 (by omega)
      have hbb := unhide HN (by omega) b' o' ha'
      obtain ⟨x, hx⟩ : ∃ x, h i = x := ⟨_, rfl⟩
      have hcb := hc' i hlt
      rw [hx, ← cell?_putRow_other enc w g o dk ⟨b', o' + i, none⟩ (Or.inl hbb), ← hwr] at hcb
      have hxw := unhide HHW i hlt
      rw [hx] at hxw
      have HMA := hide (mulAdd_any x t 0 cr hxw (unhide HT) ⟨by decide, by decide⟩ ⟨hc0, hc1⟩ wr)
      have mb := mul_word_lt hxw (unhide HT)
      obtain ⟨s, hs'⟩ : ∃ s, x * t + cr = s := ⟨_, rfl⟩
      have e0 : x * t + 0 + cr = s := by omega
      rw [e0] at HMA
      have hs0 : 0 ≤ s / 18446744073709551616 := by omega
      have hs1 : s / 18446744073709551616 < 18446744073709551616 := by omega
      have FIN : Hid (∃ (i' : Nat) (cr' bo' : Int) (dk' : Array Int), Value.int .u64 (s / 18446744073709551616) = .int .u64 cr' ∧ Value.int .u64 (bor y (s % 18446744073709551616 + bo)) = .int .u64 bo' ∧ Value.int .i64 ((i : Int) + 1) = .int .i64 i' ∧ 0 ≤ cr' ∧ cr' < 18446744073709551616 ∧ 0 ≤ bo' ∧ bo' ≤ 1 ∧ i' ≤ n ∧ dk'.size = n + 1 ∧
          wr.setCell ⟨g, o + i, none⟩ (.int .u64 ((y - s % 18446744073709551616 - bo) % 18446744073709551616)) = putRow enc w g o dk' ∧
          (∀ j, j < n + 1 → Wd.W64 dk'[j]!) ∧ (∀ j, i' ≤ j → dk'[j]! = d[j]!) ∧ Wd.vl (fun j => dk'[j]!) i' + t * Wd.vl h i' = Wd.vl (fun j => d[j]!) i' + Wd.pw i' * (cr' + bo')) := by
        refine ⟨i + 1, _, _, dk.setIfInBounds i ((y - s % 18446744073709551616 - bo) % 18446744073709551616), rfl, rfl, by go_num, hs0, hs1, (bor_bd _ _).1, (bor_bd _ _).2, hlt, by simpa using hs, ?_, words_set hw (mod_w _) (by omega), fun j hj => ?_, take_val (by omega) hx hy (hr i (Nat.le_refl _)) hs' hy0 hy1 hb0 hb1 hv⟩
        · rw [hwr]; exact putRow_set enc w g o dk i _ (by omega)
        · rw [getElem!_set_other dk i j _ (by omega)]; exact hr j (by omega)
      subst ha'
      have sS := sub64 y (s % 18446744073709551616) bo hy0 (by omega) (by omega) hb0 hb1
      clear hv hr hw hx hy hwr hc' H3 HN HD HHW HH hH HT hxw mb hs' e0
      go_wp2_with (first | (go_at_call 73; refine (unhide HMA).mono ?_; rintro e w' ⟨rfl, rfl⟩) | fail)
      exact ⟨unhide FIN, by simp [intOf]; omega⟩
    · obtain rfl : i = n := by omega
      have FIN : Hid (∃ (d' : Array Int), d'.size = i + 1 ∧ wr.setCell ⟨g, o + i, none⟩ (.int .u64 ((y - cr - bo) % 18446744073709551616)) = putRow enc w g o d' ∧
          (∀ j, j < i + 1 → Wd.W64 d'[j]!) ∧ Wd.vl (fun j => d'[j]!) (i + 1) + t * Wd.vl h i = Wd.vl (fun j => d[j]!) (i + 1) + Wd.pw (i + 1) * bor y (cr + bo)) := by
        refine ⟨dk.setIfInBounds i ((y - cr - bo) % 18446744073709551616), by simpa using hs, ?_, words_set hw (mod_w _) (by omega), take_end (by omega) hy (hr i (Nat.le_refl _)) hy0 hy1 hb0 hb1 hc0 hc1 hv⟩
        rw [hwr]; exact putRow_set enc w g o dk i _ (by omega)
      have sS := sub64 y cr bo hy0 hc0 hc1 hb0 hb1
      have hbz : bor y (cr + bo) = 0 ∨ bor y (cr + bo) = 1 := by have := bor_bd y (cr + bo); omega
      generalize bor y (cr + bo) = z at *
      clear hv hr hw hy hwr H3 HN HD HHW HH hH HT
      go_wp2
      go_ret
      obtain ⟨d', f1, f2, f3, f4⟩ := unhide FIN
      exact ⟨z, d', hbz, rfl, f1, f2, f3, f4⟩
end Go.Proofs.YtdicbnchkfclaaaDoor
/- One digit of a long division, whole. -/
namespace Go.Proofs.YtdicbnchkfclaaaDoor
open Go.RowKit Go.Sort Go.Shelf

/-- The three upper words of a row, and what lies below. -/
theorem vl_top3 (f : Nat → Int) (k : Nat) : Wd.vl f (k + 3) = Wd.vl f k + Wd.pw k * ((f (k + 2) * 18446744073709551616 + f (k + 1)) * 18446744073709551616 + f k) := by
  rw [Wd.vl_succ, Wd.vl_succ, Wd.vl_succ, Wd.pw_succ (k + 1), Wd.pw_succ k]; generalize Wd.pw k = p; grind
theorem vl_top2 (f : Nat → Int) (k : Nat) : Wd.vl f (k + 2) = Wd.vl f k + Wd.pw k * (f (k + 1) * 18446744073709551616 + f k) := by
  rw [Wd.vl_succ, Wd.vl_succ, Wd.pw_succ k]; generalize Wd.pw k = p; grind
theorem part_bd {L p X P : Int} (h : P = L + p * X) (h0 : 0 ≤ L) (h1 : L < p) : X * p ≤ P ∧ P < (X + 1) * p := by
  constructor
  · rw [Int.mul_comm]; omega
  · rw [Int.add_mul, Int.one_mul, Int.mul_comm]; omega

theorem holds_row {w : World} {g o c : Nat} {d : Array Int} (h : Holds enc w g o d) (h1 : d.size ≤ c) (h2 : c ≤ 9223372036854775807) : RowIs w (some ⟨g, o, none⟩) d.size c (fun j => d[j]!) :=
  ⟨h1, h2, fun hp => ⟨g, o, rfl, by
    have := (h 0 hp).1
    obtain ⟨cc, e, fr, hb, _⟩ := cells_of_cell? this
    exact (Array.getElem?_eq_some_iff.1 hb).1, fun j hj => (h j hj).1⟩⟩

/-- What the digit is, behind the guess and the taking away. -/
theorem digit_fin {P B t V V2 p bo cr : Int} (hB : 0 < B) (hq1 : P / B ≤ t) (hq2 : t ≤ P / B + 1) (hV0 : 0 ≤ V) (hV1 : V < p) (hv : V + t * B = P + p * bo) (hb : bo = 0 ∨ bo = 1)
    (_ : B ≤ p) (_ : 0 ≤ V2) (hV21 : V2 < p) (hc0 : 0 ≤ cr) (hc1 : cr ≤ 1) (hv2 : bo = 1 → V2 + p * cr = V + B) : (bo = 0 → t = P / B ∧ V = P % B) ∧ (bo = 1 → t - 1 = P / B ∧ V2 = P % B) := by
  have e := Int.emod_add_mul_ediv P B
  have m0 := Int.emod_nonneg P (b := B) (by omega)
  have m1 := Int.emod_lt_of_pos P hB
  have ht : t = P / B ∨ t = P / B + 1 := by omega
  generalize P / B = q at *
  generalize P % B = r at *
  refine ⟨fun h => ?_, fun h => ?_⟩
  · subst h
    rcases ht with rfl | rfl
    · rw [Int.mul_comm t B] at hv
      exact ⟨rfl, by omega⟩
    · exfalso
      rw [Int.add_mul, Int.mul_comm q B] at hv
      omega
  · subst h
    have hv3 := hv2 rfl
    rcases ht with rfl | rfl
    · exfalso
      rw [Int.mul_comm t B] at hv
      omega
    · rw [Int.add_mul, Int.mul_comm q B] at hv
      refine ⟨by omega, ?_⟩
      have : cr = 0 ∨ cr = 1 := by omega
      rcases this with rfl | rfl <;> omega

set_option maxHeartbeats 2000000 in
set_option maxRecDepth 100000 in
theorem takeAway_any (g o c : Nat) (d : Array Int) (k : Nat) (a' : Option Addr) (c' : Nat) (B : Int) (w : World) (hn : d.size = k + 3) (hH : Holds enc w g o d) (hd : ∀ j, j < k + 3 → Wd.W64 d[j]!) (hc : k + 3 ≤ c) (hcc : c ≤ 9223372036854775807)
    (hl : Wd.Len B (k + 2)) (hg : RowIs w a' (k + 2) c' (Wd.dig B)) (hne : ∀ b' o', a' = some ⟨b', o', none⟩ → b' ≠ g) (hP : Wd.vl (fun j => d[j]!) (k + 3) < B * 18446744073709551616) :
    Calls Tryd.prog 91 #[.slice (some ⟨g, o, none⟩) (k + 3 : Nat) c, .slice a' (k + 2 : Nat) c'] w fun e w' => e = .returned (.int .u64 (Wd.vl (fun j => d[j]!) (k + 3) / B)) ∧
      ∃ (d' : Array Int) (z : Nat), d'.size = k + 3 ∧ w' = (putRow enc w g o d').drewN z ∧ (∀ j, j < k + 3 → Wd.W64 d'[j]!) ∧ Wd.vl (fun j => d'[j]!) (k + 3) = Wd.vl (fun j => d[j]!) (k + 3) % B := by
  have hvB : Wd.vl (Wd.dig B) (k + 2) = B := Wd.vl_dig_all hl.1 hl.2.1
  have hvB3 : Wd.vl (Wd.dig B) (k + 3) = B := Wd.vl_dig_all hl.1 (Int.lt_of_lt_of_le hl.2.1 (Wd.pw_mono (by omega)))
  have hB2 := hl.2.1
  have hB1 : Wd.pw (k + 1) ≤ B := by
    rcases hl.2.2 with h | h
    · omega
    · exact h
  have hp := Wd.pw_pos k
  have hp1 := Wd.pw_succ k
  have hp2 := Wd.pw_succ (k + 1)
  have hp3 := Wd.pw_succ (k + 2)
  have hBb := Wd.vl_bd (f := Wd.dig B) (n := k) (fun j _ => Wd.dig_w B j)
  have hDb := Wd.vl_bd (f := fun j => d[j]!) (n := k) (fun j hj => hd j (by omega))
  have hD3 := Wd.vl_bd (f := fun j => d[j]!) (n := k + 3) hd
  have tB := vl_top2 (Wd.dig B) k
  have tP := vl_top3 (fun j => d[j]!) k
  rw [hvB] at tB
  have hB0 : 0 < B := by omega
  have wt := Wd.dig_w B (k + 1)
  have wn := Wd.dig_w B k
  have w0 := hd k (by omega)
  have w1 := hd (k + 1) (by omega)
  have w2 := hd (k + 2) (by omega)
  have htop : 0 < Wd.dig B (k + 1) := by
    have := Wd.dig_top (n := k + 1) hB2 hB1
    have := wt.1; omega
  have hle : d[k + 2]! ≤ Wd.dig B (k + 1) := by
    rcases Int.lt_or_le (Wd.dig B (k + 1)) d[k + 2]! with h | h
    · exfalso
      have a1 : Wd.pw k * (18446744073709551616 * (18446744073709551616 * (Wd.dig B (k + 1) + 1))) ≤ Wd.pw k * (18446744073709551616 * (18446744073709551616 * d[k + 2]!)) := Int.mul_le_mul_of_nonneg_left (by omega) (by omega)
      have a2 : Wd.pw k * (18446744073709551616 * (18446744073709551616 * d[k + 2]!)) ≤ Wd.pw k * ((d[k + 2]! * 18446744073709551616 + d[k + 1]!) * 18446744073709551616 + d[k]!) := Int.mul_le_mul_of_nonneg_left (by have := w0.1; have := w1.1; omega) (by omega)
      have a3 : Wd.pw k * (18446744073709551616 * (Wd.dig B (k + 1) * 18446744073709551616 + Wd.dig B k + 1)) ≤ Wd.pw k * (18446744073709551616 * (18446744073709551616 * (Wd.dig B (k + 1) + 1))) := Int.mul_le_mul_of_nonneg_left (by have := wn.2; omega) (by omega)
      have a4 : Wd.pw k * (18446744073709551616 * (Wd.dig B (k + 1) * 18446744073709551616 + Wd.dig B k + 1)) = 18446744073709551616 * (Wd.pw k * (Wd.dig B (k + 1) * 18446744073709551616 + Wd.dig B k)) + 18446744073709551616 * Wd.pw k := by grind
      omega
    · exact h
  have hrow := holds_row hH (c := c) (by omega) hcc
  rw [hn] at hrow
  have HG := hide (guess_any (some ⟨g, o, none⟩) a' c c' k (fun j => d[j]!) (Wd.dig B) w hrow hg hd (fun j _ => Wd.dig_w B j) htop hle)
  have HTK := hide (fun (t : Int) (ht : Wd.W64 t) (z : Nat) => takeTimes_any g o c d (k + 2) a' c' (Wd.dig B) t (w.drewN z) hn hH hd (by omega) hg (fun j _ => Wd.dig_w B j) (fun _ => hne) ht)
  have HAD := hide (fun (d' : Array Int) (hs : d'.size = k + 3) (hw : ∀ j, j < k + 3 → Wd.W64 d'[j]!) (z : Nat) => (by
    have h := addInto_any g o c d' a' (k + 2) c' (Wd.dig B) (putRow enc (w.drewN z) g o d') (holds_putRow enc (w.drewN z) g o d d' hH (by omega)) (by rw [hs]; exact hw) (by omega)
      ⟨hg.1, hg.2.1, fun hp => by
        obtain ⟨b, o1, e, hlt, hcell⟩ := hg.2.2 hp
        refine ⟨b, o1, e, by simpa [putRow, mapBlock] using hlt, fun j hj => ?_⟩
        rw [cell?_putRow_other _ _ _ _ _ _ (Or.inl (hne b o1 e))]
        exact hcell j hj⟩ (fun j => Wd.dig_w B j) (dig_zero_above hl) (fun _ => hne)
    rw [hs, hvB3] at h
    exact h :
      Calls Tryd.prog 95 #[.slice (some ⟨g, o, none⟩) (k + 3 : Nat) c, .slice a' (k + 2 : Nat) c'] (putRow enc (w.drewN z) g o d') fun e w' => e = .returned (.tuple #[]) ∧
      ∃ d'' : Array Int, d''.size = k + 3 ∧ w' = putRow enc (putRow enc (w.drewN z) g o d') g o d'' ∧ (∀ j, j < k + 3 → Wd.W64 d''[j]!) ∧
        ∃ cr : Int, 0 ≤ cr ∧ cr ≤ 1 ∧ Wd.vl (fun j => d''[j]!) (k + 3) + Wd.pw (k + 3) * cr = Wd.vl (fun j => d'[j]!) (k + 3) + B))
  have HGF := hide (fun (t r : Int) (G : Wd.Gu (d[k + 2]! * 18446744073709551616 + d[k + 1]!) ((d[k + 2]! * 18446744073709551616 + d[k + 1]!) * 18446744073709551616 + d[k]!) (Wd.dig B (k + 1)) (Wd.dig B (k + 1) * 18446744073709551616 + Wd.dig B k) t r)
      (h : t * Wd.dig B k ≤ r * 18446744073709551616 + d[k]!) => (⟨(G.fin (P := Wd.vl (fun j => d[j]!) (k + 3)) (B := B) hp hB0 (part_bd tP hDb.1 hDb.2).1 (part_bd tP hDb.1 hDb.2).2 (part_bd tB hBb.1 hBb.2).1 (part_bd tB hBb.1 hBb.2).2 (by omega) hP h), ⟨G.t0, G.t1⟩⟩ :
        (Wd.vl (fun j => d[j]!) (k + 3) / B ≤ t ∧ t ≤ Wd.vl (fun j => d[j]!) (k + 3) / B + 1 ∧ 0 ≤ Wd.vl (fun j => d[j]!) (k + 3) / B ∧ Wd.vl (fun j => d[j]!) (k + 3) / B < 18446744073709551616) ∧ Wd.W64 t))
  have hBp3 : B ≤ Wd.pw (k + 3) := Int.le_of_lt (Int.lt_of_lt_of_le hB2 (Wd.pw_mono (by omega)))
  have HvB := hide hvB
  clear hvB hvB3 hB2 hB1 hp hp1 hp2 hp3 hBb hDb tB tP wt wn w0 w1 w2 htop hle hrow hd hH hl hg hne hP hcc hc hD3
  generalize Wd.vl (fun j => d[j]!) (k + 3) = P at *
  go_enter Tryd.func91, Tryd.ntmps91
  go_wp2_with fail
  refine (unhide HG).mono ?_
  rintro e w1 ⟨t, r, rfl, G, hG, z, rfl⟩
  obtain ⟨⟨q1, q2, q3, q4⟩, ht⟩ := unhide HGF t r G hG
  have HTT := hide (unhide HTK t ht z)
  have ⟨ht0, ht1⟩ := ht
  clear HG HTK HGF G hG ht
  go_wp2_with fail
  refine (unhide HTT).mono ?_
  rintro e w2 ⟨bo, d', hbo, rfl, hs', rfl, hw', hv'⟩
  have hV := Wd.vl_bd (f := fun j => d'[j]!) (n := k + 3) hw'
  have hv2 : Wd.vl (fun j => d'[j]!) (k + 3) + t * B = P + Wd.pw (k + 3) * bo := by rw [unhide HvB] at hv'; exact hv'
  have HW' := hide hw'
  have HAD' := hide (unhide HAD d' hs' hw' z)
  clear HTT HAD hv' hw'
  rcases hbo with rfl | rfl
  · have F := hide ((digit_fin (V2 := 0) (cr := 0) hB0 q1 q2 hV.1 hV.2 hv2 (Or.inl rfl) hBp3 (by decide) (by omega) (by decide) (by decide) (fun h => by omega)).1 rfl)
    clear hv2 hV HAD'
    go_wp2_with fail
    go_ret
    refine ⟨by rw [(unhide F).1]; rfl, d', z, hs', rfl, unhide HW', (unhide F).2⟩
  · go_wp2_with fail
    refine (unhide HAD').mono ?_
    rintro e w3 ⟨rfl, d2, hs2, rfl, hw2, cr, hc0, hc1, hv3⟩
    have hV2 := Wd.vl_bd (f := fun j => d2[j]!) (n := k + 3) hw2
    have F := hide ((digit_fin hB0 q1 q2 hV.1 hV.2 hv2 (Or.inr rfl) hBp3 hV2.1 hV2.2 hc0 hc1 (fun _ => hv3)).2 rfl)
    have HW2 := hide hw2
    have F1 := (unhide F).1
    clear hv2 hV HAD' hV2 hw2 hv3
    go_wp2
    go_ret
    refine ⟨by rw [← F1]; rfl, d2, z, hs2, ?_, unhide HW2, (unhide F).2⟩
    rw [putRow_putRow _ _ _ _ _ _ (by omega)]
    rfl
end Go.Proofs.YtdicbnchkfclaaaDoor
