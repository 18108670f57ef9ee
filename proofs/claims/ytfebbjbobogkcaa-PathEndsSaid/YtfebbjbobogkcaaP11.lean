/- The program's Ends and Work. -/
import Derived.Test.YtfebbjbobogkcaaP7
namespace Go.Proofs.Ytfebbjbobogkcaa
open Go.RowKit Go.Sort Sim

/-- Does a piece count? -/
def cnts (t : T3) : Bool := decide (0 ≤ t.2.1 ∧ t.2.1 ≤ t.2.2 ∧ t.2.2 ≤ 100000000000)

set_option maxHeartbeats 1000000 in
theorem counts_any (x y z : Int) (w : World) :
    Calls Try.prog 19 #[.agg #[.int .i64 x, .int .i64 y, .int .i64 z]] w fun e w' => e = .returned (.bool (cnts (x, y, z))) ∧ Below w.heap.size w w' := by
  by_cases h1 : 0 ≤ y
  · by_cases h2 : y ≤ z
    · by_cases h3 : z ≤ 100000000000
      · rw [show cnts (x, y, z) = true by simp [cnts, h1, h2, h3]]
        go_enter Try.func19, Try.ntmps19
        go_wp2
        go_ret
        exact ⟨rfl, alloc_below _ _⟩
      · rw [show cnts (x, y, z) = false by simp [cnts, h1, h2, h3]]
        go_enter Try.func19, Try.ntmps19
        go_wp2
        go_ret
        exact ⟨rfl, alloc_below _ _⟩
    · rw [show cnts (x, y, z) = false by simp [cnts, h1, h2]]
      go_enter Try.func19, Try.ntmps19
      go_wp2
      go_ret
      exact ⟨rfl, alloc_below _ _⟩
  · rw [show cnts (x, y, z) = false by simp [cnts, h1]]
    go_enter Try.func19, Try.ntmps19
    go_wp2
    go_ret
    exact ⟨rfl, alloc_below _ _⟩

/-- Is it of a job? -/
def ofJob (n : Nat) (t : T3) : Prop := cnts t = true ∧ 0 ≤ t.1 ∧ t.1 < (n : Int)
def endsI (n : Nat) (g : Nat → T3) : Nat → (Nat → Int)
  | 0 => fun _ => 0
  | k + 1 => if cnts (g k) = true ∧ 0 ≤ (g k).1 ∧ (g k).1 < (n : Int) then updI (endsI n g k) (g k).1.toNat (max (endsI n g k (g k).1.toNat) (g k).2.2) else endsI n g k
theorem endsI_yes {n : Nat} {g : Nat → T3} {k j : Nat} {y z : Int} (hg : g k = ((j : Int), y, z)) (h1 : cnts (g k) = true) (h2 : j < n) : endsI n g (k + 1) = updI (endsI n g k) j (max (endsI n g k j) z) := by
  show (if _ then _ else _) = _
  rw [if_pos ⟨h1, by rw [hg]; exact Int.natCast_nonneg _, by rw [hg]; show (j : Int) < n; omega⟩, hg]
  rfl
theorem endsI_no {n : Nat} {g : Nat → T3} {k : Nat} (h : ¬ (cnts (g k) = true ∧ 0 ≤ (g k).1 ∧ (g k).1 < (n : Int))) : endsI n g (k + 1) = endsI n g k := by
  show (if _ then _ else _) = _
  rw [if_neg h]

set_option maxHeartbeats 4000000 in
theorem ends_any (a a' : Option Addr) (n c m c' : Nat) (g : Nat → T3) (w : World) (ha : TRow w a' m c' g) (hn : n ≤ 1000) :
    Calls Try.prog 9 #[.slice a n c, .slice a' m c'] w fun e w' => e = .returned (.slice (some ⟨w.heap.size, 0, none⟩) n n) ∧ OwnI w' w.heap.size n (endsI n g m) ∧ Below w.heap.size w w' := by
  obtain ⟨h1, h2, h3⟩ := ha
  have mk := make_ints n (by omega) w
  have O0 := hide (make_own w n)
  have B0 := hide (alloc_below w (.cells (lrow (fun _ => 0) n).toArray 3))
  obtain ⟨W0, hW0⟩ : ∃ W, w.alloc (.cells (lrow (fun _ => 0) n).toArray 3) = W := ⟨_, rfl⟩
  rw [hW0] at mk O0 B0
  obtain ⟨G, hG⟩ : ∃ G, w.heap.size = G := ⟨_, rfl⟩
  rw [hG] at mk O0
  have HG := hide hG
  have H3 := hide h3
  rw [hG]
  clear h3 hW0 hG
  go_enter Try.func9, Try.ntmps9
  go_wp2
  clear mk
  go_loopw [13] (fun vi wr => ∃ k : Nat, vi = .int .i64 (k : Int) ∧ k ≤ m ∧ OwnI wr G n (endsI n g k) ∧ Below w.heap.size w wr) (fun vi _ => m - (intOf vi).toNat)
  case atStart => exact ⟨0, rfl, Nat.zero_le _, unhide O0, unhide B0⟩
  case round =>
    obtain ⟨k, rfl, hk, hO, hb⟩ := hrel
    by_cases hlt : k < m
    · obtain ⟨b, o, rfl, hbl, hc3⟩ := unhide H3 (by omega)
      have ⟨k0, k1, k2⟩ := hc3 k hlt
      rw [← hb.cell (p := ⟨b, o + k * 3, none⟩) hbl] at k0
      rw [← hb.cell (p := ⟨b, o + k * 3 + 1, none⟩) hbl] at k1
      rw [← hb.cell (p := ⟨b, o + k * 3 + 2, none⟩) hbl] at k2
      obtain ⟨⟨x, y, z⟩, hf⟩ : ∃ t, g k = t := ⟨_, rfl⟩
      rw [hf] at k0 k1 k2
      simp only at k0 k1 k2
      have e2 : (0 : Int) ≤ (k : Int) := by omega
      have e3 : (k : Int) < (m : Int) := by omega
      have HCo := hide (counts_any x y z (wr.alloc (.cells #[.int .i64 x, .int .i64 y, .int .i64 z] 26)))
      have hO1 := hide (hO.keep (alloc_below wr (.cells #[.int .i64 x, .int .i64 y, .int .i64 z] 26)))
      have HB := hide (below_step hb (alloc_below wr (.cells #[.int .i64 x, .int .i64 y, .int .i64 z] 26)))
      have HF := hide hf
      clear hc3 H3 hb hf hO
      go_wp2_with fail
      refine (unhide HCo).mono ?_
      rintro e w2 ⟨rfl, hb2⟩
      have ⟨q0, q1, q2⟩ := box3 hb2
      have hO2 := (unhide hO1).keep hb2
      have HB2 := hide (below_step (unhide HB) hb2)
      clear hO1 HB hb2 HCo k0 k1 k2
      by_cases hct : cnts (x, y, z) = true
      · rw [hct]
        by_cases hx0 : x < 0
        · have HNOT : ¬ (cnts (g k) = true ∧ 0 ≤ (g k).1 ∧ (g k).1 < (n : Int)) := by rw [unhide HF]; intro c; exact absurd c.2.1 (Int.not_le.2 hx0)
          have FIN : Hid (OwnI w2 G n (endsI n g (k + 1))) := by
            show OwnI _ _ _ _
            rw [endsI_no HNOT]
            exact hO2
          clear hO2
          go_wp2
          exact ⟨⟨k + 1, by go_num, hlt, unhide FIN, unhide HB2⟩, by simp [intOf]; omega⟩
        · by_cases hxn : x < (n : Int)
          · obtain ⟨j, rfl⟩ : ∃ j : Nat, x = (j : Int) := ⟨x.toNat, by omega⟩
            have hjn : j < n := by omega
            have g0 := hO2.cell hjn
            have g1 := hO2.free j
            obtain ⟨u, hu⟩ : ∃ u, endsI n g k j = u := ⟨_, rfl⟩
            rw [hu] at g0
            have FIN : Hid (OwnI (w2.setCell ⟨G, j, none⟩ (.int .i64 (if u < z then z else u))) G n (endsI n g (k + 1))) := by
              show OwnI _ _ _ _
              rw [endsI_yes (unhide HF) (by rw [unhide HF]; exact hct) hjn, hu, show max u z = (if u < z then z else u) by split <;> omega]
              exact hO2.set j _
            have FB : Hid (Below w.heap.size w (w2.setCell ⟨G, j, none⟩ (.int .i64 (if u < z then z else u)))) := (unhide HB2).setCell (Nat.le_of_eq (unhide HG)) _
            have HCT := hide hct
            clear hO2 hu hct
            go_wp2_with fail
            go_region
            go_wp2
            exact ⟨⟨k + 1, by go_num, hlt, (unhide FIN).keep (drew_below _), below_step (unhide FB) (drew_below _)⟩, by simp [intOf]; omega⟩
          · have HNOT : ¬ (cnts (g k) = true ∧ 0 ≤ (g k).1 ∧ (g k).1 < (n : Int)) := by rw [unhide HF]; intro c; exact absurd c.2.2 hxn
            have FIN : Hid (OwnI w2 G n (endsI n g (k + 1))) := by
              show OwnI _ _ _ _
              rw [endsI_no HNOT]
              exact hO2
            clear hO2
            go_wp2
            exact ⟨⟨k + 1, by go_num, hlt, unhide FIN, unhide HB2⟩, by simp [intOf]; omega⟩
      · have hcf : cnts (x, y, z) = false := by simpa using hct
        rw [hcf]
        have HNOT : ¬ (cnts (g k) = true ∧ 0 ≤ (g k).1 ∧ (g k).1 < (n : Int)) := by rw [unhide HF]; intro c; exact absurd c.1 hct
        clear hcf hct
        have FIN : Hid (OwnI w2 G n (endsI n g (k + 1))) := by
          show OwnI _ _ _ _
          rw [endsI_no HNOT]
          exact hO2
        clear hO2
        go_wp2
        exact ⟨⟨k + 1, by go_num, hlt, unhide FIN, unhide HB2⟩, by simp [intOf]; omega⟩
    · obtain rfl : k = m := by omega
      have e3 : ¬ (k : Int) < (k : Int) := by omega
      have FO := hide hO
      clear hO
      go_wp2
      go_ret
      exact ⟨rfl, unhide FO, by rw [← unhide HG]; exact hb⟩

def wk (f : Nat → T3) (at_ : Int) : Nat → Int
  | 0 => 0
  | k + 1 => if (f k).1 ≤ at_ then IntKind.i64.wrap (wk f at_ k + (f k).2.1) else wk f at_ k
def wpc (g : Nat → T3) (at_ w0 : Int) : Nat → Int
  | 0 => w0
  | k + 1 => if cnts (g k) = true ∧ (g k).2.1 < min (g k).2.2 at_ then IntKind.i64.wrap (wpc g at_ w0 k - (min (g k).2.2 at_ - (g k).2.1)) else wpc g at_ w0 k

set_option maxHeartbeats 4000000 in
theorem work_any (a a' : Option Addr) (n c m c' : Nat) (f g : Nat → T3) (at_ : Int) (w : World) (ha : TRow w a n c f) (hb : TRow w a' m c' g) :
    Calls Try.prog 12 #[.slice a n c, .slice a' m c', .int .i64 at_] w fun e w' => e = .returned (.int .i64 (wpc g at_ (wk f at_ n) m)) ∧ Below w.heap.size w w' := by
  obtain ⟨h1, h2, h3⟩ := ha
  obtain ⟨h1', h2', h3'⟩ := hb
  have H3 := hide h3
  have H3' := hide h3'
  clear h3 h3'
  go_enter Try.func12, Try.ntmps12
  go_wp2
  go_loopw [7, 15] (fun vn vi wr => ∃ k : Nat, vi = .int .i64 (k : Int) ∧ vn = .int .i64 (wk f at_ k) ∧ k ≤ n ∧ Below w.heap.size w wr) (fun _ vi _ => n - (intOf vi).toNat)
  case atStart => exact ⟨0, rfl, rfl, Nat.zero_le _, Below.refl _ _⟩
  case round =>
    obtain ⟨k, rfl, rfl, hk, hb⟩ := hrel
    by_cases hlt : k < n
    · obtain ⟨b, o, rfl, hbl, hc3⟩ := unhide H3 (by omega)
      have ⟨k0, k1, k2⟩ := hc3 k hlt
      rw [← hb.cell (p := ⟨b, o + k * 3, none⟩) hbl] at k0
      rw [← hb.cell (p := ⟨b, o + k * 3 + 1, none⟩) hbl] at k1
      rw [← hb.cell (p := ⟨b, o + k * 3 + 2, none⟩) hbl] at k2
      obtain ⟨⟨x, y, z⟩, hf⟩ : ∃ t, f k = t := ⟨_, rfl⟩
      rw [hf] at k0 k1 k2
      simp only at k0 k1 k2
      have e2 : (0 : Int) ≤ (k : Int) := by omega
      have e3 : (k : Int) < (n : Int) := by omega
      have ⟨q0, q1, q2⟩ := box3 (w := wr) (x := .int .i64 x) (y := .int .i64 y) (z := .int .i64 z) (T := 46) (Below.refl _ _)
      have HB := hide (below_step hb (alloc_below wr (.cells #[.int .i64 x, .int .i64 y, .int .i64 z] 46)))
      obtain ⟨N, hN⟩ : ∃ N, wk f at_ k = N := ⟨_, rfl⟩
      rw [hN]
      by_cases hx : x ≤ at_
      · have FIN : Hid (wk f at_ (k + 1) = IntKind.i64.wrap (N + y)) := by
          show (if (f k).1 ≤ at_ then _ else _) = _
          rw [hf, if_pos hx, hN]
        obtain ⟨N2, hN2⟩ : ∃ N2, IntKind.i64.wrap (N + y) = N2 := ⟨_, rfl⟩
        rw [hN2] at FIN
        clear hc3 hb hf hN
        go_wp2
        exact ⟨⟨k + 1, by go_num, by rw [unhide FIN], hlt, unhide HB⟩, by simp [intOf]; omega⟩
      · have FIN : Hid (wk f at_ (k + 1) = N) := by
          show (if (f k).1 ≤ at_ then _ else _) = _
          rw [hf, if_neg hx, hN]
        clear hc3 hb hf hN
        go_wp2
        exact ⟨⟨k + 1, by go_num, by rw [unhide FIN], hlt, unhide HB⟩, by simp [intOf]; omega⟩
    · obtain rfl : k = n := by omega
      have e3 : ¬ (k : Int) < (k : Int) := by omega
      have HB := hide hb
      clear hb H3
      obtain ⟨M, hM⟩ : ∃ M, wk f at_ k = M := ⟨_, rfl⟩
      have HM := hide hM
      rw [hM]
      clear hM
      obtain ⟨wq, hwq⟩ : ∃ W, W = wr := ⟨_, rfl⟩
      rw [← hwq] at HB ⊢
      clear hwq
      go_wp2_with fail
      go_loopw [7, 30] (fun vn vi wr => ∃ i : Nat, vi = .int .i64 (i : Int) ∧ vn = .int .i64 (wpc g at_ M i) ∧ i ≤ m ∧ Below w.heap.size w wr) (fun _ vi _ => m - (intOf vi).toNat)
      case atStart => exact ⟨0, rfl, rfl, Nat.zero_le _, unhide HB⟩
      case round =>
        clear HB
        obtain ⟨i, rfl, rfl, hi, hb⟩ := hrel
        obtain ⟨N, hN⟩ : ∃ N, wpc g at_ M i = N := ⟨_, rfl⟩
        rw [hN]
        by_cases hlt : i < m
        · obtain ⟨b, o, rfl, hbl, hc3⟩ := unhide H3' (by omega)
          have ⟨k0, k1, k2⟩ := hc3 i hlt
          rw [← hb.cell (p := ⟨b, o + i * 3, none⟩) hbl] at k0
          rw [← hb.cell (p := ⟨b, o + i * 3 + 1, none⟩) hbl] at k1
          rw [← hb.cell (p := ⟨b, o + i * 3 + 2, none⟩) hbl] at k2
          obtain ⟨⟨x, y, z⟩, hf⟩ : ∃ t, g i = t := ⟨_, rfl⟩
          rw [hf] at k0 k1 k2
          simp only at k0 k1 k2
          have e2 : (0 : Int) ≤ (i : Int) := by omega
          have e5 : (i : Int) < (m : Int) := by omega
          have HCo := hide (counts_any x y z (wr.alloc (.cells #[.int .i64 x, .int .i64 y, .int .i64 z] 26)))
          have ⟨p0, p1, p2⟩ := box3 (w := wr) (x := .int .i64 x) (y := .int .i64 y) (z := .int .i64 z) (T := 26) (Below.refl _ _)
          have HB := hide (below_step hb (alloc_below wr (.cells #[.int .i64 x, .int .i64 y, .int .i64 z] 26)))
          have HF := hide hf
          have HN := hide hN
          clear hc3 H3' hb hf hN
          by_cases hz : at_ < z
          · have hmin : min z at_ = at_ := by omega
            go_wp2_with fail
            refine (unhide HCo).mono ?_
            rintro e w2 ⟨rfl, hb2⟩
            have ⟨q0, q1, q2⟩ := box3 hb2
            have HB2 := hide (below_step (unhide HB) hb2)
            clear hb2 HB HCo k0 k1 k2
            by_cases hct : cnts (x, y, z) = true
            · rw [hct]
              by_cases hy : y < at_
              · have hcc : 0 ≤ y ∧ y ≤ z ∧ z ≤ 100000000000 := by unfold cnts at hct; exact of_decide_eq_true hct
                have hw1 : IntKind.i64.wrap (at_ - y) = at_ - y := by rw [IntKind.wrap_i64]; omega
                have FIN : Hid (wpc g at_ M (i + 1) = IntKind.i64.wrap (N - (at_ - y))) := by
                  show (if cnts (g i) = true ∧ (g i).2.1 < min (g i).2.2 at_ then _ else _) = _
                  rw [unhide HF, if_pos ⟨hct, by show y < min z at_; rw [hmin]; exact hy⟩, unhide HN]
                  show IntKind.i64.wrap (N - (min z at_ - y)) = _
                  rw [hmin]
                obtain ⟨N2, hN2⟩ : ∃ N2, IntKind.i64.wrap (N - (at_ - y)) = N2 := ⟨_, rfl⟩
                rw [hN2] at FIN
                clear hcc hct hmin
                go_wp2
                exact ⟨⟨i + 1, by go_num, by rw [unhide FIN], hlt, unhide HB2⟩, by simp [intOf]; omega⟩
              · have FIN : Hid (wpc g at_ M (i + 1) = N) := by
                  show (if cnts (g i) = true ∧ (g i).2.1 < min (g i).2.2 at_ then _ else _) = _
                  rw [unhide HF, if_neg (fun c => hy (by have := c.2; rw [← hmin]; exact this)), unhide HN]
                clear hct hmin
                go_wp2
                exact ⟨⟨i + 1, by go_num, by rw [unhide FIN], hlt, unhide HB2⟩, by simp [intOf]; omega⟩
            · have hcf : cnts (x, y, z) = false := by simpa using hct
              rw [hcf]
              have FIN : Hid (wpc g at_ M (i + 1) = N) := by
                show (if cnts (g i) = true ∧ (g i).2.1 < min (g i).2.2 at_ then _ else _) = _
                rw [unhide HF, if_neg (fun c => hct c.1), unhide HN]
              clear hcf hct hmin
              go_wp2
              exact ⟨⟨i + 1, by go_num, by rw [unhide FIN], hlt, unhide HB2⟩, by simp [intOf]; omega⟩
          · have hmin : min z at_ = z := by omega
            go_wp2_with fail
            refine (unhide HCo).mono ?_
            rintro e w2 ⟨rfl, hb2⟩
            have ⟨q0, q1, q2⟩ := box3 hb2
            have HB2 := hide (below_step (unhide HB) hb2)
            clear hb2 HB HCo k0 k1 k2
            by_cases hct : cnts (x, y, z) = true
            · rw [hct]
              by_cases hy : y < z
              · have hcc : 0 ≤ y ∧ y ≤ z ∧ z ≤ 100000000000 := by unfold cnts at hct; exact of_decide_eq_true hct
                have hw1 : IntKind.i64.wrap (z - y) = z - y := by rw [IntKind.wrap_i64]; omega
                have FIN : Hid (wpc g at_ M (i + 1) = IntKind.i64.wrap (N - (z - y))) := by
                  show (if cnts (g i) = true ∧ (g i).2.1 < min (g i).2.2 at_ then _ else _) = _
                  rw [unhide HF, if_pos ⟨hct, by show y < min z at_; rw [hmin]; exact hy⟩, unhide HN]
                  show IntKind.i64.wrap (N - (min z at_ - y)) = _
                  rw [hmin]
                obtain ⟨N2, hN2⟩ : ∃ N2, IntKind.i64.wrap (N - (z - y)) = N2 := ⟨_, rfl⟩
                rw [hN2] at FIN
                clear hcc hct hmin
                go_wp2
                exact ⟨⟨i + 1, by go_num, by rw [unhide FIN], hlt, unhide HB2⟩, by simp [intOf]; omega⟩
              · have FIN : Hid (wpc g at_ M (i + 1) = N) := by
                  show (if cnts (g i) = true ∧ (g i).2.1 < min (g i).2.2 at_ then _ else _) = _
                  rw [unhide HF, if_neg (fun c => hy (by have := c.2; rw [← hmin]; exact this)), unhide HN]
                clear hct hmin
                go_wp2
                exact ⟨⟨i + 1, by go_num, by rw [unhide FIN], hlt, unhide HB2⟩, by simp [intOf]; omega⟩
            · have hcf : cnts (x, y, z) = false := by simpa using hct
              rw [hcf]
              have FIN : Hid (wpc g at_ M (i + 1) = N) := by
                show (if cnts (g i) = true ∧ (g i).2.1 < min (g i).2.2 at_ then _ else _) = _
                rw [unhide HF, if_neg (fun c => hct c.1), unhide HN]
              clear hcf hct hmin
              go_wp2
              exact ⟨⟨i + 1, by go_num, by rw [unhide FIN], hlt, unhide HB2⟩, by simp [intOf]; omega⟩
        · obtain rfl : i = m := by omega
          have e5 : ¬ (i : Int) < (i : Int) := by omega
          have HN : Hid (wpc g at_ (wk f at_ k) i = N) := by show _ = _; rw [unhide HM]; exact hN
          clear hN
          go_wp2
          go_ret
          exact ⟨by rw [unhide HN]; rfl, hb⟩
end Go.Proofs.Ytfebbjbobogkcaa
