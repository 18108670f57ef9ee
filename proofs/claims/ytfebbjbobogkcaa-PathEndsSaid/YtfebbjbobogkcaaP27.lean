/- The document's Work. -/
import Derived.Test.YtfebbjbobogkcaaP22
namespace Go.Proofs.Ytfebbjbobogkcaa
open Go.RowKit Go.Sort Sim

set_option maxHeartbeats 4000000 in
theorem rwork_any (a a' : Option Addr) (n c m c' : Nat) (f g : Nat → T3) (at_ : Int) (w : World) (ha : TRow w a n c f) (hb : TRow w a' m c' g) :
    Calls Try.prog 13 #[.slice a n c, .slice a' m c', .int .i64 at_] w fun e w' => e = .returned (.int .i64 (wpc g at_ (wk f at_ n) m)) ∧ Below w.heap.size w w' := by
  obtain ⟨h1, h2, h3⟩ := ha
  obtain ⟨h1', h2', h3'⟩ := hb
  have H3 := hide h3
  have H3' := hide h3'
  clear h3 h3'
  go_enter Try.func13, Try.ntmps13
  go_wp2
  go_loopw [7, 15] (fun vn vi wr => ∃ k : Nat, vi = .int .i64 (k : Int) ∧ vn = .int .i64 (wk f at_ k) ∧ k ≤ n ∧ Below w.heap.size w wr) (fun _ vi _ => n - (intOf vi).toNat)
  case atStart => exact ⟨0, rfl, rfl, Nat.zero_le _, Below.refl _ _⟩
  case round =>
    obtain ⟨k, rfl, rfl, hk, hb⟩ := hrel
    by_cases hlt : k < n
    · obtain ⟨b, o, rfl, hbl, hc3⟩ := unhide H3 (by omega)
      have ⟨k0, k1, k2⟩ := hc3 k hlt
      rw [← hb.cell (p := ⟨b, o + k * 3, none⟩) hbl] at k0
      rw [← hb.cell (p := ⟨b, o + k * 3 + 1, none⟩) hbl] at k1
      rw [← hb.cell (p := ⟨b, o + k * 3 + 2, none⟩) hbl] at k2
      obtain ⟨⟨x, y, z⟩, hf⟩ : ∃ t, f k = t := ⟨_, rfl⟩
      rw [hf] at k0 k1 k2
      simp only at k0 k1 k2
      have e2 : (0 : Int) ≤ (k : Int) := by omega
      have e3 : (k : Int) < (n : Int) := by omega
      have ⟨q0, q1, q2⟩ := box3 (w := wr) (x := .int .i64 x) (y := .int .i64 y) (z := .int .i64 z) (T := 52) (Below.refl _ _)
      have HB := hide (below_step hb (alloc_below wr (.cells #[.int .i64 x, .int .i64 y, .int .i64 z] 52)))
      obtain ⟨N, hN⟩ : ∃ N, wk f at_ k = N := ⟨_, rfl⟩
      rw [hN]
      by_cases hx : x ≤ at_
      · have FIN : Hid (wk f at_ (k + 1) = IntKind.i64.wrap (N + y)) := by
          show (if (f k).1 ≤ at_ then _ else _) = _
          rw [hf, if_pos hx, hN]
        obtain ⟨N2, hN2⟩ : ∃ N2, IntKind.i64.wrap (N + y) = N2 := ⟨_, rfl⟩
        rw [hN2] at FIN
        clear hc3 hb hf hN
        go_wp2
        exact ⟨⟨k + 1, by go_num, by rw [unhide FIN], hlt, unhide HB⟩, by simp [intOf]; omega⟩
      · have FIN : Hid (wk f at_ (k + 1) = N) := by
          show (if (f k).1 ≤ at_ then _ else _) = _
          rw [hf, if_neg hx, hN]
        clear hc3 hb hf hN
        go_wp2
        exact ⟨⟨k + 1, by go_num, by rw [unhide FIN], hlt, unhide HB⟩, by simp [intOf]; omega⟩
    · obtain rfl : k = n := by omega
      have e3 : ¬ (k : Int) < (k : Int) := by omega
      have HB := hide hb
      clear hb H3
      obtain ⟨M, hM⟩ : ∃ M, wk f at_ k = M := ⟨_, rfl⟩
      have HM := hide hM
      rw [hM]
      clear hM
      obtain ⟨wq, hwq⟩ : ∃ W, W = wr := ⟨_, rfl⟩
      rw [← hwq] at HB ⊢
      clear hwq
      go_wp2_with fail
      go_loopw [7, 30] (fun vn vi wr => ∃ i : Nat, vi = .int .i64 (i : Int) ∧ vn = .int .i64 (wpc g at_ M i) ∧ i ≤ m ∧ Below w.heap.size w wr) (fun _ vi _ => m - (intOf vi).toNat)
      case atStart => exact ⟨0, rfl, rfl, Nat.zero_le _, unhide HB⟩
      case round =>
        clear HB
        obtain ⟨i, rfl, rfl, hi, hb⟩ := hrel
        obtain ⟨N, hN⟩ : ∃ N, wpc g at_ M i = N := ⟨_, rfl⟩
        rw [hN]
        by_cases hlt : i < m
        · obtain ⟨b, o, rfl, hbl, hc3⟩ := unhide H3' (by omega)
          have ⟨k0, k1, k2⟩ := hc3 i hlt
          rw [← hb.cell (p := ⟨b, o + i * 3, none⟩) hbl] at k0
          rw [← hb.cell (p := ⟨b, o + i * 3 + 1, none⟩) hbl] at k1
          rw [← hb.cell (p := ⟨b, o + i * 3 + 2, none⟩) hbl] at k2
          obtain ⟨⟨x, y, z⟩, hf⟩ : ∃ t, g i = t := ⟨_, rfl⟩
          rw [hf] at k0 k1 k2
          simp only at k0 k1 k2
          have e2 : (0 : Int) ≤ (i : Int) := by omega
          have e5 : (i : Int) < (m : Int) := by omega
          have HCo := hide (rcounts_any x y z (wr.alloc (.cells #[.int .i64 x, .int .i64 y, .int .i64 z] 27)))
          have ⟨p0, p1, p2⟩ := box3 (w := wr) (x := .int .i64 x) (y := .int .i64 y) (z := .int .i64 z) (T := 27) (Below.refl _ _)
          have HB := hide (below_step hb (alloc_below wr (.cells #[.int .i64 x, .int .i64 y, .int .i64 z] 27)))
          have HF := hide hf
          have HN := hide hN
          clear hc3 H3' hb hf hN
          by_cases hz : at_ < z
          · have hmin : min z at_ = at_ := by omega
            go_wp2_with fail
            refine (unhide HCo).mono ?_
            rintro e w2 ⟨rfl, hb2⟩
            have ⟨q0, q1, q2⟩ := box3 hb2
            have HB2 := hide (below_step (unhide HB) hb2)
            clear hb2 HB HCo k0 k1 k2
            by_cases hct : cnts (x, y, z) = true
            · rw [hct]
              by_cases hy : y < at_
              · have hcc : 0 ≤ y ∧ y ≤ z ∧ z ≤ 100000000000 := by unfold cnts at hct; exact of_decide_eq_true hct
                have hw1 : IntKind.i64.wrap (at_ - y) = at_ - y := by rw [IntKind.wrap_i64]; omega
                have FIN : Hid (wpc g at_ M (i + 1) = IntKind.i64.wrap (N - (at_ - y))) := by
                  show (if cnts (g i) = true ∧ (g i).2.1 < min (g i).2.2 at_ then _ else _) = _
                  rw [unhide HF, if_pos ⟨hct, by show y < min z at_; rw [hmin]; exact hy⟩, unhide HN]
                  show IntKind.i64.wrap (N - (min z at_ - y)) = _
                  rw [hmin]
                obtain ⟨N2, hN2⟩ : ∃ N2, IntKind.i64.wrap (N - (at_ - y)) = N2 := ⟨_, rfl⟩
                rw [hN2] at FIN
                clear hcc hct hmin
                go_wp2
                exact ⟨⟨i + 1, by go_num, by rw [unhide FIN], hlt, unhide HB2⟩, by simp [intOf]; omega⟩
              · have FIN : Hid (wpc g at_ M (i + 1) = N) := by
                  show (if cnts (g i) = true ∧ (g i).2.1 < min (g i).2.2 at_ then _ else _) = _
                  rw [unhide HF, if_neg (fun c => hy (by have := c.2; rw [← hmin]; exact this)), unhide HN]
                clear hct hmin
                go_wp2
                exact ⟨⟨i + 1, by go_num, by rw [unhide FIN], hlt, unhide HB2⟩, by simp [intOf]; omega⟩
            · have hcf : cnts (x, y, z) = false := by simpa using hct
              rw [hcf]
              have FIN : Hid (wpc g at_ M (i + 1) = N) := by
                show (if cnts (g i) = true ∧ (g i).2.1 < min (g i).2.2 at_ then _ else _) = _
                rw [unhide HF, if_neg (fun c => hct c.1), unhide HN]
              clear hcf hct hmin
              go_wp2
              exact ⟨⟨i + 1, by go_num, by rw [unhide FIN], hlt, unhide HB2⟩, by simp [intOf]; omega⟩
          · have hmin : min z at_ = z := by omega
            go_wp2_with fail
            refine (unhide HCo).mono ?_
            rintro e w2 ⟨rfl, hb2⟩
            have ⟨q0, q1, q2⟩ := box3 hb2
            have HB2 := hide (below_step (unhide HB) hb2)
            clear hb2 HB HCo k0 k1 k2
            by_cases hct : cnts (x, y, z) = true
            · rw [hct]
              by_cases hy : y < z
              · have hcc : 0 ≤ y ∧ y ≤ z ∧ z ≤ 100000000000 := by unfold cnts at hct; exact of_decide_eq_true hct
                have hw1 : IntKind.i64.wrap (z - y) = z - y := by rw [IntKind.wrap_i64]; omega
                have FIN : Hid (wpc g at_ M (i + 1) = IntKind.i64.wrap (N - (z - y))) := by
                  show (if cnts (g i) = true ∧ (g i).2.1 < min (g i).2.2 at_ then _ else _) = _
                  rw [unhide HF, if_pos ⟨hct, by show y < min z at_; rw [hmin]; exact hy⟩, unhide HN]
                  show IntKind.i64.wrap (N - (min z at_ - y)) = _
                  rw [hmin]
                obtain ⟨N2, hN2⟩ : ∃ N2, IntKind.i64.wrap (N - (z - y)) = N2 := ⟨_, rfl⟩
                rw [hN2] at FIN
                clear hcc hct hmin
                go_wp2
                exact ⟨⟨i + 1, by go_num, by rw [unhide FIN], hlt, unhide HB2⟩, by simp [intOf]; omega⟩
              · have FIN : Hid (wpc g at_ M (i + 1) = N) := by
                  show (if cnts (g i) = true ∧ (g i).2.1 < min (g i).2.2 at_ then _ else _) = _
                  rw [unhide HF, if_neg (fun c => hy (by have := c.2; rw [← hmin]; exact this)), unhide HN]
                clear hct hmin
                go_wp2
                exact ⟨⟨i + 1, by go_num, by rw [unhide FIN], hlt, unhide HB2⟩, by simp [intOf]; omega⟩
            · have hcf : cnts (x, y, z) = false := by simpa using hct
              rw [hcf]
              have FIN : Hid (wpc g at_ M (i + 1) = N) := by
                show (if cnts (g i) = true ∧ (g i).2.1 < min (g i).2.2 at_ then _ else _) = _
                rw [unhide HF, if_neg (fun c => hct c.1), unhide HN]
              clear hcf hct hmin
              go_wp2
              exact ⟨⟨i + 1, by go_num, by rw [unhide FIN], hlt, unhide HB2⟩, by simp [intOf]; omega⟩
        · obtain rfl : i = m := by omega
          have e5 : ¬ (i : Int) < (i : Int) := by omega
          have HN : Hid (wpc g at_ (wk f at_ k) i = N) := by show _ = _; rw [unhide HM]; exact hN
          clear hN
          go_wp2
          go_ret
          exact ⟨by rw [unhide HN]; rfl, hb⟩
end Go.Proofs.Ytfebbjbobogkcaa
