/- The document's own: what is said of jobs; when each begins, of several servers. -/
import Derived.Test.YteflciddadjilaaDoorP21
import Derived.Test.YteflciddadjilaaDoorP18
namespace Go.Proofs.YteflciddadjilaaDoor
open Go.RowKit Go.Sort Sim

set_option maxHeartbeats 1000000 in
theorem jobsCheck_any (a : Option Addr) (n c : Nat) (f : Nat → T3) (w : World) (ha : TRow w a n c f) :
    Calls Tryd.prog 7 #[.slice a n c] w fun e w' => e = .returned (.int .i64 (jcode n f)) ∧ Below w.heap.size w w' := by
  obtain ⟨h1, h2, h3⟩ := ha
  have H3 := hide h3
  clear h3
  by_cases hn : 60 < n
  · have hv : jcode n f = 4 := by unfold jcode; rw [if_pos hn]
    rw [hv]
    have hn' : (60 : Int) < (n : Int) := by omega
    go_enter Tryd.func7, Tryd.ntmps7
    go_wp2
    go_ret
    exact ⟨rfl, Below.refl _ _⟩
  have hj : jcode n f = jc f n := by unfold jcode; rw [if_neg hn]
  rw [hj]
  have hn' : ¬ (60 : Int) < (n : Int) := by omega
  clear hj
  go_enter Tryd.func7, Tryd.ntmps7
  go_wp2
  go_loopw [10] (fun vi wr => ∃ m : Nat, vi = .int .i64 (m : Int) ∧ m ≤ n ∧ jc f m = 0 ∧ Below w.heap.size w wr) (fun vi _ => n - (intOf vi).toNat)
  case atStart => exact ⟨0, rfl, Nat.zero_le _, rfl, Below.refl _ _⟩
  case round =>
    obtain ⟨m, rfl, hm, hj, hb⟩ := hrel
    by_cases hlt : m < n
    · obtain ⟨b, o, rfl, hbl, hc⟩ := unhide H3 (by omega)
      have ⟨k0, k1, k2⟩ := hc m hlt
      rw [← hb.cell (p := ⟨b, o + m * 3, none⟩) hbl] at k0
      rw [← hb.cell (p := ⟨b, o + m * 3 + 1, none⟩) hbl] at k1
      rw [← hb.cell (p := ⟨b, o + m * 3 + 2, none⟩) hbl] at k2
      obtain ⟨⟨x, y, z⟩, hf⟩ : ∃ t, f m = t := ⟨_, rfl⟩
      rw [hf] at k0 k1 k2
      simp only at k0 k1 k2
      have e2 : (0 : Int) ≤ (m : Int) := by omega
      have e3 : (m : Int) < (n : Int) := by omega
      have HB := hide hb
      have HJ := hide hj
      have HF := hide hf
      have ⟨q0, q1, q2⟩ := box3 (w := wr) (x := .int .i64 x) (y := .int .i64 y) (z := .int .i64 z) (T := 50) (Below.refl _ _)
      have b1 := alloc_below wr (.cells #[.int .i64 x, .int .i64 y, .int .i64 z] 50)
      have HB1 := hide (below_step hb b1)
      have HBAD : Hid (bad (x, y, z) = true → jc f n = 2) := fun h => jc_end (jc_bad (unhide HJ) (by rw [unhide HF]; exact h)) (by decide) hlt
      clear hj hf hb
      by_cases h1x : x < 0
      · have hv := unhide HBAD (by simp [bad, h1x])
        have HV := hide hv
        clear hc H3 hv
        go_wp2
        go_ret
        exact ⟨by rw [unhide HV]; rfl, unhide HB1⟩
      by_cases h2x : 1000000000 < x
      · have hv := unhide HBAD (by simp [bad, h2x])
        have HV := hide hv
        clear hc H3 hv
        go_wp2
        go_ret
        exact ⟨by rw [unhide HV]; rfl, unhide HB1⟩
      by_cases h3x : y < 1
      · have hv := unhide HBAD (by simp [bad, h3x])
        have HV := hide hv
        clear hc H3 hv
        go_wp2
        go_ret
        exact ⟨by rw [unhide HV]; rfl, unhide HB1⟩
      by_cases h4x : 1000000000 < y
      · have hv := unhide HBAD (by simp [bad, h4x])
        have HV := hide hv
        clear hc H3 hv
        go_wp2
        go_ret
        exact ⟨by rw [unhide HV]; rfl, unhide HB1⟩
      by_cases h5x : z < 0
      · have hv := unhide HBAD (by simp [bad, h5x])
        have HV := hide hv
        clear hc H3 hv
        go_wp2
        go_ret
        exact ⟨by rw [unhide HV]; rfl, unhide HB1⟩
      by_cases h6x : 9 < z
      · have hv := unhide HBAD (by simp [bad, h6x])
        have HV := hide hv
        clear hc H3 hv
        go_wp2
        go_ret
        exact ⟨by rw [unhide HV]; rfl, unhide HB1⟩
      have hgood : bad (x, y, z) = false := by simp [bad]; omega
      have HGood := hide hgood
      clear HBAD hgood
      by_cases hm0 : 0 < m
      · obtain ⟨m', hm'⟩ : ∃ m', m = m' + 1 := ⟨m - 1, by omega⟩
        have ⟨p0, _, _⟩ := hc m' (by omega)
        rw [← (unhide HB1).cell (p := ⟨b, o + m' * 3, none⟩) hbl] at p0
        obtain ⟨p, hp⟩ : ∃ p, (f m').1 = p := ⟨_, rfl⟩
        rw [hp] at p0
        have HP : Hid (prevAt f m = p) := by show _ = _; rw [hm']; exact hp
        have e5 : IntKind.i64.wrap ((m : Int) - 1) = (m' : Int) := by rw [IntKind.wrap_i64]; omega
        have e6 : (m' : Int) < (n : Int) := by omega
        have e7 : (0 : Int) ≤ (m' : Int) := by omega
        have HM := hide hm'
        clear hp hm'
        by_cases ho : x < p
        · have hv := jc_end (jc_order (unhide HJ) (by rw [unhide HF]; exact unhide HGood) (by rw [unhide HF, unhide HP]; exact ho)) (by decide) hlt
          have HV := hide hv
          clear hc H3 hv
          go_wp2_with fail
          go_quiet (fail)
          go_wp2
          go_ret
          exact ⟨by rw [unhide HV]; rfl, below_step (unhide HB1) (by first | exact drew_below _ | exact below_drewN _ _)⟩
        · have FIN : Hid (jc f (m + 1) = 0) := jc_good (unhide HJ) (by rw [unhide HF]; exact unhide HGood) (by rw [unhide HF, unhide HP]; exact ho)
          clear hc H3
          go_wp2_with fail
          go_quiet (fail)
          go_wp2
          exact ⟨⟨m + 1, by go_num, by omega, unhide FIN, below_step (unhide HB1) (by first | exact drew_below _ | exact below_drewN _ _)⟩, by simp [intOf]; omega⟩
      · have FIN : Hid (jc f (m + 1) = 0) := jc_good (unhide HJ) (by rw [unhide HF]; exact unhide HGood) (by
          rw [unhide HF]
          have : m = 0 := by omega
          rw [this]
          exact h1x)
        clear hc H3
        go_wp2_with fail
        go_quiet (fail)
        go_wp2
        exact ⟨⟨m + 1, by go_num, by omega, unhide FIN, below_step (unhide HB1) (by first | exact drew_below _ | exact below_drewN _ _)⟩, by simp [intOf]; omega⟩
    · obtain rfl : m = n := by omega
      have HJ := hide hj
      clear hj
      have e3 : ¬ (m : Int) < (m : Int) := by omega
      go_wp2
      go_ret
      exact ⟨by rw [unhide HJ]; rfl, hb⟩
end Go.Proofs.YteflciddadjilaaDoor
