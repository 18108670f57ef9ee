/- PathRuns: the law's walk. -/
import Derived.Test.YteflciddadjilaaDoorP37
namespace Go.Proofs.YteflciddadjilaaDoor
open Go.RowKit Go.Sort Sim

set_option maxHeartbeats 8000000 in
set_option maxRecDepth 100000 in
theorem pathRuns_any (a : Option Addr) (n c : Nat) (f : Nat → T3) (x : Int) (w : World) (het : ErrTy w) (ha : TRow w a n c f) :
    Calls Tryd.prog 5 #[.slice a n c, .int .i64 x] w fun e w' => e = .returned (.bool true) ∧ Below w.heap.size w w' := by
  have HA := hide ha
  have HE := hide het
  have hac := ha.1
  have hac2 := ha.2.1
  clear ha het
  by_cases hn : (100 : Int) < (n : Int)
  · go_enter Tryd.func5, Tryd.ntmps5
    go_wp2
    go_ret
    exact ⟨rfl, Below.refl _ _⟩
  have C1 := hide (jobs_any a n c f w (unhide HA) (by omega))
  go_enter Tryd.func5, Tryd.ntmps5
  go_wp2_with fail
  refine (unhide C1).mono ?_
  rintro e w1 ⟨aj, cj, rfl, htj, hb1⟩
  have HJ := hide htj
  have HB1 := hide hb1
  have C2 := hide (jobsCheck_any aj n cj f w1 htj)
  clear htj hb1 C1
  go_wp2_with fail
  refine (unhide C2).mono ?_
  rintro e w2 ⟨rfl, hb2⟩
  have HJ2 := hide ((unhide HJ).below hb2)
  have HB2 := hide (below_step (unhide HB1) hb2)
  clear hb2 C2 HJ HB1
  by_cases hj : jcode n f = 0
  · by_cases hx : 1 ≤ x ∧ x ≤ 6
    · obtain ⟨s, rfl⟩ : ∃ s : Nat, x = (s : Int) := ⟨x.toNat, by omega⟩
      have hs1 : 1 ≤ s := by omega
      have hs2 : s ≤ 6 := by omega
      have x1 : ¬ (s : Int) < 1 := by omega
      have x2 : ¬ (6 : Int) < (s : Int) := by omega
      have C3 := hide (run_any a n c f s w2 ((unhide HA).below (unhide HB2)) hj hs1 hs2)
      have HGD := hide (good_of hj)
      rw [hj]
      clear hx hj
      go_wp2_with fail
      refine (unhide C3).mono ?_
      rintro e w3 ⟨vp, t, rfl, hdn, hop, hb3⟩
      have HB3 := hide (below_step (unhide HB2) hb3)
      have C4 := hide (rrun_any aj n cj f s w3 ((unhide HJ2).below hb3) (unhide HGD) hs1 hs2)
      obtain ⟨ap, cp, rfl, htp⟩ := hop.trow
      have hlp := ps_short (qOf n f s) t
      have HTP := hide htp
      have HDN := hide hdn
      have hq1 := htp.1
      have hq2 := htp.2.1
      clear hb3 hop C3 HB2 HJ2 htp hdn
      go_wp2_with fail
      refine (unhide C4).mono ?_
      rintro e w4 ⟨vr, t2, rfl, hdn2, hor, hb4⟩
      rw [← done_same (unhide HDN) hdn2] at hor
      obtain ⟨ar, cr, rfl, htr⟩ := hor.trow
      have HB4 := hide (below_step (unhide HB3) hb4)
      have HTP4 := hide ((unhide HTP).below hb4)
      have HTR := hide htr
      have hr1 := htr.1
      have hr2 := htr.2.1
      obtain ⟨M, hM⟩ : ∃ M, (pcsT (sim (qOf n f s) t).ps).length = M := ⟨_, rfl⟩
      obtain ⟨g, hg⟩ : ∃ g : Nat → T3, (fun j => (pcsT (sim (qOf n f s) t).ps)[j]!) = g := ⟨_, rfl⟩
      rw [hM, hg] at HTP4 HTR
      rw [hM] at hq1 hr1 ⊢
      clear hb4 hor htr C4 HB3 HTP hdn2 hlp hM hg HDN
      go_wp2_with fail
      go_loopw [10] (fun vi wr => ∃ k : Nat, vi = .int .i64 (k : Int) ∧ k ≤ M ∧ Below w4.heap.size w4 wr) (fun vi _ => M - (intOf vi).toNat)
      case atStart => exact ⟨0, rfl, Nat.zero_le _, Below.refl _ _⟩
      case round =>
        obtain ⟨k, rfl, hk, hbk⟩ := hrel
        by_cases hlt : k < M
        · obtain ⟨b, o, rfl, hbl, hc3⟩ := ((unhide HTP4).below hbk).2.2 (by omega)
          obtain ⟨b', o', rfl, hbl', hc3'⟩ := ((unhide HTR).below hbk).2.2 (by omega)
          have ⟨k0, k1, k2⟩ := hc3 k hlt
          have ⟨r0, r1, r2⟩ := hc3' k hlt
          obtain ⟨⟨y0, y1, y2⟩, hf⟩ : ∃ t, g k = t := ⟨_, rfl⟩
          rw [hf] at k0 k1 k2 r0 r1 r2
          simp only at k0 k1 k2 r0 r1 r2
          have e1 : (k : Int) < (M : Int) := by omega
          have e0 : (0 : Int) ≤ (k : Int) := by omega
          have HBK := hide hbk
          clear hc3 hc3' hf hbk
          go_wp2_with fail
          go_quiet (fail)
          go_wp2
          exact ⟨⟨k + 1, by go_num, hlt, below_step (unhide HBK) (by first | exact below_drewN _ _ | exact drew_below _)⟩, by simp [intOf]; omega⟩
        · obtain rfl : k = M := by omega
          have e1 : ¬ (k : Int) < (k : Int) := by omega
          have HBK := hide (below_step (unhide HB4) hbk)
          clear hbk
          go_wp2
          go_ret
          exact ⟨rfl, unhide HBK⟩
    · have C4 := hide (run_rule a n c f x w2 ((unhide HA).below (unhide HB2)) hj (by omega))
      rw [hj]
      clear hj
      by_cases hx1 : x < 1
      · clear hx
        go_wp2_with fail
        refine (unhide C4).mono ?_
        rintro e w4 ⟨rfl, hb4⟩
        have HB4 := hide (below_step (unhide HB2) hb4)
        clear hb4 C4 HB2
        go_wp2_with fail
        refine (tell_errno 1 w4 ((unhide HE).below (unhide HB4))).mono ?_
        rintro e w5 ⟨rfl, hb5⟩
        have HB5 := hide (below_step (unhide HB4) hb5)
        clear hb5 HB4
        go_wp2
        go_ret
        exact ⟨rfl, unhide HB5⟩
      · have hx2 : (6 : Int) < x := by omega
        clear hx
        go_wp2_with fail
        refine (unhide C4).mono ?_
        rintro e w4 ⟨rfl, hb4⟩
        have HB4 := hide (below_step (unhide HB2) hb4)
        clear hb4 C4 HB2
        go_wp2_with fail
        refine (tell_errno 1 w4 ((unhide HE).below (unhide HB4))).mono ?_
        rintro e w5 ⟨rfl, hb5⟩
        have HB5 := hide (below_step (unhide HB4) hb5)
        clear hb5 HB4
        go_wp2
        go_ret
        exact ⟨rfl, unhide HB5⟩
  · have C4 := hide (run_bad a n c f x w2 ((unhide HA).below (unhide HB2)) hj)
    have HKN := hide hj
    generalize jcode n f = k at *
    have hk : k ≠ 0 := unhide HKN
    go_wp2_with fail
    refine (unhide C4).mono ?_
    rintro e w4 ⟨rfl, hb4⟩
    have HB4 := hide (below_step (unhide HB2) hb4)
    clear hb4 C4 HB2
    go_wp2_with fail
    refine (tell_errno k w4 ((unhide HE).below (unhide HB4))).mono ?_
    rintro e w5 ⟨rfl, hb5⟩
    have HB5 := hide (below_step (unhide HB4) hb5)
    clear hb5 HB4
    go_wp2
    go_ret
    exact ⟨rfl, unhide HB5⟩
end Go.Proofs.YteflciddadjilaaDoor
