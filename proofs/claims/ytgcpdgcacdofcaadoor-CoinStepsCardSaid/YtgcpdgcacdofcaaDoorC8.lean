/- CoinSteps: the law's walk. -/
import Derived.Test.YtgcpdgcacdofcaaDoorC7
namespace Go.Proofs.YtgcpdgcacdofcaaDoor
open Go.RowKit Go.Sort

theorem rows_alike {g : Nat → Int} {M L n : Nat} {R R' : Nat → Nat → Int} (h : ∀ n k, n ≤ M → k < L → StandsAt g M n (k : Int) (R n k)) (h' : ∀ n k, n ≤ M → k < L → StandsAt g M n (k : Int) (R' n k)) (hn : n ≤ M) : likeB L L (R n) (R' n) = true :=
  likeB_true.2 ⟨rfl, fun k hk => by
    obtain ⟨y, e, ht⟩ := h n k hn hk
    obtain ⟨y', e', ht'⟩ := h' n k hn hk
    rw [e, e', ht.uniq ht']⟩

set_option maxHeartbeats 2000000 in
theorem coinSteps_any (a : Option Addr) (c M : Nat) (Lt : Int) (g : Nat → Int) (w : World) (ha : IRow w a M c g) (hT : ErrTy w) :
    Calls Tryd.prog 3 #[.int .i64 Lt, .slice a M c] w fun e w' => e = .returned (.bool true) ∧ Below w.heap.size w w' := by
  by_cases hlong : (20 : Int) < (M : Int)
  · go_enter Tryd.func3, Tryd.ntmps3
    go_wp2
    go_ret
    exact ⟨rfl, Below.refl _ _⟩
  have HT4 := hide (tell_errno 4 w hT)
  have HT2 := hide (tell_errno 2 w hT)
  by_cases hlim : Limit Lt M
  · have HS := hide (Steps_limit a c M Lt w hlim)
    by_cases c1 : Lt < 1
    · clear hlim
      go_enter Tryd.func3, Tryd.ntmps3
      go_wp2
      go_loop [5, 6] (fun ve vi => ve = .int .i64 4 ∧ vi = .int .i64 0) (fun _ _ => 0)
      case atStart => exact ⟨rfl, rfl⟩
      case round =>
        obtain ⟨rfl, rfl⟩ := hrel
        by_cases hM0 : (0 : Int) < (M : Int)
        · go_wp2_with (first | (go_at_call 4; refine (unhide HS).mono ?_; rintro e w' ⟨rfl, rfl⟩) | (go_at_call 5; refine (unhide HT4).mono ?_; rintro e w' ⟨rfl, hb⟩))
          go_ret
          exact ⟨rfl, hb⟩
        · go_wp2_with (first | (go_at_call 4; refine (unhide HS).mono ?_; rintro e w' ⟨rfl, rfl⟩) | (go_at_call 5; refine (unhide HT4).mono ?_; rintro e w' ⟨rfl, hb⟩))
          go_ret
          exact ⟨rfl, hb⟩
    · by_cases c2 : 100 < Lt
      · clear hlim
        go_enter Tryd.func3, Tryd.ntmps3
        go_wp2
        go_loop [5, 6] (fun ve vi => ve = .int .i64 4 ∧ vi = .int .i64 0) (fun _ _ => 0)
        case atStart => exact ⟨rfl, rfl⟩
        case round =>
          obtain ⟨rfl, rfl⟩ := hrel
          by_cases hM0 : (0 : Int) < (M : Int)
          · go_wp2_with (first | (go_at_call 4; refine (unhide HS).mono ?_; rintro e w' ⟨rfl, rfl⟩) | (go_at_call 5; refine (unhide HT4).mono ?_; rintro e w' ⟨rfl, hb⟩))
            go_ret
            exact ⟨rfl, hb⟩
          · go_wp2_with (first | (go_at_call 4; refine (unhide HS).mono ?_; rintro e w' ⟨rfl, rfl⟩) | (go_at_call 5; refine (unhide HT4).mono ?_; rintro e w' ⟨rfl, hb⟩))
            go_ret
            exact ⟨rfl, hb⟩
      · by_cases c3 : (M : Int) < 1
        · clear hlim
          go_enter Tryd.func3, Tryd.ntmps3
          go_wp2
          go_loop [5, 6] (fun ve vi => ve = .int .i64 4 ∧ vi = .int .i64 0) (fun _ _ => 0)
          case atStart => exact ⟨rfl, rfl⟩
          case round =>
            obtain ⟨rfl, rfl⟩ := hrel
            by_cases hM0 : (0 : Int) < (M : Int)
            · omega
            · go_wp2_with (first | (go_at_call 4; refine (unhide HS).mono ?_; rintro e w' ⟨rfl, rfl⟩) | (go_at_call 5; refine (unhide HT4).mono ?_; rintro e w' ⟨rfl, hb⟩))
              go_ret
              exact ⟨rfl, hb⟩
        · have c4 : (12 : Int) < (M : Int) := by unfold Limit at hlim; omega
          clear hlim
          go_enter Tryd.func3, Tryd.ntmps3
          go_wp2
          go_loop [5, 6] (fun ve vi => ve = .int .i64 4 ∧ vi = .int .i64 0) (fun _ _ => 0)
          case atStart => exact ⟨rfl, rfl⟩
          case round =>
            obtain ⟨rfl, rfl⟩ := hrel
            by_cases hM0 : (0 : Int) < (M : Int)
            · go_wp2_with (first | (go_at_call 4; refine (unhide HS).mono ?_; rintro e w' ⟨rfl, rfl⟩) | (go_at_call 5; refine (unhide HT4).mono ?_; rintro e w' ⟨rfl, hb⟩))
              go_ret
              exact ⟨rfl, hb⟩
            · omega
  have hlim' := hlim
  unfold Limit at hlim
  have c1 : ¬ Lt < 1 := by omega
  have c2 : ¬ 100 < Lt := by omega
  have c3 : ¬ (M : Int) < 1 := by omega
  have c4 : ¬ (12 : Int) < (M : Int) := by omega
  have hM : 0 < M := by omega
  have HA := hide ha
  obtain ⟨h1, h2, h3⟩ := ha
  obtain ⟨b, o, rfl, hbl, hc⟩ := h3 hM
  have HC := hide hc
  clear h3 hc hlim
  rcases bad_or Lt M g with hb | hgood
  · have HS := hide (Steps_bad _ c M Lt g w (unhide HA) hlim' hb)
    obtain ⟨n, hn, hbad, hg⟩ := hb
    have HG := hide hg
    have HBAD := hide hbad
    clear hg hbad hlim'
    go_enter Tryd.func3, Tryd.ntmps3
    go_wp2
    go_loop [5, 6] (fun ve vi => ∃ m : Nat, vi = .int .i64 (m : Int) ∧ ((ve = .int .i64 0 ∧ m ≤ n) ∨ (ve = .int .i64 2 ∧ m = n + 1))) (fun _ vi => M - (intOf vi).toNat)
    case atStart => exact ⟨0, rfl, Or.inl ⟨rfl, Nat.zero_le _⟩⟩
    case round =>
      obtain ⟨m, rfl, ⟨rfl, hm⟩ | ⟨rfl, rfl⟩⟩ := hrel
      · have i1 : (m : Int) < (M : Int) := by omega
        have hcm := unhide HC m (by omega)
        by_cases e : m = n
        · subst e
          have hbad := unhide HBAD
          obtain ⟨x, hx⟩ : ∃ x, g m = x := ⟨_, rfl⟩
          rw [hx] at hcm hbad
          clear hx
          by_cases hx0 : x < 0
          · clear hbad
            go_wp2
            exact ⟨⟨m + 1, by go_num, Or.inr ⟨rfl, rfl⟩⟩, by simp [intOf]; omega⟩
          · have hx1 : Lt ≤ x := by omega
            clear hbad
            go_wp2
            exact ⟨⟨m + 1, by go_num, Or.inr ⟨rfl, rfl⟩⟩, by simp [intOf]; omega⟩
        · have hgm := unhide HG m (by omega)
          obtain ⟨x, hx⟩ : ∃ x, g m = x := ⟨_, rfl⟩
          rw [hx] at hcm hgm
          obtain ⟨hx0, hx1⟩ := hgm
          clear hx
          go_wp2
          exact ⟨⟨m + 1, by go_num, Or.inl ⟨rfl, by omega⟩⟩, by simp [intOf]; omega⟩
      · by_cases i1 : ((n + 1 : Nat) : Int) < (M : Int)
        · go_wp2_with (first | (go_at_call 4; refine (unhide HS).mono ?_; rintro e w' ⟨rfl, rfl⟩) | (go_at_call 5; refine (unhide HT2).mono ?_; rintro e w' ⟨rfl, hb⟩))
          go_ret
          exact ⟨rfl, hb⟩
        · go_wp2_with (first | (go_at_call 4; refine (unhide HS).mono ?_; rintro e w' ⟨rfl, rfl⟩) | (go_at_call 5; refine (unhide HT2).mono ?_; rintro e w' ⟨rfl, hb⟩))
          go_ret
          exact ⟨rfl, hb⟩
  · obtain ⟨L, rfl⟩ : ∃ L : Nat, Lt = (L : Int) := ⟨Lt.toNat, by omega⟩
    have HS := hide (Steps_good _ c M L g w (unhide HA) hlim' hgood)
    have HRS : Hid (∀ W, Below w.heap.size w W → _) := fun W hW => refSteps_any _ c M L g W ((unhide HA).below hW) (by omega) (by omega) (by omega) (by omega)
    have HG := hide hgood
    clear hgood hlim'
    go_enter Tryd.func3, Tryd.ntmps3
    go_wp2
    go_loop [5, 6] (fun ve vi => ∃ m : Nat, vi = .int .i64 (m : Int) ∧ ve = .int .i64 0 ∧ m ≤ M) (fun _ vi => M - (intOf vi).toNat)
    case atStart => exact ⟨0, rfl, rfl, Nat.zero_le _⟩
    case round =>
      obtain ⟨m, rfl, rfl, hm⟩ := hrel
      by_cases e : m < M
      · have hcm := unhide HC m e
        have hgm := unhide HG m e
        have i1 : (m : Int) < (M : Int) := by omega
        obtain ⟨x, hx⟩ : ∃ x, g m = x := ⟨_, rfl⟩
        rw [hx] at hcm hgm
        obtain ⟨hx0, hx1⟩ := hgm
        clear hx
        go_wp2
        exact ⟨⟨m + 1, by go_num, rfl, by omega⟩, by simp [intOf]; omega⟩
      · obtain rfl : m = M := by omega
        have i1 : ¬ (m : Int) < (m : Int) := by omega
        go_wp2_with fail
        refine (unhide HS).mono ?_
        rintro e w2 ⟨v, R, rfl, hR, hSt, hB⟩
        have HB := hide hB
        have HSt := hide hSt
        obtain ⟨av, cv, rfl, l1, l2, l3⟩ := hR.below (Below.refl _ _)
        obtain ⟨bv, ov, rfl, lv, lc⟩ := l3 (by omega)
        have HLC := hide lc
        clear l3 lc hR hB hSt
        go_wp2_with fail
        refine (unhide HRS _ (unhide HB)).mono ?_
        rintro e w3 ⟨v', R', rfl, hR', hSt', hB'⟩
        have HB' := hide hB'
        have HSt' := hide hSt'
        obtain ⟨au, cu, rfl, m1, m2, m3⟩ := hR'
        obtain ⟨bu, ou, rfl, lu, mc⟩ := m3 (by omega)
        have HMC := hide mc
        clear m3 mc hB' hSt'
        go_wp2_with fail
        go_loopw [10] (fun vi wr => ∃ (i k : Nat), vi = .int .i64 (i : Int) ∧ i ≤ m + 1 ∧ wr = w3.drewN k) (fun vi _ => m + 1 - (intOf vi).toNat)
        case atStart => exact ⟨0, 0, rfl, Nat.zero_le _, rfl⟩
        case round =>
          obtain ⟨i, k, rfl, hi, hwr⟩ := hrel
          have HW := hide hwr
          clear hwr
          by_cases hlt : i < m + 1
          · have j1 : (i : Int) < (m : Int) + 1 := by omega
            obtain ⟨ai, ci, ec, er⟩ := unhide HLC i hlt
            obtain ⟨ai', ci', ec', er'⟩ := unhide HMC i hlt
            have b23 := unhide HB'
            have b3 : Below w3.heap.size w3 wr := by rw [unhide HW]; exact below_drewN _ _
            have b2 : Below w2.heap.size w2 wr := below_step b23 b3
            rw [← b2.cell (p := ⟨bv, ov + i, none⟩) lv] at ec
            rw [← b3.cell (p := ⟨bu, ou + i, none⟩) lu] at ec'
            have hal := rows_alike (unhide HSt) (unhide HSt') (n := i) (by omega)
            have HC7 : Hid (∀ n, Calls Tryd.prog 7 #[.slice ai L ci, .slice ai' L ci'] (wr.drewN n) fun e w' => e = .returned (.bool true) ∧ ∃ k', w' = (wr.drewN n).drewN k') := fun n => by
              have := lawSame_any ai ai' L ci L ci' (R i) (R' i) (wr.drewN n) (er.below (below_step b2 (below_drewN _ _))) (er'.below (below_step b3 (below_drewN _ _)))
              rw [hal] at this
              exact this
            clear b23 b3 b2 er er' hal
            go_wp2_with fail
            go_quiet ((go_at_call 7; exact Calls.quiet_of (unhide HC7 _)))
            go_wp2
            exact ⟨⟨i + 1, k + nq, by go_num, by omega, by rw [unhide HW]; simp⟩, by simp [intOf]; omega⟩
          · obtain rfl : i = m + 1 := by omega
            have j1 : ¬ ((m + 1 : Nat) : Int) < (m : Int) + 1 := by omega
            go_wp2
            go_ret
            exact ⟨rfl, by rw [unhide HW]; exact below_step (below_step (unhide HB) (unhide HB')) (below_drewN _ _)⟩
end Go.Proofs.YtgcpdgcacdofcaaDoor
