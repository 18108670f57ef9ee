/- Rows held against the document's; its waits; PathMany's and PathWaits' walks. -/
import Derived.Test.YteflciddadjilaaDoorP31
import Derived.Test.YteflciddadjilaaDoorT1
namespace Go.Proofs.YteflciddadjilaaDoor
open Go.RowKit Go.Sort Sim

/-- Two rows of numbers are alike. -/
def likeB (n m : Nat) (f g : Nat → Int) : Bool := decide (n = m ∧ ∀ i, i < n → f i = g i)

theorem likeB_true {n m : Nat} {f g : Nat → Int} : likeB n m f g = true ↔ n = m ∧ ∀ i, i < n → f i = g i := by unfold likeB; exact decide_eq_true_iff
theorem likeB_false {n m : Nat} {f g : Nat → Int} : likeB n m f g = false ↔ ¬ (n = m ∧ ∀ i, i < n → f i = g i) := by unfold likeB; exact decide_eq_false_iff_not


set_option maxHeartbeats 1000000 in
theorem lawSame_any (a a' : Option Addr) (n c n' c' : Nat) (f g : Nat → Int) (w : World) (ha : IRow w a n c f) (hb : IRow w a' n' c' g) :
    Calls Tryd.prog 19 #[.slice a n c, .slice a' n' c'] w fun e w' => e = .returned (.bool (likeB n n' f g)) ∧ ∃ k, w' = w.drewN k := by
  obtain ⟨h1, h2, h3⟩ := ha
  obtain ⟨h1', h2', h3'⟩ := hb
  by_cases hne : n = n'
  · subst hne
    have HE : Hid ((∀ i, i < n → f i = g i) → likeB n n f g = true) := fun h => likeB_true.2 ⟨rfl, h⟩
    have HN : Hid (∀ i, i < n → f i ≠ g i → likeB n n f g = false) := fun i hi h => likeB_false.2 fun ⟨_, h'⟩ => h (h' i hi)
    generalize likeB n n f g = s at *
    have H3 := hide h3
    have H3' := hide h3'
    clear h3 h3'
    go_enter Tryd.func19, Tryd.ntmps19
    go_wp2
    go_loopw [5] (fun v wr => ∃ m k : Nat, v = .int .i64 (m : Int) ∧ m ≤ n ∧ wr = w.drewN k ∧ (∀ j, j < m → f j = g j)) (fun v _ => n - (intOf v).toNat)
    case atStart => exact ⟨0, 0, rfl, Nat.zero_le _, rfl, fun j h1 => absurd h1 (Nat.not_lt_zero _)⟩
    case round =>
      obtain ⟨m, k, rfl, hm, rfl, hz⟩ := hrel
      have HZ : Hid (∀ j, j < m → f j = g j) := hz
      clear hz
      by_cases hlt : m < n
      · obtain ⟨b, o, rfl, hbl, hc⟩ := unhide H3 (by omega)
        obtain ⟨b', o', rfl, hbl', hc'⟩ := unhide H3' (by omega)
        obtain ⟨x, hx⟩ : ∃ x, f m = x := ⟨_, rfl⟩
        obtain ⟨y, hy⟩ : ∃ y, g m = y := ⟨_, rfl⟩
        have hcm := hc m hlt
        have hcm' := hc' m hlt
        have HX : Hid (f m = x) := hx
        have HY : Hid (g m = y) := hy
        rw [hx] at hcm
        rw [hy] at hcm'
        have e2 : (0 : Int) ≤ (m : Int) := by omega
        have e3 : (m : Int) < (n : Int) := by omega
        clear hc hc' H3 H3' hx hy
        by_cases hxy : x = y
        · subst hxy
          clear HE HN
          go_wp2_with fail
          go_quiet (fail)
          go_wp2
          refine ⟨⟨m + 1, k + nq, by go_num, by omega, rfl, fun j h1 => ?_⟩, ?_⟩
          · rcases Nat.lt_or_ge j m with h | h
            · exact HZ.out j h
            · rw [show j = m by omega, HX.out, HY.out]
          · simp [intOf]; omega
        · have hxb : (x != y) = true := by rw [bne_iff_ne]; exact hxy
          have hs : s = false := HN.out m hlt (by rw [HX.out, HY.out]; exact hxy)
          subst hs
          clear HE HN
          go_wp2_with fail
          go_quiet (fail)
          go_wp2
          go_ret
          exact ⟨rfl, drew2 _ _ _⟩
      · obtain rfl : m = n := by omega
        have hs : s = true := HE.out HZ.out
        subst hs
        clear HE HN H3 H3'
        go_wp2
        go_ret
        exact ⟨rfl, k, rfl⟩
  · have hs : likeB n n' f g = false := likeB_false.2 fun h => hne h.1
    rw [hs]
    clear hs h3 h3'
    have hne : ((n : Int) != (n' : Int)) = true := by rw [bne_iff_ne]; omega
    go_enter Tryd.func19, Tryd.ntmps19
    go_wp2
    go_ret
    exact ⟨rfl, 0, rfl⟩


set_option maxHeartbeats 2000000 in
theorem ints_good (G a' : Option Addr) (n c c' : Nat) (F : Nat → Int) (w : World) (ha : IRow w G n c F) (hb : IRow w a' n c' F) :
    Calls Tryd.prog 12 #[.slice G n c, .nilIface, .slice a' n c', .int .i64 0] w fun e w' => e = .returned (.bool true) ∧ Below w.heap.size w w' := by
  have HS := hide (lawSame_any G a' n c n c' F F w ha hb)
  rw [likeB_true.2 ⟨rfl, fun _ _ => rfl⟩] at HS
  clear ha hb
  go_enter Tryd.func12, Tryd.ntmps12
  go_wp2_with fail
  refine (unhide HS).mono ?_
  rintro e w1 ⟨rfl, q, rfl⟩
  go_wp2
  go_ret
  exact ⟨rfl, below_drewN _ _⟩

set_option maxHeartbeats 2000000 in
theorem ints_bad (k : Int) (hk : k ≠ 0) (w : World) (hg : ErrTy w) :
    Calls Tryd.prog 12 #[.slice none 0 0, .iface 25 (.int .i64 k), .slice none 0 0, .int .i64 k] w fun e w' => e = .returned (.bool true) ∧ Below w.heap.size w w' := by
  have HT := hide (tell_errno k w hg)
  clear hg
  go_enter Tryd.func12, Tryd.ntmps12
  go_wp2_with fail
  refine (unhide HT).mono ?_
  rintro e w1 ⟨rfl, hb⟩
  go_wp2
  go_ret
  exact ⟨rfl, hb⟩

theorem mbg_one {f : Nat → T3} : ∀ k, mbg 1 f k = (if k = 0 then max (f 0).1 0 else max (f k).1 (mbg 1 f (k - 1) + (f (k - 1)).2.1))
  | 0 => rfl
  | k + 1 => by
    have l1 : ∀ F : Nat → Int, lst F 1 = 0 := fun F => by show (if F 0 < F 0 then 0 else 0) = 0; split <;> rfl
    rw [if_neg (by omega)]
    show max (f (k + 1)).1 (updI (mfr 1 f k) (lst (mfr 1 f k) 1) _ (lst (mfr 1 f (k + 1)) 1)) = _
    rw [l1, l1]
    unfold updI
    rw [if_pos rfl]
    show max (f (k + 1)).1 (max (f k).1 (mfr 1 f k 0) + (f k).2.1) = max (f (k + 1)).1 (max (f k).1 (mfr 1 f k (lst (mfr 1 f k) 1)) + (f k).2.1)
    rw [l1]
theorem wt_mbg {n : Nat} {f : Nat → T3} (hg : Good n f) : ∀ i, i < n → mbg 1 f i - (f i).1 = wt f i
  | 0, h => by
    have := hg.at0 0 h
    rw [mbg_one, if_pos rfl]
    show _ = (0 : Int)
    omega
  | i + 1, h => by
    have ih := wt_mbg hg i (by omega)
    rw [mbg_one, if_neg (by omega), Nat.add_sub_cancel]
    show _ = max 0 (wt f i + (f i).2.1 - ((f (i + 1)).1 - (f i).1))
    omega

set_option maxHeartbeats 4000000 in
set_option maxRecDepth 100000 in
theorem pathMany_any (a : Option Addr) (n c : Nat) (f : Nat → T3) (x : Int) (w : World) (het : ErrTy w) (ha : TRow w a n c f) :
    Calls Tryd.prog 4 #[.slice a n c, .int .i64 x] w fun e w' => e = .returned (.bool true) ∧ Below w.heap.size w w' := by
  have HA := hide ha
  have HE := hide het
  have hac := ha.1
  have hac2 := ha.2.1
  clear ha het
  by_cases hn : (100 : Int) < (n : Int)
  · go_enter Tryd.func4, Tryd.ntmps4
    go_wp2
    go_ret
    exact ⟨rfl, Below.refl _ _⟩
  have C1 := hide (jobs_any a n c f w (unhide HA) (by omega))
  go_enter Tryd.func4, Tryd.ntmps4
  go_wp2_with fail
  refine (unhide C1).mono ?_
  rintro e w1 ⟨aj, cj, rfl, htj, hb1⟩
  have HJ := hide htj
  have HB1 := hide hb1
  have C2 := hide (jobsCheck_any aj n cj f w1 htj)
  clear htj hb1 C1
  go_wp2_with fail
  refine (unhide C2).mono ?_
  rintro e w2 ⟨rfl, hb2⟩
  have HJ2 := hide ((unhide HJ).below hb2)
  have HB2 := hide (below_step (unhide HB1) hb2)
  clear hb2 C2 HJ HB1
  by_cases hj : jcode n f = 0
  · by_cases hx : 1 ≤ x ∧ x ≤ 20
    · obtain ⟨s, rfl⟩ : ∃ s : Nat, x = (s : Int) := ⟨x.toNat, by omega⟩
      have hs1 : 1 ≤ s := by omega
      have hs2 : s ≤ 20 := by omega
      have x1 : ¬ (s : Int) < 1 := by omega
      have x2 : ¬ (20 : Int) < (s : Int) := by omega
      have C3 := hide (begins_any aj n cj f s hs1 hs2 w2 (unhide HJ2) (good_of hj))
      rw [hj]
      have HJC := hide hj
      clear hx hj
      go_wp2_with fail
      refine (unhide C3).mono ?_
      rintro e w3 ⟨ag, cg, rfl, hI, hb3⟩
      have HI3 := hide hI
      have HB3 := hide (below_step (unhide HB2) hb3)
      have C4 := hide (many_any a n c f s hs1 hs2 w3 ((unhide HA).below (unhide HB3)) (unhide HJC))
      have gc := hI.1
      have gc2 := hI.2.1
      clear hb3 hI C3 HB2 HJ2
      go_wp2_with fail
      refine (unhide C4).mono ?_
      rintro e w4 ⟨G, rfl, hO, hb4⟩
      have HB4 := hide (below_step (unhide HB3) hb4)
      have C5 := hide (ints_good (some ⟨G, 0, none⟩) ag n n cg (mbg s f) w4 (hO.irow (by omega)) ((unhide HI3).below hb4))
      clear hb4 hO C4 HB3 HI3
      go_wp2_with fail
      refine (unhide C5).mono ?_
      rintro e w5 ⟨rfl, hb5⟩
      have HB5 := hide (below_step (unhide HB4) hb5)
      clear hb5 C5 HB4
      go_wp2
      go_ret
      exact ⟨rfl, unhide HB5⟩
    · have C4 := hide (many_range a n c f x w2 ((unhide HA).below (unhide HB2)) hj (by omega))
      rw [hj]
      clear hj
      by_cases hx1 : x < 1
      · clear hx
        go_wp2_with fail
        refine (unhide C4).mono ?_
        rintro e w4 ⟨rfl, hb4⟩
        have HB4 := hide (below_step (unhide HB2) hb4)
        have C5 := hide (ints_bad 4 (by decide) w4 ((unhide HE).below (unhide HB4)))
        clear hb4 C4 HB2
        go_wp2_with fail
        refine (unhide C5).mono ?_
        rintro e w5 ⟨rfl, hb5⟩
        have HB5 := hide (below_step (unhide HB4) hb5)
        clear hb5 C5 HB4
        go_wp2
        go_ret
        exact ⟨rfl, unhide HB5⟩
      · have hx2 : (20 : Int) < x := by omega
        clear hx
        go_wp2_with fail
        refine (unhide C4).mono ?_
        rintro e w4 ⟨rfl, hb4⟩
        have HB4 := hide (below_step (unhide HB2) hb4)
        have C5 := hide (ints_bad 4 (by decide) w4 ((unhide HE).below (unhide HB4)))
        clear hb4 C4 HB2
        go_wp2_with fail
        refine (unhide C5).mono ?_
        rintro e w5 ⟨rfl, hb5⟩
        have HB5 := hide (below_step (unhide HB4) hb5)
        clear hb5 C5 HB4
        go_wp2
        go_ret
        exact ⟨rfl, unhide HB5⟩
  · have C4 := hide (many_bad a n c f x w2 ((unhide HA).below (unhide HB2)) hj)
    have HKN := hide hj
    generalize jcode n f = k at *
    have hk : k ≠ 0 := unhide HKN
    go_wp2_with fail
    refine (unhide C4).mono ?_
    rintro e w4 ⟨rfl, hb4⟩
    have HB4 := hide (below_step (unhide HB2) hb4)
    have C5 := hide (ints_bad k hk w4 ((unhide HE).below (unhide HB4)))
    clear hb4 C4 HB2
    go_wp2_with fail
    refine (unhide C5).mono ?_
    rintro e w5 ⟨rfl, hb5⟩
    have HB5 := hide (below_step (unhide HB4) hb5)
    clear hb5 C5 HB4
    go_wp2
    go_ret
    exact ⟨rfl, unhide HB5⟩
end Go.Proofs.YteflciddadjilaaDoor
