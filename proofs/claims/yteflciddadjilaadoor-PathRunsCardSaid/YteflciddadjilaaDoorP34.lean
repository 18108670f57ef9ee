/- The document's waits; PathWaits' walk. -/
import Derived.Test.YteflciddadjilaaDoorP32
namespace Go.Proofs.YteflciddadjilaaDoor
open Go.RowKit Go.Sort Sim

def wtl (f : Nat → T3) (k : Nat) : List Int := (List.range k).map (wt f)
theorem wtl_length (f : Nat → T3) (k : Nat) : (wtl f k).length = k := by simp [wtl]
theorem wtl_succ (f : Nat → T3) (k : Nat) : wtl f (k + 1) = wtl f k ++ [wt f k] := by unfold wtl; rw [List.range_succ, List.map_append]; rfl
theorem wtl_get (f : Nat → T3) {k i : Nat} (h : i < k) : (wtl f k)[i]! = wt f i := by simp [wtl, h]

set_option maxHeartbeats 4000000 in
set_option maxRecDepth 100000 in
theorem rwaits_any (a : Option Addr) (n c : Nat) (f : Nat → T3) (w : World) (ha : TRow w a n c f) (hg : Good n f) :
    Calls Tryd.prog 8 #[.slice a n c] w fun e w' => ∃ a' c', e = .returned (.slice a' n c') ∧ IRow w' a' n c' (wt f) ∧ Below w.heap.size w w' := by
  obtain ⟨ti, hi, hz0, hz1, hz2⟩ := info_parts Tryd.infoI
  have HI := hide hi
  have HZ := hide hz0
  have HA := hide ha
  have HG := hide hg
  have hn60 := hg.few
  have C1 := hide (begins_any a n c f 1 (by decide) (by decide) w ha hg)
  have hac := ha.1
  have hac2 := ha.2.1
  clear hi hz0 ha hg
  go_enter Tryd.func8, Tryd.ntmps8
  go_wp2_with fail
  refine (unhide C1).mono ?_
  rintro e w1 ⟨ag, cg, rfl, hI, hb1⟩
  have HI1 := hide hI
  have HB1 := hide hb1
  have gc := hI.1
  have gc2 := hI.2.1
  clear hb1 hI C1
  go_wp2_with fail
  go_loopw [3, 9] (fun vo vi wr => ∃ i : Nat, vi = .int .i64 (i : Int) ∧ i ≤ n ∧ OwnL wr w1.heap.size vo (wtl f i) ∧ Below w1.heap.size w1 wr) (fun _ vi _ => n - (intOf vi).toNat)
  case atStart => exact ⟨0, rfl, Nat.zero_le _, OwnL.start _ _, Below.refl _ _⟩
  case round =>
    obtain ⟨i, rfl, hi, hO, hb⟩ := hrel
    by_cases hlt : i < n
    · have e1 : (i : Int) < (n : Int) := by omega
      have e0 : (0 : Int) ≤ (i : Int) := by omega
      obtain ⟨b, o, rfl, hbl, hc3⟩ := ((unhide HA).below (below_step (unhide HB1) hb)).2.2 (by omega)
      obtain ⟨bg, og, rfl, hbg, hcg⟩ := ((unhide HI1).below hb).2.2 (by omega)
      have ⟨k0, _, _⟩ := hc3 i hlt
      have kg := hcg i hlt
      have hw := wt_mbg (unhide HG) i hlt
      have hat := (unhide HG).at0 i hlt
      have hwb := wt_bd (unhide HG) i hlt
      obtain ⟨x, hx⟩ : ∃ x, (f i).1 = x := ⟨_, rfl⟩
      obtain ⟨m, hm⟩ : ∃ x, mbg 1 f i = x := ⟨_, rfl⟩
      rw [hx] at k0 hw hat
      rw [hm] at kg hw
      have hs := wtl_succ f i
      rw [← hw] at hs hwb
      have w1x : IntKind.i64.wrap (m - x) = m - x := by rw [IntKind.wrap_i64]; omega
      have O4 := hide (hO.keep (alloc_below wr (.cells #[.int .i64 (m - x)] 3)))
      have HO := hide hO
      have HB := hide hb
      have hL := wtl_length f i
      have Q63 : Hid ((wtl f i).length + 1 ≤ maxLen) := by show _ ≤ _; rw [hL]; unfold maxLen; omega
      have Q8 : Hid (((wtl f i).length + 1) * 8 ≤ 140737488355328) := by show _ ≤ _; rw [hL]; omega
      have QB := hide (below_step hb (alloc_below wr (.cells #[.int .i64 (m - x)] 3))).size
      have HL := hide hL
      have HSU := hide hs
      clear hO hb hL hs hw hx hm hc3 hcg hat hwb
      go_wp2_with (at_builtin; go_loud (refine wpList_append_lies _ rfl _ _ _ rfl w1.heap.size 3 ti (.int .i64 0) 1 8 Tryd.underlying27 (unhide HI) (unhide HZ) hz1 hz2 rfl (by decide) _ (wtl f i).length ((wtl f i).map (Value.int .i64 ·)) rfl (unhide O4) ⟨wr.heap.size, 0, none⟩ 1 1 [.int .i64 (m - x)] rfl rfl (news_int wr (m - x) _) (one_int (m - x)) (by decide) (unhide Q63) (unhide Q8) (unhide QB) (wr.heap.size + 1) (alloc_size _ _) ?_; intro g5 cap5 w5 own5 grow5 hat5 hlt5; have PUSH : Hid (OwnL w5 w1.heap.size (.slice (some ⟨g5, 0, none⟩) ((wtl f i).length + 1) cap5) (wtl f (i + 1))) := (by show OwnL _ _ _ _; rw [unhide HSU]; exact OwnL.push own5); have PB := hide ((unhide HO).grow (unhide HB) (Nat.le_refl _) (alloc_below _ _) grow5); clear own5 grow5 hat5 hlt5))
      exact ⟨⟨i + 1, by go_num, hlt, unhide PUSH, unhide PB⟩, by simp [intOf]; omega⟩
    · obtain rfl : i = n := by omega
      have e1 : ¬ (i : Int) < (i : Int) := by omega
      obtain ⟨a', c', rfl, hI⟩ := hO.irow
      rw [wtl_length] at hI ⊢
      have FI : Hid (IRow wr a' i c' (wt f)) := by
        obtain ⟨i1, i2, i3⟩ := hI
        refine ⟨i1, i2, fun h0 => ?_⟩
        obtain ⟨b, o, ea, hlt, hc⟩ := i3 h0
        exact ⟨b, o, ea, hlt, fun j hj => by rw [← wtl_get f hj]; exact hc j hj⟩
      have HBB := hide (below_step (unhide HB1) hb)
      clear hO hb hI
      go_wp2
      go_ret
      exact ⟨a', c', rfl, unhide FI, unhide HBB⟩

set_option maxHeartbeats 4000000 in
set_option maxRecDepth 100000 in
theorem pathWaits_any (a : Option Addr) (n c : Nat) (f : Nat → T3) (w : World) (het : ErrTy w) (ha : TRow w a n c f) :
    Calls Tryd.prog 3 #[.slice a n c] w fun e w' => e = .returned (.bool true) ∧ Below w.heap.size w w' := by
  have HA := hide ha
  have HE := hide het
  have hac := ha.1
  have hac2 := ha.2.1
  clear ha het
  by_cases hn : (100 : Int) < (n : Int)
  · go_enter Tryd.func3, Tryd.ntmps3
    go_wp2
    go_ret
    exact ⟨rfl, Below.refl _ _⟩
  have C1 := hide (jobs_any a n c f w (unhide HA) (by omega))
  go_enter Tryd.func3, Tryd.ntmps3
  go_wp2_with fail
  refine (unhide C1).mono ?_
  rintro e w1 ⟨aj, cj, rfl, htj, hb1⟩
  have HJ := hide htj
  have HB1 := hide hb1
  have C2 := hide (jobsCheck_any aj n cj f w1 htj)
  clear htj hb1 C1
  go_wp2_with fail
  refine (unhide C2).mono ?_
  rintro e w2 ⟨rfl, hb2⟩
  have HJ2 := hide ((unhide HJ).below hb2)
  have HB2 := hide (below_step (unhide HB1) hb2)
  clear hb2 C2 HJ HB1
  by_cases hj : jcode n f = 0
  · have C3 := hide (rwaits_any aj n cj f w2 (unhide HJ2) (good_of hj))
    rw [hj]
    have HJC := hide hj
    clear hj
    go_wp2_with fail
    refine (unhide C3).mono ?_
    rintro e w3 ⟨ag, cg, rfl, hI, hb3⟩
    have HI3 := hide hI
    have HB3 := hide (below_step (unhide HB2) hb3)
    have C4 := hide (waits_any a n c f w3 ((unhide HA).below (unhide HB3)) (unhide HJC))
    have gc := hI.1
    have gc2 := hI.2.1
    clear hb3 hI C3 HB2 HJ2
    go_wp2_with fail
    refine (unhide C4).mono ?_
    rintro e w4 ⟨G, rfl, hO, hb4⟩
    have HB4 := hide (below_step (unhide HB3) hb4)
    have HI4 := hide ((unhide HI3).below hb4)
    have HO4 := hide hO
    have C5 := hide (check_any a n c f w4 ((unhide HA).below (unhide HB4)))
    rw [unhide HJC, errV_zero] at C5
    clear hb4 hO C4 HB3 HI3
    go_wp2_with fail
    refine (unhide C5).mono ?_
    rintro e w5 ⟨rfl, hb5⟩
    have HB5 := hide (below_step (unhide HB4) hb5)
    have HI5 := hide ((unhide HI4).below hb5)
    have HO5 := hide ((unhide HO4).keep hb5)
    clear hb5 C5 HB4 HI4 HO4
    go_wp2_with fail
    refine (tell_nil w5).mono ?_
    rintro e w6 ⟨rfl, rfl⟩
    have C6 := hide (ints_good (some ⟨G, 0, none⟩) ag n n cg (wt f) w6 ((unhide HO5).irow (by omega)) (unhide HI5))
    go_wp2_with fail
    refine (unhide C6).mono ?_
    rintro e w7 ⟨rfl, hb7⟩
    have HB7 := hide (below_step (unhide HB5) hb7)
    clear hb7 C6 HB5
    go_wp2
    go_ret
    exact ⟨rfl, unhide HB7⟩
  · have C4 := hide (waits_bad a n c f w2 ((unhide HA).below (unhide HB2)) hj)
    have HKN := hide hj
    have HCK : Hid (∀ W, Below w.heap.size w W → Calls Tryd.prog 11 #[.slice a n c] W fun e w' => e = .returned (.iface 25 (.int .i64 (jcode n f))) ∧ Below W.heap.size W w') := fun W hW => by
      have h := check_any a n c f W ((unhide HA).below hW)
      rw [errV_not hj] at h
      exact h
    generalize jcode n f = k at *
    have hk : k ≠ 0 := unhide HKN
    go_wp2_with fail
    refine (unhide C4).mono ?_
    rintro e w4 ⟨rfl, hb4⟩
    have HB4 := hide (below_step (unhide HB2) hb4)
    clear hb4 C4 HB2
    go_wp2_with fail
    refine (unhide HCK w4 (unhide HB4)).mono ?_
    rintro e w5 ⟨rfl, hb5⟩
    have HB5 := hide (below_step (unhide HB4) hb5)
    clear hb5 HCK HB4
    go_wp2_with fail
    refine (tell_errno k w5 ((unhide HE).below (unhide HB5))).mono ?_
    rintro e w6 ⟨rfl, hb6⟩
    have HB6 := hide (below_step (unhide HB5) hb6)
    clear hb6 HB5
    have C6 := hide (ints_bad k hk w6 ((unhide HE).below (unhide HB6)))
    go_wp2_with fail
    refine (unhide C6).mono ?_
    rintro e w7 ⟨rfl, hb7⟩
    have HB7 := hide (below_step (unhide HB6) hb7)
    clear hb7 C6 HB6
    go_wp2
    go_ret
    exact ⟨rfl, unhide HB7⟩
end Go.Proofs.YteflciddadjilaaDoor
