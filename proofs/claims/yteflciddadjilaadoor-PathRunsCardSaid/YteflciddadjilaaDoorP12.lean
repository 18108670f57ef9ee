/- Run by any rule; Waits. -/
import Derived.Test.YteflciddadjilaaDoorP8
import Derived.Test.YteflciddadjilaaDoorP9
import Derived.Test.YteflciddadjilaaDoorP10
namespace Go.Proofs.YteflciddadjilaaDoor
open Go.RowKit Go.Sort Sim

theorem run_any (a : Option Addr) (n c : Nat) (f : Nat → T3) (r : Nat) (w : World) (ha : TRow w a n c f) (hj : jcode n f = 0) (hr1 : 1 ≤ r) (hr6 : r ≤ 6) :
    Calls Tryd.prog 15 #[.slice a n c, .int .i64 (r : Int)] w fun e w' => ∃ v t, e = .returned (.tuple #[v, .nilIface]) ∧ Done (qOf n f r) t ∧ OwnP w' w.heap.size v (pcsT (sim (qOf n f r) t).ps) ∧ Below w.heap.size w w' := by
  have hg := good_of hj
  by_cases h4 : r ≤ 4
  · exact run_le4 a n c f r w ha hg hj hr1 hr6 h4
  · by_cases h5 : r = 5
    · exact run_5 a n c f r w ha hg hj h5
    · exact run_6 a n c f r w ha hg hj (by omega)

set_option maxHeartbeats 2000000 in
theorem run_bad (a : Option Addr) (n c : Nat) (f : Nat → T3) (x : Int) (w : World) (ha : TRow w a n c f) (hj : jcode n f ≠ 0) :
    Calls Tryd.prog 15 #[.slice a n c, .int .i64 x] w fun e w' => e = .returned (.tuple #[.slice none 0 0, .iface 25 (.int .i64 (jcode n f))]) ∧ Below w.heap.size w w' := by
  have HC := hide (check_any a n c f w ha)
  have HV := hide (errV_not hj)
  obtain ⟨k, hk⟩ : ∃ k, jcode n f = k := ⟨_, rfl⟩
  rw [hk] at HC HV ⊢
  clear hk hj ha
  go_enter Tryd.func15, Tryd.ntmps15
  go_wp2_with fail
  refine (unhide HC).mono ?_
  rintro e w1 ⟨rfl, hb1⟩
  rw [unhide HV]
  go_wp2
  go_ret2
  exact ⟨rfl, hb1⟩

set_option maxHeartbeats 2000000 in
theorem run_rule (a : Option Addr) (n c : Nat) (f : Nat → T3) (x : Int) (w : World) (ha : TRow w a n c f) (hj : jcode n f = 0) (hx : x < 1 ∨ 6 < x) :
    Calls Tryd.prog 15 #[.slice a n c, .int .i64 x] w fun e w' => e = .returned (.tuple #[.slice none 0 0, .iface 25 (.int .i64 1)]) ∧ Below w.heap.size w w' := by
  have HC := hide (check_any a n c f w ha)
  rw [hj, errV_zero] at HC
  clear hj ha
  rcases hx with hx | hx
  · go_enter Tryd.func15, Tryd.ntmps15
    go_wp2_with fail
    refine (unhide HC).mono ?_
    rintro e w1 ⟨rfl, hb1⟩
    go_wp2
    go_ret2
    exact ⟨rfl, hb1⟩
  · go_enter Tryd.func15, Tryd.ntmps15
    go_wp2_with fail
    refine (unhide HC).mono ?_
    rintro e w1 ⟨rfl, hb1⟩
    go_wp2
    go_ret2
    exact ⟨rfl, hb1⟩

/-- How long each waits. -/
def wt (f : Nat → T3) : Nat → Int
  | 0 => 0
  | k + 1 => max 0 (wt f k + (f k).2.1 - ((f (k + 1)).1 - (f k).1))
theorem wt_bd {n : Nat} {f : Nat → T3} (hg : Good n f) : ∀ k, k < n → 0 ≤ wt f k ∧ wt f k ≤ (k : Int) * 1000000000
  | 0, _ => by unfold wt; omega
  | k + 1, h => by
    have ih := wt_bd hg k (by omega)
    have := hg.size k (by omega)
    have := hg.next k h
    unfold wt
    omega

set_option maxHeartbeats 2000000 in
theorem waits_bad (a : Option Addr) (n c : Nat) (f : Nat → T3) (w : World) (ha : TRow w a n c f) (hj : jcode n f ≠ 0) :
    Calls Tryd.prog 9 #[.slice a n c] w fun e w' => e = .returned (.tuple #[.slice none 0 0, .iface 25 (.int .i64 (jcode n f))]) ∧ Below w.heap.size w w' := by
  have HC := hide (check_any a n c f w ha)
  have HV := hide (errV_not hj)
  obtain ⟨k, hk⟩ : ∃ k, jcode n f = k := ⟨_, rfl⟩
  rw [hk] at HC HV ⊢
  clear hk hj ha
  go_enter Tryd.func9, Tryd.ntmps9
  go_wp2_with fail
  refine (unhide HC).mono ?_
  rintro e w1 ⟨rfl, hb1⟩
  rw [unhide HV]
  go_wp2
  go_ret2
  exact ⟨rfl, hb1⟩

set_option maxHeartbeats 4000000 in
theorem waits_any (a : Option Addr) (n c : Nat) (f : Nat → T3) (w : World) (ha : TRow w a n c f) (hj : jcode n f = 0) :
    Calls Tryd.prog 9 #[.slice a n c] w fun e w' => ∃ G, e = .returned (.tuple #[.slice (some ⟨G, 0, none⟩) n n, .nilIface]) ∧ OwnI w' G n (wt f) ∧ Below w.heap.size w w' := by
  have hg := good_of hj
  have HC := hide (check_any a n c f w ha)
  rw [hj, errV_zero] at HC
  have HA := hide ha
  have HG := hide hg
  have hn60 := hg.few
  clear ha hg hj
  go_enter Tryd.func9, Tryd.ntmps9
  go_wp2_with fail
  refine (unhide HC).mono ?_
  rintro e w1 ⟨rfl, hb1⟩
  have mk := make_ints n (by omega) w1
  have O0 := hide (make_own w1 n)
  have B0 := hide (below_step hb1 (alloc_below w1 (.cells (lrow (fun _ => 0) n).toArray 3)))
  obtain ⟨W0, hW0⟩ : ∃ W, w1.alloc (.cells (lrow (fun _ => 0) n).toArray 3) = W := ⟨_, rfl⟩
  rw [hW0] at mk O0 B0
  obtain ⟨G, hG⟩ : ∃ G, w1.heap.size = G := ⟨_, rfl⟩
  rw [hG] at mk O0
  have HGe : Hid (w.heap.size ≤ G) := by show _ ≤ _; rw [← hG]; exact hb1.size
  clear hW0 hG hb1 HC
  go_wp2_with fail
  clear mk
  go_loopw [6] (fun vi wr => ∃ k : Nat, vi = .int .i64 ((k : Int) + 1) ∧ (k + 1 ≤ n ∨ k = 0) ∧ OwnI wr G n (fun j => if j < k + 1 then wt f j else 0) ∧ Below w.heap.size w wr) (fun vi _ => n - (intOf vi).toNat)
  case atStart =>
    refine ⟨0, rfl, Or.inr rfl, (unhide O0).congr (fun j _ => ?_), unhide B0⟩
    by_cases h : j < 0 + 1
    · rw [if_pos h, show j = 0 by omega]; rfl
    · rw [if_neg h]
  case round =>
    obtain ⟨k, rfl, hk, hO, hb⟩ := hrel
    by_cases hlt : k + 1 < n
    · obtain ⟨b, o, rfl, hbl, hc3⟩ := ((unhide HA).below hb).2.2 (by omega)
      have ⟨k0, k1, k2⟩ := hc3 k (by omega)
      have ⟨k3, _, _⟩ := hc3 (k + 1) hlt
      have hs := (unhide HG).size k (by omega)
      have hs1 := (unhide HG).at0 k (by omega)
      have hs2 := (unhide HG).at0 (k + 1) hlt
      have hwb := wt_bd (unhide HG) k (by omega)
      obtain ⟨⟨x, y, z⟩, hf⟩ : ∃ t, f k = t := ⟨_, rfl⟩
      obtain ⟨x1, hx1⟩ : ∃ t, (f (k + 1)).1 = t := ⟨_, rfl⟩
      obtain ⟨u, hu⟩ : ∃ u, wt f k = u := ⟨_, rfl⟩
      rw [hf] at k0 k1 k2 hs hs1
      rw [hx1] at k3 hs2
      rw [hu] at hwb
      simp only at k0 k1 k2 hs hs1
      have b1 := alloc_below wr (.cells #[.int .i64 x, .int .i64 y, .int .i64 z] 49)
      have k3' := k3
      rw [← b1.cell (p := ⟨b, o + (k + 1) * 3, none⟩) hbl] at k3'
      have ⟨q0, q1, q2⟩ := box3 (w := wr) (x := .int .i64 x) (y := .int .i64 y) (z := .int .i64 z) (T := 49) (Below.refl _ _)
      have hO1 := hO.keep b1
      have g0 := hO1.cell (j := k) (by omega)
      have g2 := hO1.cell (j := k + 1) hlt
      have g3 := hO1.free (k + 1)
      rw [if_pos (Nat.lt_succ_self k), hu] at g0
      rw [if_neg (Nat.lt_irrefl _)] at g2
      have w1 : IntKind.i64.wrap ((k : Int) + 1 - 1) = (k : Int) := by rw [IntKind.wrap_i64]; omega
      have w1' : IntKind.i64.wrap (k : Int) = (k : Int) := by rw [IntKind.wrap_i64]; omega
      have w2 : IntKind.i64.wrap (u + y) = u + y := by rw [IntKind.wrap_i64]; omega
      have w3 : IntKind.i64.wrap (x1 - x) = x1 - x := by rw [IntKind.wrap_i64]; omega
      have w4 : IntKind.i64.wrap (u + y - (x1 - x)) = u + y - (x1 - x) := by rw [IntKind.wrap_i64]; omega
      have e1 : (k : Int) + 1 < (n : Int) := by omega
      have e2 : (k : Int) < (n : Int) := by omega
      have e0 : (0 : Int) ≤ (k : Int) := by omega
      obtain ⟨d, hd⟩ : ∃ d, u + y - (x1 - x) = d := ⟨_, rfl⟩
      have FIN : Hid (∀ v, v = max 0 d → OwnI ((wr.alloc (.cells #[.int .i64 x, .int .i64 y, .int .i64 z] 49)).setCell ⟨G, k + 1, none⟩ (.int .i64 v)) G n (fun j => if j < k + 1 + 1 then wt f j else 0)) := fun v hv => by
        refine (hO1.set (k + 1) v).congr fun j hj => ?_
        unfold updI
        by_cases h1 : j = k + 1
        · subst h1
          rw [if_pos rfl, if_pos (Nat.lt_succ_self _), hv, ← hd]
          show _ = max 0 (wt f k + (f k).2.1 - ((f (k + 1)).1 - (f k).1))
          rw [hu, hf, hx1]
        · rw [if_neg h1]
          show (if j < k + 1 then _ else _) = _
          by_cases h2 : j < k + 1
          · rw [if_pos h2, if_pos (by omega)]
          · rw [if_neg h2, if_neg (by omega)]
      have FB : Hid (∀ v, Below w.heap.size w ((wr.alloc (.cells #[.int .i64 x, .int .i64 y, .int .i64 z] 49)).setCell ⟨G, k + 1, none⟩ (.int .i64 v))) := fun v => (below_step hb b1).setCell (unhide HGe) _
      have WD : Hid (wrap64 d = d) := by show wrap64 d = d; unfold wrap64; omega
      have HD := hide hd
      clear hc3 hO hO1 hb hf hx1 hu b1 hs hs1 hs2 hwb k3 hk
      go_wp2_with fail
      go_region
      go_wp2
      have hv : (if 0 < wrap64 d then wrap64 d else 0) = max 0 d := by
        rw [show wrap64 d = d from unhide WD]
        split <;> omega
      exact ⟨⟨k + 1, by go_num, Or.inl (by omega), (unhide FIN _ hv).keep (drew_below _), below_step (unhide FB _) (drew_below _)⟩, by simp [intOf]; omega⟩
    · have e3 : ¬ ((k : Int) + 1) < (n : Int) := by omega
      have FO : Hid (OwnI wr G n (wt f)) := hO.congr fun j hj => by rw [if_pos (by omega)]
      clear hO hk
      go_wp2
      go_ret2
      exact ⟨G, rfl, unhide FO, hb⟩

end Go.Proofs.YteflciddadjilaaDoor
