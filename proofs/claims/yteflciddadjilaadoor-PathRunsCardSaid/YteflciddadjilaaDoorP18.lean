/- Several servers: the program's Many. -/
import Derived.Test.YteflciddadjilaaDoorP12
namespace Go.Proofs.YteflciddadjilaaDoor
open Go.RowKit Go.Sort Sim

/-- The place of the least, of like ones the first. -/
def lst (F : Nat → Int) : Nat → Nat
  | 0 => 0
  | k + 1 => if F k < F (lst F k) then k else lst F k
theorem lst_le (F : Nat → Int) : ∀ k, lst F k ≤ k - 1
  | 0 => Nat.le_refl _
  | k + 1 => by
    have := lst_le F k
    unfold lst
    split <;> omega
theorem lst_lt (F : Nat → Int) {s : Nat} (h : 0 < s) : lst F s < s := by have := lst_le F s; omega

set_option maxHeartbeats 2000000 in
theorem least_any (G s : Nat) (F : Nat → Int) (w : World) (hO : OwnI w G s F) (hs : 0 < s) (hs2 : s ≤ 1000) :
    Calls Tryd.prog 20 #[.slice (some ⟨G, 0, none⟩) s s] w fun e w' => e = .returned (.int .i64 ((lst F s : Nat) : Int)) ∧ ∃ d, w' = w.drewN d := by
  have HO := hide hO
  clear hO
  go_enter Tryd.func20, Tryd.ntmps20
  go_wp2_with fail
  go_loopw [3, 8] (fun vp vi wr => ∃ k q : Nat, vi = .int .i64 (k : Int) ∧ vp = .int .i64 ((lst F k : Nat) : Int) ∧ k ≤ s ∧ wr = w.drewN q) (fun _ vi _ => s - (intOf vi).toNat)
  case atStart => exact ⟨0, 0, rfl, rfl, Nat.zero_le _, rfl⟩
  case round =>
    obtain ⟨k, q, rfl, rfl, hk, hwr⟩ := hrel
    have HW := hide hwr
    have bw : Below w.heap.size w wr := by rw [hwr]; exact below_drewN _ _
    have O := (unhide HO).keep bw
    by_cases hlt : k < s
    · have hl := lst_le F k
      have g0 := O.cell hlt
      have g1 := O.cell (j := lst F k) (by omega)
      obtain ⟨p, hp⟩ : ∃ p, lst F k = p := ⟨_, rfl⟩
      rw [hp] at g1 hl ⊢
      have e1 : (k : Int) < (s : Int) := by omega
      have e0 : (0 : Int) ≤ (k : Int) := by omega
      have e2 : (p : Int) < (s : Int) := by omega
      obtain ⟨x, hx⟩ : ∃ x, F k = x := ⟨_, rfl⟩
      obtain ⟨y, hy⟩ : ∃ x, F p = x := ⟨_, rfl⟩
      rw [hx] at g0
      rw [hy] at g1
      by_cases hc : x < y
      · have FIN : Hid (lst F (k + 1) = k) := by show (if F k < F (lst F k) then k else lst F k) = k; rw [hp, hx, hy, if_pos hc]
        clear O bw hwr hl hp hx hy
        go_wp2
        exact ⟨⟨k + 1, q, by go_num, by rw [unhide FIN], hlt, unhide HW⟩, by simp [intOf]; omega⟩
      · have FIN : Hid (lst F (k + 1) = p) := by show (if F k < F (lst F k) then k else lst F k) = p; rw [hp, hx, hy, if_neg hc]
        clear O bw hwr hl hp hx hy
        go_wp2
        exact ⟨⟨k + 1, q, by go_num, by rw [unhide FIN], hlt, unhide HW⟩, by simp [intOf]; omega⟩
    · obtain rfl : k = s := by omega
      have e1 : ¬ (k : Int) < (k : Int) := by omega
      clear O bw hwr
      go_wp2
      go_ret
      exact ⟨rfl, q, unhide HW⟩

/-- When each server is free, and when each begins. -/
def mfr (s : Nat) (f : Nat → T3) : Nat → (Nat → Int)
  | 0 => fun _ => 0
  | k + 1 => updI (mfr s f k) (lst (mfr s f k) s) (max (f k).1 (mfr s f k (lst (mfr s f k) s)) + (f k).2.1)
def mbg (s : Nat) (f : Nat → T3) (k : Nat) : Int := max (f k).1 (mfr s f k (lst (mfr s f k) s))
theorem mfr_bd {n : Nat} {f : Nat → T3} (hg : Good n f) (s : Nat) : ∀ k, k ≤ n → ∀ j, 0 ≤ mfr s f k j ∧ mfr s f k j ≤ 1000000000 + (k : Int) * 1000000000
  | 0, _, j => by show 0 ≤ (0 : Int) ∧ (0 : Int) ≤ _; omega
  | k + 1, h, j => by
    have ih := mfr_bd hg s k (by omega)
    have h1 := hg.size k (by omega)
    have h2 := hg.at0 k (by omega)
    have h3 := ih (lst (mfr s f k) s)
    have h4 := ih j
    show 0 ≤ updI _ _ _ j ∧ updI _ _ _ j ≤ _
    unfold updI
    split <;> omega

theorem OwnI.other {w : World} {G n : Nat} {lf : Nat → Int} (h : OwnI w G n lf) {G' j : Nat} (hne : G ≠ G') (v : Value) : OwnI (w.setCell ⟨G', j, none⟩ v) G n lf := by
  unfold OwnI; rw [Below.heap_setCell _ _ _ _ hne]; exact h

set_option maxHeartbeats 2000000 in
theorem many_bad (a : Option Addr) (n c : Nat) (f : Nat → T3) (x : Int) (w : World) (ha : TRow w a n c f) (hj : jcode n f ≠ 0) :
    Calls Tryd.prog 14 #[.slice a n c, .int .i64 x] w fun e w' => e = .returned (.tuple #[.slice none 0 0, .iface 25 (.int .i64 (jcode n f))]) ∧ Below w.heap.size w w' := by
  have HC := hide (check_any a n c f w ha)
  have HV := hide (errV_not hj)
  obtain ⟨k, hk⟩ : ∃ k, jcode n f = k := ⟨_, rfl⟩
  rw [hk] at HC HV ⊢
  clear hk hj ha
  go_enter Tryd.func14, Tryd.ntmps14
  go_wp2_with fail
  refine (unhide HC).mono ?_
  rintro e w1 ⟨rfl, hb1⟩
  rw [unhide HV]
  go_wp2
  go_ret2
  exact ⟨rfl, hb1⟩

set_option maxHeartbeats 2000000 in
theorem many_range (a : Option Addr) (n c : Nat) (f : Nat → T3) (x : Int) (w : World) (ha : TRow w a n c f) (hj : jcode n f = 0) (hx : x < 1 ∨ 20 < x) :
    Calls Tryd.prog 14 #[.slice a n c, .int .i64 x] w fun e w' => e = .returned (.tuple #[.slice none 0 0, .iface 25 (.int .i64 4)]) ∧ Below w.heap.size w w' := by
  have HC := hide (check_any a n c f w ha)
  rw [hj, errV_zero] at HC
  clear hj ha
  rcases hx with hx | hx
  · go_enter Tryd.func14, Tryd.ntmps14
    go_wp2_with fail
    refine (unhide HC).mono ?_
    rintro e w1 ⟨rfl, hb1⟩
    go_wp2
    go_ret2
    exact ⟨rfl, hb1⟩
  · go_enter Tryd.func14, Tryd.ntmps14
    go_wp2_with fail
    refine (unhide HC).mono ?_
    rintro e w1 ⟨rfl, hb1⟩
    go_wp2
    go_ret2
    exact ⟨rfl, hb1⟩

set_option maxHeartbeats 4000000 in
set_option maxRecDepth 100000 in
theorem many_any (a : Option Addr) (n c : Nat) (f : Nat → T3) (s : Nat) (hs1 : 1 ≤ s) (hs2 : s ≤ 20) (w : World) (ha : TRow w a n c f) (hj : jcode n f = 0) :
    Calls Tryd.prog 14 #[.slice a n c, .int .i64 (s : Int)] w fun e w' => ∃ G, e = .returned (.tuple #[.slice (some ⟨G, 0, none⟩) n n, .nilIface]) ∧ OwnI w' G n (mbg s f) ∧ Below w.heap.size w w' := by
  have hg := good_of hj
  have HC := hide (check_any a n c f w ha)
  rw [hj, errV_zero] at HC
  have HA := hide ha
  have HG := hide hg
  have hn60 := hg.few
  have hs1' : ¬ (s : Int) < 1 := by omega
  have hs2' : ¬ (20 : Int) < (s : Int) := by omega
  clear ha hg hj
  go_enter Tryd.func14, Tryd.ntmps14
  go_wp2_with fail
  refine (unhide HC).mono ?_
  rintro e w1 ⟨rfl, hb1⟩
  have mk := make_ints n (by omega) w1
  obtain ⟨W1, hW1⟩ : ∃ W, w1.alloc (.cells (lrow (fun _ => 0) n).toArray 3) = W := ⟨_, rfl⟩
  have mk2 := make_ints s (by omega) W1
  have O1 := make_own w1 n
  have O2 := make_own W1 s
  have b1 := alloc_below w1 (.cells (lrow (fun _ => 0) n).toArray 3)
  have b2 := alloc_below W1 (.cells (lrow (fun _ => 0) s).toArray 3)
  rw [hW1] at mk O1 b1
  have sz : W1.heap.size = w1.heap.size + 1 := by rw [← hW1, alloc_size]
  obtain ⟨W2, hW2⟩ : ∃ W, W1.alloc (.cells (lrow (fun _ => 0) s).toArray 3) = W := ⟨_, rfl⟩
  rw [hW2] at mk2 O2 b2
  have O1' := hide (O1.keep b2)
  have O2' := hide O2
  have B2 := hide (below_step (below_step hb1 b1) b2)
  obtain ⟨G1, hG1⟩ : ∃ G, w1.heap.size = G := ⟨_, rfl⟩
  obtain ⟨G2, hG2⟩ : ∃ G, W1.heap.size = G := ⟨_, rfl⟩
  rw [hG1] at mk O1'
  rw [hG2] at mk2 O2'
  have HGE : Hid (w.heap.size ≤ G1 ∧ w.heap.size ≤ G2 ∧ G1 ≠ G2) := by
    have := hb1.size
    exact (⟨by omega, by omega, by omega⟩ : w.heap.size ≤ G1 ∧ w.heap.size ≤ G2 ∧ G1 ≠ G2)
  clear hW1 hW2 hG1 hG2 sz O1 O2 b1 b2 hb1 HC
  go_wp2_with fail
  clear mk mk2
  go_loopw [31] (fun vi wr => ∃ k : Nat, vi = .int .i64 (k : Int) ∧ k ≤ n ∧ OwnI wr G1 n (fun j => if j < k then mbg s f j else 0) ∧ OwnI wr G2 s (mfr s f k) ∧ Below w.heap.size w wr) (fun vi _ => n - (intOf vi).toNat)
  case atStart => exact ⟨0, rfl, Nat.zero_le _, (unhide O1').congr (fun j _ => by simp), unhide O2', unhide B2⟩
  case round =>
    obtain ⟨k, rfl, hk, hO1, hO2, hb⟩ := hrel
    by_cases hlt : k < n
    · obtain ⟨b, o, rfl, hbl, hc3⟩ := ((unhide HA).below hb).2.2 (by omega)
      have ⟨k0, k1, k2⟩ := hc3 k hlt
      have hz := (unhide HG).size k hlt
      have hat := (unhide HG).at0 k hlt
      have hmb := mfr_bd (unhide HG) s k (by omega)
      obtain ⟨⟨x, y, z⟩, hf⟩ : ∃ t, f k = t := ⟨_, rfl⟩
      rw [hf] at k0 k1 k2 hz hat
      simp only at k0 k1 k2 hz hat
      have b1 := alloc_below wr (.cells #[.int .i64 x, .int .i64 y, .int .i64 z] 49)
      have ⟨q0, q1, q2⟩ := box3 (w := wr) (x := .int .i64 x) (y := .int .i64 y) (z := .int .i64 z) (T := 49) (Below.refl _ _)
      obtain ⟨W, hW⟩ : ∃ W, wr.alloc (.cells #[.int .i64 x, .int .i64 y, .int .i64 z] 49) = W := ⟨_, rfl⟩
      rw [hW] at q0 q1 q2 b1
      obtain ⟨bx, hbx⟩ : ∃ g, wr.heap.size = g := ⟨_, rfl⟩
      have hbxn : bx < W.heap.size := by rw [← hW, alloc_size, hbx]; omega
      rw [hbx] at q0 q1 q2
      have P1 := hO1.keep b1
      have P2 := hO2.keep b1
      have HLe := hide (least_any G2 s (mfr s f k) W P2 (by omega) (by omega))
      obtain ⟨p, hp⟩ : ∃ p, lst (mfr s f k) s = p := ⟨_, rfl⟩
      have hps : p < s := by rw [← hp]; exact lst_lt _ (by omega)
      rw [hp] at HLe
      have hmp := hmb p
      obtain ⟨u, hu⟩ : ∃ u, mfr s f k p = u := ⟨_, rfl⟩
      rw [hu] at hmp
      obtain ⟨bv, hbv⟩ : ∃ v, (if x < u then u else x) = v := ⟨_, rfl⟩
      have hbg : mbg s f k = bv := by unfold mbg; rw [hp, hu, hf, ← hbv]; show max x u = _; split <;> omega
      have hbvb : 0 ≤ bv ∧ bv ≤ 1000000000 + (k : Int) * 1000000000 := by rw [← hbv]; split <;> omega
      have e1 : (k : Int) < (n : Int) := by omega
      have e0 : (0 : Int) ≤ (k : Int) := by omega
      have e2 : (p : Int) < (s : Int) := by omega
      have w1 : IntKind.i64.wrap (bv + y) = bv + y := by rw [IntKind.wrap_i64]; omega
      have HP1 := hide P1
      have HP2 := hide P2
      have HB1 := hide (below_step hb b1)
      have HBG := hide hbg
      have HFR : Hid (mfr s f (k + 1) = updI (mfr s f k) p (bv + y)) := by
        show updI (mfr s f k) (lst (mfr s f k) s) (max (f k).1 (mfr s f k (lst (mfr s f k) s)) + (f k).2.1) = _
        rw [hp, hu, hf]
        show updI _ _ (max x u + y) = _
        rw [show max x u = bv by rw [← hbv]; split <;> omega]
      have HU := hide hu
      have HNE : Hid (bx ≠ G1) := by rw [← hbx]; have := hO1.lt; exact (by omega : wr.heap.size ≠ G1)
      clear hc3 hO1 hO2 hb hf hp hu b1 P1 P2 hmb hmp hz hat hbg hbvb
      go_wp2_with fail
      refine (unhide HLe).mono ?_
      rintro e w9 ⟨rfl, dd, rfl⟩
      have Q1 := (unhide HP1).keep (below_drewN _ dd)
      have Q2 := (unhide HP2).keep (below_drewN _ dd)
      have g1 := (unhide HP1).cell hlt
      have g1f := (unhide HP1).free k
      have g2 := (unhide HP2).cell hps
      rw [unhide HU] at g2
      obtain ⟨u0, g1⟩ : ∃ v : Value, W.cell? ⟨G1, k, none⟩ = some v := ⟨_, g1⟩
      clear hW HLe Q1 Q2 hbx k0 k1 k2
      go_wp2_with fail
      go_region
      obtain ⟨W3, hW3⟩ : ∃ V, (W.drewN (dd + 1)).setCell ⟨G1, k, none⟩ (.int .i64 bv) = V := ⟨_, rfl⟩
      have R1 : OwnI W3 G1 n (updI (fun j => if j < k then mbg s f j else 0) k bv) := by rw [← hW3]; exact ((unhide HP1).keep (below_drewN _ _)).set k bv
      have R2 : OwnI W3 G2 s (mfr s f k) := by rw [← hW3]; exact ((unhide HP2).keep (below_drewN _ _)).other (fun e => (unhide HGE).2.2 e.symm) _
      have c1 := R1.cell hlt
      rw [show updI (fun j => if j < k then mbg s f j else 0) k bv k = bv by unfold updI; rw [if_pos rfl]] at c1
      have c2 := R2.cell hps
      rw [unhide HU] at c2
      have c2f := R2.free p
      have c3 : W3.cell? ⟨bx, 1, none⟩ = some (.int .i64 y) := by
        rw [← hW3, World.cell?_of_block (w := W.drewN (dd + 1)) (a := ⟨bx, 1, none⟩) (Below.heap_setCell _ _ _ _ (unhide HNE))]
        exact q1
      have F1 : Hid (OwnI (W3.setCell ⟨G2, p, none⟩ (.int .i64 (bv + y))) G1 n (fun j => if j < k + 1 then mbg s f j else 0)) := by
        refine (R1.other (unhide HGE).2.2 _).congr fun j hj => ?_
        unfold updI
        by_cases h1 : j = k
        · subst h1; rw [if_pos rfl, if_pos (Nat.lt_succ_self _), unhide HBG]
        · rw [if_neg h1]
          show (if j < k then _ else _) = _
          by_cases h2 : j < k
          · rw [if_pos h2, if_pos (by omega)]
          · rw [if_neg h2, if_neg (by omega)]
      have F2 : Hid (OwnI (W3.setCell ⟨G2, p, none⟩ (.int .i64 (bv + y))) G2 s (mfr s f (k + 1))) := by
        show OwnI _ _ _ _
        rw [unhide HFR]; exact R2.set p (bv + y)
      have FB : Hid (Below w.heap.size w (W3.setCell ⟨G2, p, none⟩ (.int .i64 (bv + y)))) := by
        refine Below.setCell ?_ (unhide HGE).2.1 _
        rw [← hW3]
        exact (below_step (unhide HB1) (below_drewN _ _)).setCell (unhide HGE).1 _
      rw [hW3]
      clear hW3 R1 R2 g1 g1f g2 q0 q1 q2 hbv
      go_wp2_with fail
      go_region
      go_wp2
      exact ⟨⟨k + 1, by go_num, hlt, (unhide F1).keep (drew_below _), (unhide F2).keep (drew_below _), below_step (unhide FB) (drew_below _)⟩, by simp [intOf]; omega⟩
    · obtain rfl : k = n := by omega
      have e1 : ¬ (k : Int) < (k : Int) := by omega
      have FO : Hid (OwnI wr G1 k (mbg s f)) := hO1.congr fun j hj => by rw [if_pos hj]
      clear hO1 hO2
      go_wp2
      go_ret2
      exact ⟨G1, rfl, unhide FO, hb⟩
end Go.Proofs.YteflciddadjilaaDoor
