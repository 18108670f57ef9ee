/- TreeFar, TreeSum: the walks. -/
import Derived.Test.YtcmddkekidgkoaaDoorTL4
namespace Go.Proofs.YtcmddkekidgkoaaDoor
open Go.RowKit Go.Sort Go.Shelf

set_option maxHeartbeats 16000000 in
set_option maxRecDepth 100000 in
theorem treeFar_any (N : Int) (a : Option Addr) (m c : Nat) (f : Nat → T3) (at_ : Int) (w : World) (het : ErrTy w) (hN : I64 N) (ha : TRow w a m c f) :
    Calls Tryd.prog 3 #[.int .i64 N, .slice a m c, .int .i64 at_] w fun e w' => e = .returned (.bool true) ∧ Below w.heap.size w w' := by
  have q1 := ha.1
  have q2 := ha.2.1
  by_cases hm : 100 < m
  · have e0 : (100 : Int) < (m : Int) := by omega
    clear ha
    go_enter Tryd.func3, Tryd.ntmps3
    go_wp2
    go_ret
    exact ⟨rfl, Below.refl _ _⟩
  have e0 : ¬ (100 : Int) < (m : Int) := by omega
  obtain ⟨cu, hcu⟩ := cu_some N.toNat m f
  obtain ⟨s, hs⟩ := cuts_some hcu
  have HA := hide ha
  have HET := hide het
  have HCU := hide hcu
  have HS := hide hs
  have HED := hide (edges_any a m c f w ha (by omega))
  clear ha het hcu hs
  go_enter Tryd.func3, Tryd.ntmps3
  go_wp2_with fail
  refine (unhide HED).mono ?_
  rintro e w1 ⟨a1, c1, rfl, ht1, hb1⟩
  have HC1 := hide (rtcheck_any N a1 m c1 f cu w1 hN (unhide HCU) ht1)
  have HT1 := hide ht1
  have HB1 := hide hb1
  have q3 := ht1.1
  have q4 := ht1.2.1
  clear ht1 hb1 HED
  go_wp2_with fail
  refine (unhide HC1).mono ?_
  rintro e w2 ⟨rfl, hb2⟩
  have HB2 := hide (below_step (unhide HB1) hb2)
  have HT2 := hide ((unhide HT1).below hb2)
  have HC2 := hide (tcheck_any N a m c f cu w2 hN (unhide HCU) ((unhide HA).below (unhide HB2)))
  clear hb2 HC1 HT1 HB1
  go_wp2_with fail
  refine (unhide HC2).mono ?_
  rintro e w3 ⟨rfl, hb3⟩
  have HB3 := hide (below_step (unhide HB2) hb3)
  have HT3 := hide ((unhide HT2).below hb3)
  have HTL := hide (tellV (kcode N m f cu) w3 ((unhide HET).below (unhide HB3)))
  clear hb3 HC2 HT2 HB2
  go_wp2_with fail
  refine (unhide HTL).mono ?_
  rintro e w4 ⟨rfl, hb4⟩
  have HB4 := hide (below_step (unhide HB3) hb4)
  have HT4 := hide ((unhide HT3).below hb4)
  have HFR : Hid (∀ W, Below w.heap.size w W → Calls Tryd.prog 17 #[.int .i64 N, .slice a m c, .int .i64 at_] W (FarE W N m f cu at_)) := fun W hW => Far_any N a m c f at_ cu W hN (unhide HCU) ((unhide HA).below hW)
  clear hb4 HTL HT3 HB3
  by_cases hk : kcode N m f cu = 0
  case neg =>
    have HFC : Hid (fcode N m f cu at_ = kcode N m f cu) := if_pos hk
    obtain ⟨k, hk2⟩ : ∃ k, kcode N m f cu = k := ⟨_, rfl⟩
    rw [hk2] at hk HFC ⊢
    have HK := hide hk
    have g1 : (k != k) = false := by simp
    have g2 : (k == 0) = false := by simpa using hk
    have HF4 := hide (unhide HFR w4 (unhide HB4))
    clear hk hk2 HFR
    go_wp2_with fail
    refine (unhide HF4).mono ?_
    rintro e w5 ⟨hb5, hh⟩
    rw [unhide HFC] at hh
    rcases hh with ⟨_, rfl⟩ | ⟨h0, _⟩
    case inr => exact absurd h0 (unhide HK)
    have HB5 := hide (below_step (unhide HB4) hb5)
    have HI := hide (ints_bad k (unhide HK) w5 ((unhide HET).below (unhide HB5)))
    clear hb5 HF4
    go_wp2_with fail
    refine (unhide HI).mono ?_
    rintro e w6 ⟨rfl, hb6⟩
    have HB6 := hide (below_step (unhide HB5) hb6)
    clear hb6 HI
    go_wp2
    go_ret
    exact ⟨rfl, unhide HB6⟩
  obtain ⟨n, s0, rfl, _⟩ := kcode_zero (unhide HCU) hk
  have hT : GTree n m f s := unhide HS hk
  have HT := hide hT
  rw [hk]
  have HF4 := hide (unhide HFR w4 (unhide HB4))
  by_cases hat : at_ < 0 ∨ (n : Int) ≤ at_
  · have HFC : Hid (fcode (n : Int) m f cu at_ = 2) := by show fcode _ _ _ _ _ = _; unfold fcode; rw [if_neg (by simpa using hk), if_pos hat]
    by_cases h1 : at_ < 0
    case' neg => have h2 : (n : Int) ≤ at_ := by omega
    all_goals
      clear hat hk hT HFR
      go_wp2_with fail
      refine (unhide HF4).mono ?_
      rintro e w5 ⟨hb5, hh⟩
      rw [unhide HFC] at hh
      rcases hh with ⟨_, rfl⟩ | ⟨h0, _⟩
      case inr => exact absurd h0 (by decide)
      have HB5 := hide (below_step (unhide HB4) hb5)
      have HI := hide (ints_bad 2 (by decide) w5 ((unhide HET).below (unhide HB5)))
      clear hb5 HF4
      go_wp2_with fail
      refine (unhide HI).mono ?_
      rintro e w6 ⟨rfl, hb6⟩
      have HB6 := hide (below_step (unhide HB5) hb6)
      clear hb6 HI
      go_wp2
      go_ret
      exact ⟨rfl, unhide HB6⟩
  obtain ⟨p, rfl⟩ : ∃ p : Nat, at_ = (p : Int) := ⟨at_.toNat, by omega⟩
  have hpl : p < n := by omega
  have HFC : Hid (fcode (n : Int) m f cu (p : Int) = 0) := by show fcode _ _ _ _ _ = _; unfold fcode; rw [if_neg (by simpa using hk), if_neg hat]
  have g1 : ¬ (p : Int) < 0 := by omega
  have g2 : ¬ (n : Int) ≤ (p : Int) := by omega
  have h60 := hT.few
  have HRF := hide (rFar_any n a1 m c1 f s p w4 (unhide HT4) hT hpl)
  clear hat hk hT HF4
  go_wp2_with fail
  refine (unhide HRF).mono ?_
  rintro e w5 ⟨G, hG, rfl, hO, hb5⟩
  have HB5 := hide (below_step (unhide HB4) hb5)
  have HO := hide hO
  have HF5 := hide (unhide HFR w5 (unhide HB5))
  clear hO hb5 hG HRF HFR
  go_wp2_with fail
  refine (unhide HF5).mono ?_
  rintro e w6 ⟨hb6, hh⟩
  rw [unhide HFC] at hh
  rcases hh with ⟨h0, _⟩ | ⟨_, hh⟩
  case inl => exact absurd rfl h0
  obtain ⟨G2, hG2, rfl, hO2⟩ := hh n p s rfl rfl (unhide HT)
  have HB6 := hide (below_step (unhide HB5) hb6)
  have HI := hide (ints_good (some ⟨G2, 0, none⟩) (some ⟨G, 0, none⟩) n n n (dist m f s p) w6 (hO2.irow (by omega)) (((unhide HO).keep hb6).irow (by omega)))
  clear hb6 hG2 hO2 hh HF5
  go_wp2_with fail
  refine (unhide HI).mono ?_
  rintro e w7 ⟨rfl, hb7⟩
  have HB7 := hide (below_step (unhide HB6) hb7)
  clear hb7 HI
  go_wp2
  go_ret
  exact ⟨rfl, unhide HB7⟩

theorem OwnL.irow' {w : World} {B : Nat} {v : Value} {xs : List Int} (h : OwnL w B v xs) : ∃ a c, v = .slice a xs.length c ∧ IRow w a xs.length c (fun j => xs[j]!) := h.irow
set_option maxHeartbeats 16000000 in
set_option maxRecDepth 100000 in
theorem treeSum_any (N : Int) (a : Option Addr) (m c : Nat) (f : Nat → T3) (pa : Option Addr) (pn pc : Nat) (P : Nat → Int) (at_ : Int) (w : World) (het : ErrTy w) (hN : I64 N) (ha : TRow w a m c f) (hp : IRow w pa pn pc P) :
    Calls Tryd.prog 4 #[.int .i64 N, .slice a m c, .slice pa pn pc, .int .i64 at_] w fun e w' => e = .returned (.bool true) ∧ Below w.heap.size w w' := by
  have q1 := ha.1
  have q2 := ha.2.1
  have q5 := hp.1
  have q6 := hp.2.1
  by_cases hm : 100 < m
  · have e0 : (100 : Int) < (m : Int) := by omega
    clear ha hp
    go_enter Tryd.func4, Tryd.ntmps4
    go_wp2
    go_ret
    exact ⟨rfl, Below.refl _ _⟩
  have e0 : ¬ (100 : Int) < (m : Int) := by omega
  by_cases hpn : 100 < pn
  · have e1 : (100 : Int) < (pn : Int) := by omega
    clear ha hp
    go_enter Tryd.func4, Tryd.ntmps4
    go_wp2
    go_ret
    exact ⟨rfl, Below.refl _ _⟩
  have e1 : ¬ (100 : Int) < (pn : Int) := by omega
  obtain ⟨cu, hcu⟩ := cu_some N.toNat m f
  obtain ⟨s, hs⟩ := cuts_some hcu
  have HA := hide ha
  have HP := hide hp
  have HET := hide het
  have HCU := hide hcu
  have HS := hide hs
  have HED := hide (edges_any a m c f w ha (by omega))
  clear ha het hcu hs hp
  go_enter Tryd.func4, Tryd.ntmps4
  go_wp2_with fail
  refine (unhide HED).mono ?_
  rintro e w1 ⟨a1, c1, rfl, ht1, hb1⟩
  have HC1 := hide (rpeople_any N a1 m c1 f pa pn pc P cu w1 hN (unhide HCU) ht1 ((unhide HP).below hb1) (by omega))
  have HT1 := hide ht1
  have HB1 := hide hb1
  have q3 := ht1.1
  have q4 := ht1.2.1
  clear ht1 hb1 HED
  go_wp2_with fail
  refine (unhide HC1).mono ?_
  rintro e w4 ⟨rfl, hb2⟩
  have HB4 := hide (below_step (unhide HB1) hb2)
  have HT4 := hide ((unhide HT1).below hb2)
  have HSU : Hid (∀ W, Below w.heap.size w W → Calls Tryd.prog 22 #[.int .i64 N, .slice a m c, .slice pa pn pc, .int .i64 at_] W (SumE W (acode N m f cu pn P at_) (sumT N.toNat m f s P at_.toNat))) := fun W hW => Sum_any N a m c f pa pn pc P at_ cu s W hN (unhide HCU) (unhide HS) ((unhide HA).below hW) ((unhide HP).below hW) (by omega)
  have HBR : Hid (∀ W, Below w.heap.size w W → Calls Tryd.prog 23 #[.int .i64 N, .slice a m c, .slice pa pn pc, .int .i64 at_] W (BraE W (acode N m f cu pn P at_) (brs N.toNat f s P at_.toNat m))) := fun W hW => Branches_any N a m c f pa pn pc P at_ cu s W hN (unhide HCU) (unhide HS) ((unhide HA).below hW) ((unhide HP).below hW) (by omega)
  clear hb2 HC1 HT1 HB1
  have BAD : ∀ k : Int, acode N m f cu pn P at_ = k → k ≠ 0 → Hid (∀ W, Below w.heap.size w W → Calls Tryd.prog 22 #[.int .i64 N, .slice a m c, .slice pa pn pc, .int .i64 at_] W fun e w' => e = .returned (.tuple #[.int .i64 0, .iface 25 (.int .i64 k)]) ∧ Below W.heap.size W w') ∧ Hid (∀ W, Below w.heap.size w W → Calls Tryd.prog 23 #[.int .i64 N, .slice a m c, .slice pa pn pc, .int .i64 at_] W fun e w' => e = .returned (.tuple #[.slice none 0 0, .iface 25 (.int .i64 k)]) ∧ Below W.heap.size W w') := fun k h1 h2 => ⟨fun W hW => (unhide HSU W hW).mono (by
      rintro e w' ⟨hb, hh⟩
      rw [h1] at hh
      rcases hh with ⟨_, rfl⟩ | ⟨h0, _⟩
      · exact ⟨rfl, hb⟩
      · exact absurd h0 h2), fun W hW => (unhide HBR W hW).mono (by
      rintro e w' ⟨hb, hh⟩
      rw [h1] at hh
      rcases hh with ⟨_, rfl⟩ | ⟨h0, _⟩
      · exact ⟨rfl, hb⟩
      · exact absurd h0 h2)⟩
  have HBAD := hide BAD
  clear BAD
  by_cases hk : pcode N m f cu pn P = 0
  case neg =>
    have hac : acode N m f cu pn P at_ = pcode N m f cu pn P := if_pos hk
    obtain ⟨k, hk2⟩ : ∃ k, pcode N m f cu pn P = k := ⟨_, rfl⟩
    rw [hk2] at hk hac ⊢
    obtain ⟨HS1, HB1⟩ := unhide HBAD k hac hk
    have HK := hide hk
    have g2 : (k == 0) = false := by simpa using hk
    have HS4 := hide (unhide HS1 w4 (unhide HB4))
    clear hk hk2 hac HBAD HSU HBR HS1
    go_wp2_with fail
    refine (unhide HS4).mono ?_
    rintro e w5 ⟨rfl, hb5⟩
    have HB5 := hide (below_step (unhide HB4) hb5)
    have HB15 := hide (unhide HB1 w5 (unhide HB5))
    clear hb5 HS4 HB1
    go_wp2_with fail
    refine (unhide HB15).mono ?_
    rintro e w6 ⟨rfl, hb6⟩
    have HB6 := hide (below_step (unhide HB5) hb6)
    have HW := hide (whole_bad 0 k (unhide HK) w6 ((unhide HET).below (unhide HB6)))
    clear hb6 HB15
    go_wp2_with fail
    refine (unhide HW).mono ?_
    rintro e w7 ⟨rfl, hb7⟩
    have HB7 := hide (below_step (unhide HB6) hb7)
    have HI := hide (ints_bad k (unhide HK) w7 ((unhide HET).below (unhide HB7)))
    clear hb7 HW
    go_wp2_with fail
    refine (unhide HI).mono ?_
    rintro e w8 ⟨rfl, hb8⟩
    have HB8 := hide (below_step (unhide HB7) hb8)
    clear hb8 HI
    go_wp2
    go_ret
    exact ⟨rfl, unhide HB8⟩
  obtain ⟨h4, h5, h6⟩ := pcode_zero hk
  obtain rfl : N = (pn : Int) := h5.symm
  have hT : GTree pn m f s := unhide HS h4
  have HT := hide hT
  rw [hk]
  by_cases hat : at_ < 0 ∨ (pn : Int) ≤ at_
  · have hac : acode (pn : Int) m f cu pn P at_ = 2 := by unfold acode; rw [if_neg (by simpa using hk), if_pos hat]
    obtain ⟨HS1, HB1⟩ := unhide HBAD 2 hac (by decide)
    have HK : Hid ((2 : Int) ≠ 0) := by show (2 : Int) ≠ 0; decide
    have HS4 := hide (unhide HS1 w4 (unhide HB4))
    by_cases h1 : at_ < 0
    case' neg => have h2 : (pn : Int) ≤ at_ := by omega
    all_goals
      clear hat hk hac hT HBAD HSU HBR HS1 h4 h5 h6
      go_wp2_with fail
      refine (unhide HS4).mono ?_
      rintro e w5 ⟨rfl, hb5⟩
      have HB5 := hide (below_step (unhide HB4) hb5)
      have HB15 := hide (unhide HB1 w5 (unhide HB5))
      clear hb5 HS4 HB1
      go_wp2_with fail
      refine (unhide HB15).mono ?_
      rintro e w6 ⟨rfl, hb6⟩
      have HB6 := hide (below_step (unhide HB5) hb6)
      have HW := hide (whole_bad 0 2 (unhide HK) w6 ((unhide HET).below (unhide HB6)))
      clear hb6 HB15
      go_wp2_with fail
      refine (unhide HW).mono ?_
      rintro e w7 ⟨rfl, hb7⟩
      have HB7 := hide (below_step (unhide HB6) hb7)
      have HI := hide (ints_bad 2 (unhide HK) w7 ((unhide HET).below (unhide HB7)))
      clear hb7 HW
      go_wp2_with fail
      refine (unhide HI).mono ?_
      rintro e w8 ⟨rfl, hb8⟩
      have HB8 := hide (below_step (unhide HB7) hb8)
      clear hb8 HI
      go_wp2
      go_ret
      exact ⟨rfl, unhide HB8⟩
  obtain ⟨p, rfl⟩ : ∃ p : Nat, at_ = (p : Int) := ⟨at_.toNat, by omega⟩
  have hpl : p < pn := by omega
  have HFC : Hid (acode (pn : Int) m f cu pn P (p : Int) = 0) := by show acode _ _ _ _ _ _ _ = _; unfold acode; rw [if_neg (by simpa using hk), if_neg hat]
  have g1 : ¬ (p : Int) < 0 := by omega
  have g2 : ¬ (pn : Int) ≤ (p : Int) := by omega
  have h60 := hT.few
  have HGP := hide h6
  have HRS := hide (rsum_any pn a1 m c1 f s pa pc P p w4 (unhide HT4) ((unhide HP).below (unhide HB4)) hT h6 hpl)
  clear hat hk hT h4 h5 h6 HBAD
  go_wp2_with fail
  refine (unhide HRS).mono ?_
  rintro e w5 ⟨rfl, hb5⟩
  have HB5 := hide (below_step (unhide HB4) hb5)
  have HRB := hide (rbranches_any pn a1 m c1 f s pa pc P p w5 ((unhide HT4).below hb5) ((unhide HP).below (unhide HB5)) (unhide HT) (unhide HGP) hpl)
  clear hb5 HRS
  go_wp2_with fail
  refine (unhide HRB).mono ?_
  rintro e w6 ⟨v6, rfl, hO6, hb6⟩
  have HB6 := hide (below_step (unhide HB5) hb6)
  obtain ⟨a6, c6, rfl, hr6⟩ := hO6.irow
  have HR6 := hide hr6
  have HS6 : Hid (Calls Tryd.prog 22 #[.int .i64 (pn : Int), .slice a m c, .slice pa pn pc, .int .i64 (p : Int)] w6 (SumE w6 (acode (pn : Int) m f cu pn P (p : Int)) (sumT pn m f s P p))) := unhide HSU w6 (unhide HB6)
  clear hb6 hO6 hr6 HRB HSU
  go_wp2_with fail
  refine (unhide HS6).mono ?_
  rintro e w7 ⟨hb7, hh⟩
  rw [unhide HFC] at hh
  rcases hh with ⟨h0, _⟩ | ⟨_, rfl⟩
  case inl => exact absurd rfl h0
  have HB7 := hide (below_step (unhide HB6) hb7)
  have HR7 := hide ((unhide HR6).below hb7)
  have HB7' : Hid (Calls Tryd.prog 23 #[.int .i64 (pn : Int), .slice a m c, .slice pa pn pc, .int .i64 (p : Int)] w7 (BraE w7 (acode (pn : Int) m f cu pn P (p : Int)) (brs pn f s P p m))) := unhide HBR w7 (unhide HB7)
  clear hb7 HS6 HR6 HBR
  go_wp2_with fail
  refine (unhide HB7').mono ?_
  rintro e w8 ⟨hb8, hh⟩
  rw [unhide HFC] at hh
  rcases hh with ⟨h0, _⟩ | ⟨_, v8, rfl, hO8⟩
  case inl => exact absurd rfl h0
  obtain ⟨a8, c8, rfl, hr8⟩ := hO8.irow
  have HB8 := hide (below_step (unhide HB7) hb8)
  have HI : Hid (∀ W, Below w8.heap.size w8 W → Calls Tryd.prog 18 #[.slice a8 (brs pn f s P p m).length c8, .nilIface, .slice a6 (brs pn f s P p m).length c6, .int .i64 0] W fun e w' => e = .returned (.bool true) ∧ Below W.heap.size W w') := fun W hW => ints_good a8 a6 (brs pn f s P p m).length c8 c6 _ W (hr8.below hW) (((unhide HR7).below hb8).below hW)
  obtain ⟨v, hv⟩ : ∃ v, sumT pn m f s P p = v := ⟨_, rfl⟩
  rw [hv]
  have HW := hide (whole_good v w8)
  obtain ⟨ln, hln⟩ : ∃ l, (brs pn f s P p m).length = l := ⟨_, rfl⟩
  rw [hln] at HI ⊢
  clear hv hb8 hO8 hr8 HB7' HR7 hln
  go_wp2_with fail
  refine (unhide HW).mono ?_
  rintro e w9 ⟨rfl, hb9⟩
  have HB9 := hide (below_step (unhide HB8) hb9)
  have HI9 := hide (unhide HI w9 hb9)
  clear hb9 HW HI
  go_wp2_with fail
  refine (unhide HI9).mono ?_
  rintro e w10 ⟨rfl, hb10⟩
  have HB10 := hide (below_step (unhide HB9) hb10)
  clear hb10 HI9
  go_wp2
  go_ret
  exact ⟨rfl, unhide HB10⟩
end Go.Proofs.YtcmddkekidgkoaaDoor
