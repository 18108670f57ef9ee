/- TreeMiddle, TreeCenter: the walks. -/
import Derived.Test.YtcmddkekidgkoaaDoorTL4
namespace Go.Proofs.YtcmddkekidgkoaaDoor
open Go.RowKit Go.Sort Go.Shelf

/-- The first of the least, from none. -/
def lstR (g : Nat → Int) : Nat → Nat × Int
  | 0 => (0, 0)
  | k + 1 => if k = 0 ∨ g k < (lstR g k).2 then (k, g k) else lstR g k
theorem lstR_eq (g : Nat → Int) : ∀ k, lstR g (k + 1) = lst g k
  | 0 => rfl
  | k + 1 => by
    have ih := lstR_eq g k
    show (if k + 1 = 0 ∨ g (k + 1) < (lstR g (k + 1)).2 then (k + 1, g (k + 1)) else lstR g (k + 1)) = if g (k + 1) < (lst g k).2 then (k + 1, g (k + 1)) else lst g k
    rw [ih]
    by_cases c : g (k + 1) < (lst g k).2
    · rw [if_pos (Or.inr c), if_pos c]
    · rw [if_neg (by omega), if_neg c]
set_option maxHeartbeats 16000000 in
set_option maxRecDepth 100000 in
set_option linter.unusedSimpArgs false in
theorem treeMiddle_any (N : Int) (a : Option Addr) (m c : Nat) (f : Nat → T3) (pa : Option Addr) (pn pc : Nat) (P : Nat → Int) (w : World) (het : ErrTy w) (hN : I64 N) (ha : TRow w a m c f) (hp : IRow w pa pn pc P) :
    Calls Tryd.prog 5 #[.int .i64 N, .slice a m c, .slice pa pn pc] w fun e w' => e = .returned (.bool true) ∧ Below w.heap.size w w' := by
  have q1 := ha.1
  have q2 := ha.2.1
  have q5 := hp.1
  have q6 := hp.2.1
  by_cases hm : 100 < m
  · have e0 : (100 : Int) < (m : Int) := by omega
    clear ha hp
    go_enter Tryd.func5, Tryd.ntmps5
    go_wp2
    go_ret
    exact ⟨rfl, Below.refl _ _⟩
  have e0 : ¬ (100 : Int) < (m : Int) := by omega
  by_cases hpn : 100 < pn
  · have e1 : (100 : Int) < (pn : Int) := by omega
    clear ha hp
    go_enter Tryd.func5, Tryd.ntmps5
    go_wp2
    go_ret
    exact ⟨rfl, Below.refl _ _⟩
  have e1 : ¬ (100 : Int) < (pn : Int) := by omega
  obtain ⟨cu, hcu⟩ := cu_some N.toNat m f
  obtain ⟨s, hs⟩ := cuts_some hcu
  have HA := hide ha
  have HP := hide hp
  have HET := hide het
  have HCU := hide hcu
  have HS := hide hs
  have HED := hide (edges_any a m c f w ha (by omega))
  clear ha het hcu hs hp
  go_enter Tryd.func5, Tryd.ntmps5
  go_wp2_with fail
  refine (unhide HED).mono ?_
  rintro e w1 ⟨a1, c1, rfl, ht1, hb1⟩
  have HC1 := hide (rpeople_any N a1 m c1 f pa pn pc P cu w1 hN (unhide HCU) ht1 ((unhide HP).below hb1) (by omega))
  have HT1 := hide ht1
  have HB1 := hide hb1
  have q3 := ht1.1
  have q4 := ht1.2.1
  clear ht1 hb1 HED
  go_wp2_with fail
  refine (unhide HC1).mono ?_
  rintro e w3 ⟨rfl, hb2⟩
  have HB3 := hide (below_step (unhide HB1) hb2)
  have HT3 := hide ((unhide HT1).below hb2)
  have HMI : Hid (∀ W, Below w.heap.size w W → Calls Tryd.prog 25 #[.int .i64 N, .slice a m c, .slice pa pn pc] W (MidE W (pcode N m f cu pn P) (((lst (sumT pn m f s P) (pn - 1)).1 : Nat) : Int) (lst (sumT pn m f s P) (pn - 1)).2)) := fun W hW => Middle_any N a m c f pa pn pc P cu s W hN (unhide HCU) (unhide HS) ((unhide HA).below hW) ((unhide HP).below hW) (by omega)
  clear hb2 HC1 HT1 HB1
  by_cases hk : pcode N m f cu pn P = 0
  case neg =>
    obtain ⟨k, hk2⟩ : ∃ k, pcode N m f cu pn P = k := ⟨_, rfl⟩
    rw [hk2] at hk HMI ⊢
    have HK := hide hk
    have g2 : (k == 0) = false := by simpa using hk
    have HM3 : Hid (∀ W, Below w.heap.size w W → Calls Tryd.prog 25 #[.int .i64 N, .slice a m c, .slice pa pn pc] W fun e w' => e = .returned (.tuple #[.int .i64 0, .int .i64 0, .iface 25 (.int .i64 k)]) ∧ Below W.heap.size W w') := fun W hW => (unhide HMI W hW).mono (by
      rintro e w' ⟨hb, hh⟩
      rcases hh with ⟨_, rfl⟩ | ⟨h0, _⟩
      · exact ⟨rfl, hb⟩
      · exact absurd h0 (unhide HK))
    clear hk hk2 HMI
    have HB4 := HB3
    have HM := hide (unhide HM3 w3 (unhide HB3))
    clear HB3 HM3
    go_wp2_with fail
    go_loopw [11, 9, 10] (fun vi vk vx wr => vi = .int .i64 0 ∧ vk = .int .i64 0 ∧ vx = .int .i64 0 ∧ wr = w3) (fun _ _ _ _ => 0)
    case atStart => exact ⟨rfl, rfl, rfl, rfl⟩
    case round =>
      obtain ⟨rfl, rfl, rfl, hw3⟩ := hrel
      subst hw3
      by_cases h0 : 0 < N
      all_goals
        go_wp2_with fail
        refine (unhide HM).mono ?_
        rintro e w5 ⟨rfl, hb5⟩
        have HB5 := hide (below_step (unhide HB4) hb5)
        have HW := hide (whole_bad 0 k (unhide HK) w5 ((unhide HET).below (unhide HB5)))
        clear hb5 HM
        go_wp2_with fail
        refine (unhide HW).mono ?_
        rintro e w6 ⟨rfl, hb6⟩
        have HB6 := hide (below_step (unhide HB5) hb6)
        have HW2 := hide (whole_bad 0 k (unhide HK) w6 ((unhide HET).below (unhide HB6)))
        clear hb6 HW
        go_wp2_with fail
        refine (unhide HW2).mono ?_
        rintro e w7 ⟨rfl, hb7⟩
        have HB7 := hide (below_step (unhide HB6) hb7)
        clear hb7 HW2
        go_wp2
        go_ret
        exact ⟨rfl, unhide HB7⟩
  obtain ⟨h4, h5, h6⟩ := pcode_zero hk
  obtain rfl : N = (pn : Int) := h5.symm
  have hT : GTree pn m f s := unhide HS h4
  have HT := hide hT
  have HG := hide h6
  have h01 := hT.one
  have h60 := hT.few
  rw [hk] at HMI ⊢
  have HM3 : Hid (∀ W, Below w.heap.size w W → Calls Tryd.prog 25 #[.int .i64 (pn : Int), .slice a m c, .slice pa pn pc] W fun e w' => e = .returned (.tuple #[.int .i64 (((lst (sumT pn m f s P) (pn - 1)).1 : Nat) : Int), .int .i64 (lst (sumT pn m f s P) (pn - 1)).2, .nilIface]) ∧ Below W.heap.size W w') := fun W hW => (unhide HMI W hW).mono (by
    rintro e w' ⟨hb, hh⟩
    rcases hh with ⟨h0, _⟩ | ⟨_, rfl⟩
    · exact absurd rfl h0
    · exact ⟨rfl, hb⟩)
  have HRS : Hid (∀ p W, p < pn → Below w3.heap.size w3 W → Calls Tryd.prog 20 #[.int .i64 (pn : Int), .slice a1 m c1, .slice pa pn pc, .int .i64 (p : Int)] W fun e w' => e = .returned (.int .i64 (sumT pn m f s P p)) ∧ Below W.heap.size W w') := fun p W hpl hW => rsum_any pn a1 m c1 f s pa pc P p W ((unhide HT3).below hW) (((unhide HP).below (unhide HB3)).below hW) (unhide HT) (unhide HG) hpl
  obtain ⟨V, hV⟩ : ∃ V : Nat → Int, sumT pn m f s P = V := ⟨_, rfl⟩
  have HV : Hid (∀ W, Calls Tryd.prog 20 #[.int .i64 (pn : Int), .slice a1 m c1, .slice pa pn pc, .int .i64 0] W fun _ _ => True) ∨ True := Or.inr trivial
  rw [hV] at HM3
  have HRS2 : Hid (∀ p W, p < pn → Below w3.heap.size w3 W → Calls Tryd.prog 20 #[.int .i64 (pn : Int), .slice a1 m c1, .slice pa pn pc, .int .i64 (p : Int)] W fun e w' => e = .returned (.int .i64 (V p)) ∧ Below W.heap.size W w') := fun p W h1 h2 => by rw [← hV]; exact unhide HRS p W h1 h2
  clear hk h4 h5 h6 hT hV HMI HRS HV
  go_wp2_with fail
  go_loopw [11, 9, 10] (fun vi vk vx wr => ∃ i : Nat, vi = .int .i64 (i : Int) ∧ i ≤ pn ∧ vk = .int .i64 (((lstR V i).1 : Nat) : Int) ∧ vx = .int .i64 (lstR V i).2 ∧ Below w3.heap.size w3 wr) (fun vi _ _ _ => pn - (intOf vi).toNat)
  case atStart => exact ⟨0, rfl, Nat.zero_le _, rfl, rfl, Below.refl _ _⟩
  case round =>
    obtain ⟨i, rfl, hi, rfl, rfl, hb⟩ := hrel
    by_cases hlt : i < pn
    · have HC := hide (unhide HRS2 i wr hlt hb)
      have HB := hide hb
      have HSS : Hid (lstR V (i + 1) = if i = 0 ∨ V i < (lstR V i).2 then (i, V i) else lstR V i) := rfl
      obtain ⟨⟨kb, vb⟩, hlb⟩ : ∃ t, lstR V i = t := ⟨_, rfl⟩
      obtain ⟨x, hx⟩ : ∃ x, V i = x := ⟨_, rfl⟩
      rw [hlb, hx] at HSS
      rw [hx] at HC
      rw [hlb]
      simp only at HSS ⊢
      have f1 : (i : Int) < (pn : Int) := by omega
      have f2 : IntKind.i64.wrap ((i : Int) + 1) = ((i + 1 : Nat) : Int) := by rw [IntKind.wrap_i64]; omega
      clear hb hlb hx
      by_cases hi0 : i = 0
      · have g1 : ((i : Int) == 0) = true := by simp; omega
        have HS2 : Hid (lstR V (i + 1) = (i, x)) := by show _ = _; rw [unhide HSS, if_pos (Or.inl hi0)]
        clear hi0 HSS
        go_wp2_with fail
        refine (unhide HC).mono ?_
        rintro e w9 ⟨rfl, hb9⟩
        have HB9 := hide (below_step (unhide HB) hb9)
        clear hb9 HC
        go_wp2
        exact ⟨⟨i + 1, rfl, hlt, by rw [unhide HS2], by rw [unhide HS2], unhide HB9⟩, by simp [intOf]; omega⟩
      have g1 : ((i : Int) == 0) = false := by simp; omega
      by_cases hxv : x < vb
      · have HS2 : Hid (lstR V (i + 1) = (i, x)) := by show _ = _; rw [unhide HSS, if_pos (Or.inr hxv)]
        clear hi0 HSS
        go_wp2_with fail
        refine (unhide HC).mono ?_
        rintro e w9 ⟨rfl, hb9⟩
        have HB9 := hide (below_step (unhide HB) hb9)
        clear hb9 HC
        go_wp2
        exact ⟨⟨i + 1, rfl, hlt, by rw [unhide HS2], by rw [unhide HS2], unhide HB9⟩, by simp [intOf]; omega⟩
      · have HS2 : Hid (lstR V (i + 1) = (kb, vb)) := by show _ = _; rw [unhide HSS, if_neg (by omega)]
        clear hi0 HSS
        go_wp2_with fail
        refine (unhide HC).mono ?_
        rintro e w9 ⟨rfl, hb9⟩
        have HB9 := hide (below_step (unhide HB) hb9)
        clear hb9 HC
        go_wp2
        exact ⟨⟨i + 1, rfl, hlt, by rw [unhide HS2], by rw [unhide HS2], unhide HB9⟩, by simp [intOf]; omega⟩
    · obtain rfl : i = pn := by omega
      have f1 : ¬ (i : Int) < (i : Int) := by omega
      have hlast : lstR V i = lst V (i - 1) := by
        have := lstR_eq V (i - 1)
        rw [show i - 1 + 1 = i by omega] at this
        exact this
      rw [hlast]
      obtain ⟨⟨kb, vb⟩, hlb⟩ : ∃ t, lst V (i - 1) = t := ⟨_, rfl⟩
      rw [hlb] at HM3 ⊢
      simp only at HM3 ⊢
      have HB4 := hide (below_step (unhide HB3) hb)
      have HM := hide (unhide HM3 wr (unhide HB4))
      clear hb hlast hlb HM3 HRS2
      go_wp2_with fail
      refine (unhide HM).mono ?_
      rintro e w5 ⟨rfl, hb5⟩
      have HB5 := hide (below_step (unhide HB4) hb5)
      have HW := hide (whole_good (kb : Int) w5)
      clear hb5 HM
      go_wp2_with fail
      refine (unhide HW).mono ?_
      rintro e w6 ⟨rfl, hb6⟩
      have HB6 := hide (below_step (unhide HB5) hb6)
      have HW2 := hide (whole_good vb w6)
      clear hb6 HW
      go_wp2_with fail
      refine (unhide HW2).mono ?_
      rintro e w7 ⟨rfl, hb7⟩
      have HB7 := hide (below_step (unhide HB6) hb7)
      clear hb7 HW2
      go_wp2
      go_ret
      exact ⟨rfl, unhide HB7⟩
end Go.Proofs.YtcmddkekidgkoaaDoor
