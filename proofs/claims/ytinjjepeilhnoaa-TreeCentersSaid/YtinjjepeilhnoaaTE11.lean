/- Centers and the farthest two: the walk. -/
import Derived.Test.YtinjjepeilhnoaaTE8
import Derived.Test.YtinjjepeilhnoaaTE9
namespace Go.Proofs.Ytinjjepeilhnoaa
open Go.RowKit Go.Sort Go.Shelf

def lngV (f : Nat → T3) : Nat → Int
  | 0 => 0
  | k + 1 => max (lngV f k) (f k).2.2
theorem lngV_ge {f : Nat → T3} : ∀ {k i : Nat}, i < k → eL f i ≤ lngV f k
  | 0, i, hi => absurd hi (Nat.not_lt_zero _)
  | k + 1, i, hi => by
    show eL f i ≤ max (lngV f k) (f k).2.2
    by_cases c : i = k
    · subst c; unfold eL; omega
    · have := lngV_ge (f := f) (show i < k by omega); omega
theorem lngV_nonneg (f : Nat → T3) : ∀ k, 0 ≤ lngV f k
  | 0 => Int.le_refl _
  | k + 1 => by have := lngV_nonneg f k; show 0 ≤ max (lngV f k) (f k).2.2; omega
theorem lngV_le {n m : Nat} {f : Nat → T3} (H : GoodE n m f) : ∀ k, k ≤ m → lngV f k ≤ 1000000000
  | 0, _ => by show (0 : Int) ≤ 1000000000; omega
  | k + 1, hk => by
    have := lngV_le H k (by omega)
    have := (H.l k hk).2
    show max (lngV f k) (f k).2.2 ≤ 1000000000
    omega
/-- All that the law says of the numbers. -/
theorem centers_law {n m : Nat} {f : Nat → T3} {s : Nat → Nat → Bool} (H : GTree n m f s) :
    (lst (ecc n m f s) (n - 1)).1 < n ∧ (aca (dist m f s) n n).1 < n ∧ (aca (dist m f s) n n).2.1 < n ∧ dist m f s (aca (dist m f s) n n).1 (aca (dist m f s) n n).2.1 = (aca (dist m f s) n n).2.2 ∧
    (∀ i, i < n → dist m f s (lst (ecc n m f s) (n - 1)).1 i ≤ (lst (ecc n m f s) (n - 1)).2 ∧ dist m f s (aca (dist m f s) n n).1 i ≤ (aca (dist m f s) n n).2.2) ∧
    (aca (dist m f s) n n).2.2 ≤ 2 * (lst (ecc n m f s) (n - 1)).2 ∧ 2 * (lst (ecc n m f s) (n - 1)).2 ≤ (aca (dist m f s) n n).2.2 + lngV f m := by
  have hn := H.one
  have h1 := lst_at (ecc n m f s) (n - 1)
  have h2 := lst_min (ecc n m f s) (n - 1)
  obtain ⟨h3, h4⟩ := aca_inv (d := dist m f s) hn (Tre.D_self _ _ _) n (Nat.le_refl _)
  obtain ⟨⟨k, r⟩, hlm⟩ : ∃ t, lst (ecc n m f s) (n - 1) = t := ⟨_, rfl⟩
  obtain ⟨⟨a, b, d⟩, hab⟩ : ∃ t, aca (dist m f s) n n = t := ⟨_, rfl⟩
  rw [hlm] at h1 h2 ⊢
  rw [hab] at h3 h4 ⊢
  simp only at h1 h2 h3 h4 ⊢
  have hk : k < n := by omega
  have hL : ∀ i, i < m → 0 ≤ eL f i ∧ eL f i ≤ lngV f m := fun i hi => ⟨H.good.lpos i hi, lngV_ge hi⟩
  obtain ⟨c, hc, hcv⟩ := H.tr.center (L := eL f) (d := d) (M := lngV f m) hL (lngV_nonneg f m) h3.1 h3.2.1 (fun u v hu hv => h4 u v hu hv) h3.2.2.symm
  refine ⟨hk, h3.1, h3.2.1, h3.2.2.symm, fun i hi => ⟨?_, h4 a i h3.1 hi⟩, ?_, ?_⟩
  · rw [h1.2]; exact ecc_ge hi
  · have e1 : dist m f s k a ≤ r := by rw [h1.2]; exact ecc_ge h3.1
    have e2 : dist m f s k b ≤ r := by rw [h1.2]; exact ecc_ge h3.2.1
    have e3 : dist m f s a b ≤ dist m f s a k + dist m f s k b := Tre.D_tri H.good.lpos s a b k
    have e4 : dist m f s a k = dist m f s k a := Tre.D_comm _ _ _ _
    have e5 := h3.2.2
    omega
  · obtain ⟨v, hv, hev⟩ := ecc_at (m := m) (f := f) (s := s) (i := c) hn
    have e1 := h2 c (by omega)
    have e2 : 2 * dist m f s c v ≤ d + lngV f m := hcv v hv
    rw [hev] at e1
    omega

set_option maxHeartbeats 16000000 in
set_option maxRecDepth 100000 in
theorem treeCenters_any (N : Int) (a : Option Addr) (m c : Nat) (f : Nat → T3) (w : World) (hN : I64 N) (ha : TRow w a m c f) :
    Calls Try.prog 4 #[.int .i64 N, .slice a m c] w fun e w' => e = .returned (.bool true) ∧ Below w.heap.size w w' := by
  have q1 := ha.1
  have q2 := ha.2.1
  by_cases hm : 25 < m
  · have e0 : (25 : Int) < (m : Int) := by omega
    clear ha
    go_enter Try.func4, Try.ntmps4
    go_wp2
    go_ret
    exact ⟨rfl, Below.refl _ _⟩
  have e0 : ¬ (25 : Int) < (m : Int) := by omega
  obtain ⟨cu, hcu⟩ := cu_some N.toNat m f
  obtain ⟨s, hs⟩ := cuts_some hcu
  have HA := hide ha
  have HM := hide (Center_any N a m c f cu s w hN hcu hs ha)
  have HX : Hid (∀ W, Below w.heap.size w W → Calls Try.prog 14 #[.int .i64 N, .slice a m c] W (AcE W (kcode N m f cu) (((aca (dist m f s) N.toNat N.toNat).1 : Nat) : Int) (((aca (dist m f s) N.toNat N.toNat).2.1 : Nat) : Int) (aca (dist m f s) N.toNat N.toNat).2.2)) := fun W hW => Across_any N a m c f cu s W hN hcu hs (ha.below hW)
  have HFR : Hid (∀ p W, Below w.heap.size w W → Calls Try.prog 15 #[.int .i64 N, .slice a m c, .int .i64 p] W (FarE W N m f cu p)) := fun p W hW => Far_any N a m c f p cu W hN hcu (ha.below hW)
  have HCU := hide hcu
  have HS := hide hs
  clear ha hcu hs
  go_enter Try.func4, Try.ntmps4
  go_wp2_with fail
  refine (unhide HM).mono ?_
  rintro e w1 ⟨hb1, hmid⟩
  have HX1 := hide (unhide HX w1 hb1)
  have HB := hide hb1
  clear hb1 HM HX
  rcases hmid with ⟨hk, rfl⟩ | ⟨hk, rfl⟩
  · obtain ⟨k, hk2⟩ : ∃ k, kcode N m f cu = k := ⟨_, rfl⟩
    rw [hk2] at HX1 hk ⊢
    have HK := hide hk
    clear hk2 hk
    go_wp2_with fail
    refine (unhide HX1).mono ?_
    rintro e w2 ⟨hb2, hac⟩
    rcases hac with ⟨_, rfl⟩ | ⟨h0, _⟩
    case inr => exact absurd h0 (unhide HK)
    have HB2 := hide (below_step (unhide HB) hb2)
    have HG2 := hide (grown_any w2)
    clear hb2 HX1
    go_wp2_with fail
    refine (unhide HG2).mono ?_
    rintro e w3 ⟨rfl, hb3⟩
    have HG3 := hide (grown_any w3)
    have HB3 := hide (below_step (unhide HB2) hb3)
    clear hb3 HG2
    go_wp2_with fail
    refine (unhide HG3).mono ?_
    rintro e w4 ⟨rfl, hb4⟩
    have HB4 := hide (below_step (unhide HB3) hb4)
    clear hb4 HG3
    go_wp2
    go_ret
    exact ⟨rfl, unhide HB4⟩
  obtain ⟨n, s0, rfl, _⟩ := kcode_zero (unhide HCU) hk
  have hT : GTree n m f s := unhide HS hk
  have HK := hide hk
  have h60 := hT.few
  have h01 := hT.one
  obtain ⟨L1, L2, L3, L4, L5, L6, L7⟩ := centers_law hT
  have HFC : Hid (∀ p : Nat, p < n → fcode (n : Int) m f cu (p : Int) = 0) := fun p hp => by
    unfold fcode
    rw [if_neg (by simpa using hk), if_neg (by omega)]
  have HFT : Hid (∀ (p : Nat) W, p < n → Below w.heap.size w W → Calls Try.prog 15 #[.int .i64 (n : Int), .slice a m c, .int .i64 (p : Int)] W fun e w' => ∃ G, e = .returned (.tuple #[.slice (some ⟨G, 0, none⟩) n n, .nilIface]) ∧ OwnI w' G n (dist m f s p) ∧ Below W.heap.size W w') := fun p W hp hW => by
    refine (unhide HFR (p : Int) W hW).mono ?_
    rintro e w' ⟨hb, hh⟩
    rcases hh with ⟨h, _⟩ | ⟨_, h⟩
    · exact absurd (unhide HFC p hp) h
    · obtain ⟨G, _, h2, h3⟩ := h n p s rfl rfl hT
      exact ⟨G, h2, h3, hb⟩
  have HX2 : Hid (Calls Try.prog 14 #[.int .i64 (n : Int), .slice a m c] w1 (AcE w1 (kcode (n : Int) m f cu) (((aca (dist m f s) n n).1 : Nat) : Int) (((aca (dist m f s) n n).2.1 : Nat) : Int) (aca (dist m f s) n n).2.2)) := unhide HX1
  have bd := dist_bd hT
  have HLB := hide (fun k hk => lngV_le hT.good k hk)
  have HLN := hide (lngV_nonneg f)
  obtain ⟨d, hd⟩ : ∃ d : Nat → Nat → Int, dist m f s = d := ⟨_, rfl⟩
  have hr0 : (lst (ecc n m f s) (n - 1)).2 ≤ 60000000000 ∧ 0 ≤ (lst (ecc n m f s) (n - 1)).2 := by
    have h1 := lst_at (ecc n m f s) (n - 1)
    obtain ⟨v, _, hev⟩ := ecc_at (m := m) (f := f) (s := s) (i := (lst (ecc n m f s) (n - 1)).1) h01
    rw [h1.2, hev]
    exact ⟨(bd _ _).2, (bd _ _).1⟩
  have hd0 := bd (aca (dist m f s) n n).1 (aca (dist m f s) n n).2.1
  rw [L4] at hd0
  obtain ⟨⟨k, r⟩, hlm⟩ : ∃ t, lst (ecc n m f s) (n - 1) = t := ⟨_, rfl⟩
  obtain ⟨⟨pa, pb, dd⟩, hab⟩ : ∃ t, aca (dist m f s) n n = t := ⟨_, rfl⟩
  have hx2 := unhide HX2
  rw [hab] at hx2
  have HX3 := hide hx2
  rw [hlm] at L1 L5 L6 L7 hr0
  rw [hab] at L2 L3 L4 L5 L6 L7 hd0
  simp only at L1 L2 L3 L4 L5 L6 L7 hr0 hd0
  have HE : Hid (lst (ecc ((n : Nat) : Int).toNat m f s) (((n : Nat) : Int).toNat - 1) = (k, r)) := hlm
  rw [unhide HE]
  rw [hd] at L4 L5 HFT
  clear hx2 HX2 hlm hab hd bd HX1 hk hT HE HFC HFR
  simp only
  go_wp2_with fail
  refine (unhide HX3).mono ?_
  rintro e w2 ⟨hb2, hac⟩
  rcases hac with ⟨h0, _⟩ | ⟨_, rfl⟩
  case inl => exact absurd (unhide HK) h0
  have HB2 := hide (below_step (unhide HB) hb2)
  have HG2 := hide (grown_any w2)
  clear hb2 HX3
  go_wp2_with fail
  refine (unhide HG2).mono ?_
  rintro e w3 ⟨rfl, hb3⟩
  have HB3 := hide (below_step (unhide HB2) hb3)
  clear hb3 HG2
  have HL5 := hide L5
  have HL4 := hide L4
  have HL6 := hide L6
  have HL7 := hide L7
  clear L4 L5 L6 L7
  go_wp2_with fail
  go_loopw [13, 12] (fun vi va wr => ∃ j : Nat, vi = .int .i64 (j : Int) ∧ j ≤ m ∧ va = .int .i64 (lngV f j) ∧ wr = w3) (fun vi _ _ => m - (intOf vi).toNat)
  case atStart => exact ⟨0, rfl, Nat.zero_le _, rfl, rfl⟩
  case round =>
    obtain ⟨j, rfl, hj, rfl, rfl⟩ := hrel
    by_cases hlt : j < m
    · obtain ⟨ab, ao, rfl, hbl, hac⟩ := ((unhide HA).below (unhide HB3)).2.2 (by omega)
      have ⟨_, _, c0⟩ := hac j hlt
      have HSS : Hid (lngV f (j + 1) = max (lngV f j) (f j).2.2) := rfl
      obtain ⟨y, hy⟩ : ∃ y, (f j).2.2 = y := ⟨_, rfl⟩
      obtain ⟨t, ht⟩ : ∃ t, lngV f j = t := ⟨_, rfl⟩
      rw [hy] at c0 HSS
      rw [ht] at HSS ⊢
      have f1 : (0 : Int) ≤ (j : Int) := by omega
      have f3 : (j : Int) < (m : Int) := by omega
      have f4 : IntKind.i64.wrap ((j : Int) + 1) = ((j + 1 : Nat) : Int) := by rw [IntKind.wrap_i64]; omega
      clear hac hy ht
      by_cases hty : t < y
      · have HS2 : Hid (lngV f (j + 1) = y) := by show _ = _; rw [unhide HSS]; omega
        go_wp2
        exact ⟨⟨j + 1, rfl, hlt, by rw [unhide HS2]; congr 1; omega, by first | rfl | trivial⟩, by simp [intOf]; omega⟩
      · have HS2 : Hid (lngV f (j + 1) = t) := by show _ = _; rw [unhide HSS]; omega
        go_wp2
        exact ⟨⟨j + 1, rfl, hlt, by rw [unhide HS2]; congr 1; omega, by first | rfl | trivial⟩, by simp [intOf]; omega⟩
    · obtain rfl : j = m := by omega
      have f1 : ¬ (j : Int) < (j : Int) := by omega
      obtain ⟨lg, hlg⟩ : ∃ t, lngV f j = t := ⟨_, rfl⟩
      have hlg1 := unhide HLB j (Nat.le_refl _)
      have hlg0 := unhide HLN j
      rw [hlg] at HL7 hlg1 hlg0 ⊢
      have HF1 := hide (unhide HFT pa wr L2 (unhide HB3))
      clear hlg HLB HLN
      go_wp2_with fail
      refine (unhide HF1).mono ?_
      rintro e w5 ⟨G1, rfl, hO1, hb5⟩
      have HB5 := hide (below_step (unhide HB3) hb5)
      have HF2 := hide (unhide HFT k w5 L1 (unhide HB5))
      have HO1 := hide hO1
      clear hb5 HF1 hO1 HFT
      go_wp2_with fail
      refine (unhide HF2).mono ?_
      rintro e w6 ⟨G2, rfl, hO2, hb6⟩
      have HB6 := hide (below_step (unhide HB5) hb6)
      have HO3 := hide ((unhide HO1).keep hb6)
      have HO2 := hide hO2
      have c0 := (unhide HO3).cell L3
      rw [unhide HL4] at c0
      have g1 : ((n : Int) != (n : Int)) = false := by simp
      have g2 : ¬ (pb : Int) < 0 := by omega
      have g3 : ¬ (n : Int) ≤ (pb : Int) := by omega
      have g4 : (dd != dd) = false := by simp
      have g5 : (0 : Int) ≤ (pb : Int) := by omega
      have g6 : (pb : Int) < (n : Int) := by omega
      clear hb6 HF2 hO2 HO1
      go_wp2_with fail
      clear c0 g1 g2 g3 g4 g5 g6
      go_loopw [18] (fun vi w7 => ∃ i : Nat, vi = .int .i64 (i : Int) ∧ i ≤ n ∧ w7 = w6) (fun vi _ => n - (intOf vi).toNat)
      case atStart => exact ⟨0, rfl, Nat.zero_le _, rfl⟩
      case round =>
        obtain ⟨i, rfl, hi, rfl⟩ := hrel
        by_cases hlt : i < n
        · have c1 := (unhide HO3).cell hlt
          have c2 := (unhide HO2).cell hlt
          have ⟨b1, b2⟩ := unhide HL5 i hlt
          obtain ⟨x, hx⟩ : ∃ x, d k i = x := ⟨_, rfl⟩
          obtain ⟨y, hy⟩ : ∃ x, d pa i = x := ⟨_, rfl⟩
          rw [hx] at c2 b1
          rw [hy] at c1 b2
          have g1 : ¬ r < x := by omega
          have g2 : ¬ dd < y := by omega
          have f2 : (0 : Int) ≤ (i : Int) := by omega
          have f3 : (i : Int) < (n : Int) := by omega
          have f4 : IntKind.i64.wrap ((i : Int) + 1) = ((i + 1 : Nat) : Int) := by rw [IntKind.wrap_i64]; omega
          clear hx hy b1 b2
          go_wp2
          exact ⟨⟨i + 1, rfl, hlt, by first | rfl | trivial⟩, by simp [intOf]; omega⟩
        · obtain rfl : i = n := by omega
          have f2 : ¬ (i : Int) < (i : Int) := by omega
          have b1 := unhide HL6
          have b2 := unhide HL7
          have g1 : IntKind.i64.wrap (2 * r) = 2 * r := by rw [IntKind.wrap_i64]; omega
          have g2 : IntKind.i64.wrap (dd + lg) = dd + lg := by rw [IntKind.wrap_i64]; omega
          go_wp2
          go_ret
          exact ⟨rfl, unhide HB6⟩
end Go.Proofs.Ytinjjepeilhnoaa
