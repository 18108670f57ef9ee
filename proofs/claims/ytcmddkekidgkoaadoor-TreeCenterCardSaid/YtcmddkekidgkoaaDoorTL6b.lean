/- TreeCenter: the walk. -/
import Derived.Test.YtcmddkekidgkoaaDoorTL6
import Derived.BigQuiet
import Derived.Deep.QuietTactic
import Derived.Deep.Draws
namespace Go.Proofs.YtcmddkekidgkoaaDoor
open Go.RowKit Go.Sort Go.Shelf

def mxV (d : Nat → Int) : Nat → Int
  | 0 => 0
  | k + 1 => max (mxV d k) (d k)
theorem mxV_spec {d : Nat → Int} : ∀ k, (∀ j, j < k → d j ≤ mxV d k) ∧ (mxV d k = 0 ∨ ∃ j, j < k ∧ mxV d k = d j) ∧ 0 ≤ mxV d k
  | 0 => ⟨fun j hj => absurd hj (Nat.not_lt_zero _), Or.inl rfl, Int.le_refl _⟩
  | k + 1 => by
    obtain ⟨h1, h2, h3⟩ := mxV_spec (d := d) k
    show (∀ j, j < k + 1 → d j ≤ max (mxV d k) (d k)) ∧ (max (mxV d k) (d k) = 0 ∨ ∃ j, j < k + 1 ∧ max (mxV d k) (d k) = d j) ∧ 0 ≤ max (mxV d k) (d k)
    refine ⟨fun j hj => ?_, ?_, by omega⟩
    · by_cases c : j = k
      · subst c; omega
      · have := h1 j (by omega); omega
    · by_cases c : mxV d k < d k
      · exact Or.inr ⟨k, Nat.lt_succ_self k, by omega⟩
      · rcases h2 with e | ⟨j, hj, e⟩
        · exact Or.inl (by omega)
        · exact Or.inr ⟨j, by omega, by omega⟩
theorem mxV_ecc {n m : Nat} {f : Nat → T3} {s : Nat → Nat → Bool} (H : GTree n m f s) (i : Nat) : mxV (dist m f s i) n = ecc n m f s i := by
  obtain ⟨h1, h2, h3⟩ := mxV_spec (d := dist m f s i) n
  obtain ⟨v, hv, e⟩ := ecc_at (m := m) (f := f) (s := s) (i := i) H.one
  have e1 := h1 v hv
  have e2 : mxV (dist m f s i) n ≤ ecc n m f s i := by
    rcases h2 with h | ⟨j, hj, h⟩
    · rw [h, e]; exact (dist_bd H i v).1
    · rw [h]; exact ecc_ge hj
  omega
set_option maxHeartbeats 16000000 in
set_option maxRecDepth 100000 in
set_option linter.unusedSimpArgs false in
theorem treeCenter_any (N : Int) (a : Option Addr) (m c : Nat) (f : Nat → T3) (w : World) (het : ErrTy w) (hN : I64 N) (ha : TRow w a m c f) :
    Calls Tryd.prog 6 #[.int .i64 N, .slice a m c] w fun e w' => e = .returned (.bool true) ∧ Below w.heap.size w w' := by
  have q1 := ha.1
  have q2 := ha.2.1
  by_cases hm : 100 < m
  · have e0 : (100 : Int) < (m : Int) := by omega
    clear ha
    go_enter Tryd.func6, Tryd.ntmps6
    go_wp2
    go_ret
    exact ⟨rfl, Below.refl _ _⟩
  have e0 : ¬ (100 : Int) < (m : Int) := by omega
  obtain ⟨cu, hcu⟩ := cu_some N.toNat m f
  obtain ⟨s, hs⟩ := cuts_some hcu
  have HA := hide ha
  have HET := hide het
  have HCU := hide hcu
  have HS := hide hs
  have HED := hide (edges_any a m c f w ha (by omega))
  clear ha het hcu hs
  go_enter Tryd.func6, Tryd.ntmps6
  go_wp2_with fail
  refine (unhide HED).mono ?_
  rintro e w1 ⟨a1, c1, rfl, ht1, hb1⟩
  have HC1 := hide (rtcheck_any N a1 m c1 f cu w1 hN (unhide HCU) ht1)
  have HT1 := hide ht1
  have HB1 := hide hb1
  have q3 := ht1.1
  have q4 := ht1.2.1
  clear ht1 hb1 HED
  go_wp2_with fail
  refine (unhide HC1).mono ?_
  rintro e w3 ⟨rfl, hb2⟩
  have HB3 := hide (below_step (unhide HB1) hb2)
  have HT3 := hide ((unhide HT1).below hb2)
  have HCE : Hid (∀ W, Below w.heap.size w W → Calls Tryd.prog 26 #[.int .i64 N, .slice a m c] W (MidE W (kcode N m f cu) (((lst (ecc N.toNat m f s) (N.toNat - 1)).1 : Nat) : Int) (lst (ecc N.toNat m f s) (N.toNat - 1)).2)) := fun W hW => Center_any N a m c f cu s W hN (unhide HCU) (unhide HS) ((unhide HA).below hW)
  have HAX : Hid (∀ W, Below w.heap.size w W → Calls Tryd.prog 27 #[.int .i64 N, .slice a m c] W (AcE W (kcode N m f cu) (((aca (dist m f s) N.toNat N.toNat).1 : Nat) : Int) (((aca (dist m f s) N.toNat N.toNat).2.1 : Nat) : Int) (aca (dist m f s) N.toNat N.toNat).2.2)) := fun W hW => Across_any N a m c f cu s W hN (unhide HCU) (unhide HS) ((unhide HA).below hW)
  clear hb2 HC1 HT1 HB1
  by_cases hk : kcode N m f cu = 0
  case neg =>
    obtain ⟨k, hk2⟩ : ∃ k, kcode N m f cu = k := ⟨_, rfl⟩
    rw [hk2] at hk HCE HAX ⊢
    have HK := hide hk
    have g2 : (k == 0) = false := by simpa using hk
    have HM : Hid (Calls Tryd.prog 26 #[.int .i64 N, .slice a m c] w3 fun e w' => e = .returned (.tuple #[.int .i64 0, .int .i64 0, .iface 25 (.int .i64 k)]) ∧ Below w3.heap.size w3 w') := (unhide HCE w3 (unhide HB3)).mono (by
      rintro e w' ⟨hb, hh⟩
      rcases hh with ⟨_, rfl⟩ | ⟨h0, _⟩
      · exact ⟨rfl, hb⟩
      · exact absurd h0 (unhide HK))
    have HX3 : Hid (∀ W, Below w.heap.size w W → Calls Tryd.prog 27 #[.int .i64 N, .slice a m c] W fun e w' => e = .returned (.tuple #[.int .i64 0, .int .i64 0, .int .i64 0, .iface 25 (.int .i64 k)]) ∧ Below W.heap.size W w') := fun W hW => (unhide HAX W hW).mono (by
      rintro e w' ⟨hb, hh⟩
      rcases hh with ⟨_, rfl⟩ | ⟨h0, _⟩
      · exact ⟨rfl, hb⟩
      · exact absurd h0 (unhide HK))
    clear hk hk2 HCE HAX
    go_wp2_with fail
    go_loopw [12, 7, 8, 9, 10, 11] (fun vi vk vr va vb vd wr => vi = .int .i64 0 ∧ vk = .int .i64 0 ∧ vr = .int .i64 0 ∧ va = .int .i64 0 ∧ vb = .int .i64 0 ∧ vd = .int .i64 0 ∧ wr = w3) (fun _ _ _ _ _ _ _ => 0)
    case atStart => exact ⟨rfl, rfl, rfl, rfl, rfl, rfl, rfl⟩
    case round =>
      obtain ⟨rfl, rfl, rfl, rfl, rfl, rfl, hw3⟩ := hrel
      subst hw3
      by_cases h0 : 0 < N
      all_goals
        go_wp2_with fail
        refine (unhide HM).mono ?_
        rintro e w4 ⟨rfl, hb4⟩
        have HB4 := hide (below_step (unhide HB3) hb4)
        have HX := hide (unhide HX3 w4 (unhide HB4))
        clear hb4 HM HX3
        go_wp2_with fail
        refine (unhide HX).mono ?_
        rintro e w5 ⟨rfl, hb5⟩
        have HB5 := hide (below_step (unhide HB4) hb5)
        clear hb5 HX
        go_wp2_with fail
        refine (whole_bad 0 k (unhide HK) w5 ((unhide HET).below (unhide HB5))).mono ?_
        rintro e w6 ⟨rfl, hb6⟩
        have HB6 := hide (below_step (unhide HB5) hb6)
        clear hb6
        go_wp2_with fail
        refine (whole_bad 0 k (unhide HK) w6 ((unhide HET).below (unhide HB6))).mono ?_
        rintro e w7 ⟨rfl, hb7⟩
        have HB7 := hide (below_step (unhide HB6) hb7)
        clear hb7
        go_wp2_with fail
        refine (whole_bad 0 k (unhide HK) w7 ((unhide HET).below (unhide HB7))).mono ?_
        rintro e w8 ⟨rfl, hb8⟩
        have HB8 := hide (below_step (unhide HB7) hb8)
        clear hb8
        go_wp2_with fail
        refine (whole_bad 0 k (unhide HK) w8 ((unhide HET).below (unhide HB8))).mono ?_
        rintro e w9 ⟨rfl, hb9⟩
        have HB9 := hide (below_step (unhide HB8) hb9)
        clear hb9
        go_wp2_with fail
        refine (whole_bad 0 k (unhide HK) w9 ((unhide HET).below (unhide HB9))).mono ?_
        rintro e w10 ⟨rfl, hb10⟩
        have HB10 := hide (below_step (unhide HB9) hb10)
        clear hb10
        go_wp2
        go_ret
        exact ⟨rfl, unhide HB10⟩
  have hT0 := unhide HS hk
  obtain ⟨n, s0, rfl, _⟩ := kcode_zero (unhide HCU) hk
  have hT : GTree n m f s := hT0
  have HT := hide hT
  have h01 := hT.one
  have h60 := hT.few
  rw [hk] at HCE HAX ⊢
  have HCE2 : Hid (∀ W, Below w.heap.size w W → Calls Tryd.prog 26 #[.int .i64 (n : Int), .slice a m c] W fun e w' => e = .returned (.tuple #[.int .i64 (((lst (ecc n m f s) (n - 1)).1 : Nat) : Int), .int .i64 (lst (ecc n m f s) (n - 1)).2, .nilIface]) ∧ Below W.heap.size W w') := fun W hW => (unhide HCE W hW).mono (by
    rintro e w' ⟨hb, hh⟩
    rcases hh with ⟨h0, _⟩ | ⟨_, rfl⟩
    · exact absurd rfl h0
    · exact ⟨rfl, hb⟩)
  have HAX2 : Hid (∀ W, Below w.heap.size w W → Calls Tryd.prog 27 #[.int .i64 (n : Int), .slice a m c] W fun e w' => e = .returned (.tuple #[.int .i64 (((aca (dist m f s) n n).1 : Nat) : Int), .int .i64 (((aca (dist m f s) n n).2.1 : Nat) : Int), .int .i64 (aca (dist m f s) n n).2.2, .nilIface]) ∧ Below W.heap.size W w') := fun W hW => (unhide HAX W hW).mono (by
    rintro e w' ⟨hb, hh⟩
    rcases hh with ⟨h0, _⟩ | ⟨_, rfl⟩
    · exact absurd rfl h0
    · exact ⟨rfl, hb⟩)
  have HRF : Hid (∀ p W, p < n → Below w3.heap.size w3 W → Calls Tryd.prog 16 #[.int .i64 (n : Int), .slice a1 m c1, .int .i64 (p : Int)] W (FarT W n m f s p)) := fun p W hpl hW => rFar_any n a1 m c1 f s p W ((unhide HT3).below hW) (unhide HT) hpl
  have HEC := hide (fun i => mxV_ecc hT i)
  obtain ⟨d, hd⟩ : ∃ d : Nat → Nat → Int, dist m f s = d := ⟨_, rfl⟩
  have HFT : Hid (∀ i e W W', FarT W n m f s i e W' → ∃ G : Nat, W.heap.size ≤ G ∧ e = .returned (.slice (some ⟨G, 0, none⟩) n n) ∧ OwnI W' G n (d i) ∧ Below W.heap.size W W') := fun i e W W' h => by rw [← hd]; exact h
  obtain ⟨E, hE⟩ : ∃ E : Nat → Int, ecc n m f s = E := ⟨_, rfl⟩
  have HEC2 : Hid (∀ i, mxV (d i) n = E i) := fun i => by rw [← hd, ← hE]; exact unhide HEC i
  rw [hd] at HAX2
  rw [hE] at HCE2
  clear hk hT0 hT hd hE HCE HAX HEC
  go_wp2_with fail
  go_loopw [12, 7, 8, 9, 10, 11] (fun vi vk vr va vb vd wr => ∃ i : Nat, vi = .int .i64 (i : Int) ∧ i ≤ n ∧ vk = .int .i64 (((lstR E i).1 : Nat) : Int) ∧ vr = .int .i64 (lstR E i).2 ∧ va = .int .i64 (((aca d n i).1 : Nat) : Int) ∧ vb = .int .i64 (((aca d n i).2.1 : Nat) : Int) ∧ vd = .int .i64 (aca d n i).2.2 ∧ Below w3.heap.size w3 wr) (fun vi _ _ _ _ _ _ => n - (intOf vi).toNat)
  case atStart => exact ⟨0, rfl, Nat.zero_le _, rfl, rfl, rfl, rfl, rfl, Below.refl _ _⟩
  case round =>
    obtain ⟨i, rfl, hi, rfl, rfl, rfl, rfl, rfl, hb⟩ := hrel
    by_cases hlt : i < n
    · have HF1 := hide (unhide HRF i wr hlt hb)
      have HB := hide hb
      have HS1 : Hid (aca d n (i + 1) = acr d i (aca d n i) n) := rfl
      have HS2 : Hid (lstR E (i + 1) = if i = 0 ∨ E i < (lstR E i).2 then (i, E i) else lstR E i) := rfl
      obtain ⟨t, ht⟩ : ∃ t, aca d n i = t := ⟨_, rfl⟩
      obtain ⟨⟨kb, vb⟩, hlb⟩ : ∃ t, lstR E i = t := ⟨_, rfl⟩
      rw [ht] at HS1 ⊢
      rw [hlb] at HS2 ⊢
      simp only at HS2 ⊢
      have HME := hide (unhide HEC2 i)
      have f1 : (i : Int) < (n : Int) := by omega
      have f2 : IntKind.i64.wrap ((i : Int) + 1) = ((i + 1 : Nat) : Int) := by rw [IntKind.wrap_i64]; omega
      clear hb ht hlb
      go_wp2_with fail
      refine (unhide HF1).mono ?_
      intro e w5 hfar
      obtain ⟨G, hG, rfl, hO, hb2⟩ := unhide HFT i e wr w5 hfar
      have HO := hide hO
      have HB2 := hide (below_step (unhide HB) hb2)
      clear hfar hO hb2 hG HF1 HB
      go_wp2_with fail
      go_loopw [15, 13, 9, 10, 11] (fun vj vm va vb2 vd w6 => ∃ j : Nat, vj = .int .i64 (j : Int) ∧ j ≤ n ∧ vm = .int .i64 (mxV (d i) j) ∧ va = .int .i64 (((acr d i t j).1 : Nat) : Int) ∧ vb2 = .int .i64 (((acr d i t j).2.1 : Nat) : Int) ∧ vd = .int .i64 (acr d i t j).2.2 ∧ Below w5.heap.size w5 w6) (fun vj _ _ _ _ _ => n - (intOf vj).toNat)
      case atStart => exact ⟨0, rfl, Nat.zero_le _, rfl, rfl, rfl, rfl, Below.refl _ _⟩
      case round =>
        obtain ⟨j, rfl, hj, rfl, rfl, rfl, rfl, hbj⟩ := hrel
        by_cases hjl : j < n
        · have c0 := ((unhide HO).keep hbj).cell hjl
          have HBJ := hide hbj
          clear hbj
          have HR : Hid (acr d i t (j + 1) = if (acr d i t j).2.2 < d i j then (i, j, d i j) else acr d i t j) := rfl
          have HM : Hid (mxV (d i) (j + 1) = max (mxV (d i) j) (d i j)) := rfl
          obtain ⟨u, hu⟩ : ∃ u, acr d i t j = u := ⟨_, rfl⟩
          obtain ⟨x, hx⟩ : ∃ x, d i j = x := ⟨_, rfl⟩
          obtain ⟨mo, hmo⟩ : ∃ x, mxV (d i) j = x := ⟨_, rfl⟩
          rw [hx] at c0
          rw [hu, hx] at HR
          rw [hx, hmo] at HM
          rw [hu, hmo]
          have g1 : (0 : Int) ≤ (j : Int) := by omega
          have g2 : (j : Int) < (n : Int) := by omega
          have g3 : IntKind.i64.wrap ((j : Int) + 1) = ((j + 1 : Nat) : Int) := by rw [IntKind.wrap_i64]; omega
          clear hu hx hmo
          obtain ⟨ma, hma⟩ : ∃ z, max mo x = z := ⟨_, rfl⟩
          have HMM : Hid (mxV (d i) (j + 1) = ma) := (unhide HM).trans hma
          have hite : (if mo < x then x else mo) = ma := by rw [← hma]; split <;> omega
          by_cases hgt : u.2.2 < x
          · have HR2 : Hid (acr d i t (j + 1) = (i, j, x)) := by show _ = _; rw [unhide HR, if_pos hgt]
            go_wp2_with fail
            go_quiet (fail)
            go_wp2
            exact ⟨⟨j + 1, rfl, hjl, by rw [unhide HMM], by rw [unhide HR2], by rw [unhide HR2], by rw [unhide HR2], ⟨(unhide HBJ).os, (unhide HBJ).tape, (unhide HBJ).output, (unhide HBJ).size, (unhide HBJ).block⟩⟩, by simp [intOf]; omega⟩
          · have HR2 : Hid (acr d i t (j + 1) = u) := by show _ = _; rw [unhide HR, if_neg hgt]
            go_wp2
            exact ⟨⟨j + 1, rfl, hjl, by rw [unhide HMM], by rw [unhide HR2], by rw [unhide HR2], by rw [unhide HR2], unhide HBJ⟩, by simp [intOf]; omega⟩
        · obtain rfl : j = n := by omega
          have g2 : ¬ (j : Int) < (j : Int) := by omega
          have HB2 := hide (below_step (unhide HB2) hbj)
          clear hbj
          have HS3 := hide (unhide HS1).symm
          obtain ⟨u, hu⟩ : ∃ u, acr d i t j = u := ⟨_, rfl⟩
          obtain ⟨x, hx⟩ : ∃ x, E i = x := ⟨_, rfl⟩
          rw [hu] at HS3 ⊢
          rw [unhide HME, hx]
          rw [hx] at HS2
          clear hu hx HS1 HME
          by_cases i0 : i = 0
          · subst i0
            have HS4 : Hid (lstR E (0 + 1) = (0, x)) := by show _ = _; rw [unhide HS2, if_pos (Or.inl rfl)]
            clear HS2
            go_wp2
            exact ⟨⟨0 + 1, rfl, hlt, by rw [unhide HS4], by rw [unhide HS4], by rw [← unhide HS3], by rw [← unhide HS3], by rw [← unhide HS3], unhide HB2⟩, by simp [intOf]; omega⟩
          · have j0 : ((i : Int) == 0) = false := by simp; omega
            by_cases hxl : x < vb
            · have HS4 : Hid (lstR E (i + 1) = (i, x)) := by show _ = _; rw [unhide HS2, if_pos (Or.inr hxl)]
              clear HS2
              go_wp2
              exact ⟨⟨i + 1, rfl, hlt, by rw [unhide HS4], by rw [unhide HS4], by rw [← unhide HS3], by rw [← unhide HS3], by rw [← unhide HS3], unhide HB2⟩, by simp [intOf]; omega⟩
            · have HS4 : Hid (lstR E (i + 1) = (kb, vb)) := by show _ = _; rw [unhide HS2, if_neg (by omega)]
              clear HS2
              go_wp2
              exact ⟨⟨i + 1, rfl, hlt, by rw [unhide HS4], by rw [unhide HS4], by rw [← unhide HS3], by rw [← unhide HS3], by rw [← unhide HS3], unhide HB2⟩, by simp [intOf]; omega⟩
    · obtain rfl : i = n := by omega
      have f1 : ¬ (i : Int) < (i : Int) := by omega
      have hlast : lstR E i = lst E (i - 1) := by
        have := lstR_eq E (i - 1)
        rw [show i - 1 + 1 = i by omega] at this
        exact this
      rw [hlast]
      obtain ⟨⟨kb, vb⟩, hlb⟩ : ∃ t, lst E (i - 1) = t := ⟨_, rfl⟩
      obtain ⟨⟨ta, tb, td⟩, ht⟩ : ∃ t, aca d i i = t := ⟨_, rfl⟩
      rw [hlb] at HCE2 ⊢
      rw [ht] at HAX2 ⊢
      simp only at HCE2 HAX2 ⊢
      have HB4 := hide (below_step (unhide HB3) hb)
      have HM := hide (unhide HCE2 wr (unhide HB4))
      clear hb hlast hlb ht HCE2 HRF HEC2 HFT HB3
      go_wp2_with fail
      refine (unhide HM).mono ?_
      rintro e w5 ⟨rfl, hb5⟩
      have HB5 := hide (below_step (unhide HB4) hb5)
      have HX := hide (unhide HAX2 w5 (unhide HB5))
      clear hb5 HM HAX2
      go_wp2_with fail
      refine (unhide HX).mono ?_
      rintro e w6 ⟨rfl, hb6⟩
      have HB6 := hide (below_step (unhide HB5) hb6)
      clear hb6 HX
      go_wp2_with fail
      refine (whole_good (kb : Int) w6).mono ?_
      rintro e w7 ⟨rfl, hb7⟩
      have HB7 := hide (below_step (unhide HB6) hb7)
      clear hb7
      go_wp2_with fail
      refine (whole_good vb w7).mono ?_
      rintro e w8 ⟨rfl, hb8⟩
      have HB8 := hide (below_step (unhide HB7) hb8)
      clear hb8
      go_wp2_with fail
      refine (whole_good (ta : Int) w8).mono ?_
      rintro e w9 ⟨rfl, hb9⟩
      have HB9 := hide (below_step (unhide HB8) hb9)
      clear hb9
      go_wp2_with fail
      refine (whole_good (tb : Int) w9).mono ?_
      rintro e w10 ⟨rfl, hb10⟩
      have HB10 := hide (below_step (unhide HB9) hb10)
      clear hb10
      go_wp2_with fail
      refine (whole_good td w10).mono ?_
      rintro e w11 ⟨rfl, hb11⟩
      have HB11 := hide (below_step (unhide HB10) hb11)
      clear hb11
      go_wp2
      go_ret
      exact ⟨rfl, unhide HB11⟩
end Go.Proofs.YtcmddkekidgkoaaDoor
