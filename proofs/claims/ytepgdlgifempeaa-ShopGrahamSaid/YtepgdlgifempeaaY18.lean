/- Graham: the law. -/
import Derived.Test.YtepgdlgifempeaaY17
import Derived.Test.YtepgdlgifempeaaY9
namespace Go.Proofs.Ytepgdlgifempeaa
open Go.RowKit Go.Sort Stb Shp Hp

theorem lend_fits {n : Nat} {l : Nat → Int} {m : Int} {r : Nat → Int} (hG : GoodL n l m) (h : GoodR n r) : FitsAll n m.toNat (lend m.toNat l r n) l (lpt m.toNat l r n) := by
  have hm := hG.m1
  have hbd := lld_bd (M := m.toNat) hG h n (Nat.le_refl _)
  have h2 := hG.few
  exact ⟨fits_prts (by omega) (rl_perm h) (fun i hi => (hG.l i hi).1), hG.few, by rw [lpt_len]; omega, by omega, hG.l⟩
set_option maxHeartbeats 8000000 in
set_option maxRecDepth 100000 in
set_option linter.unusedSimpArgs false in
theorem shopGraham_any (a : Option Addr) (n c : Nat) (l : Nat → Int) (m : Int) (ma : Option Addr) (mn mc : Nat) (mf : Nat → Int) (w : World) (ha : IRow w a n c l) (hm : IRow w ma mn mc mf) :
    Calls Try.prog 5 #[.slice a n c, .int .i64 m, .slice ma mn mc] w fun e w' => e = .returned (.bool true) ∧ Below w.heap.size w w' := by
  have b1 := ha.1
  have b2 := ha.2.1
  have b3 := hm.1
  have b4 := hm.2.1
  by_cases h1 : 30 < n
  · have e1 : (30 : Int) < (n : Int) := by omega
    clear ha hm
    go_enter Try.func5, Try.ntmps5
    go_wp2
    go_ret
    exact ⟨rfl, Below.refl _ _⟩
  have e1 : ¬ (30 : Int) < (n : Int) := by omega
  by_cases h2 : 100 < mn
  · have e2 : (100 : Int) < (mn : Int) := by omega
    clear ha hm
    go_enter Try.func5, Try.ntmps5
    go_wp2
    go_ret
    exact ⟨rfl, Below.refl _ _⟩
  have e2 : ¬ (100 : Int) < (mn : Int) := by omega
  have HA := hide ha
  have HS := hide (shuffled_any n ma mn mc mf w (by omega) hm (by omega))
  have HD : Hid (∀ W, Calls Try.prog 8 #[] W fun e w' => e = .returned (.bool true) ∧ Below W.heap.size W w') := flowed_any
  clear ha hm
  go_enter Try.func5, Try.ntmps5
  go_wp2_with fail
  refine (unhide HS).mono ?_
  rintro e w1 ⟨G, s, hG, rfl, hO, hres, hb1⟩
  have HB1 := hide hb1
  have HRES := hide hres
  have HC := hide (list_any a n c l m (some ⟨G, 0, none⟩) n n (nI s) w1 ((unhide HA).below hb1) (hO.irow (by omega)) (by omega))
  clear hb1 hO hres hG HS
  go_wp2_with fail
  refine (unhide HC).mono ?_
  rintro e w2 ⟨hb2, hp⟩
  rcases hp with ⟨ht, rfl⟩ | ⟨ht, v, rfl, hO2⟩
  · have HB := hide (below_step (unhide HB1) hb2)
    clear hb2 HC
    generalize scode n l m (nI s) n = k at ht ⊢
    clear ht
    go_wp2_with fail
    refine (unhide HD w2).mono ?_
    rintro e w3 ⟨rfl, hb3⟩
    have HB2 := hide (below_step (unhide HB) hb3)
    clear hb3
    go_wp2_with fail
    refine (unhide HD w3).mono ?_
    rintro e w4 ⟨rfl, hb4⟩
    have HB3 := hide (below_step (unhide HB2) hb4)
    clear hb4
    go_wp2
    go_ret
    exact ⟨rfl, unhide HB3⟩
  · have hsg := sgood_of ht
    have HG := hide hsg.g
    have hm1 := hsg.g.m1
    have hm20 := hsg.g.m20
    obtain ⟨pa1, pc1, rfl, hQ1⟩ := hO2.qrow
    rw [lpt_len]
    have HQ1 := hide hQ1
    have HB2 := hide (below_step (unhide HB1) hb2)
    obtain ⟨A, hA⟩ : ∃ A, lend m.toNat l (nI s) n = A := ⟨_, rfl⟩
    rw [hA]
    have HAE := hide hA
    clear hsg hO2 hQ1 hb2 HC ht hA HB1
    go_wp2_with fail
    refine (unhide HD w2).mono ?_
    rintro e w3 ⟨rfl, hb3⟩
    have HQ1 := hide ((unhide HQ1).below hb3)
    have HB3 := hide (below_step (unhide HB2) hb3)
    have HMC := hide (mcNaughton_any a n c l m w3 ((unhide HA).below (unhide HB3)))
    clear hb3 HB2
    go_wp2_with fail
    refine (unhide HMC).mono ?_
    rintro e w4 ⟨hb4, hp⟩
    rcases hp with ⟨h, _⟩ | ⟨_, v4, rfl, _⟩
    · exact absurd (lcode_good (by have := (unhide HG).few; omega) (unhide HG).l) h
    obtain ⟨E, hE⟩ : ∃ E, mcE n l m = E := ⟨_, rfl⟩
    rw [hE]
    have HEE := hide hE
    have HQ1 := hide ((unhide HQ1).below hb4)
    have HB4 := hide (below_step (unhide HB3) hb4)
    have HLG := hide (longest_any a n c l w4 ((unhide HA).below (unhide HB4)))
    clear hb4 HB3 hE HMC
    go_wp2_with fail
    refine (unhide HLG).mono ?_
    rintro e w5 ⟨hb5, hp⟩
    rcases hp with ⟨h, _⟩ | ⟨_, G5, g5, _, rfl, hO5, hre5, hsr5⟩
    · exact absurd (lcode_one (unhide HG)) h
    have HRE5 := hide hre5
    have HSR5 := hide hsr5
    have HQ1 := hide ((unhide HQ1).below hb5)
    have HB5 := hide (below_step (unhide HB4) hb5)
    have HL2 := hide (list_any a n c l m (some ⟨G5, 0, none⟩) n n (nI g5) w5 ((unhide HA).below (unhide HB5)) (hO5.irow (by omega)) (by omega))
    clear hb5 HB4 hO5 hre5 hsr5 HLG
    go_wp2_with fail
    refine (unhide HL2).mono ?_
    rintro e w6 ⟨hb6, hp⟩
    rcases hp with ⟨h, _⟩ | ⟨_, v6, rfl, hO6⟩
    · exact absurd (scode_re (unhide HG) (unhide HRE5)) h
    obtain ⟨pa2, pc2, rfl, hQ2⟩ := hO6.qrow
    rw [lpt_len]
    have hQ1 := (unhide HQ1).below hb6
    have HB6 := hide (below_step (unhide HB5) hb6)
    have f1 := lend_fits (unhide HG) (goodR_re (unhide HRES))
    have f2 := lend_fits (unhide HG) (goodR_re (unhide HRE5))
    have HF1 := hide (fits_any a n c m.toNat l (lend m.toNat l (nI s) n) pa1 pc1 _ w6 ((unhide HA).below (unhide HB6)) hQ1 f1)
    have HF2 : Hid (∀ W, Below w6.heap.size w6 W → Calls Try.prog 12 #[.slice a n c, .int .i64 ((m.toNat : Nat) : Int), .int .i64 (lend m.toNat l (nI g5) n), .slice pa2 (lpt m.toNat l (nI g5) n).length pc2] W fun e w' => e = .returned (.bool true) ∧ Below W.heap.size W w') := fun W hW => fits_any a n c m.toNat l (lend m.toNat l (nI g5) n) pa2 pc2 _ W ((unhide HA).below (below_step (unhide HB6) hW)) (hQ2.below hW) f2
    rw [show ((m.toNat : Nat) : Int) = m by omega] at HF1 HF2
    rw [lpt_len] at HF1 HF2
    have t1 := lend_ge (unhide HG) (goodR_re (unhide HRES))
    have t2 := lend_ge (unhide HG) (goodR_re (unhide HRE5))
    have t3 := graham_one (unhide HG) (goodR_re (unhide HRES))
    have t4 := graham_two (unhide HG) (unhide HRE5) (unhide HRES) (unhide HSR5)
    have t5 := (lld_bd (M := m.toNat) (unhide HG) (goodR_re (unhide HRES)) n (Nat.le_refl _)).2
    have t6 := (lld_bd (M := m.toNat) (unhide HG) (goodR_re (unhide HRE5)) n (Nat.le_refl _)).2
    have t7 := mcE_bd (unhide HG)
    obtain ⟨Bv, hBv⟩ : ∃ A, lend m.toNat l (nI g5) n = A := ⟨_, rfl⟩
    rw [hBv] at t2 t4 t6 HF2
    rw [hBv]
    rw [unhide HAE] at t1 t3 t4 t5 HF1
    rw [unhide HEE] at t1 t2 t3 t7
    have m1 := mul_i64 t5.1 (by omega) (show 0 ≤ m by omega) (by omega)
    obtain ⟨p1, hp1⟩ : ∃ p, A * m = p := ⟨_, rfl⟩
    rw [hp1] at t3
    have m1' : IntKind.i64.wrap (A * m) = p1 := by rw [m1]; exact hp1
    obtain ⟨d2, hd2⟩ : ∃ p, 2 * m = p := ⟨_, rfl⟩
    obtain ⟨d2', hd2'⟩ : ∃ p, d2 - 1 = p := ⟨_, rfl⟩
    have m2' : IntKind.i64.wrap (2 * m) = d2 := by rw [IntKind.wrap_i64]; omega
    have m3' : IntKind.i64.wrap (d2 - 1) = d2' := by rw [IntKind.wrap_i64]; omega
    rw [hd2, hd2'] at t3
    obtain ⟨p2, hp2⟩ : ∃ p, E * d2' = p := ⟨_, rfl⟩
    have m4' : IntKind.i64.wrap (E * d2') = p2 := by rw [mul_i64 t7.1 (by omega) (show 0 ≤ d2' by omega) (by omega)]; exact hp2
    rw [hp2] at t3
    obtain ⟨b3', hb3'⟩ : ∃ p, 3 * Bv = p := ⟨_, rfl⟩
    have m5' : IntKind.i64.wrap (3 * Bv) = b3' := by rw [IntKind.wrap_i64]; omega
    rw [hb3'] at t4
    obtain ⟨p3, hp3⟩ : ∃ p, b3' * m = p := ⟨_, rfl⟩
    have m6' : IntKind.i64.wrap (b3' * m) = p3 := by
      have h1 := Int.mul_le_mul_of_nonneg_right (show b3' ≤ 1000000000000 by omega) (show 0 ≤ m by omega)
      have h2 := Int.mul_nonneg (show 0 ≤ b3' by omega) (show 0 ≤ m by omega)
      rw [IntKind.wrap_i64]; omega
    rw [hp3] at t4
    obtain ⟨d4, hd4⟩ : ∃ p, 4 * m = p := ⟨_, rfl⟩
    obtain ⟨d4', hd4'⟩ : ∃ p, d4 - 1 = p := ⟨_, rfl⟩
    have m7' : IntKind.i64.wrap (4 * m) = d4 := by rw [IntKind.wrap_i64]; omega
    have m8' : IntKind.i64.wrap (d4 - 1) = d4' := by rw [IntKind.wrap_i64]; omega
    rw [hd4, hd4'] at t4
    obtain ⟨p4, hp4⟩ : ∃ p, A * d4' = p := ⟨_, rfl⟩
    have m9' : IntKind.i64.wrap (A * d4') = p4 := by rw [mul_i64 t5.1 (by omega) (show 0 ≤ d4' by omega) (by omega)]; exact hp4
    rw [hp4] at t4
    clear hb6 hO6 hQ1 hQ2 f1 f2 hBv m1 hp1 hd2 hd2' hp2 hb3' hp3 hd4 hd4' hp4 t5 t6 t7 HL2 HQ1
    go_wp2_with fail
    refine (unhide HF1).mono ?_
    rintro e w7 ⟨rfl, hb7⟩
    have HF2' := hide (unhide HF2 w7 hb7)
    have HB7 := hide (below_step (unhide HB6) hb7)
    clear hb7 HF2 HF1
    go_wp2_with fail
    refine (unhide HF2').mono ?_
    rintro e w8 ⟨rfl, hb8⟩
    have HB8 := hide (below_step (unhide HB7) hb8)
    clear hb8 HF2'
    go_wp2
    go_ret
    exact ⟨rfl, unhide HB8⟩
end Go.Proofs.Ytepgdlgifempeaa
