/- Moore and Hodgson: the walk of the law. -/
import Derived.Test.YtmpigipeajdgcaaL15
namespace Go.Proofs.Ytmpigipeajdgcaa
open Go.RowKit Go.Sort Stb

theorem ecode_good {n : Nat} {f : Nat → T3} {r : Nat → Int} (ht : tcode n f = 0) (h : GoodR n r) : ecode n f r n = 0 := by
  unfold ecode
  rw [if_neg (by rw [ht]; decide)]
  unfold ocode
  rw [if_neg (by simp)]
  exact oc_of_good h n (Nat.le_refl _)

set_option maxHeartbeats 8000000 in
set_option maxRecDepth 100000 in
set_option linter.unusedSimpArgs false in
theorem lineMoored_any (a : Option Addr) (n c : Nat) (f : Nat → T3) (ma : Option Addr) (mn mc : Nat) (mf : Nat → Int) (w : World) (ha : TRow w a n c f) (hm : IRow w ma mn mc mf) :
    Calls Try.prog 5 #[.slice a n c, .slice ma mn mc] w fun e w' => e = .returned (.bool true) ∧ Below w.heap.size w w' := by
  have b1 := ha.1
  have b2 := ha.2.1
  have b3 := hm.1
  have b4 := hm.2.1
  by_cases h1 : 40 < n
  · have e1 : (40 : Int) < (n : Int) := by omega
    clear ha hm
    go_enter Try.func5, Try.ntmps5
    go_wp2
    go_ret
    exact ⟨rfl, Below.refl _ _⟩
  have e1 : ¬ (40 : Int) < (n : Int) := by omega
  by_cases h2 : 100 < mn
  · have e2 : (100 : Int) < (mn : Int) := by omega
    clear ha hm
    go_enter Try.func5, Try.ntmps5
    go_wp2
    go_ret
    exact ⟨rfl, Below.refl _ _⟩
  have e2 : ¬ (100 : Int) < (mn : Int) := by omega
  have HA := hide ha
  have HM := hide hm
  have HC : Hid (Calls Try.prog 13 #[.slice a n c] w (LRow w n f (fun L => ∃ g, Re 0 n id g ∧ Sr (ltc (fun i k => jcmp (f i) (f k))) g 0 n ∧ L = mrow f ((List.range n).map g)))) := moore_any a n c f w ha
  have HD : Hid (∀ W, Calls Try.prog 8 #[] W fun e w' => e = .returned (.bool true) ∧ Below W.heap.size W w') := done_any
  clear ha hm
  go_enter Try.func5, Try.ntmps5
  go_wp2_with fail
  refine (unhide HC).mono ?_
  rintro e w1 ⟨hb1, hp⟩
  rcases hp with ⟨ht, rfl⟩ | ⟨ht, va, rc, L, rfl, hR, hre, g, hg, hsr, hLg⟩
  · have HB := hide hb1
    clear hb1 HC
    generalize tcode n f = k at ht ⊢
    clear ht
    go_wp2_with fail
    refine (unhide HD w1).mono ?_
    rintro e w2 ⟨rfl, hb2⟩
    have HB2 := hide (below_step (unhide HB) hb2)
    clear hb2
    go_wp2_with fail
    refine (unhide HD w2).mono ?_
    rintro e w3 ⟨rfl, hb3⟩
    have HB3 := hide (below_step (unhide HB2) hb3)
    clear hb3
    go_wp2
    go_ret
    exact ⟨rfl, unhide HB3⟩
  · have HB := hide hb1
    have HT := hide ht
    have HR := hide hR
    have HRE := hide hre
    have HGG := hide hg
    have HSR := hide hsr
    have HLG := hide hLg
    clear hb1 ht hR hre hg hsr hLg HC
    go_wp2_with fail
    refine (unhide HD w1).mono ?_
    rintro e w2 ⟨rfl, hb2⟩
    have HB12 := hide hb2
    have HB2 := hide (below_step (unhide HB) hb2)
    have HC1 := hide (tardy_any a n c f va n rc (lI L) w2 ((unhide HA).below (unhide HB2)) ((unhide HR).below hb2) (by omega))
    clear hb2
    go_wp2_with fail
    refine (unhide HC1).mono ?_
    rintro e w3 ⟨hb3, hp⟩
    rcases hp with ⟨h, _⟩ | ⟨_, rfl⟩
    · exact absurd (ecode_good (unhide HT) (goodR_perm (unhide HRE))) h
    have HB3 := hide (below_step (unhide HB2) hb3)
    have HS := hide (shuffled_any n ma mn mc mf w3 (by omega) ((unhide HM).below (unhide HB3)) (by omega))
    obtain ⟨v1, hv1⟩ : ∃ v, tardyV f (lI L) n = v := ⟨_, rfl⟩
    rw [hv1]
    have HV1 := hide hv1
    clear hb3 HC1 hv1
    go_wp2_with fail
    refine (unhide HS).mono ?_
    rintro e w4 ⟨G, s, hG, rfl, hO, hres, hb4⟩
    have HB4 := hide (below_step (unhide HB3) hb4)
    have HRES := hide hres
    have HC2 := hide (tardy_any a n c f (some ⟨G, 0, none⟩) n n (nI s) w4 ((unhide HA).below (unhide HB4)) (hO.irow (by omega)) (by omega))
    clear hb4 hO hres hG HS
    go_wp2_with fail
    refine (unhide HC2).mono ?_
    rintro e w5 ⟨hb5, hp⟩
    rcases hp with ⟨h, _⟩ | ⟨_, rfl⟩
    · exact absurd (ecode_re (unhide HT) (unhide HRES)) h
    have HB5 := hide (below_step (unhide HB4) hb5)
    obtain ⟨v2, hv2⟩ : ∃ v, tardyV f (nI s) n = v := ⟨_, rfl⟩
    rw [hv2]
    have hle : v1 ≤ v2 := by
      rw [← unhide HV1, ← hv2]
      rw [unhide HLG]
      exact moore_least (goodT_of (unhide HT)) (unhide HGG) (unhide HRES) (unhide HSR)
    clear hb5 HC2 hv2
    go_wp2
    go_ret
    exact ⟨rfl, unhide HB5⟩

end Go.Proofs.Ytmpigipeajdgcaa
