/- ShopHu. -/
import Derived.Test.YtepgdlgifempeaaDoorZ14
namespace Go.Proofs.YtepgdlgifempeaaDoor
open Go.RowKit Go.Sort Stb Hux

theorem lo_lv {nx : Nat → Int} {n x y : Nat} (h : Lv (lv nx n) x y) : Lo (ltc (fun i k => cmpI (lvI nx n k) (lvI nx n i))) x y := by
  unfold Lo
  rw [lg_key, lg_key]
  unfold lvI
  rcases h with h | h
  · exact Or.inl (decide_eq_true (by omega))
  · exact Or.inr ⟨decide_eq_false (by omega), h.2⟩

set_option maxHeartbeats 8000000 in
set_option maxRecDepth 100000 in
set_option linter.unusedSimpArgs false in
theorem shopHu_any (a : Option Addr) (n c : Nat) (nx : Nat → Int) (m : Int) (w : World) (het : ErrTy w) (ha : IRow w a n c nx) :
    Calls Tryd.prog 8 #[.slice a n c, .int .i64 m] w fun e w' => e = .returned (.bool true) ∧ Below w.heap.size w w' := by
  have b1 := ha.1
  have b2 := ha.2.1
  by_cases h1 : 100 < n
  · have e1 : (100 : Int) < (n : Int) := by omega
    clear ha
    go_enter Tryd.func8, Tryd.ntmps8
    go_wp2
    go_ret
    exact ⟨rfl, Below.refl _ _⟩
  have e1 : ¬ (100 : Int) < (n : Int) := by omega
  obtain ⟨Q0, hp0, hs0⟩ := row_ex (lv nx n) n
  have HE := hide het
  have C1 := hide (rhu_any a n c nx m w ha Q0 hp0 hs0)
  have C3 : Hid (∀ W, Below w.heap.size w W → Calls Tryd.prog 27 #[.slice a n c, .int .i64 m] W (HuPost W n nx m)) := fun W hW => hu_any a n c nx m W (ha.below hW)
  have HQ : Hid (Q0.Perm (List.range n) ∧ Q0.Pairwise (Lo (ltc (fun i k => cmpI (lvI nx n k) (lvI nx n i))))) := ⟨hp0, hs0.imp lo_lv⟩
  clear ha het hp0 hs0
  by_cases hz : hcode n nx m = 0
  case neg =>
    obtain ⟨k, hk⟩ : ∃ k, hcode n nx m = k := ⟨_, rfl⟩
    have hz : k ≠ 0 := by rw [← hk]; exact hz
    have HK := hide hk
    have HT := hide hz
    clear hk hz
    go_enter Tryd.func8, Tryd.ntmps8
    go_wp2_with fail
    refine (unhide C1).mono ?_
    rintro e w1 ⟨hb1, hp⟩
    have he : e = .returned (.tuple #[.slice none 0 0, .int .i64 k]) := by
      rcases hp with ⟨_, h⟩ | ⟨h, _⟩
      · rw [h, unhide HK]
      · exact absurd (h.symm.trans (unhide HK)) (fun e => unhide HT e.symm)
    subst he
    have C3' := hide (unhide C3 w1 hb1)
    have HB1 := hide hb1
    clear hp hb1 C1 C3
    go_wp2_with fail
    refine (unhide C3').mono ?_
    rintro e w2 ⟨hb2, hp⟩
    have he : e = .returned (.tuple #[.slice none 0 0, .iface 26 (.int .i64 k)]) := by
      rcases hp with ⟨_, h⟩ | ⟨h, _⟩
      · rw [h, unhide HK]
      · exact absurd (h.symm.trans (unhide HK)) (fun e => unhide HT e.symm)
    subst he
    clear hp
    have HB2 := hide (below_step (unhide HB1) hb2)
    have C4 := hide (ints_bad k (unhide HT) w2 ((unhide HE).below (unhide HB2)))
    clear hb2 C3'
    go_wp2_with fail
    refine (unhide C4).mono ?_
    rintro e w3 ⟨rfl, hb3⟩
    have HB3 := hide (below_step (unhide HB2) hb3)
    clear hb3 C4
    go_wp2
    go_ret
    exact ⟨rfl, unhide HB3⟩
  · have HZ := hide hz
    clear hz
    go_enter Tryd.func8, Tryd.ntmps8
    go_wp2_with fail
    refine (unhide C1).mono ?_
    rintro e w1 ⟨hb1, hp⟩
    rcases hp with ⟨h, _⟩ | ⟨_, G, _, rfl, hO⟩
    · exact absurd (unhide HZ) h
    have C3' := hide (unhide C3 w1 hb1)
    have HB1 := hide hb1
    have HO := hide hO
    clear hO hb1 C1 C3
    go_wp2_with fail
    refine (unhide C3').mono ?_
    rintro e w2 ⟨hb2, hp⟩
    rcases hp with ⟨h, _⟩ | ⟨_, G', T, _, rfl, hO', hI⟩
    · exact absurd (unhide HZ) h
    have HB2 := hide (below_step (unhide HB1) hb2)
    have hF : T = hur nx m.toNat n 0 Q0 (fun _ => 0) := by
      obtain ⟨g, hre, hsr, hT⟩ := hI.run
      rw [hT, rows_one wo_g hre hsr (unhide HQ).1 (unhide HQ).2]
    rw [← hF] at HO
    have hO2 := (unhide HO).keep hb2
    have C4 := hide (ints_good (some ⟨G', 0, none⟩) (some ⟨G, 0, none⟩) n n n (nI T) w2 (hO'.irow (by omega)) (hO2.irow (by omega)))
    clear hb2 hO' hI hF hO2 HO C3'
    go_wp2_with fail
    refine (unhide C4).mono ?_
    rintro e w3 ⟨rfl, hb3⟩
    have HB3 := hide (below_step (unhide HB2) hb3)
    clear hb3 C4
    go_wp2
    go_ret
    exact ⟨rfl, unhide HB3⟩
end Go.Proofs.YtepgdlgifempeaaDoor
