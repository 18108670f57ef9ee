/- LineOrder, LineEnds, LineCosts: their walks. -/
import Derived.Test.YtmpigipeajdgcaaDoorL21
namespace Go.Proofs.YtmpigipeajdgcaaDoor
open Go.RowKit Go.Sort

theorem tellV (k : Int) (w : World) (hg : ErrTy w) : Calls Tryd.prog 10 #[errV k] w fun e w' => e = .returned (.int .i64 k) ∧ Below w.heap.size w w' := by
  by_cases h : k = 0
  · subst h
    refine (tell_nil w).mono ?_
    rintro e w' ⟨rfl, rfl⟩
    exact ⟨rfl, Below.refl _ _⟩
  · rw [errV_not h]
    exact tell_errno k w hg

set_option maxHeartbeats 8000000 in
set_option maxRecDepth 100000 in
theorem lineOrder_any (a : Option Addr) (n c : Nat) (f : Nat → T3) (ra : Option Addr) (len rc : Nat) (r : Nat → Int) (x : Int) (w : World) (het : ErrTy w) (ha : TRow w a n c f) (hr : IRow w ra len rc r) :
    Calls Tryd.prog 3 #[.slice a n c, .slice ra len rc, .int .i64 x] w fun e w' => e = .returned (.bool true) ∧ Below w.heap.size w w' := by
  have b1 := ha.1
  have b2 := ha.2.1
  have b3 := hr.1
  have b4 := hr.2.1
  by_cases h1 : 100 < n
  · have e1 : (100 : Int) < (n : Int) := by omega
    clear ha hr
    go_enter Tryd.func3, Tryd.ntmps3
    go_wp2
    go_ret
    exact ⟨rfl, Below.refl _ _⟩
  have e1 : ¬ (100 : Int) < (n : Int) := by omega
  by_cases h2 : 100 < len
  · have e2 : (100 : Int) < (len : Int) := by omega
    clear ha hr
    go_enter Tryd.func3, Tryd.ntmps3
    go_wp2
    go_ret
    exact ⟨rfl, Below.refl _ _⟩
  have e2 : ¬ (100 : Int) < (len : Int) := by omega
  have HA := hide ha
  have HR := hide hr
  have HE := hide het
  have C1 := hide (check_any a n c f w ha)
  obtain ⟨k, hk⟩ : ∃ k, tcode n f = k := ⟨_, rfl⟩
  have HK := hide hk
  have q1 : (k == k) = true := by simp
  rw [hk] at C1
  clear ha hr het hk
  go_enter Tryd.func3, Tryd.ntmps3
  go_wp2_with fail
  refine (unhide C1).mono ?_
  rintro e w1 ⟨rfl, hb1⟩
  have HB1 := hide hb1
  have C2 := hide (tellV k w1 ((unhide HE).below hb1))
  obtain ⟨V, hV⟩ : ∃ V, errV k = V := ⟨_, rfl⟩
  rw [hV] at C2 ⊢
  clear hb1 C1 hV
  go_wp2_with fail
  refine (unhide C2).mono ?_
  rintro e w2 ⟨rfl, hb2⟩
  have HB2 := hide (below_step (unhide HB1) hb2)
  have C3 := hide (tasks_any a n c f w2 ((unhide HA).below (unhide HB2)) (by omega))
  clear hb2 C2
  go_wp2_with fail
  refine (unhide C3).mono ?_
  rintro e w3 ⟨aj, cj, rfl, htj, hb3⟩
  have HB3 := hide (below_step (unhide HB2) hb3)
  have C4 := hide (rcheck_any aj n cj f w3 htj)
  rw [unhide HK] at C4
  have q3 := htj.1
  have q4 := htj.2.1
  clear hb3 htj C3
  go_wp2_with fail
  refine (unhide C4).mono ?_
  rintro e w4 ⟨rfl, hb4⟩
  have HB4 := hide (below_step (unhide HB3) hb4)
  have C5 := hide (order_any ra len rc r x w4 ((unhide HR).below (unhide HB4)) (by omega))
  obtain ⟨m, hm⟩ : ∃ m, ocode r len x = m := ⟨_, rfl⟩
  have HM := hide hm
  have q2 : (m == m) = true := by simp
  rw [hm] at C5
  clear hb4 C4 hm
  go_wp2_with fail
  refine (unhide C5).mono ?_
  rintro e w5 ⟨rfl, hb5⟩
  have HB5 := hide (below_step (unhide HB4) hb5)
  have C6 := hide (tellV m w5 ((unhide HE).below (unhide HB5)))
  obtain ⟨V2, hV2⟩ : ∃ V, errV m = V := ⟨_, rfl⟩
  rw [hV2] at C6 ⊢
  clear hb5 C5 hV2
  go_wp2_with fail
  refine (unhide C6).mono ?_
  rintro e w6 ⟨rfl, hb6⟩
  have HB6 := hide (below_step (unhide HB5) hb6)
  have C7 := hide (rorder_any ra len rc r x w6 ((unhide HR).below (unhide HB6)) (by omega))
  rw [unhide HM] at C7
  clear hb6 C6
  go_wp2_with fail
  refine (unhide C7).mono ?_
  rintro e w7 ⟨rfl, hb7⟩
  have HB7 := hide (below_step (unhide HB6) hb7)
  clear hb7 C7
  go_wp2
  go_ret
  exact ⟨rfl, unhide HB7⟩

set_option maxHeartbeats 8000000 in
set_option maxRecDepth 100000 in
theorem lineEnds_any (a : Option Addr) (n c : Nat) (f : Nat → T3) (ra : Option Addr) (len rc : Nat) (r : Nat → Int) (w : World) (het : ErrTy w) (ha : TRow w a n c f) (hr : IRow w ra len rc r) :
    Calls Tryd.prog 4 #[.slice a n c, .slice ra len rc] w fun e w' => e = .returned (.bool true) ∧ Below w.heap.size w w' := by
  have b1 := ha.1
  have b2 := ha.2.1
  have b3 := hr.1
  have b4 := hr.2.1
  by_cases h1 : 100 < n
  · have e1 : (100 : Int) < (n : Int) := by omega
    clear ha hr
    go_enter Tryd.func4, Tryd.ntmps4
    go_wp2
    go_ret
    exact ⟨rfl, Below.refl _ _⟩
  have e1 : ¬ (100 : Int) < (n : Int) := by omega
  by_cases h2 : 100 < len
  · have e2 : (100 : Int) < (len : Int) := by omega
    clear ha hr
    go_enter Tryd.func4, Tryd.ntmps4
    go_wp2
    go_ret
    exact ⟨rfl, Below.refl _ _⟩
  have e2 : ¬ (100 : Int) < (len : Int) := by omega
  have HA := hide ha
  have HR := hide hr
  have HE := hide het
  have C1 := hide (tasks_any a n c f w ha (by omega))
  clear ha hr het
  go_enter Tryd.func4, Tryd.ntmps4
  go_wp2_with fail
  refine (unhide C1).mono ?_
  rintro e w1 ⟨aj, cj, rfl, htj, hb1⟩
  have HB1 := hide hb1
  have C2 := hide (rends_any aj n cj f ra len rc r w1 htj ((unhide HR).below hb1) (by omega))
  have q3 := htj.1
  have q4 := htj.2.1
  clear hb1 htj C1
  go_wp2_with fail
  refine (unhide C2).mono ?_
  rintro e w2 ⟨hb2, hp⟩
  have HB2 := hide (below_step (unhide HB1) hb2)
  have C3 := hide (ends_any a n c f ra len rc r w2 ((unhide HA).below (unhide HB2)) ((unhide HR).below (unhide HB2)) (by omega))
  rcases hp with ⟨h, rfl⟩ | ⟨h, G, hG, rfl, hO⟩
  · obtain ⟨k, hk⟩ : ∃ k, ecode n f r len = k := ⟨_, rfl⟩
    rw [hk] at h ⊢
    have HK := hide hk
    have HN := hide h
    clear hk h hb2 C2
    go_wp2_with fail
    refine (unhide C3).mono ?_
    rintro e w3 ⟨hb3, hp⟩
    rcases hp with ⟨_, rfl⟩ | ⟨h, _⟩
    · rw [unhide HK]
      have HB3 := hide (below_step (unhide HB2) hb3)
      have C4 := hide (ints_bad k (unhide HN) w3 ((unhide HE).below (unhide HB3)))
      clear hb3 C3
      go_wp2_with fail
      refine (unhide C4).mono ?_
      rintro e w4 ⟨rfl, hb4⟩
      have HB4 := hide (below_step (unhide HB3) hb4)
      clear hb4 C4
      go_wp2
      go_ret
      exact ⟨rfl, unhide HB4⟩
    · exact absurd ((unhide HK).symm.trans h) (unhide HN)
  · have HK := hide h
    have HO := hide hO
    have hnb : n ≤ 9223372036854775807 := by omega
    clear h hb2 C2 hO hG
    go_wp2_with fail
    refine (unhide C3).mono ?_
    rintro e w3 ⟨hb3, hp⟩
    rcases hp with ⟨h, _⟩ | ⟨_, G', hG', rfl, hO'⟩
    · exact absurd (unhide HK) h
    · have HB3 := hide (below_step (unhide HB2) hb3)
      have C4 := hide (ints_good (some ⟨G', 0, none⟩) (some ⟨G, 0, none⟩) n n n (endR f r n) w3 (hO'.irow hnb) (((unhide HO).keep hb3).irow hnb))
      clear hb3 C3 hO' hG'
      go_wp2_with fail
      refine (unhide C4).mono ?_
      rintro e w4 ⟨rfl, hb4⟩
      have HB4 := hide (below_step (unhide HB3) hb4)
      clear hb4 C4
      go_wp2
      go_ret
      exact ⟨rfl, unhide HB4⟩

set_option maxHeartbeats 8000000 in
set_option maxRecDepth 100000 in
theorem lineCosts_any (a : Option Addr) (n c : Nat) (f : Nat → T3) (ra : Option Addr) (len rc : Nat) (r : Nat → Int) (w : World) (het : ErrTy w) (ha : TRow w a n c f) (hr : IRow w ra len rc r) :
    Calls Tryd.prog 5 #[.slice a n c, .slice ra len rc] w fun e w' => e = .returned (.bool true) ∧ Below w.heap.size w w' := by
  have b1 := ha.1
  have b2 := ha.2.1
  have b3 := hr.1
  have b4 := hr.2.1
  by_cases h1 : 100 < n
  · have e1 : (100 : Int) < (n : Int) := by omega
    clear ha hr
    go_enter Tryd.func5, Tryd.ntmps5
    go_wp2
    go_ret
    exact ⟨rfl, Below.refl _ _⟩
  have e1 : ¬ (100 : Int) < (n : Int) := by omega
  by_cases h2 : 100 < len
  · have e2 : (100 : Int) < (len : Int) := by omega
    clear ha hr
    go_enter Tryd.func5, Tryd.ntmps5
    go_wp2
    go_ret
    exact ⟨rfl, Below.refl _ _⟩
  have e2 : ¬ (100 : Int) < (len : Int) := by omega
  have HA := hide ha
  have HR := hide hr
  have HE := hide het
  have C1 := hide (tasks_any a n c f w ha (by omega))
  clear ha hr het
  go_enter Tryd.func5, Tryd.ntmps5
  go_wp2_with fail
  refine (unhide C1).mono ?_
  rintro e w1 ⟨aj, cj, rfl, htj, hb1⟩
  have HB1 := hide hb1
  have C2 := hide (rcounts_any aj n cj f ra len rc r w1 htj ((unhide HR).below hb1) (by omega))
  have q3 := htj.1
  have q4 := htj.2.1
  clear hb1 htj C1
  go_wp2_with fail
  refine (unhide C2).mono ?_
  rintro e w2 ⟨hb2, hp⟩
  have HB2 := hide (below_step (unhide HB1) hb2)
  have C3 : Hid (∀ W, Below w.heap.size w W → Calls Tryd.prog 20 #[.slice a n c, .slice ra len rc] W (CntPost W n f r len (costV f r n))) := fun W hW => cost_any a n c f ra len rc r W ((unhide HA).below hW) ((unhide HR).below hW) (by omega)
  have C4 : Hid (∀ W, Below w.heap.size w W → Calls Tryd.prog 21 #[.slice a n c, .slice ra len rc] W (CntPost W n f r len (lateV f r n))) := fun W hW => late_any a n c f ra len rc r W ((unhide HA).below hW) ((unhide HR).below hW) (by omega)
  have C5 : Hid (∀ W, Below w.heap.size w W → Calls Tryd.prog 22 #[.slice a n c, .slice ra len rc] W (CntPost W n f r len (tardyV f r n))) := fun W hW => tardy_any a n c f ra len rc r W ((unhide HA).below hW) ((unhide HR).below hW) (by omega)
  rcases hp with ⟨h, rfl⟩ | ⟨h, rfl⟩
  · obtain ⟨k, hk⟩ : ∃ k, ecode n f r len = k := ⟨_, rfl⟩
    have D3 := hide (unhide C3 w2 (unhide HB2))
    have HBAD : Hid (∀ W, Below w.heap.size w W → Calls Tryd.prog 23 #[.int .i64 0, .iface 24 (.int .i64 k), .int .i64 0, .int .i64 k] W fun e w' => e = .returned (.bool true) ∧ Below W.heap.size W w') := fun W hW => whole_bad 0 k (by rw [← hk]; exact h) W ((unhide HE).below hW)
    rw [hk]
    have HK := hide hk
    have HN := hide h
    clear hk h hb2 C2
    go_wp2_with fail
    refine (unhide D3).mono ?_
    rintro e w3 ⟨hb3, hp⟩
    rcases hp with ⟨_, rfl⟩ | ⟨h, _⟩
    case inr => exact absurd h (unhide HN)
    have HB3 := hide (below_step (unhide HB2) hb3)
    have D4 := hide (unhide C4 w3 (unhide HB3))
    rw [unhide HK]
    clear hb3 D3
    go_wp2_with fail
    refine (unhide D4).mono ?_
    rintro e w4 ⟨hb4, hp⟩
    rcases hp with ⟨_, rfl⟩ | ⟨h, _⟩
    case inr => exact absurd h (unhide HN)
    have HB4 := hide (below_step (unhide HB3) hb4)
    have D5 := hide (unhide C5 w4 (unhide HB4))
    rw [unhide HK]
    clear hb4 D4
    go_wp2_with fail
    refine (unhide D5).mono ?_
    rintro e w5 ⟨hb5, hp⟩
    rcases hp with ⟨_, rfl⟩ | ⟨h, _⟩
    case inr => exact absurd h (unhide HN)
    have HB5 := hide (below_step (unhide HB4) hb5)
    have D6 := hide (unhide HBAD w5 (unhide HB5))
    rw [unhide HK]
    clear hb5 D5
    go_wp2_with fail
    refine (unhide D6).mono ?_
    rintro e w6 ⟨rfl, hb6⟩
    have HB6 := hide (below_step (unhide HB5) hb6)
    have D7 := hide (unhide HBAD w6 (unhide HB6))
    clear hb6 D6
    go_wp2_with fail
    refine (unhide D7).mono ?_
    rintro e w7 ⟨rfl, hb7⟩
    have HB7 := hide (below_step (unhide HB6) hb7)
    have D8 := hide (unhide HBAD w7 (unhide HB7))
    clear hb7 D7
    go_wp2_with fail
    refine (unhide D8).mono ?_
    rintro e w8 ⟨rfl, hb8⟩
    have HB8 := hide (below_step (unhide HB7) hb8)
    clear hb8 D8
    go_wp2
    go_ret
    exact ⟨rfl, unhide HB8⟩
  · have D3 := hide (unhide C3 w2 (unhide HB2))
    obtain ⟨v1, hv1⟩ : ∃ v, costV f r n = v := ⟨_, rfl⟩
    obtain ⟨v2, hv2⟩ : ∃ v, lateV f r n = v := ⟨_, rfl⟩
    obtain ⟨v3, hv3⟩ : ∃ v, tardyV f r n = v := ⟨_, rfl⟩
    rw [hv1, hv2, hv3]
    rw [hv1] at D3
    rw [hv2] at C4
    rw [hv3] at C5
    have HGOOD : Hid (∀ x W, Calls Tryd.prog 23 #[.int .i64 x, .nilIface, .int .i64 x, .int .i64 0] W fun e w' => e = .returned (.bool true) ∧ Below W.heap.size W w') := whole_good
    have HN := hide h
    clear h hb2 C2 hv1 hv2 hv3
    go_wp2_with fail
    refine (unhide D3).mono ?_
    rintro e w3 ⟨hb3, hp⟩
    rcases hp with ⟨h, _⟩ | ⟨_, rfl⟩
    · exact absurd (unhide HN) h
    have HB3 := hide (below_step (unhide HB2) hb3)
    have D4 := hide (unhide C4 w3 (unhide HB3))
    clear hb3 D3
    go_wp2_with fail
    refine (unhide D4).mono ?_
    rintro e w4 ⟨hb4, hp⟩
    rcases hp with ⟨h, _⟩ | ⟨_, rfl⟩
    · exact absurd (unhide HN) h
    have HB4 := hide (below_step (unhide HB3) hb4)
    have D5 := hide (unhide C5 w4 (unhide HB4))
    clear hb4 D4
    go_wp2_with fail
    refine (unhide D5).mono ?_
    rintro e w5 ⟨hb5, hp⟩
    rcases hp with ⟨h, _⟩ | ⟨_, rfl⟩
    · exact absurd (unhide HN) h
    have HB5 := hide (below_step (unhide HB4) hb5)
    have D6 := hide (unhide HGOOD v1 w5)
    clear hb5 D5
    go_wp2_with fail
    refine (unhide D6).mono ?_
    rintro e w6 ⟨rfl, hb6⟩
    have HB6 := hide (below_step (unhide HB5) hb6)
    have D7 := hide (unhide HGOOD v2 w6)
    clear hb6 D6
    go_wp2_with fail
    refine (unhide D7).mono ?_
    rintro e w7 ⟨rfl, hb7⟩
    have HB7 := hide (below_step (unhide HB6) hb7)
    have D8 := hide (unhide HGOOD v3 w7)
    clear hb7 D7
    go_wp2_with fail
    refine (unhide D8).mono ?_
    rintro e w8 ⟨rfl, hb8⟩
    have HB8 := hide (below_step (unhide HB7) hb8)
    clear hb8 D8
    go_wp2
    go_ret
    exact ⟨rfl, unhide HB8⟩
end Go.Proofs.YtmpigipeajdgcaaDoor
