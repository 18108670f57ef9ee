/- The document's LotsPlan, and the law's walk. -/
import Derived.Test.YtbbmhidnakghfaaDoorG12
namespace Go.Proofs.YtbbmhidnakghfaaDoor
open Go.RowKit Go.Sort

def RPl (n : Nat) (N : Lot.Nd) (w : World) (e : Ending) (w' : World) : Prop := ∃ pa pc, e = .returned (.tuple #[.slice pa n pc, .int .i64 (Lot.L N n)]) ∧ IRow w' pa n pc (Lot.pln N n) ∧ Below w.heap.size w w'
theorem prow_irow {gw : Nat} {W : World} {pa : Option Addr} {n pc : Nat} {f f' : Nat → Int} (h : PRow gw W pa n f) (h1 : n ≤ pc) (h2 : pc ≤ 9223372036854775807) (he : ∀ i, i < n → f i = f' i) : IRow W pa n pc f' :=
  ⟨h1, h2, fun hn => by
    obtain ⟨b, e, _, h3, h4⟩ := h hn
    exact ⟨b, 0, e, h3, fun j hj => by rw [Nat.zero_add, h4 j hj, he j hj]⟩⟩
set_option maxHeartbeats 16000000 in
set_option maxRecDepth 100000 in
theorem rplan_any (wa : Option Addr) (wd : Nat) (oa : Option Addr) (od : Nat) (ka : Option Addr) (kd : Nat) (fW fO fK : Nat → Int) (n : Nat) (w : World) (hw : IRow w wa n wd fW) (ho : IRow w oa n od fO) (hk : IRow w ka n kd fK) (hcode : ncode n n n fW fO fK = 0) :
    Calls Tryd.prog 11 #[.agg #[.slice wa n wd, .slice oa n od, .slice ka n kd]] w (RPl n (ndOf n fW fO fK) w) := by
  have h50 : n ≤ 50 := (ncode_zero hcode).2.2.few
  have hgood := (ncode_zero hcode).2.2
  have q1 := hw.1
  have q2 := hw.2.1
  have x1 := heap_alloc_new w (.cells #[.slice wa n wd, .slice oa n od, .slice ka n kd] 25)
  have b1 := alloc_below w (.cells #[.slice wa n wd, .slice oa n od, .slice ka n kd] 25)
  obtain ⟨W1, hW1⟩ : ∃ W, w.alloc (.cells #[.slice wa n wd, .slice oa n od, .slice ka n kd] 25) = W := ⟨_, rfl⟩
  obtain ⟨g, hg⟩ : ∃ g, w.heap.size = g := ⟨_, rfl⟩
  rw [hW1] at x1 b1
  rw [hg] at x1
  have x2 := heap_alloc_new W1 (.cells #[.int .i64 (-1)] 3)
  have b2 := alloc_below W1 (.cells #[.int .i64 (-1)] 3)
  obtain ⟨W2, hW2⟩ : ∃ W, W1.alloc (.cells #[.int .i64 (-1)] 3) = W := ⟨_, rfl⟩
  obtain ⟨gb, hgb⟩ : ∃ g, W1.heap.size = g := ⟨_, rfl⟩
  rw [hW2] at x2 b2
  rw [hgb] at x2
  have x3 := heap_alloc_new W2 (.cells #[.slice none 0 0] 22)
  have b3 := alloc_below W2 (.cells #[.slice none 0 0] 22)
  obtain ⟨W3, hW3⟩ : ∃ W, W2.alloc (.cells #[.slice none 0 0] 22) = W := ⟨_, rfl⟩
  obtain ⟨gp, hgp⟩ : ∃ g, W2.heap.size = g := ⟨_, rfl⟩
  rw [hW3] at x3 b3
  rw [hgp] at x3
  have mk := make_ints n (by omega) W3
  have x4 := make_own W3 n
  have b4 := alloc_below W3 (.cells (lrow (fun _ => 0) n).toArray 3)
  obtain ⟨W4, hW4⟩ : ∃ W, W3.alloc (.cells (lrow (fun _ => 0) n).toArray 3) = W := ⟨_, rfl⟩
  obtain ⟨GO, hGO⟩ : ∃ g, W3.heap.size = g := ⟨_, rfl⟩
  rw [hW4] at mk x4 b4
  rw [hGO] at mk x4
  have x5 := heap_alloc_new W4 (.cells #[.slice (some ⟨GO, 0, none⟩) n n] 22)
  have b5 := alloc_below W4 (.cells #[.slice (some ⟨GO, 0, none⟩) n n] 22)
  obtain ⟨W5, hW5⟩ : ∃ W, W4.alloc (.cells #[.slice (some ⟨GO, 0, none⟩) n n] 22) = W := ⟨_, rfl⟩
  obtain ⟨gor, hgor⟩ : ∃ g, W4.heap.size = g := ⟨_, rfl⟩
  rw [hW5] at x5 b5
  rw [hgor] at x5
  have x6 := heap_alloc_new W5 (.cells #[.nilFunc] 50)
  have b6 := alloc_below W5 (.cells #[.nilFunc] 50)
  obtain ⟨W6, hW6⟩ : ∃ W, W5.alloc (.cells #[.nilFunc] 50) = W := ⟨_, rfl⟩
  obtain ⟨gw, hgw⟩ : ∃ g, W5.heap.size = g := ⟨_, rfl⟩
  rw [hW6] at x6 b6
  rw [hgw] at x6
  have hord : WOrd w g gb gp GO gor gw n := ⟨Nat.le_of_eq hg, by rw [← hgb]; exact blk_lt x1, by rw [← hgp]; exact blk_lt x2, by rw [← hGO]; exact blk_lt x3, by rw [← hgor]; exact x4.lt, by rw [← hgw]; exact blk_lt x5⟩
  have bl6 : Below w.heap.size w W6 := below_step (below_step (below_step (below_step (below_step b1 b2) b3) b4) b5) b6
  have y1 := blk_keep (blk_keep (blk_keep (blk_keep (blk_keep x1 b2) b3) b4) b5) b6
  have y2 := blk_keep (blk_keep (blk_keep (blk_keep x2 b3) b4) b5) b6
  have y3 := blk_keep (blk_keep (blk_keep x3 b4) b5) b6
  have y4 := (x4.keep b5).keep b6
  have y5 := blk_keep x5 b6
  have hS : WSt w (W6.setCell ⟨gw, 0, none⟩ (wkF g gor gb gp gw)) g gb gp GO gor gw n (.slice wa n wd) (.slice oa n od) (.slice ka n kd) (fun _ => 0) (-1, fun _ => 0) := by
    obtain ⟨o1, o2, o3, o4, o5, o6⟩ := hord
    exact ⟨bl6.setCell (p := ⟨gw, 0, none⟩) (by show w.heap.size ≤ gw; omega) _, blk_apart y1 (by omega), blk_apart y5 (by omega), y4.apart (by omega), blk_apart y2 (by omega), set_one x6, none, 0, 0, blk_apart y3 (by omega), Nat.le_refl _, by decide, fun h => absurd h (by decide)⟩
  obtain ⟨c0, c1, c2⟩ := cells3 x1
  have k1 := (cell1 x6).1
  have k2 := (cell1 x6).2
  have k3 := (cell1 hS.wlk).1
  have CW := hide (walk_any wa wd oa od ka kd fW fO fK g gb gp GO gor gw n w hw ho hk hcode hord n n (Nat.le_refl _) (Nat.le_refl _) (fun _ => 0) (-1, fun _ => 0) 0 _ hS (Lot.Tl.start (ndOf n fW fO fK) _) (Int.le_refl _) (fun _ _ => rfl))
  have hall := Lot.wk_all (N := ndOf n fW fO fK) (fun _ => 0)
  have HALL : Hid ((Lot.wk (ndOf n fW fO fK) (fun _ => 0) n 0 (-1, fun _ => 0)).1 = Lot.L (ndOf n fW fO fK) n ∧ ∀ i, i < n → (Lot.wk (ndOf n fW fO fK) (fun _ => 0) n 0 (-1, fun _ => 0)).2 i = Lot.pln (ndOf n fW fO fK) n i) := hall
  have HLN : Hid (0 ≤ Lot.L (ndOf n fW fO fK) n) := (Lot.L_nn hgood (Nat.le_refl _)).1
  obtain ⟨SS, hSS⟩ : ∃ S, Lot.wk (ndOf n fW fO fK) (fun _ => 0) n 0 (-1, fun _ => 0) = S := ⟨_, rfl⟩
  rw [hSS] at CW HALL
  clear hall hSS hS hord bl6 y1 y2 y3 y4 y5 x1 x2 x3 x4 x5 x6 b1 b2 b3 b4 b5 b6 hw ho hk hcode hgood
  unfold wkF at k3 CW
  go_enter Tryd.func11, Tryd.ntmps11
  go_wp2_with fail
  refine (unhide CW).mono ?_
  rintro e_ w8 ⟨rfl, hS8⟩
  obtain ⟨pa, pn, pc, hp1, hp2, hp3, hp4⟩ := hS8.pln
  have hL := (unhide HALL).1
  obtain ⟨rfl, hp5⟩ := hp4 (by rw [hL]; exact unhide HLN)
  have m1 := (cell1 hp1).1
  have m2 := (cell1 hS8.bst).1
  rw [hL] at m2
  have HFIN : Hid (∀ k, IRow (w8.drewN k) pa pn pc (Lot.pln (ndOf pn fW fO fK) pn) ∧ Below w.heap.size w (w8.drewN k)) := fun k => ⟨(prow_irow hp5 hp2 hp3 (unhide HALL).2).below (below_drewN _ _), below_step hS8.bl (below_drewN _ _)⟩
  obtain ⟨LL, hLL⟩ : ∃ x, Lot.L (ndOf pn fW fO fK) pn = x := ⟨_, rfl⟩
  rw [hLL] at m2
  have HLL := hide hLL
  clear hS8 hp1 hp4 hp5 hL hLL k1 k2 k3 CW mk c0 c1 c2 hW1 hW2 hW3 hW4 hW5 hW6 hg hgb hgp hGO hgor hgw
  go_wp2_with fail
  go_quiet (fail)
  go_wp2
  go_ret2
  exact ⟨pa, pc, by rw [unhide HLL]; rfl, (unhide HFIN _).1, (unhide HFIN _).2⟩

set_option maxHeartbeats 16000000 in
set_option maxRecDepth 100000 in
theorem lotsPlan_any (wa : Option Addr) (wn wd : Nat) (oa : Option Addr) (om od : Nat) (ka : Option Addr) (km kd : Nat) (fW fO fK : Nat → Int) (w : World) (het : ErrTy w) (hw : IRow w wa wn wd fW) (ho : IRow w oa om od fO) (hk : IRow w ka km kd fK) :
    Calls Tryd.prog 4 #[.slice wa wn wd, .slice oa om od, .slice ka km kd] w fun e w' => e = .returned (.bool true) ∧ Below w.heap.size w w' := by
  have q1 := hw.1
  have q2 := hw.2.1
  have q3 := ho.1
  have q4 := ho.2.1
  have q5 := hk.1
  have q6 := hk.2.1
  by_cases g0 : 9 < wn ∧ wn ≤ 50
  · have d0 : (9 : Int) < (wn : Int) := by omega
    have d1 : (wn : Int) ≤ 50 := by omega
    clear hw ho hk g0
    go_enter Tryd.func4, Tryd.ntmps4
    go_wp2
    go_ret
    exact ⟨rfl, Below.refl _ _⟩
  by_cases g1 : 80 < wn
  · have d0 : (9 : Int) < (wn : Int) := by omega
    have d1 : ¬ (wn : Int) ≤ 50 := by omega
    have d2 : (80 : Int) < (wn : Int) := by omega
    clear hw ho hk g0
    go_enter Tryd.func4, Tryd.ntmps4
    go_wp2
    go_ret
    exact ⟨rfl, Below.refl _ _⟩
  have D : Hid ((¬ (9 : Int) < (wn : Int)) ∨ ((9 : Int) < (wn : Int) ∧ ¬ (wn : Int) ≤ 50)) := by show _ ∨ _; omega
  have d2 : ¬ (80 : Int) < (wn : Int) := by omega
  have HET := hide het
  have x1 := heap_alloc_new w (.cells #[.slice wa wn wd, .slice oa om od, .slice ka km kd] 25)
  have b1 := alloc_below w (.cells #[.slice wa wn wd, .slice oa om od, .slice ka km kd] 25)
  obtain ⟨W1, hW1⟩ : ∃ W, w.alloc (.cells #[.slice wa wn wd, .slice oa om od, .slice ka km kd] 25) = W := ⟨_, rfl⟩
  obtain ⟨g, hg⟩ : ∃ g, w.heap.size = g := ⟨_, rfl⟩
  rw [hW1] at x1 b1
  rw [hg] at x1
  have HX1 := hide x1
  have HB1 := hide b1
  obtain ⟨c0, c1, c2⟩ := cells3 x1
  have HWR := hide (hw.below b1)
  have HOR := hide (ho.below b1)
  have HKR := hide (hk.below b1)
  have HER := hide (het.below b1)
  have C1 := hide (rneed_any wa wn wd oa om od ka km kd fW fO fK W1 (unhide HWR) (unhide HOR) (unhide HKR))
  obtain ⟨KC, hKC⟩ : ∃ k, ncode wn om km fW fO fK = k := ⟨_, rfl⟩
  have HKC := hide hKC
  rw [hKC] at C1
  clear hw ho hk x1 b1 het hKC g0 g1
  rcases unhide D with d0 | ⟨d0, d1⟩
  · clear D
    by_cases g3 : 80 < om
    · have d3 : (80 : Int) < (om : Int) := by omega
      clear C1
      go_enter Tryd.func4, Tryd.ntmps4
      go_wp2
      go_ret
      exact ⟨rfl, Below.refl _ _⟩
    have d3 : ¬ (80 : Int) < (om : Int) := by omega
    by_cases g4 : 80 < km
    · have d4 : (80 : Int) < (km : Int) := by omega
      clear C1
      go_enter Tryd.func4, Tryd.ntmps4
      go_wp2
      go_ret
      exact ⟨rfl, Below.refl _ _⟩
    have d4 : ¬ (80 : Int) < (km : Int) := by omega
    go_enter Tryd.func4, Tryd.ntmps4
    go_wp2_with fail
    clear hW1 hg
    refine (unhide C1).mono ?_
    rintro e_ w2 ⟨rfl, hb2⟩
    have HB2 := hide hb2
    obtain ⟨e0, e1, e2⟩ := cells3 (blk_keep (unhide HX1) hb2)
    by_cases hz : KC = 0
    · subst hz
      obtain ⟨s1, s2, _⟩ := ncode_zero (unhide HKC)
      have s1' := s1.symm
      have s2' := s2.symm
      clear s1 s2
      subst s1' s2'
      have C2 := hide (rplan_any wa wd oa od ka kd fW fO fK wn w2 ((unhide HWR).below hb2) ((unhide HOR).below hb2) ((unhide HKR).below hb2) (unhide HKC))
      clear hb2 C1 c0 c1 c2
      go_wp2_with fail
      refine (unhide C2).mono ?_
      rintro e_ w3 ⟨pa, pc, rfl, hrow, hb3⟩
      have HB3 := hide (below_step (unhide HB2) hb3)
      have HROW := hide hrow
      have C3 := hide (nplan_any wa wn wd oa wn od ka wn kd fW fO fK w3 ((unhide HWR).below (unhide HB3)) ((unhide HOR).below (unhide HB3)) ((unhide HKR).below (unhide HB3)))
      have p1 := hrow.1
      have p2 := hrow.2.1
      clear hb3 hrow C2
      go_wp2_with fail
      refine (unhide C3).mono ?_
      rintro e_ w4 ⟨hb4, hp⟩
      have HB4 := hide (below_step (unhide HB3) hb4)
      rcases hp with ⟨hcode, rfl⟩ | ⟨hcode, GO, hGO, rfl, hO⟩
      · exact absurd (unhide HKC) hcode
      have C4 := hide (ints_good (some ⟨GO, 0, none⟩) pa wn wn pc (Lot.pln (ndOf wn fW fO fK) wn) w4 (hO.irow (by omega)) ((unhide HROW).below hb4))
      obtain ⟨LL, hLL⟩ : ∃ x, Lot.L (ndOf wn fW fO fK) wn = x := ⟨_, rfl⟩
      rw [hLL]
      clear hb4 hcode hO hGO hLL C3
      go_wp2_with fail
      refine (unhide C4).mono ?_
      rintro e_ w5 ⟨rfl, hb5⟩
      have HB5 := hide (below_step (unhide HB4) hb5)
      have C5 := hide (whole_good LL w5)
      clear hb5 C4
      go_wp2_with fail
      refine (unhide C5).mono ?_
      rintro e_ w6 ⟨rfl, hb6⟩
      have HB6 := hide (below_step (unhide HB1) (below_step (unhide HB5) hb6))
      clear hb6 C5
      go_wp2
      go_ret
      exact ⟨rfl, unhide HB6⟩
    · have hz' : (KC == 0) = false := by simpa using hz
      have C3 := hide (nplan_any wa wn wd oa om od ka km kd fW fO fK w2 ((unhide HWR).below hb2) ((unhide HOR).below hb2) ((unhide HKR).below hb2))
      rw [unhide HKC] at C3
      clear hb2 C1 c0 c1 c2
      go_wp2_with fail
      refine (unhide C3).mono ?_
      rintro e_ w4 ⟨hb4, hp⟩
      have HB4 := hide (below_step (unhide HB2) hb4)
      rcases hp with ⟨hcode, rfl⟩ | ⟨hcode, _⟩
      case inr => exact absurd hcode hz
      have C4 := hide (ints_bad KC hz w4 ((unhide HER).below (unhide HB4)))
      clear hb4 hcode C3
      go_wp2_with fail
      refine (unhide C4).mono ?_
      rintro e_ w5 ⟨rfl, hb5⟩
      have HB5 := hide (below_step (unhide HB4) hb5)
      have C5 := hide (whole_bad 0 KC hz w5 ((unhide HER).below (unhide HB5)))
      clear hb5 C4
      go_wp2_with fail
      refine (unhide C5).mono ?_
      rintro e_ w6 ⟨rfl, hb6⟩
      have HB6 := hide (below_step (unhide HB1) (below_step (unhide HB5) hb6))
      clear hb6 C5
      go_wp2
      go_ret
      exact ⟨rfl, unhide HB6⟩
  · clear D
    by_cases g3 : 80 < om
    · have d3 : (80 : Int) < (om : Int) := by omega
      clear C1
      go_enter Tryd.func4, Tryd.ntmps4
      go_wp2
      go_ret
      exact ⟨rfl, Below.refl _ _⟩
    have d3 : ¬ (80 : Int) < (om : Int) := by omega
    by_cases g4 : 80 < km
    · have d4 : (80 : Int) < (km : Int) := by omega
      clear C1
      go_enter Tryd.func4, Tryd.ntmps4
      go_wp2
      go_ret
      exact ⟨rfl, Below.refl _ _⟩
    have d4 : ¬ (80 : Int) < (km : Int) := by omega
    go_enter Tryd.func4, Tryd.ntmps4
    go_wp2_with fail
    clear hW1 hg
    refine (unhide C1).mono ?_
    rintro e_ w2 ⟨rfl, hb2⟩
    have HB2 := hide hb2
    obtain ⟨e0, e1, e2⟩ := cells3 (blk_keep (unhide HX1) hb2)
    by_cases hz : KC = 0
    · subst hz
      obtain ⟨s1, s2, _⟩ := ncode_zero (unhide HKC)
      have s1' := s1.symm
      have s2' := s2.symm
      clear s1 s2
      subst s1' s2'
      have C2 := hide (rplan_any wa wd oa od ka kd fW fO fK wn w2 ((unhide HWR).below hb2) ((unhide HOR).below hb2) ((unhide HKR).below hb2) (unhide HKC))
      clear hb2 C1 c0 c1 c2
      go_wp2_with fail
      refine (unhide C2).mono ?_
      rintro e_ w3 ⟨pa, pc, rfl, hrow, hb3⟩
      have HB3 := hide (below_step (unhide HB2) hb3)
      have HROW := hide hrow
      have C3 := hide (nplan_any wa wn wd oa wn od ka wn kd fW fO fK w3 ((unhide HWR).below (unhide HB3)) ((unhide HOR).below (unhide HB3)) ((unhide HKR).below (unhide HB3)))
      have p1 := hrow.1
      have p2 := hrow.2.1
      clear hb3 hrow C2
      go_wp2_with fail
      refine (unhide C3).mono ?_
      rintro e_ w4 ⟨hb4, hp⟩
      have HB4 := hide (below_step (unhide HB3) hb4)
      rcases hp with ⟨hcode, rfl⟩ | ⟨hcode, GO, hGO, rfl, hO⟩
      · exact absurd (unhide HKC) hcode
      have C4 := hide (ints_good (some ⟨GO, 0, none⟩) pa wn wn pc (Lot.pln (ndOf wn fW fO fK) wn) w4 (hO.irow (by omega)) ((unhide HROW).below hb4))
      obtain ⟨LL, hLL⟩ : ∃ x, Lot.L (ndOf wn fW fO fK) wn = x := ⟨_, rfl⟩
      rw [hLL]
      clear hb4 hcode hO hGO hLL C3
      go_wp2_with fail
      refine (unhide C4).mono ?_
      rintro e_ w5 ⟨rfl, hb5⟩
      have HB5 := hide (below_step (unhide HB4) hb5)
      have C5 := hide (whole_good LL w5)
      clear hb5 C4
      go_wp2_with fail
      refine (unhide C5).mono ?_
      rintro e_ w6 ⟨rfl, hb6⟩
      have HB6 := hide (below_step (unhide HB1) (below_step (unhide HB5) hb6))
      clear hb6 C5
      go_wp2
      go_ret
      exact ⟨rfl, unhide HB6⟩
    · have hz' : (KC == 0) = false := by simpa using hz
      have C3 := hide (nplan_any wa wn wd oa om od ka km kd fW fO fK w2 ((unhide HWR).below hb2) ((unhide HOR).below hb2) ((unhide HKR).below hb2))
      rw [unhide HKC] at C3
      clear hb2 C1 c0 c1 c2
      go_wp2_with fail
      refine (unhide C3).mono ?_
      rintro e_ w4 ⟨hb4, hp⟩
      have HB4 := hide (below_step (unhide HB2) hb4)
      rcases hp with ⟨hcode, rfl⟩ | ⟨hcode, _⟩
      case inr => exact absurd hcode hz
      have C4 := hide (ints_bad KC hz w4 ((unhide HER).below (unhide HB4)))
      clear hb4 hcode C3
      go_wp2_with fail
      refine (unhide C4).mono ?_
      rintro e_ w5 ⟨rfl, hb5⟩
      have HB5 := hide (below_step (unhide HB4) hb5)
      have C5 := hide (whole_bad 0 KC hz w5 ((unhide HER).below (unhide HB5)))
      clear hb5 C4
      go_wp2_with fail
      refine (unhide C5).mono ?_
      rintro e_ w6 ⟨rfl, hb6⟩
      have HB6 := hide (below_step (unhide HB1) (below_step (unhide HB5) hb6))
      clear hb6 C5
      go_wp2
      go_ret
      exact ⟨rfl, unhide HB6⟩
end Go.Proofs.YtbbmhidnakghfaaDoor
