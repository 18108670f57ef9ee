/- Wagner and Whitin: the law's walk. -/
import Derived.Test.YtbbmhidnakghfaaG4
import Derived.Test.YtbbmhidnakghfaaY4
namespace Go.Proofs.Ytbbmhidnakghfaa
open Go.RowKit Go.Sort

theorem plan_code {wn om km : Nat} {fW fO fK : Nat → Int} (h : ncode wn om km fW fO fK = 0) : kcode wn om km fW fO fK wn (Lot.pln (ndOf wn fW fO fK) wn) = 0 ∧ kcost wn om km fW fO fK wn (Lot.pln (ndOf wn fW fO fK) wn) = Lot.L (ndOf wn fW fO fK) wn := by
  obtain ⟨_, _, hg⟩ := ncode_zero h
  obtain ⟨p1, p2, p3, _⟩ := Lot.pln_cost hg wn wn (Nat.le_refl _) (Nat.le_refl _) (Lot.pln (ndOf wn fW fO fK) wn) (fun _ _ => rfl)
  have e1 : kcode wn om km fW fO fK wn (Lot.pln (ndOf wn fW fO fK) wn) = 0 := by
    rw [kcode_is h]
    exact ccode_good p2 (by show ¬ 0 < Lot.lf (ndOf wn fW fO fK) _ wn; rw [p1]; omega)
  exact ⟨e1, by rw [kcost_good e1, p3]⟩
theorem plan_least {wn om km len : Nat} {fW fO fK q : Nat → Int} (h : ncode wn om km fW fO fK = 0) (h2 : kcode wn om km fW fO fK len q = 0) : Lot.L (ndOf wn fW fO fK) wn ≤ kcost wn om km fW fO fK len q := by
  obtain ⟨_, _, hg⟩ := ncode_zero h
  rw [kcost_good h2]
  by_cases c : len = wn
  · subst c
    rw [kcode_is h] at h2
    have he := (ccode_zero h2).1
    refine Lot.least hg len len (Nat.le_refl _) (Nat.le_refl _) fun i hi => ?_
    have := Lot.er_zero he i hi
    exact ⟨this.1, this.2.2⟩
  · rw [kcode_form h c] at h2
    exact absurd h2 (by decide)

set_option maxHeartbeats 16000000 in
theorem lotsLeast_any (wa : Option Addr) (wn wd : Nat) (oa : Option Addr) (om od : Nat) (ka : Option Addr) (km kd : Nat) (fW fO fK : Nat → Int) (a : Option Addr) (len c : Nat) (q : Nat → Int) (w : World) (hw : IRow w wa wn wd fW) (ho : IRow w oa om od fO) (hk : IRow w ka km kd fK) (ha : IRow w a len c q) :
    Calls Try.prog 3 #[.slice wa wn wd, .slice oa om od, .slice ka km kd, .slice a len c] w fun e w' => e = .returned (.bool true) ∧ Below w.heap.size w w' := by
  have q1 := hw.1
  have q2 := hw.2.1
  have q3 := ho.1
  have q4 := ho.2.1
  have q5 := hk.1
  have q6 := hk.2.1
  have q7 := ha.1
  have q8 := ha.2.1
  by_cases g0 : 20 < wn
  · have d0 : (20 : Int) < (wn : Int) := by omega
    clear hw ho hk ha
    go_enter Try.func3, Try.ntmps3
    go_wp2
    go_ret
    exact ⟨rfl, Below.refl _ _⟩
  have d0 : ¬ (20 : Int) < (wn : Int) := by omega
  by_cases g1 : 20 < om
  · have d1 : (20 : Int) < (om : Int) := by omega
    clear hw ho hk ha
    go_enter Try.func3, Try.ntmps3
    go_wp2
    go_ret
    exact ⟨rfl, Below.refl _ _⟩
  have d1 : ¬ (20 : Int) < (om : Int) := by omega
  by_cases g2 : 20 < km
  · have d2 : (20 : Int) < (km : Int) := by omega
    clear hw ho hk ha
    go_enter Try.func3, Try.ntmps3
    go_wp2
    go_ret
    exact ⟨rfl, Below.refl _ _⟩
  have d2 : ¬ (20 : Int) < (km : Int) := by omega
  by_cases g3 : 20 < len
  · have d3 : (20 : Int) < (len : Int) := by omega
    clear hw ho hk ha
    go_enter Try.func3, Try.ntmps3
    go_wp2
    go_ret
    exact ⟨rfl, Below.refl _ _⟩
  have d3 : ¬ (20 : Int) < (len : Int) := by omega
  have hbx := heap_alloc_new w (.cells #[.slice wa wn wd, .slice oa om od, .slice ka km kd] 24)
  have HB1 := hide (alloc_below w (.cells #[.slice wa wn wd, .slice oa om od, .slice ka km kd] 24))
  obtain ⟨W1, hW1⟩ : ∃ W, w.alloc (.cells #[.slice wa wn wd, .slice oa om od, .slice ka km kd] 24) = W := ⟨_, rfl⟩
  obtain ⟨g, hg⟩ : ∃ g, w.heap.size = g := ⟨_, rfl⟩
  rw [hW1] at HB1 hbx
  rw [hg] at hbx
  obtain ⟨c0, c1, c2⟩ := cells3 hbx
  have HBX := hide hbx
  have HWR := hide (hw.below (unhide HB1))
  have HOR := hide (ho.below (unhide HB1))
  have HKR := hide (hk.below (unhide HB1))
  have HAR := hide (ha.below (unhide HB1))
  have C1 := hide (nplan_any wa wn wd oa om od ka km kd fW fO fK W1 (unhide HWR) (unhide HOR) (unhide HKR))
  clear hw ho hk ha hbx
  go_enter Try.func3, Try.ntmps3
  go_wp2_with fail
  clear hW1 hg
  refine (unhide C1).mono ?_
  rintro e_ w2 ⟨hb2, hp⟩
  have HB2 := hide hb2
  have C2 := hide (flowed_any w2)
  rcases hp with ⟨hcode, rfl⟩ | ⟨hcode, GO, hGO, rfl, hO⟩
  · obtain ⟨k, hk⟩ : ∃ k, ncode wn om km fW fO fK = k := ⟨_, rfl⟩
    rw [hk] at hcode ⊢
    have r5 : (k == 0) = false := by simpa using hcode
    clear hk hb2 C1
    go_wp2_with fail
    refine (unhide C2).mono ?_
    rintro e_ w3 ⟨rfl, hb3⟩
    have HB3 := hide (below_step (unhide HB2) hb3)
    have C3 := hide (flowed_any w3)
    clear hb3 C2
    go_wp2_with fail
    refine (unhide C3).mono ?_
    rintro e_ w4 ⟨rfl, hb4⟩
    have HB4 := hide (below_step (unhide HB1) (below_step (unhide HB3) hb4))
    clear hb4 C3
    go_wp2
    go_ret
    exact ⟨rfl, unhide HB4⟩
  obtain ⟨N, hN⟩ : ∃ N, ndOf wn fW fO fK = N := ⟨_, rfl⟩
  have hNn : N.n = wn := by rw [← hN]; rfl
  have hNW : N.W = fW := by rw [← hN]; rfl
  have HCODE := hide hcode
  obtain ⟨s1, s2, hgood⟩ := ncode_zero hcode
  have s1' := s1.symm
  have s2' := s2.symm
  clear s1 s2
  subst s1' s2'
  obtain ⟨kp1, kp2⟩ := plan_code hcode
  have kp3 : Hid (kcode wn wn wn fW fO fK len q = 0 → Lot.L (ndOf wn fW fO fK) wn ≤ kcost wn wn wn fW fO fK len q) := fun h => plan_least hcode h
  rw [hN] at hO hgood kp1 kp2 kp3 ⊢
  have HG := hide hgood
  have HNN := hide hNn
  have HNW := hide hNW
  have HK1 := hide kp1
  have HK2 := hide kp2
  have HOO := hide hO
  have HGO := hide hGO
  obtain ⟨LL, hLL⟩ : ∃ x, Lot.L N wn = x := ⟨_, rfl⟩
  rw [hLL] at HK2 kp3 ⊢
  clear C1 hb2 hcode hgood kp1 kp2 hN hNn hNW hO hGO hLL
  go_wp2_with fail
  refine (unhide C2).mono ?_
  rintro e_ w3 ⟨rfl, hb3⟩
  have HB3 := hide (below_step (unhide HB2) hb3)
  have HO3 := hide ((unhide HOO).keep hb3)
  have c03 := cells3 (blk_keep (unhide HBX) (unhide HB3))
  obtain ⟨c0', c1', c2'⟩ := c03
  have C3 := hide (ncost_any wa wn wd oa wn od ka wn kd fW fO fK (some ⟨GO, 0, none⟩) wn wn (Lot.pln N wn) w3 ((unhide HWR).below (unhide HB3)) ((unhide HOR).below (unhide HB3)) ((unhide HKR).below (unhide HB3)) ((unhide HO3).irow (by omega)) (by omega))
  rw [unhide HK1, unhide HK2] at C3
  clear hb3 C2 c0 c1 c2
  go_wp2_with fail
  refine (unhide C3).mono ?_
  rintro e_ w4 ⟨rfl, hb4⟩
  rw [errV_zero]
  have HB4 := hide (below_step (unhide HB3) hb4)
  have HO4 := hide ((unhide HO3).keep hb4)
  have e0 : (LL == LL) = true := by simp
  have e1 : ((wn : Int) == (wn : Int)) = true := by simp
  clear hb4 C3 c0' c1' c2'
  go_wp2_with fail
  go_loopw [16, 15] (fun vt vh wr => ∃ (t : Nat) (h : Int), vt = .int .i64 (t : Int) ∧ vh = .int .i64 h ∧ t ≤ wn ∧ h = Lot.lf N (Lot.pln N wn) t ∧ Below w4.heap.size w4 wr) (fun vt _ _ => wn - (intOf vt).toNat)
  case atStart => exact ⟨0, 0, rfl, rfl, Nat.zero_le _, rfl, Below.refl _ _⟩
  case round =>
    obtain ⟨t, h, rfl, rfl, ht, hh, hbr⟩ := hrel
    have hNn := unhide HNN
    have HBR := hide (below_step (unhide HB4) hbr)
    have HBR4 := hide hbr
    by_cases hlt : t < wn
    · have kl := ((unhide HO4).keep hbr).cell hlt
      obtain ⟨_, _, ww⟩ := ((unhide HWR).below (unhide HB4)).below hbr
      obtain ⟨bw, pw, rfl, lw, kw⟩ := ww (by omega)
      have k0 := kw t hlt
      obtain ⟨p1, p2, p3, p4⟩ := Lot.pln_cost (unhide HG) wn wn (Nat.le_refl _) (by omega) (Lot.pln N wn) (fun _ _ => rfl)
      have gw := (unhide HG).w t (by omega)
      have gp := Lot.pln_bd (unhide HG) wn wn t (Nat.le_refl _) (by omega)
      have er0 : Lot.er N (Lot.pln N wn) t = 0 := by
        cases Decidable.em (Lot.er N (Lot.pln N wn) t = 0) with
        | inl c => exact c
        | inr c =>
          obtain ⟨d, hd⟩ := Nat.le.dest ht
          have h3 := Lot.er_stays c d
          rw [hd, p2] at h3
          exact h3.symm
      have gl := Lot.lf_bd (unhide HG) (show t ≤ N.n by omega) er0
      have gz := p4 t hlt
      have el : Lot.lf N (Lot.pln N wn) (t + 1) = Lot.lf N (Lot.pln N wn) t + (Lot.pln N wn t - N.W t) := rfl
      rw [← unhide HNW] at k0
      obtain ⟨x, hx⟩ : ∃ x, Lot.pln N wn t = x := ⟨_, rfl⟩
      obtain ⟨y, hy⟩ : ∃ x, N.W t = x := ⟨_, rfl⟩
      rw [hx] at kl gp gz el
      rw [hy] at k0 gw el
      rw [← hh] at gl gz el
      have f1 : IntKind.i64.wrap (x - y) = x - y := wrap_is (by omega) (by omega)
      have f2 : IntKind.i64.wrap (h + (x - y)) = h + (x - y) := wrap_is (by omega) (by omega)
      have f3 : IntKind.i64.wrap ((t : Int) + 1) = (t : Int) + 1 := wrap_is (by omega) (by omega)
      have e2 : (0 : Int) ≤ (t : Int) := by omega
      have e3 : (t : Int) < (wn : Int) := by omega
      have HEL := hide el.symm
      clear ww kw p1 p2 p3 p4 er0 hx hy el hh hbr hNn gw gp
      by_cases g1 : 0 < h
      · have g2 : ¬ (0 : Int) < x := by have := gz g1; omega
        clear gz gl
        go_wp2_with fail
        go_quiet (fail)
        go_wp2
        exact ⟨⟨t + 1, _, by go_num, rfl, hlt, unhide HEL, below_step (unhide HBR4) (below_drewN _ _)⟩, by simp [intOf]; omega⟩
      · clear gz gl
        go_wp2_with fail
        go_quiet (fail)
        go_wp2
        exact ⟨⟨t + 1, _, by go_num, rfl, hlt, unhide HEL, below_step (unhide HBR4) (below_drewN _ _)⟩, by simp [intOf]; omega⟩
    · obtain rfl : t = wn := by omega
      have e3 : ¬ (t : Int) < (t : Int) := by omega
      obtain ⟨c0', c1', c2'⟩ := cells3 (blk_keep (unhide HBX) (unhide HBR))
      have C4 := hide (ncost_any wa t wd oa t od ka t kd fW fO fK a len c q wr ((unhide HWR).below (unhide HBR)) ((unhide HOR).below (unhide HBR)) ((unhide HKR).below (unhide HBR)) ((unhide HAR).below (unhide HBR)) (by omega))
      obtain ⟨KC, hKC⟩ : ∃ k, kcode t t t fW fO fK len q = k := ⟨_, rfl⟩
      obtain ⟨KX, hKX⟩ : ∃ k, kcost t t t fW fO fK len q = k := ⟨_, rfl⟩
      rw [hKC, hKX] at C4 kp3
      clear hh hbr hNn hKC hKX
      go_wp2_with fail
      refine (unhide C4).mono ?_
      rintro e_ w5 ⟨rfl, hb5⟩
      have HB5 := hide (below_step (unhide HB1) (below_step (unhide HBR) hb5))
      clear hb5 C4
      by_cases g1 : KC = 0
      · have g2 : LL ≤ KX := unhide kp3 g1
        subst g1
        rw [errV_zero]
        clear kp3
        go_wp2
        go_ret
        exact ⟨rfl, unhide HB5⟩
      · rw [errV_not g1]
        have g2 : (KC == 0) = false := by simpa using g1
        clear kp3
        go_wp2
        go_ret
        exact ⟨rfl, unhide HB5⟩
end Go.Proofs.Ytbbmhidnakghfaa
