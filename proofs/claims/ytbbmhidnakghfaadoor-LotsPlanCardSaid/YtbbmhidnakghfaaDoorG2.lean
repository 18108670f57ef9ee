/- What orders cost, by the program. -/
import Derived.Test.YtbbmhidnakghfaaDoorG1
namespace Go.Proofs.YtbbmhidnakghfaaDoor
open Go.RowKit Go.Sort

def ccode (N : Lot.Nd) (q : Nat → Int) : Int := if Lot.er N q N.n ≠ 0 then Lot.er N q N.n else if 0 < Lot.lf N q N.n then 10 else 0
/-- What Cost says: the error, and the cost. -/
def kcode (wn om km : Nat) (fW fO fK : Nat → Int) (len : Nat) (q : Nat → Int) : Int :=
  if ncode wn om km fW fO fK ≠ 0 then ncode wn om km fW fO fK else if len ≠ wn then 3 else ccode (ndOf wn fW fO fK) q
def kcost (wn om km : Nat) (fW fO fK : Nat → Int) (len : Nat) (q : Nat → Int) : Int :=
  if kcode wn om km fW fO fK len q ≠ 0 then 0 else Lot.co (ndOf wn fW fO fK) q wn
theorem kcode_check {wn om km len : Nat} {fW fO fK q : Nat → Int} (h : ncode wn om km fW fO fK ≠ 0) : kcode wn om km fW fO fK len q = ncode wn om km fW fO fK := by unfold kcode; rw [if_pos h]
theorem kcode_form {wn om km len : Nat} {fW fO fK q : Nat → Int} (h : ncode wn om km fW fO fK = 0) (h2 : len ≠ wn) : kcode wn om km fW fO fK len q = 3 := by unfold kcode; rw [if_neg (by rw [h]; decide), if_pos h2]
theorem kcode_is {wn om km : Nat} {fW fO fK q : Nat → Int} (h : ncode wn om km fW fO fK = 0) : kcode wn om km fW fO fK wn q = ccode (ndOf wn fW fO fK) q := by unfold kcode; rw [if_neg (by rw [h]; decide), if_neg (by simp)]
theorem kcost_bad {wn om km len : Nat} {fW fO fK q : Nat → Int} (h : kcode wn om km fW fO fK len q ≠ 0) : kcost wn om km fW fO fK len q = 0 := by unfold kcost; rw [if_pos h]
theorem kcost_good {wn om km len : Nat} {fW fO fK q : Nat → Int} (h : kcode wn om km fW fO fK len q = 0) : kcost wn om km fW fO fK len q = Lot.co (ndOf wn fW fO fK) q wn := by unfold kcost; rw [if_neg (by rw [h]; decide)]
theorem ccode_er {N : Lot.Nd} {q : Nat → Int} {m : Nat} {c : Int} (h : Lot.er N q (m + 1) = c) (hc : c ≠ 0) (hm : m < N.n) : ccode N q = c := by
  unfold ccode
  rw [Lot.er_end h hc hm, if_pos hc]
theorem ccode_sum {N : Lot.Nd} {q : Nat → Int} (h : Lot.er N q N.n = 0) (h2 : 0 < Lot.lf N q N.n) : ccode N q = 10 := by unfold ccode; rw [if_neg (by rw [h]; decide), if_pos h2]
theorem ccode_good {N : Lot.Nd} {q : Nat → Int} (h : Lot.er N q N.n = 0) (h2 : ¬ 0 < Lot.lf N q N.n) : ccode N q = 0 := by unfold ccode; rw [if_neg (by rw [h]; decide), if_neg h2]
theorem ccode_zero {N : Lot.Nd} {q : Nat → Int} (h : ccode N q = 0) : Lot.er N q N.n = 0 ∧ ¬ 0 < Lot.lf N q N.n := by
  unfold ccode at h
  by_cases c : Lot.er N q N.n = 0
  · rw [if_neg (by simpa using c)] at h
    by_cases c2 : 0 < Lot.lf N q N.n
    · rw [if_pos c2] at h; exact absurd h (by decide)
    · exact ⟨c, c2⟩
  · rw [if_pos c] at h; exact absurd h c
theorem wrap_is {x : Int} (h1 : -4000000000000000000 ≤ x) (h2 : x ≤ 4000000000000000000) : IntKind.i64.wrap x = x := by rw [IntKind.wrap_i64]; omega
/-- What the next period needs of numbers. -/
theorem step_bd {N : Lot.Nd} (g : Lot.Good N) {q : Nat → Int} {m : Nat} (hm : m < N.n) (he : Lot.er N q m = 0) (hq : 0 ≤ q m ∧ q m ≤ 50000000) (hl : 0 ≤ Lot.lf N q (m + 1)) :
    0 ≤ Lot.lf N q (m + 1) ∧ Lot.lf N q (m + 1) ≤ 2500000000 ∧ 0 ≤ N.K m * Lot.lf N q (m + 1) ∧ N.K m * Lot.lf N q (m + 1) ≤ 2500000000000000 ∧ 0 ≤ Lot.co N q m ∧ Lot.co N q m ≤ 125000000050000000 := by
  have e := Lot.er_good he (by omega) (by omega)
  have h1 := Lot.lf_bd g (show m + 1 ≤ N.n by omega) e
  have h2 := g.k m hm
  have h3 := g.few
  have h4 := Lot.mul_bd h2.1 h2.2 h1.1 (show Lot.lf N q (m + 1) ≤ 2500000000 by omega)
  have h5 := Lot.co_bd g (show m ≤ N.n by omega) he
  omega
def KPost (k c : Int) (w : World) (e : Ending) (w' : World) : Prop := e = .returned (.tuple #[.int .i64 c, errV k]) ∧ Below w.heap.size w w'

set_option maxHeartbeats 8000000 in
theorem ncost_any (wa : Option Addr) (wn wd : Nat) (oa : Option Addr) (om od : Nat) (ka : Option Addr) (km kd : Nat) (fW fO fK : Nat → Int) (a : Option Addr) (len c : Nat) (q : Nat → Int) (w : World) (hw : IRow w wa wn wd fW) (ho : IRow w oa om od fO) (hk : IRow w ka km kd fK) (ha : IRow w a len c q) (hlen : len ≤ 1000000) :
    Calls Tryd.prog 6 #[.agg #[.slice wa wn wd, .slice oa om od, .slice ka km kd], .slice a len c] w (KPost (kcode wn om km fW fO fK len q) (kcost wn om km fW fO fK len q) w) := by
  have ⟨c0, c1, c2⟩ := box3 (w := w) (x := .slice wa wn wd) (y := .slice oa om od) (z := .slice ka km kd) (T := 24) (Below.refl _ _)
  have HB1 := hide (alloc_below w (.cells #[.slice wa wn wd, .slice oa om od, .slice ka km kd] 24))
  obtain ⟨W1, hW1⟩ : ∃ W, w.alloc (.cells #[.slice wa wn wd, .slice oa om od, .slice ka km kd] 24) = W := ⟨_, rfl⟩
  obtain ⟨g, hg⟩ : ∃ g, w.heap.size = g := ⟨_, rfl⟩
  have HGW : Hid (g < W1.heap.size) := by show g < _; rw [← hW1, alloc_size, hg]; omega
  rw [hW1] at c0 c1 c2 HB1
  rw [hg] at c0 c1 c2
  have hw1 := hw.below (unhide HB1)
  have ho1 := ho.below (unhide HB1)
  have hk1 := hk.below (unhide HB1)
  have ha1 := ha.below (unhide HB1)
  have C1 := hide (ncheck_any wa wn wd oa om od ka km kd fW fO fK W1 hw1 ho1 hk1)
  have q1 := hw.1
  have q2 := hw.2.1
  have q3 := ha.1
  have q4 := ha.2.1
  have HWR := hide hw1
  have HOR := hide ho1
  have HKR := hide hk1
  have HAR := hide ha1
  have HC : Hid (∀ W, Below W1.heap.size W1 W → W.cell? ⟨g, 0, none⟩ = some (.slice wa wn wd) ∧ W.cell? ⟨g, 1, none⟩ = some (.slice oa om od) ∧ W.cell? ⟨g, 2, none⟩ = some (.slice ka km kd)) := by
    show ∀ W, _
    intro W hW
    rw [hW.cell (p := ⟨g, 0, none⟩) (unhide HGW), hW.cell (p := ⟨g, 1, none⟩) (unhide HGW), hW.cell (p := ⟨g, 2, none⟩) (unhide HGW)]
    exact ⟨c0, c1, c2⟩
  clear hw ho hk ha hw1 ho1 hk1 ha1
  by_cases hcode : ncode wn om km fW fO fK = 0
  case neg =>
    have HV := hide (kcode_check (len := len) (q := q) hcode)
    have HX := hide (kcost_bad (wn := wn) (om := om) (km := km) (fW := fW) (fO := fO) (fK := fK) (len := len) (q := q) (by rw [kcode_check hcode]; exact hcode))
    rw [unhide HV, unhide HX]
    obtain ⟨k, hk⟩ : ∃ k, ncode wn om km fW fO fK = k := ⟨_, rfl⟩
    rw [hk] at C1 hcode ⊢
    rw [errV_not hcode] at C1
    have q5 : (k == 0) = false := by simpa using hcode
    clear hk HV HX
    go_enter Tryd.func6, Tryd.ntmps6
    go_wp2_with fail
    refine (unhide C1).mono ?_
    rintro e_ w2 ⟨rfl, hb⟩
    have HB2 := hide (below_step (unhide HB1) hb)
    clear hb
    go_wp2
    go_ret2
    exact ⟨by rw [errV_not hcode]; rfl, unhide HB2⟩
  rw [hcode, errV_zero] at C1
  obtain ⟨e1, e2, hgood⟩ := ncode_zero hcode
  have e1' := e1.symm
  have e2' := e2.symm
  clear e1 e2
  subst e1' e2'
  by_cases hln : len = wn
  case neg =>
    have HV := hide (kcode_form (len := len) (q := q) hcode hln)
    have HX := hide (kcost_bad (wn := wn) (om := wn) (km := wn) (fW := fW) (fO := fO) (fK := fK) (len := len) (q := q) (by rw [unhide HV]; decide))
    rw [unhide HV, unhide HX]
    have e0 : ((len : Int) == (wn : Int)) = false := by simp; omega
    clear HV HX hcode hgood
    go_enter Tryd.func6, Tryd.ntmps6
    go_wp2_with fail
    refine (unhide C1).mono ?_
    rintro e_ w2 ⟨rfl, hb⟩
    have HB2 := hide (below_step (unhide HB1) hb)
    obtain ⟨d0, d1, d2⟩ := unhide HC _ hb
    clear hb c0 c1 c2
    go_wp2
    go_ret2
    exact ⟨rfl, unhide HB2⟩
  subst hln
  obtain ⟨N, hN⟩ : ∃ N, ndOf len fW fO fK = N := ⟨_, rfl⟩
  have hNn : N.n = len := by rw [← hN]; rfl
  have hNW : N.W = fW := by rw [← hN]; rfl
  have hNO : N.O = fO := by rw [← hN]; rfl
  have hNK : N.K = fK := by rw [← hN]; rfl
  have HV := hide (kcode_is (q := q) hcode)
  have HX : Hid (∀ k, ccode (ndOf len fW fO fK) q = k → kcode len len len fW fO fK len q = k ∧ kcost len len len fW fO fK len q = if k ≠ 0 then 0 else Lot.co (ndOf len fW fO fK) q len) := by
    show ∀ k, _
    intro k hk
    have e1 : kcode len len len fW fO fK len q = k := by rw [kcode_is hcode, hk]
    refine ⟨e1, ?_⟩
    unfold kcost
    rw [e1]
  obtain ⟨KC, hKC⟩ : ∃ k, kcode len len len fW fO fK len q = k := ⟨_, rfl⟩
  obtain ⟨KX, hKX⟩ : ∃ k, kcost len len len fW fO fK len q = k := ⟨_, rfl⟩
  rw [hKC, hKX] at HX ⊢
  rw [hN] at HX hgood
  have HG := hide hgood
  have HNN := hide hNn
  have e0 : ((len : Int) == (len : Int)) = true := by simp
  have hl50 : (len : Int) ≤ 50 := by have := hgood.few; omega
  have HW2 := hide hNW
  have HO2 := hide hNO
  have HK2 := hide hNK
  clear hcode hgood HV hKC hKX hN hNn hNW hNO hNK
  go_enter Tryd.func6, Tryd.ntmps6
  go_wp2_with fail
  refine (unhide C1).mono ?_
  rintro e_ w2 ⟨rfl, hb⟩
  have HB2 := hide (below_step (unhide HB1) hb)
  obtain ⟨d0, d1, d2⟩ := unhide HC _ hb
  have HWR2 := hide ((unhide HWR).below hb)
  have HOR2 := hide ((unhide HOR).below hb)
  have HKR2 := hide ((unhide HKR).below hb)
  have HAR2 := hide ((unhide HAR).below hb)
  clear hb c0 c1 c2 HWR HOR HKR HAR C1 HC HB1 HGW hW1 hg
  go_wp2_with fail
  go_loopw [25, 7, 8] (fun vi vc vl wr => ∃ (m : Nat) (cst lft : Int), vi = .int .i64 (m : Int) ∧ vc = .int .i64 cst ∧ vl = .int .i64 lft ∧ m ≤ len ∧ Lot.er N q m = 0 ∧ cst = Lot.co N q m ∧ lft = Lot.lf N q m ∧ wr = w2) (fun vi _ _ _ => len - (intOf vi).toNat)
  case atStart => exact ⟨0, 0, 0, rfl, rfl, rfl, Nat.zero_le _, rfl, rfl, rfl, rfl⟩
  case round =>
    obtain ⟨m, cst, lft, rfl, rfl, rfl, hm, her, hcst, hlft, rfl⟩ := hrel
    by_cases hlt : m < len
    · obtain ⟨_, _, ww⟩ := unhide HWR2
      obtain ⟨_, _, wo⟩ := unhide HOR2
      obtain ⟨q5, _, wk⟩ := unhide HKR2
      obtain ⟨_, _, wx⟩ := unhide HAR2
      obtain ⟨bw, pw, rfl, lw, kw⟩ := ww (by omega)
      obtain ⟨bo, po, rfl, lo, ko⟩ := wo (by omega)
      obtain ⟨bk, pk, rfl, lk, kk⟩ := wk (by omega)
      obtain ⟨bx, px, rfl, lx, kx⟩ := wx (by omega)
      have k0 := kw m hlt
      have k1 := ko m hlt
      have k2 := kk m hlt
      have k3 := kx m hlt
      have gN : m < N.n := by rw [unhide HNN]; exact hlt
      have gw := (unhide HG).w m gN
      have gk := (unhide HG).k m gN
      have go := (unhide HG).o m gN
      rw [unhide HW2] at gw
      rw [unhide HO2] at go
      rw [unhide HK2] at gk
      have el : Lot.lf N q (m + 1) = Lot.lf N q m + (q m - fW m) := by rw [← unhide HW2]; rfl
      have ec : Lot.co N q (m + 1) = Lot.co N q m + (if 0 < q m then fO m else 0) + fK m * Lot.lf N q (m + 1) := by rw [← unhide HO2, ← unhide HK2]; rfl
      have hlb := Lot.lf_bd (unhide HG) (show m ≤ N.n by omega) her
      have hst := fun h1 h2 => step_bd (unhide HG) gN her h1 h2
      rw [unhide HK2] at hst
      have h50 : (m : Int) ≤ 50 := by omega
      obtain ⟨x, hx⟩ : ∃ x, q m = x := ⟨_, rfl⟩
      obtain ⟨yw, hyw⟩ : ∃ x, fW m = x := ⟨_, rfl⟩
      obtain ⟨yo, hyo⟩ : ∃ x, fO m = x := ⟨_, rfl⟩
      obtain ⟨yk, hyk⟩ : ∃ x, fK m = x := ⟨_, rfl⟩
      obtain ⟨lf1, hlf1⟩ : ∃ x, Lot.lf N q (m + 1) = x := ⟨_, rfl⟩
      rw [hyw] at k0 gw el
      rw [hyo] at k1 go ec
      rw [hyk] at k2 gk ec hst
      rw [hx] at k3 el ec hst
      rw [hlf1] at el ec hst
      rw [← hlft] at el hlb
      rw [← hcst] at ec hst
      have e2 : (0 : Int) ≤ (m : Int) := by omega
      have e3 : (m : Int) < (len : Int) := by omega
      have C2 := hide (lwithin_any x 50000000 wr)
      have HER := hide her
      have HQX := hide hx
      have HLF := hide hlf1
      have HEC := hide ec
      have HGN := hide gN
      clear kw ko kk kx ww wo wk wx hx hyw hyo hyk hlf1 her HWR2 HOR2 HKR2 HAR2 hcst hlft ec gN
      by_cases g1 : 0 ≤ x ∧ x ≤ 50000000
      case neg =>
        rw [decide_eq_false g1] at C2
        have HF := hide (unhide HX 2 (ccode_er (Lot.er_range (unhide HER) (by rw [unhide HQX]; omega)) (by decide) (unhide HGN)))
        obtain ⟨rfl, rfl⟩ : KC = 2 ∧ KX = 0 := unhide HF
        clear g1 hst HX HF
        go_wp2_with fail
        refine (unhide C2).mono ?_
        rintro e_ w3 ⟨rfl, rfl⟩
        go_wp2
        go_ret2
        exact ⟨rfl, unhide HB2⟩
      rw [decide_eq_true g1] at C2
      have f1 : IntKind.i64.wrap (x - yw) = x - yw := wrap_is (by omega) (by omega)
      have f2 : IntKind.i64.wrap (lft + (x - yw)) = lf1 := by rw [wrap_is (by omega) (by omega), el]
      by_cases g2 : lf1 < 0
      · have HF := hide (unhide HX 8 (ccode_er (Lot.er_none (unhide HER) (by rw [unhide HQX]; omega) (by rw [unhide HLF]; exact g2)) (by decide) (unhide HGN)))
        obtain ⟨rfl, rfl⟩ : KC = 8 ∧ KX = 0 := unhide HF
        clear g1 hst HX HF el hlb
        go_wp2_with fail
        refine (unhide C2).mono ?_
        rintro e_ w3 ⟨rfl, rfl⟩
        go_wp2
        go_ret2
        exact ⟨rfl, unhide HB2⟩
      have HE1 := hide (Lot.er_good (unhide HER) (by rw [unhide HQX]; omega) (by rw [unhide HLF]; exact g2))
      obtain ⟨b1, b2, b3, b4, b5, b6⟩ := hst g1 (by omega)
      obtain ⟨pr, hpr⟩ : ∃ p, yk * lf1 = p := ⟨_, rfl⟩
      rw [hpr] at b3 b4
      have f3 : IntKind.i64.wrap (yk * lf1) = pr := by rw [hpr]; exact wrap_is (by omega) (by omega)
      have HPR := hide hpr
      have f6 : IntKind.i64.wrap ((m : Int) + 1) = (m : Int) + 1 := wrap_is (by omega) (by omega)
      clear hst el hlb hpr
      by_cases g3 : 0 < x
      · have f4 : IntKind.i64.wrap (cst + yo) = cst + yo := wrap_is (by omega) (by omega)
        have f5 : IntKind.i64.wrap (cst + yo + pr) = cst + yo + pr := wrap_is (by omega) (by omega)
        have HFIN : Hid (cst + yo + pr = Lot.co N q (m + 1)) := by show _ = _; rw [unhide HEC, if_pos g3, unhide HPR]
        clear g1 b1 b2 b3 b4 b5 b6 gw gk go
        go_wp2_with fail
        refine (unhide C2).mono ?_
        rintro e_ w3 ⟨rfl, rfl⟩
        go_wp2
        exact ⟨⟨m + 1, _, _, by go_num, rfl, rfl, hlt, unhide HE1, unhide HFIN, (unhide HLF).symm, by first | exact rfl | trivial⟩, by simp [intOf]; omega⟩
      · have f5 : IntKind.i64.wrap (cst + pr) = cst + pr := wrap_is (by omega) (by omega)
        have HFIN : Hid (cst + pr = Lot.co N q (m + 1)) := by show _ = _; rw [unhide HEC, if_neg g3, unhide HPR, Int.add_zero]
        clear g1 b1 b2 b3 b4 b5 b6 gw gk go
        go_wp2_with fail
        refine (unhide C2).mono ?_
        rintro e_ w3 ⟨rfl, rfl⟩
        go_wp2
        exact ⟨⟨m + 1, _, _, by go_num, rfl, rfl, hlt, unhide HE1, unhide HFIN, (unhide HLF).symm, by first | exact rfl | trivial⟩, by simp [intOf]; omega⟩
    · obtain rfl : m = len := by omega
      have e3 : ¬ (m : Int) < (m : Int) := by omega
      have hNm := unhide HNN
      by_cases g1 : 0 < lft
      · have HF := hide (unhide HX 10 (ccode_sum (by rw [hNm]; exact her) (by rw [hNm, ← hlft]; exact g1)))
        obtain ⟨rfl, rfl⟩ : KC = 10 ∧ KX = 0 := unhide HF
        clear HX HF her hcst hlft HWR2 HOR2 HKR2 HAR2 hNm
        go_wp2
        go_ret2
        exact ⟨rfl, unhide HB2⟩
      · have HF := hide (unhide HX 0 (ccode_good (by rw [hNm]; exact her) (by rw [hNm, ← hlft]; exact g1)))
        obtain ⟨rfl, h2⟩ : KC = 0 ∧ KX = cst := by
          obtain ⟨h1, h2⟩ := unhide HF
          exact ⟨h1, by rw [h2, if_neg (by decide), hcst]⟩
        subst h2
        clear HX HF her hcst hlft HWR2 HOR2 HKR2 HAR2 hNm
        go_wp2
        go_ret2
        exact ⟨rfl, unhide HB2⟩
end Go.Proofs.YtbbmhidnakghfaaDoor
