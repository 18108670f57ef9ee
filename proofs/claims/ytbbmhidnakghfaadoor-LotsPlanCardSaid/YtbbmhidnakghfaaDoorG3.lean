/- The plan, by the program. -/
import Derived.Test.YtbbmhidnakghfaaDoorG2
import Derived.OwnWalk
namespace Go.Proofs.YtbbmhidnakghfaaDoor
open Go.RowKit Go.Sort

/-- What is wanted in d periods from f on. -/
def fsum (f : Nat → Int) (s : Nat) : Nat → Int
  | 0 => 0
  | d + 1 => fsum f s d + f (s + d)
theorem fsum_front (f : Nat → Int) (s : Nat) : ∀ d, fsum f s (d + 1) = f s + fsum f (s + 1) d
  | 0 => by show (0 : Int) + f (s + 0) = f s + 0; rw [Nat.add_zero]; omega
  | d + 1 => by
    have ih := fsum_front f s d
    have e1 : fsum f s (d + 1 + 1) = fsum f s (d + 1) + f (s + (d + 1)) := rfl
    have e2 : fsum f (s + 1) (d + 1) = fsum f (s + 1) d + f (s + 1 + d) := rfl
    rw [e1, e2, ih, show s + 1 + d = s + (d + 1) by omega]; omega
theorem fsum_ws (N : Lot.Nd) (t : Nat) : ∀ d, d ≤ t → fsum N.W (t - d) d = Lot.ws N t d
  | 0, _ => rfl
  | d + 1, h => by
    have ih := fsum_ws N t d (by omega)
    rw [fsum_front, show t - (d + 1) + 1 = t - d by omega, ih]
    show N.W (t - (d + 1)) + Lot.ws N t d = Lot.ws N t d + N.W (t - (d + 1))
    omega
theorem fsum_bd {N : Lot.Nd} (g : Lot.Good N) {s : Nat} : ∀ d, s + d ≤ N.n → 0 ≤ fsum N.W s d ∧ fsum N.W s d ≤ 1000000 * (d : Int)
  | 0, _ => by show (0 : Int) ≤ 0 ∧ (0 : Int) ≤ 1000000 * ((0 : Nat) : Int); omega
  | d + 1, h => by
    have ih := fsum_bd g (s := s) d (by omega)
    have := g.w (s + d) (by omega)
    show 0 ≤ fsum N.W s d + N.W (s + d) ∧ fsum N.W s d + N.W (s + d) ≤ _
    omega
def RPost (c : Int) (b : Nat) (w : World) (e : Ending) (w' : World) : Prop := e = .returned (.tuple #[.int .i64 c, .int .i64 (b : Int)]) ∧ Below w.heap.size w w'

set_option maxHeartbeats 8000000 in
theorem lastRun_any (wa : Option Addr) (wd : Nat) (oa : Option Addr) (od : Nat) (ka : Option Addr) (kd : Nat) (N : Lot.Nd) (last : Nat) (la : Option Addr) (ln lc : Nat) (l : Nat → Int) (w : World)
    (hw : IRow w wa N.n wd N.W) (ho : IRow w oa N.n od N.O) (hk : IRow w ka N.n kd N.K) (hl : IRow w la ln lc l) (hg : Lot.Good N) (hlast : last < N.n) (hln : last < ln) (hlb : ∀ j, j ≤ last → 0 ≤ l j ∧ l j ≤ 2500000050000000) :
    Calls Tryd.prog 19 #[.agg #[.slice wa N.n wd, .slice oa N.n od, .slice ka N.n kd], .int .i64 (last : Int), .slice la ln lc] w (RPost (Lot.sc N l (last + 1) (last + 1)).1 (Lot.sc N l (last + 1) (last + 1)).2 w) := by
  obtain ⟨n, hn⟩ : ∃ n, N.n = n := ⟨_, rfl⟩
  have HNN := hide hn
  rw [hn] at hw ho hk hlast ⊢
  have ⟨c0, c1, c2⟩ := box3 (w := w) (x := .slice wa n wd) (y := .slice oa n od) (z := .slice ka n kd) (T := 24) (Below.refl _ _)
  have HB1 := hide (alloc_below w (.cells #[.slice wa n wd, .slice oa n od, .slice ka n kd] 24))
  obtain ⟨W1, hW1⟩ : ∃ W, w.alloc (.cells #[.slice wa n wd, .slice oa n od, .slice ka n kd] 24) = W := ⟨_, rfl⟩
  obtain ⟨g, hgg⟩ : ∃ g, w.heap.size = g := ⟨_, rfl⟩
  rw [hW1] at c0 c1 c2 HB1
  rw [hgg] at c0 c1 c2
  have HWR := hide (hw.below (unhide HB1))
  have HOR := hide (ho.below (unhide HB1))
  have HKR := hide (hk.below (unhide HB1))
  have HLR := hide (hl.below (unhide HB1))
  have HG := hide hg
  have HLB := hide hlb
  have h50 : (n : Int) ≤ 50 := by have := hg.few; omega
  have hlast' : (last : Int) < (n : Int) := by omega
  have hln' : (last : Int) < (ln : Int) := by omega
  have f0 : IntKind.i64.wrap ((last : Int) + 1) = (last : Int) + 1 := wrap_is (by omega) (by omega)
  clear hw ho hk hl hg hlb hn
  go_enter Tryd.func19, Tryd.ntmps19
  go_wp2_with fail
  clear hW1 hgg
  go_loopw [15, 6, 7, 8, 9] (fun vi vc vb vw vk wr => ∃ (b : Nat) (cst : Int) (bg : Nat) (wt kt : Int), vi = .int .i64 (b : Int) ∧ vc = .int .i64 cst ∧ vb = .int .i64 (bg : Int) ∧ vw = .int .i64 wt ∧ vk = .int .i64 kt ∧ b ≤ last + 1 ∧ Lot.sc N l (last + 1) b = (cst, bg) ∧ Lot.ws N (last + 1) b = wt ∧ Lot.kp N (last + 1) b = kt ∧ wr = W1) (fun vi _ _ _ _ _ => last + 1 - (intOf vi).toNat)
  case atStart => exact ⟨0, 0, 0, 0, 0, rfl, rfl, rfl, rfl, rfl, Nat.zero_le _, rfl, rfl, rfl, rfl⟩
  case round =>
    obtain ⟨b, cst, bg, wt, kt, rfl, rfl, rfl, rfl, rfl, hb, hsc, hws, hkp, rfl⟩ := hrel
    by_cases hlt : b < last + 1
    · obtain ⟨fi, hfi⟩ : ∃ fi, last - b = fi := ⟨_, rfl⟩
      have hfi2 : (last : Int) - (b : Int) = (fi : Int) := by omega
      have hfn : fi < n := by omega
      have hfl : fi < ln := by omega
      obtain ⟨q1, q2, ww⟩ := unhide HWR
      obtain ⟨q3, q4, wo⟩ := unhide HOR
      obtain ⟨q5, q6, wk⟩ := unhide HKR
      obtain ⟨q7, q8, wl⟩ := unhide HLR
      obtain ⟨bw, pw, rfl, lw, kw⟩ := ww (by omega)
      obtain ⟨bo, po, rfl, lo, ko⟩ := wo (by omega)
      obtain ⟨bk, pk, rfl, lk, kk⟩ := wk (by omega)
      obtain ⟨bl, pl, rfl, ll, kl⟩ := wl (by omega)
      have k0 := kw fi hfn
      have k1 := ko fi hfn
      have k2 := kk fi hfn
      have k3 := kl fi hfl
      have hNn := unhide HNN
      have gw := (unhide HG).w fi (by omega)
      have gk := (unhide HG).k fi (by omega)
      have gO := (unhide HG).o fi (by omega)
      have gl := unhide HLB fi (by omega)
      have gws := Lot.ws_bd (unhide HG) (show last + 1 ≤ N.n by omega) b (by omega)
      have gkp := Lot.kp_bd (unhide HG) (show last + 1 ≤ N.n by omega) b (by omega)
      have gws1 := Lot.ws_bd (unhide HG) (show last + 1 ≤ N.n by omega) (b + 1) (by omega)
      have gkp1 := Lot.kp_bd (unhide HG) (show last + 1 ≤ N.n by omega) (b + 1) (by omega)
      have ews : Lot.ws N (last + 1) (b + 1) = Lot.ws N (last + 1) b + N.W fi := by rw [← hfi, show last - b = last + 1 - (b + 1) by omega]; rfl
      have ekp : Lot.kp N (last + 1) (b + 1) = Lot.kp N (last + 1) b + N.K fi * Lot.ws N (last + 1) b := by rw [← hfi, show last - b = last + 1 - (b + 1) by omega]; rfl
      have ern : Lot.run N (last + 1) (b + 1) = Lot.kp N (last + 1) (b + 1) + if 0 < Lot.ws N (last + 1) (b + 1) then N.O fi else 0 := by rw [← hfi, show last - b = last + 1 - (b + 1) by omega]; rfl
      have esc : Lot.sc N l (last + 1) (b + 1) = if b = 0 ∨ l fi + Lot.run N (last + 1) (b + 1) < (Lot.sc N l (last + 1) b).1 then (l fi + Lot.run N (last + 1) (b + 1), fi) else Lot.sc N l (last + 1) b := by rw [← hfi, show last - b = last + 1 - (b + 1) by omega]; rfl
      obtain ⟨yw, hyw⟩ : ∃ x, N.W fi = x := ⟨_, rfl⟩
      obtain ⟨yo, hyo⟩ : ∃ x, N.O fi = x := ⟨_, rfl⟩
      obtain ⟨yk, hyk⟩ : ∃ x, N.K fi = x := ⟨_, rfl⟩
      obtain ⟨yl, hyl⟩ : ∃ x, l fi = x := ⟨_, rfl⟩
      obtain ⟨w1, hw1⟩ : ∃ x, Lot.ws N (last + 1) (b + 1) = x := ⟨_, rfl⟩
      obtain ⟨t1, ht1⟩ : ∃ x, Lot.kp N (last + 1) (b + 1) = x := ⟨_, rfl⟩
      obtain ⟨rn, hrn⟩ : ∃ x, Lot.run N (last + 1) (b + 1) = x := ⟨_, rfl⟩
      obtain ⟨pr, hpr⟩ : ∃ p, yk * wt = p := ⟨_, rfl⟩
      rw [hyw] at k0 gw ews
      rw [hyo] at k1 gO ern
      rw [hyk] at k2 gk ekp
      rw [hyl] at k3 gl esc
      rw [hw1] at gws1 ews ern
      rw [ht1] at gkp1 ekp ern
      rw [hrn] at ern esc
      rw [hws] at gws ews ekp
      rw [hkp] at gkp ekp
      rw [hsc] at esc
      rw [hpr] at ekp
      have e2 : (0 : Int) ≤ (fi : Int) := by omega
      have e3 : (fi : Int) < (n : Int) := by omega
      have e4 : (fi : Int) < (ln : Int) := by omega
      have e5 : (b : Int) < (last : Int) + 1 := by omega
      have e6 : (b : Int) ≤ 50 := by omega
      have f1 : IntKind.i64.wrap ((last : Int) - (b : Int)) = (fi : Int) := by rw [hfi2]; exact wrap_is (by omega) (by omega)
      have f2 : IntKind.i64.wrap (yk * wt) = pr := by rw [hpr]; exact wrap_is (by omega) (by omega)
      have f3 : IntKind.i64.wrap (kt + pr) = t1 := by rw [wrap_is (by omega) (by omega), ekp]
      have f4 : IntKind.i64.wrap (wt + yw) = w1 := by rw [wrap_is (by omega) (by omega), ews]
      have f5 : IntKind.i64.wrap (yl + t1) = yl + t1 := wrap_is (by omega) (by omega)
      have f6 : IntKind.i64.wrap ((b : Int) + 1) = (b : Int) + 1 := wrap_is (by omega) (by omega)
      have HW1 := hide hw1
      have HT1 := hide ht1
      have HESC := hide esc
      have fin : Hid (∀ S : Int, S = yl + rn → (b = 0 ∨ S < cst → Lot.sc N l (last + 1) (b + 1) = (S, fi)) ∧ (¬ (b = 0 ∨ S < cst) → Lot.sc N l (last + 1) (b + 1) = (cst, bg))) := by
        show ∀ S : Int, _
        intro S hS
        subst hS
        exact ⟨fun h => by rw [esc, if_pos h], fun h => by rw [esc, if_neg h]⟩
      clear kw ko kk kl ww wo wk wl hyw hyo hyk hyl hw1 ht1 hrn hpr hfi hfi2 hNn esc hsc hws hkp hb HWR HOR HKR HLR gws gkp ews ekp
      by_cases g1 : 0 < w1
      · rw [if_pos g1] at ern
        obtain ⟨sm, hsm⟩ : ∃ s, yl + t1 + yo = s := ⟨_, rfl⟩
        have f7 : IntKind.i64.wrap (yl + t1 + yo) = sm := (wrap_is (by omega) (by omega)).trans hsm
        have F := hide (unhide fin sm (by omega))
        clear fin ern gw gk gO gl gws1 gkp1 hsm
        by_cases g2 : b = 0
        · have FF := hide ((unhide F).1 (Or.inl g2))
          have e7 : ((b : Int) == 0) = true := by simp; exact g2
          have HG2 := hide g2
          clear F g2
          go_wp2
          exact ⟨⟨b + 1, _, _, _, _, by go_num, rfl, rfl, rfl, rfl, hlt, unhide FF, unhide HW1, unhide HT1, by first | exact rfl | trivial⟩, by simp [intOf]; omega⟩
        · have e7 : ((b : Int) == 0) = false := by simp; exact g2
          by_cases g3 : sm < cst
          · have FF := hide ((unhide F).1 (Or.inr g3))
            clear F g2
            go_wp2
            exact ⟨⟨b + 1, _, _, _, _, by go_num, rfl, rfl, rfl, rfl, hlt, unhide FF, unhide HW1, unhide HT1, by first | exact rfl | trivial⟩, by simp [intOf]; omega⟩
          · have FF := hide ((unhide F).2 (by omega))
            clear F g2
            go_wp2
            exact ⟨⟨b + 1, _, _, _, _, by go_num, rfl, rfl, rfl, rfl, hlt, unhide FF, unhide HW1, unhide HT1, by first | exact rfl | trivial⟩, by simp [intOf]; omega⟩
      · rw [if_neg g1, Int.add_zero] at ern
        obtain ⟨sm, hsm⟩ : ∃ s, yl + t1 = s := ⟨_, rfl⟩
        have F := hide (unhide fin sm (by omega))
        replace f5 : IntKind.i64.wrap (yl + t1) = sm := f5.trans hsm
        clear fin ern gw gk gO gl gws1 gkp1 hsm
        by_cases g2 : b = 0
        · have FF := hide ((unhide F).1 (Or.inl g2))
          have e7 : ((b : Int) == 0) = true := by simp; exact g2
          have HG2 := hide g2
          clear F g2
          go_wp2
          exact ⟨⟨b + 1, _, _, _, _, by go_num, rfl, rfl, rfl, rfl, hlt, unhide FF, unhide HW1, unhide HT1, by first | exact rfl | trivial⟩, by simp [intOf]; omega⟩
        · have e7 : ((b : Int) == 0) = false := by simp; exact g2
          by_cases g3 : sm < cst
          · have FF := hide ((unhide F).1 (Or.inr g3))
            clear F g2
            go_wp2
            exact ⟨⟨b + 1, _, _, _, _, by go_num, rfl, rfl, rfl, rfl, hlt, unhide FF, unhide HW1, unhide HT1, by first | exact rfl | trivial⟩, by simp [intOf]; omega⟩
          · have FF := hide ((unhide F).2 (by omega))
            clear F g2
            go_wp2
            exact ⟨⟨b + 1, _, _, _, _, by go_num, rfl, rfl, rfl, rfl, hlt, unhide FF, unhide HW1, unhide HT1, by first | exact rfl | trivial⟩, by simp [intOf]; omega⟩
    · obtain rfl : b = last + 1 := by omega
      have e5 : ¬ ((last + 1 : Nat) : Int) < (last : Int) + 1 := by omega
      have HSC := hide hsc
      clear hsc hws hkp HWR HOR HKR HLR
      go_wp2
      go_ret2
      exact ⟨by rw [unhide HSC]; rfl, unhide HB1⟩
end Go.Proofs.YtbbmhidnakghfaaDoor
