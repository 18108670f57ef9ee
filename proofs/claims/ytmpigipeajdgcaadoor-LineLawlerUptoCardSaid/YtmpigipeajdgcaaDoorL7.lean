/- Cost, Late and Tardy. -/
import Derived.Test.YtmpigipeajdgcaaDoorL6
namespace Go.Proofs.YtmpigipeajdgcaaDoor
open Go.RowKit Go.Sort

def CntPost (w : World) (n : Nat) (f : Nat → T3) (r : Nat → Int) (len : Nat) (v : Int) (e : Ending) (w' : World) : Prop :=
  Below w.heap.size w w' ∧ ((ecode n f r len ≠ 0 ∧ e = .returned (.tuple #[.int .i64 0, .iface 24 (.int .i64 (ecode n f r len))])) ∨ (ecode n f r len = 0 ∧ e = .returned (.tuple #[.int .i64 v, .nilIface])))
def costV (f : Nat → T3) (r : Nat → Int) (n : Nat) : Int := Lin.ssum (fun i => wT f i * endR f r n i) n
def mxs (g : Nat → Int) : Nat → Int
  | 0 => g 0
  | k + 1 => max (mxs g k) (g k)
def lateV (f : Nat → T3) (r : Nat → Int) (n : Nat) : Int := if n = 0 then 0 else mxs (fun i => endR f r n i - dT f i) n
def tardyV (f : Nat → T3) (r : Nat → Int) (n : Nat) : Int := Lin.ssum (fun i => if dT f i < endR f r n i then 1 else 0) n
theorem cost_bd {n : Nat} {f : Nat → T3} {r : Nat → Int} (hT : GoodT n f) (h : GoodR n r) : ∀ k, k ≤ n → 0 ≤ Lin.ssum (fun i => wT f i * endR f r n i) k ∧ Lin.ssum (fun i => wT f i * endR f r n i) k ≤ 600000000000000 * k
  | 0, _ => by show (0 : Int) ≤ 0 ∧ (0 : Int) ≤ 600000000000000 * ((0 : Nat) : Int); omega
  | k + 1, hk => by
    have ih := cost_bd hT h k (by omega)
    have a := hT.w k hk
    have b := endR_bd hT h k
    have c : 0 ≤ wT f k * endR f r n k := Int.mul_nonneg a.1 b.1
    have d : wT f k * endR f r n k ≤ 10000 * 60000000000 := Int.le_trans (Int.mul_le_mul_of_nonneg_right a.2 b.1) (Int.mul_le_mul_of_nonneg_left b.2 (by decide))
    show 0 ≤ Lin.ssum _ k + wT f k * endR f r n k ∧ Lin.ssum _ k + wT f k * endR f r n k ≤ _
    omega
theorem tardy_bd {n : Nat} {f : Nat → T3} {r : Nat → Int} : ∀ k, 0 ≤ Lin.ssum (fun i => if dT f i < endR f r n i then (1 : Int) else 0) k ∧ Lin.ssum (fun i => if dT f i < endR f r n i then (1 : Int) else 0) k ≤ k
  | 0 => by show (0 : Int) ≤ 0 ∧ (0 : Int) ≤ ((0 : Nat) : Int); omega
  | k + 1 => by
    have ih := tardy_bd (n := n) (f := f) (r := r) k
    show 0 ≤ Lin.ssum _ k + (if dT f k < endR f r n k then (1 : Int) else 0) ∧ Lin.ssum _ k + (if dT f k < endR f r n k then (1 : Int) else 0) ≤ _
    split <;> omega
theorem mxs_bd {n : Nat} {f : Nat → T3} {r : Nat → Int} (hT : GoodT n f) (h : GoodR n r) (hn : 0 < n) : ∀ k, k ≤ n → -1000000000 ≤ mxs (fun i => endR f r n i - dT f i) k ∧ mxs (fun i => endR f r n i - dT f i) k ≤ 60000000000
  | 0, _ => by
    have a := hT.d 0 hn
    have b := endR_bd hT h 0
    show -1000000000 ≤ endR f r n 0 - (f 0).2.2 ∧ endR f r n 0 - (f 0).2.2 ≤ 60000000000
    omega
  | k + 1, hk => by
    have ih := mxs_bd hT h hn k (by omega)
    have a := hT.d k hk
    have b := endR_bd hT h k
    show -1000000000 ≤ max (mxs _ k) (endR f r n k - (f k).2.2) ∧ max (mxs _ k) (endR f r n k - (f k).2.2) ≤ 60000000000
    omega

set_option maxHeartbeats 4000000 in
theorem cost_any (a : Option Addr) (n c : Nat) (f : Nat → T3) (ra : Option Addr) (len rc : Nat) (r : Nat → Int) (w : World) (ha : TRow w a n c f) (hr : IRow w ra len rc r) (hlen : len ≤ 100000) :
    Calls Tryd.prog 20 #[.slice a n c, .slice ra len rc] w (CntPost w n f r len (costV f r n)) := by
  have HA := hide ha
  have HC := hide (ends_any a n c f ra len rc r w ha hr hlen)
  clear ha hr
  go_enter Tryd.func20, Tryd.ntmps20
  go_wp2_with fail
  refine (unhide HC).mono ?_
  rintro e w1 ⟨hb1, hp⟩
  rcases hp with ⟨h1, rfl⟩ | ⟨h1, G, hG, rfl, hO⟩
  · obtain ⟨k, hk⟩ : ∃ k, ecode n f r len = k := ⟨_, rfl⟩
    rw [hk] at h1
    rw [hk]
    have HK := hide hk
    have H1 := hide h1
    clear hk h1
    go_wp2
    go_ret2
    refine ⟨hb1, Or.inl ?_⟩
    rw [unhide HK]
    exact ⟨unhide H1, rfl⟩
  · obtain ⟨gT, gR, hl⟩ := egood_of h1
    have HGT := hide gT
    have HGR := hide gR
    have hn60 := gT.few
    have H1 := hide h1
    have HO := hide hO
    have HB := hide hb1
    clear gT gR hl h1 hO hb1 HC hG
    go_wp2_with fail
    go_loopw [8, 22] (fun vt vi wr => ∃ k : Nat, vi = .int .i64 (k : Int) ∧ vt = .int .i64 (Lin.ssum (fun i => wT f i * endR f r n i) k) ∧ k ≤ n ∧ wr = w1) (fun _ vi _ => n - (intOf vi).toNat)
    case atStart => exact ⟨0, rfl, rfl, Nat.zero_le _, rfl⟩
    case round =>
      obtain ⟨k, rfl, rfl, hk, rfl⟩ := hrel
      by_cases hlt : k < n
      · obtain ⟨b, o, rfl, hbl, hc3⟩ := ((unhide HA).below (unhide HB)).2.2 (by omega)
        have ⟨_, k1, _⟩ := hc3 k hlt
        have g1 := (unhide HO).cell hlt
        have hw := (unhide HGT).w k hlt
        have he := endR_bd (unhide HGT) (unhide HGR) k
        have hs := cost_bd (unhide HGT) (unhide HGR) k (by omega)
        have hs2 := cost_bd (unhide HGT) (unhide HGR) (k + 1) (by omega)
        have hs3 : Lin.ssum (fun i => wT f i * endR f r n i) (k + 1) = Lin.ssum (fun i => wT f i * endR f r n i) k + (f k).2.1 * endR f r n k := rfl
        obtain ⟨t, ht⟩ : ∃ t, Lin.ssum (fun i => wT f i * endR f r n i) k = t := ⟨_, rfl⟩
        obtain ⟨y, hy⟩ : ∃ y, (f k).2.1 = y := ⟨_, rfl⟩
        obtain ⟨u, hu⟩ : ∃ u, endR f r n k = u := ⟨_, rfl⟩
        rw [hy] at k1 hw
        rw [hu] at g1 he
        rw [ht] at hs ⊢
        rw [hs3, ht, hy, hu] at hs2
        rw [ht, hy, hu] at hs3
        have H3 := hide hs3
        obtain ⟨m, hm⟩ : ∃ m, y * u = m := ⟨_, rfl⟩
        rw [hm] at hs2
        have e1 : (0 : Int) ≤ (k : Int) := by omega
        have e2 : (k : Int) < (n : Int) := by omega
        have e3 : IntKind.i64.wrap (y * u) = m := by rw [hm, IntKind.wrap_i64]; omega
        have e4 : IntKind.i64.wrap (t + m) = t + m := by rw [IntKind.wrap_i64]; omega
        have e6 : IntKind.i64.wrap ((k : Int) + 1) = (k : Int) + 1 := by rw [IntKind.wrap_i64]; omega
        have HM := hide hm
        clear hc3 hw he hs hs2 hs3 ht hy hu hm
        go_wp2
        exact ⟨⟨k + 1, by go_num, by rw [unhide H3, unhide HM], hlt, by trivial⟩, by simp [intOf]; omega⟩
      · obtain rfl : k = n := by omega
        have e1 : ¬ (k : Int) < (k : Int) := by omega
        have HV : Hid (Lin.ssum (fun i => wT f i * endR f r k i) k = costV f r k) := rfl
        rw [unhide HV]
        obtain ⟨v, hv⟩ : ∃ v, costV f r k = v := ⟨_, rfl⟩
        rw [hv]
        have HVV := hide hv
        clear hv HV
        go_wp2
        go_ret2
        exact ⟨unhide HB, Or.inr ⟨unhide H1, by rw [unhide HVV]; rfl⟩⟩

set_option maxHeartbeats 4000000 in
theorem tardy_any (a : Option Addr) (n c : Nat) (f : Nat → T3) (ra : Option Addr) (len rc : Nat) (r : Nat → Int) (w : World) (ha : TRow w a n c f) (hr : IRow w ra len rc r) (hlen : len ≤ 100000) :
    Calls Tryd.prog 22 #[.slice a n c, .slice ra len rc] w (CntPost w n f r len (tardyV f r n)) := by
  have HA := hide ha
  have HC := hide (ends_any a n c f ra len rc r w ha hr hlen)
  clear ha hr
  go_enter Tryd.func22, Tryd.ntmps22
  go_wp2_with fail
  refine (unhide HC).mono ?_
  rintro e w1 ⟨hb1, hp⟩
  rcases hp with ⟨h1, rfl⟩ | ⟨h1, G, hG, rfl, hO⟩
  · obtain ⟨k, hk⟩ : ∃ k, ecode n f r len = k := ⟨_, rfl⟩
    rw [hk] at h1
    rw [hk]
    have HK := hide hk
    have H1 := hide h1
    clear hk h1
    go_wp2
    go_ret2
    refine ⟨hb1, Or.inl ?_⟩
    rw [unhide HK]
    exact ⟨unhide H1, rfl⟩
  · obtain ⟨gT, gR, hl⟩ := egood_of h1
    have HGT := hide gT
    have HGR := hide gR
    have hn60 := gT.few
    have H1 := hide h1
    have HO := hide hO
    have HB := hide hb1
    clear gT gR hl h1 hO hb1 HC hG
    go_wp2_with fail
    go_loopw [8, 22] (fun vt vi wr => ∃ k : Nat, vi = .int .i64 (k : Int) ∧ vt = .int .i64 (Lin.ssum (fun i => if dT f i < endR f r n i then (1 : Int) else 0) k) ∧ k ≤ n ∧ wr = w1) (fun _ vi _ => n - (intOf vi).toNat)
    case atStart => exact ⟨0, rfl, rfl, Nat.zero_le _, rfl⟩
    case round =>
      obtain ⟨k, rfl, rfl, hk, rfl⟩ := hrel
      by_cases hlt : k < n
      · obtain ⟨b, o, rfl, hbl, hc3⟩ := ((unhide HA).below (unhide HB)).2.2 (by omega)
        have ⟨_, _, k2⟩ := hc3 k hlt
        have g1 := (unhide HO).cell hlt
        have hs := tardy_bd (n := n) (f := f) (r := r) k
        have hs3 : Lin.ssum (fun i => if dT f i < endR f r n i then (1 : Int) else 0) (k + 1) = Lin.ssum (fun i => if dT f i < endR f r n i then (1 : Int) else 0) k + (if (f k).2.2 < endR f r n k then (1 : Int) else 0) := rfl
        obtain ⟨t, ht⟩ : ∃ t, Lin.ssum (fun i => if dT f i < endR f r n i then (1 : Int) else 0) k = t := ⟨_, rfl⟩
        obtain ⟨y, hy⟩ : ∃ y, (f k).2.2 = y := ⟨_, rfl⟩
        obtain ⟨u, hu⟩ : ∃ u, endR f r n k = u := ⟨_, rfl⟩
        rw [hy] at k2
        rw [hu] at g1
        rw [ht] at hs ⊢
        rw [ht, hy, hu] at hs3
        have e1 : (0 : Int) ≤ (k : Int) := by omega
        have e2 : (k : Int) < (n : Int) := by omega
        have e4 : IntKind.i64.wrap (t + 1) = t + 1 := by rw [IntKind.wrap_i64]; omega
        have e6 : IntKind.i64.wrap ((k : Int) + 1) = (k : Int) + 1 := by rw [IntKind.wrap_i64]; omega
        by_cases hyu : y < u
        · rw [if_pos hyu] at hs3
          have H3 := hide hs3
          clear hc3 hs hs3 ht hy hu
          go_wp2
          exact ⟨⟨k + 1, by go_num, by rw [unhide H3], hlt, by trivial⟩, by simp [intOf]; omega⟩
        · rw [if_neg hyu, Int.add_zero] at hs3
          have H3 := hide hs3
          clear hc3 hs hs3 ht hy hu
          go_wp2
          exact ⟨⟨k + 1, by go_num, by rw [unhide H3], hlt, by trivial⟩, by simp [intOf]; omega⟩
      · obtain rfl : k = n := by omega
        have e1 : ¬ (k : Int) < (k : Int) := by omega
        have HV : Hid (Lin.ssum (fun i => if dT f i < endR f r k i then (1 : Int) else 0) k = tardyV f r k) := rfl
        rw [unhide HV]
        obtain ⟨v, hv⟩ : ∃ v, tardyV f r k = v := ⟨_, rfl⟩
        rw [hv]
        have HVV := hide hv
        clear hv HV
        go_wp2
        go_ret2
        exact ⟨unhide HB, Or.inr ⟨unhide H1, by rw [unhide HVV]; rfl⟩⟩

set_option maxHeartbeats 4000000 in
theorem late_any (a : Option Addr) (n c : Nat) (f : Nat → T3) (ra : Option Addr) (len rc : Nat) (r : Nat → Int) (w : World) (ha : TRow w a n c f) (hr : IRow w ra len rc r) (hlen : len ≤ 100000) :
    Calls Tryd.prog 21 #[.slice a n c, .slice ra len rc] w (CntPost w n f r len (lateV f r n)) := by
  have HA := hide ha
  have HC := hide (ends_any a n c f ra len rc r w ha hr hlen)
  clear ha hr
  go_enter Tryd.func21, Tryd.ntmps21
  go_wp2_with fail
  refine (unhide HC).mono ?_
  rintro e w1 ⟨hb1, hp⟩
  rcases hp with ⟨h1, rfl⟩ | ⟨h1, G, hG, rfl, hO⟩
  · obtain ⟨k, hk⟩ : ∃ k, ecode n f r len = k := ⟨_, rfl⟩
    rw [hk] at h1
    rw [hk]
    have HK := hide hk
    have H1 := hide h1
    clear hk h1
    go_wp2
    go_ret2
    refine ⟨hb1, Or.inl ?_⟩
    rw [unhide HK]
    exact ⟨unhide H1, rfl⟩
  · obtain ⟨gT, gR, hl⟩ := egood_of h1
    have HGT := hide gT
    have HGR := hide gR
    have hn60 := gT.few
    have H1 := hide h1
    have HO := hide hO
    have HB := hide hb1
    clear gT gR hl h1 hO hb1 HC hG
    by_cases hn0 : n = 0
    · subst hn0
      have HV : Hid (lateV f r 0 = 0) := rfl
      rw [unhide HV]
      go_wp2
      go_ret2
      exact ⟨unhide HB, Or.inr ⟨unhide H1, by rw [unhide HV]; rfl⟩⟩
    · obtain ⟨b, o, rfl, hbl, hc3⟩ := ((unhide HA).below (unhide HB)).2.2 (by omega)
      have hpos : 0 < n := by omega
      have HC3 := hide hc3
      have ⟨_, _, z2⟩ := hc3 0 hpos
      have z0 := (unhide HO).cell hpos
      have hd0 := (unhide HGT).d 0 hpos
      have he0 := endR_bd (unhide HGT) (unhide HGR) 0
      have HM0 : Hid (mxs (fun i => endR f r n i - dT f i) 0 = endR f r n 0 - (f 0).2.2) := rfl
      obtain ⟨y0, hy0⟩ : ∃ y, (f 0).2.2 = y := ⟨_, rfl⟩
      obtain ⟨u0, hu0⟩ : ∃ u, endR f r n 0 = u := ⟨_, rfl⟩
      rw [hy0] at z2 hd0 HM0
      rw [hu0] at z0 he0 HM0
      simp only [Nat.zero_mul, Nat.add_zero] at z2
      have e0 : IntKind.i64.wrap (u0 - y0) = u0 - y0 := by rw [IntKind.wrap_i64]; omega
      have e00 : ((n : Int) == 0) = false := by simp; omega
      have e01 : (0 : Int) < (n : Int) := by omega
      have HPOS := hide hpos
      clear hy0 hu0 hd0 he0 hc3 hn0
      go_wp2_with fail
      go_quiet (fail)
      go_wp2_with fail
      clear z0 z2 e0 e00 e01 hpos
      go_loopw [8, 35] (fun vt vi wr => ∃ k : Nat, vi = .int .i64 (k : Int) ∧ vt = .int .i64 (mxs (fun i => endR f r n i - dT f i) k) ∧ k ≤ n ∧ Below w1.heap.size w1 wr) (fun _ vi _ => n - (intOf vi).toNat)
      case atStart => exact ⟨0, rfl, by rw [unhide HM0], Nat.zero_le _, below_drewN _ _⟩
      case round =>
        obtain ⟨k, rfl, rfl, hk, hb2⟩ := hrel
        by_cases hlt : k < n
        · have ⟨_, _, k2⟩ := unhide HC3 k hlt
          rw [← hb2.cell (p := ⟨b, o + k * 3 + 2, none⟩) hbl] at k2
          have g1 := ((unhide HO).keep hb2).cell hlt
          have hs := mxs_bd (unhide HGT) (unhide HGR) (unhide HPOS) k (by omega)
          have hd := (unhide HGT).d k hlt
          have he := endR_bd (unhide HGT) (unhide HGR) k
          have H3 : Hid (mxs (fun i => endR f r n i - dT f i) (k + 1) = max (mxs (fun i => endR f r n i - dT f i) k) (endR f r n k - (f k).2.2)) := rfl
          obtain ⟨t, ht⟩ : ∃ t, mxs (fun i => endR f r n i - dT f i) k = t := ⟨_, rfl⟩
          obtain ⟨y, hy⟩ : ∃ y, (f k).2.2 = y := ⟨_, rfl⟩
          obtain ⟨u, hu⟩ : ∃ u, endR f r n k = u := ⟨_, rfl⟩
          rw [hy] at k2 hd H3
          rw [hu] at g1 he H3
          rw [ht] at hs H3 ⊢
          have e1 : (0 : Int) ≤ (k : Int) := by omega
          have e2 : (k : Int) < (n : Int) := by omega
          have e4 : IntKind.i64.wrap (u - y) = u - y := by rw [IntKind.wrap_i64]; omega
          have e6 : IntKind.i64.wrap ((k : Int) + 1) = (k : Int) + 1 := by rw [IntKind.wrap_i64]; omega
          have HB2 := hide hb2
          clear hs hd he ht hy hu hb2
          go_wp2
          refine ⟨⟨k + 1, by go_num, ?_, hlt, unhide HB2⟩, by simp [intOf]; omega⟩
          rw [unhide H3]
          congr 1
          omega
        · obtain rfl : k = n := by omega
          have e1 : ¬ (k : Int) < (k : Int) := by omega
          have HV : Hid (lateV f r k = mxs (fun i => endR f r k i - dT f i) k) := by show lateV f r k = _; unfold lateV; rw [if_neg (by have := unhide HPOS; omega)]
          rw [unhide HV]
          obtain ⟨v, hv⟩ : ∃ v, mxs (fun i => endR f r k i - dT f i) k = v := ⟨_, rfl⟩
          rw [hv]
          have HVV := hide hv
          have HB2 := hide hb2
          clear hv hb2
          go_wp2
          go_ret2
          exact ⟨below_step (unhide HB) (unhide HB2), Or.inr ⟨unhide H1, by rw [unhide HV, unhide HVV]; rfl⟩⟩
end Go.Proofs.YtmpigipeajdgcaaDoor
