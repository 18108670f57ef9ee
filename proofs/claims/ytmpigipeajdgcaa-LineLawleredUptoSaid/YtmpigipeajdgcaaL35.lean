/- What the worst of a row costs, and whether it keeps what must be ahead. -/
import Derived.Test.YtmpigipeajdgcaaL34
import Derived.Test.YtmpigipeajdgcaaL10
namespace Go.Proofs.Ytmpigipeajdgcaa
open Go.RowKit Go.Sort

/-- Where each stands. -/
def posU (r : Nat → Int) : Nat → Nat → Int
  | 0 => fun _ => 0
  | k + 1 => updI (posU r k) (r k).toNat (k : Int)
theorem posU_at {n : Nat} {r : Nat → Int} (h : GoodR n r) : ∀ k, k ≤ n → ∀ j, j < k → posU r k (r j).toNat = (j : Int)
  | k + 1, hk, j, hj => by
    show updI (posU r k) (r k).toNat (k : Int) (r j).toNat = _
    unfold updI
    by_cases c : (r j).toNat = (r k).toNat
    · rw [if_pos c]
      have h1 := h.rng j (by omega)
      have h2 := h.rng k (by omega)
      have := h.inj j k (by omega) (by omega) (by omega)
      omega
    · rw [if_neg c]
      have : j ≠ k := fun e => c (by rw [e])
      exact posU_at h k (by omega) j (by omega)
def wc (f : Nat → T3) (i : Nat) (t : Int) : Int := wT f i * max 0 (t - dT f i)
def mostV (f : Nat → T3) (r : Nat → Int) (n : Nat) : Nat → Int
  | 0 => 0
  | k + 1 => max (mostV f r n k) (wc f k (endR f r n k))
theorem mostV_le {f : Nat → T3} {r : Nat → Int} {n : Nat} {M : Int} (hM : 0 ≤ M) : ∀ k, mostV f r n k ≤ M ↔ ∀ i, i < k → wc f i (endR f r n i) ≤ M
  | 0 => ⟨fun _ i hi => absurd hi (Nat.not_lt_zero _), fun _ => hM⟩
  | k + 1 => by
    have ih := mostV_le (f := f) (r := r) (n := n) hM k
    have e : mostV f r n (k + 1) = max (mostV f r n k) (wc f k (endR f r n k)) := rfl
    rw [e]
    constructor
    · intro h i hi
      rcases Nat.lt_or_ge i k with c | c
      · exact ih.1 (by omega) i c
      · rw [show i = k by omega]; omega
    · intro h
      have h1 := ih.2 (fun i hi => h i (by omega))
      have h2 := h k (by omega)
      omega
theorem mostV_nn {f : Nat → T3} {r : Nat → Int} {n : Nat} : ∀ k, 0 ≤ mostV f r n k
  | 0 => Int.le_refl _
  | k + 1 => by
    have := mostV_nn (f := f) (r := r) (n := n) k
    show 0 ≤ max (mostV f r n k) _
    omega
/-- Each stands behind those that must be ahead. -/
def Kpt (n : Nat) (R : Nat → Nat → Int) (ln : Nat → Nat) (r : Nat → Int) (m : Nat) : Prop := ∀ i j, i < m → j < ln i → posU r n (R i j).toNat < posU r n i
def WPost (w : World) (n : Nat) (f : Nat → T3) (R : Nat → Nat → Int) (ln : Nat → Nat) (r : Nat → Int) (e : Ending) (w' : World) : Prop :=
  Below w.heap.size w w' ∧ ((¬ Kpt n R ln r n ∧ e = .returned (.tuple #[.int .i64 0, .bool false])) ∨ (Kpt n R ln r n ∧ e = .returned (.tuple #[.int .i64 (mostV f r n n), .bool true])))
structure LW (w W : World) (G G2 n : Nat) (e p : Nat → Int) : Prop where
  bl : Below w.heap.size w W
  o : OwnI W G n e
  o2 : OwnI W G2 n p
theorem LW.keep {w W W' : World} {G G2 n : Nat} {e p : Nat → Int} (h : LW w W G G2 n e p) (hb : Below W.heap.size W W') : LW w W' G G2 n e p := ⟨below_step h.bl hb, h.o.keep hb, h.o2.keep hb⟩

set_option maxHeartbeats 8000000 in
set_option maxRecDepth 100000 in
set_option linter.unusedSimpArgs false in
theorem worst_any (a : Option Addr) (n c : Nat) (f : Nat → T3) (va : Option Addr) (vc : Nat) (H : Nat → Option Addr × Nat × Nat) (R : Nat → Nat → Int) (ra : Option Addr) (rc : Nat) (r : Nat → Int) (w : World) (ha : TRow w a n c f) (hr : RRow w va n vc H R) (hx : ∀ i j, i < n → j < lnH H i → 0 ≤ R i j ∧ R i j < (n : Int)) (hw : IRow w ra n rc r) (ht : tcode n f = 0) (hg : GoodR n r) :
    Calls Try.prog 16 #[.slice a n c, .slice va n vc, .slice ra n rc] w (WPost w n f R (lnH H) r) := by
  have hT := goodT_of ht
  have hn60 := hT.few
  have HE := hide (ends_any a n c f ra n rc r w ha hw (by omega))
  have hec : ecode n f r n = 0 := by
    unfold ecode
    rw [if_neg (by rw [ht]; decide)]
    unfold ocode
    rw [if_neg (by simp)]
    exact oc_of_good hg n (Nat.le_refl _)
  have HEC := hide hec
  have HA := hide ha
  have HR := hide hr
  have HX := hide hx
  have HW := hide hw
  have HT := hide hT
  have HG := hide hg
  have q1 := hr.1
  have q2 := hr.2.1
  have q3 := ha.1
  have q4 := ha.2.1
  have q5 := hw.1
  have q6 := hw.2.1
  clear ha hr hx hw ht hg hT hec
  go_enter Try.func16, Try.ntmps16
  go_wp2_with fail
  refine (unhide HE).mono ?_
  rintro e w1 ⟨hb1, hp⟩
  rcases hp with ⟨h1, _⟩ | ⟨_, G, hG, rfl, hO⟩
  · exact absurd (unhide HEC) h1
  have mk := make_ints n (by omega) w1
  have O2 := make_own w1 n
  have bI := alloc_below w1 (.cells (lrow (fun _ => 0) n).toArray 3)
  have hGl := hO.lt
  obtain ⟨W0, hW0⟩ : ∃ W, w1.alloc (.cells (lrow (fun _ => 0) n).toArray 3) = W := ⟨_, rfl⟩
  rw [hW0] at mk O2 bI
  obtain ⟨G2, hG2⟩ : ∃ g, w1.heap.size = g := ⟨_, rfl⟩
  rw [hG2] at mk O2 hGl
  have HL0 : Hid (LW w W0 G G2 n (endR f r n) (posU r 0)) := ⟨below_step hb1 bI, hO.keep bI, O2⟩
  have HGE : Hid (w.heap.size ≤ G2 ∧ G < G2) := ⟨by rw [← hG2]; exact hb1.size, hGl⟩
  clear HE hb1 hG hO O2 bI hGl hW0 hG2
  go_wp2_with fail
  clear mk
  go_loopw [11] (fun vi wv => ∃ k : Nat, vi = .int .i64 (k : Int) ∧ k ≤ n ∧ LW w wv G G2 n (endR f r n) (posU r k)) (fun vi _ => n - (intOf vi).toNat)
  case atStart => exact ⟨0, rfl, Nat.zero_le _, unhide HL0⟩
  case round =>
    obtain ⟨k, rfl, hk, hI⟩ := hrel
    by_cases hlt : k < n
    · obtain ⟨b, o, rfl, hbl, hc⟩ := (unhide HW).2.2 (by omega)
      have k0 := hc k hlt
      rw [← hI.bl.cell (p := ⟨b, o + k, none⟩) hbl] at k0
      have hrk := (unhide HG).rng k hlt
      have hs : posU r (k + 1) = updI (posU r k) (r k).toNat (k : Int) := rfl
      obtain ⟨x, hxx⟩ : ∃ x : Nat, r k = (x : Int) := ⟨(r k).toNat, by omega⟩
      rw [hxx] at k0 hrk hs
      rw [Int.toNat_natCast] at hs
      have hxn : x < n := by omega
      have g1 := hI.o2.cell hxn
      have g2 := hI.o2.free x
      obtain ⟨u, g1⟩ : ∃ u : Value, wr.cell? ⟨G2, x, none⟩ = some u := ⟨_, g1⟩
      have qq := unhide HGE
      have FIN : Hid (LW w (wr.setCell ⟨G2, x, none⟩ (.int .i64 (k : Int))) G G2 n (endR f r n) (posU r (k + 1))) := by
        show LW _ _ _ _ _ _ _
        rw [hs]
        exact ⟨hI.bl.setCell (p := ⟨G2, x, none⟩) qq.1 _, hI.o.apart (by omega), hI.o2.set x (k : Int)⟩
      have e1 : (0 : Int) ≤ (k : Int) := by omega
      have e2 : (k : Int) < (n : Int) := by omega
      have e3 : (0 : Int) ≤ (x : Int) := by omega
      have e4 : (x : Int) < (n : Int) := by omega
      have e6 : IntKind.i64.wrap ((k : Int) + 1) = (k : Int) + 1 := by rw [IntKind.wrap_i64]; omega
      clear hc hrk hs hxx hI qq HL0
      go_wp2
      exact ⟨⟨k + 1, by go_num, hlt, unhide FIN⟩, by simp [intOf]; omega⟩
    · obtain rfl : k = n := by omega
      have e1 : ¬ (k : Int) < (k : Int) := by omega
      have HI := hide hI
      clear hI HL0
      go_wp2_with fail
      (try simp only [Exit.inBlock, Exit.then])
      (try go_wp2_with fail)
      go_loopw [12, 13] (fun vm vi wv => ∃ i : Nat, vi = .int .i64 (i : Int) ∧ i ≤ k ∧ vm = .int .i64 (mostV f r k i) ∧ Kpt k R (lnH H) r i ∧ LW w wv G G2 k (endR f r k) (posU r k)) (fun _ vi _ => k - (intOf vi).toNat)
      case atStart => exact ⟨0, rfl, Nat.zero_le _, rfl, fun i j hi => absurd hi (Nat.not_lt_zero _), unhide HI⟩
      case round =>
        obtain ⟨i, rfl, hi, rfl, hK, hI⟩ := hrel
        by_cases hik : i < k
        · obtain ⟨b, o, rfl, hbl, hc3⟩ := ((unhide HA).below hI.bl).2.2 (by omega)
          have ⟨_, t1, t2⟩ := hc3 i hik
          have hw := (unhide HT).w i hik
          have hd := (unhide HT).d i hik
          have g1 := hI.o.cell hik
          have he := endR_bd (unhide HT) (unhide HG) i
          have hM : mostV f r k (i + 1) = max (mostV f r k i) ((f i).2.1 * max 0 (endR f r k i - (f i).2.2)) := rfl
          obtain ⟨y, hy⟩ : ∃ y, (f i).2.1 = y := ⟨_, rfl⟩
          obtain ⟨z, hz⟩ : ∃ z, (f i).2.2 = z := ⟨_, rfl⟩
          obtain ⟨en, hen⟩ : ∃ z, endR f r k i = z := ⟨_, rfl⟩
          obtain ⟨mo, hmo⟩ : ∃ z, mostV f r k i = z := ⟨_, rfl⟩
          rw [hy] at t1 hw hM
          rw [hz] at t2 hd hM
          rw [hen] at g1 he hM
          rw [hmo] at hM ⊢
          obtain ⟨t, htt⟩ : ∃ t, en - z = t := ⟨_, rfl⟩
          obtain ⟨t', ht'⟩ : ∃ t', (if 0 < t then t else 0) = t' := ⟨_, rfl⟩
          have ht0 : 0 ≤ t' ∧ t' ≤ 60000000000 ∧ max 0 t = t' := by rw [← ht']; split <;> omega
          obtain ⟨v, hv⟩ : ∃ v, y * t' = v := ⟨_, rfl⟩
          have m1 : 0 ≤ y * t' := Int.mul_nonneg hw.1 ht0.1
          have m2 : y * t' ≤ 10000 * 60000000000 := Int.le_trans (Int.mul_le_mul_of_nonneg_right hw.2 ht0.1) (Int.mul_le_mul_of_nonneg_left ht0.2.1 (by decide))
          obtain ⟨mx, hmx⟩ : ∃ v', (if mo < v then v else mo) = v' := ⟨_, rfl⟩
          have HM : Hid (mostV f r k (i + 1) = mx) := by
            show mostV f r k (i + 1) = mx
            rw [hM, htt, ht0.2.2, hv, ← hmx]
            split <;> omega
          have e3 : IntKind.i64.wrap (en - z) = t := by rw [htt, IntKind.wrap_i64]; omega
          have e4 : IntKind.i64.wrap (y * t') = v := by rw [hv] at m1 m2 ⊢; rw [IntKind.wrap_i64]; omega
          have e5 : (0 : Int) ≤ (i : Int) := by omega
          have e6 : (i : Int) < (k : Int) := by omega
          have HK := hide hK
          have HI2 := hide hI
          clear hc3 hw hd he hM hy hz hen hmo htt ht0 hv m1 m2 hK hI hbl HI
          go_wp2_with fail
          go_region
          obtain ⟨wd, hwd⟩ : ∃ W, wr.drew = W := ⟨_, rfl⟩
          have LD : LW w wd G G2 k (endR f r k) (posU r k) := by rw [← hwd]; exact (unhide HI2).keep (drew_below _)
          rw [hwd]
          obtain ⟨_, _, h3, h4⟩ := unhide HR
          obtain ⟨b', o', rfl, hbl', hc'⟩ := h4 (by omega)
          have c0 := hc' i hik
          have hrow := h3 i hik
          obtain ⟨⟨ha0, hl0, hcp⟩, hH⟩ : ∃ t, H i = t := ⟨_, rfl⟩
          have hlH : lnH H i = hl0 := by unfold lnH; rw [hH]
          rw [hH] at c0 hrow
          simp only at c0 hrow
          have HROW := hide hrow
          have HLH := hide hlH
          have HLD := hide LD
          have HC0 : Hid (∀ W, Below w.heap.size w W → W.cell? ⟨b', o' + i, none⟩ = some (.slice ha0 hl0 hcp)) := fun W hW => by rw [hW.cell (p := ⟨b', o' + i, none⟩) hbl']; exact c0
          have q7 := hrow.1
          have q8 := hrow.2.1
          clear h3 h4 hc' hrow hH hlH LD hwd c0 hbl' t1 t2 g1 ht' hmx e3 e4 HI2
          go_wp2_with fail
          (try simp only [Exit.inBlock, Exit.then])
          (try go_wp2_with fail)
          go_loopw [14] (fun vj wv => ∃ j : Nat, vj = .int .i64 (j : Int) ∧ j ≤ hl0 ∧ (∀ p, p < j → posU r k (R i p).toNat < posU r k i) ∧ LW w wv G G2 k (endR f r k) (posU r k)) (fun vj _ => hl0 - (intOf vj).toNat)
          case atStart => exact ⟨0, rfl, Nat.zero_le _, fun p hp => absurd hp (Nat.not_lt_zero _), unhide HLD⟩
          case round =>
            obtain ⟨j, rfl, hj, hJ, hI⟩ := hrel
            have c0 := unhide HC0 wr hI.bl
            have g3 := hI.o2.cell hik
            obtain ⟨p2, hp2⟩ : ∃ p, posU r k i = p := ⟨_, rfl⟩
            rw [hp2] at g3
            by_cases hjl : j < hl0
            · obtain ⟨b2, o2, rfl, hbl2, hc2⟩ := (unhide HROW).2.2 (by omega)
              have k0 := hc2 j hjl
              rw [← hI.bl.cell (p := ⟨b2, o2 + j, none⟩) hbl2] at k0
              have hx := unhide HX i j hik (by rw [unhide HLH]; exact hjl)
              obtain ⟨y, hy⟩ : ∃ y : Nat, R i j = (y : Int) := ⟨(R i j).toNat, by omega⟩
              have hyt : (R i j).toNat = y := by omega
              rw [hy] at k0 hx
              have hyk : y < k := by omega
              have g2 := hI.o2.cell hyk
              obtain ⟨p1, hp1⟩ : ∃ p, posU r k y = p := ⟨_, rfl⟩
              rw [hp1] at g2
              have f5 : (0 : Int) ≤ (j : Int) := by omega
              have f6 : (j : Int) < (hl0 : Int) := by omega
              have f7 : (0 : Int) ≤ (y : Int) := by omega
              have f8 : (y : Int) < (k : Int) := by omega
              have f9 : IntKind.i64.wrap ((j : Int) + 1) = (j : Int) + 1 := by rw [IntKind.wrap_i64]; omega
              have HI2 := hide hI
              have HJ := hide hJ
              by_cases hpp : p2 ≤ p1
              · have HN : Hid (¬ Kpt k R (lnH H) r k) := fun h => by
                  have := h i j hik (by rw [unhide HLH]; exact hjl)
                  rw [hyt, hp1, hp2] at this
                  omega
                clear hI hJ hc2 hx hy hyt hp1 hp2 HLD hbl2
                go_wp2_with fail
                go_region
                go_wp2
                go_ret2
                exact ⟨below_step (unhide HI2).bl (drew_below _), Or.inl ⟨unhide HN, rfl⟩⟩
              · have HN : Hid (∀ p, p < j + 1 → posU r k (R i p).toNat < posU r k i) := fun p hp => by
                  rcases Nat.lt_or_ge p j with c1 | c1
                  · exact unhide HJ p c1
                  · rw [show p = j by omega, hyt, hp1, hp2]; omega
                clear hI hJ hc2 hx hy hyt hp1 hp2 HLD hbl2
                go_wp2_with fail
                go_region
                go_wp2
                exact ⟨⟨j + 1, by go_num, hjl, unhide HN, (unhide HI2).keep (drew_below _)⟩, by simp [intOf]; omega⟩
            · obtain rfl : j = hl0 := by omega
              have f6 : ¬ (j : Int) < (j : Int) := by omega
              have f9 : IntKind.i64.wrap ((i : Int) + 1) = (i : Int) + 1 := by rw [IntKind.wrap_i64]; omega
              have HN : Hid (Kpt k R (lnH H) r (i + 1)) := fun q p hq hp => by
                rcases Nat.lt_or_ge q i with c1 | c1
                · exact unhide HK q p c1 hp
                · obtain rfl : q = i := by omega
                  rw [unhide HLH] at hp
                  exact hJ p hp
              have HI2 := hide hI
              clear hI hJ hp2 HLD g3
              go_wp2_with fail
              (try simp only [Exit.inBlock, Exit.then])
              (try go_wp2_with fail)
              exact ⟨⟨i + 1, by go_num, hik, by rw [unhide HM], unhide HN, unhide HI2⟩, by simp [intOf]; omega⟩
        · obtain rfl : i = k := by omega
          have e2 : ¬ (i : Int) < (i : Int) := by omega
          obtain ⟨mo, hmo⟩ : ∃ z, mostV f r i i = z := ⟨_, rfl⟩
          rw [hmo]
          have HMO := hide hmo
          have HK := hide hK
          have HI2 := hide hI
          clear hmo hK hI HI
          go_wp2
          go_ret2
          exact ⟨(unhide HI2).bl, Or.inr ⟨unhide HK, by rw [unhide HMO]; rfl⟩⟩
end Go.Proofs.Ytmpigipeajdgcaa
