/- Fares: plain ones, what may be, how great numbers get. -/
import Derived.Test.YtfnbjenneodcdaaSE1
namespace Go.Proofs.Ytfnbjenneodcdaa
open Go.RowKit Go.Sort Go.Shelf

/-- A row of plain fares. -/
def PFaresAre (w : World) (v : Value) (ps : List (Int × List (Int × Int))) : Prop := ∃ (a : Option Addr) (c : Nat), v = .slice a ps.length c ∧ ps.length ≤ c ∧ c ≤ 9223372036854775807 ∧ (∀ j, j < ps.length → I64 (ps[j]!).1) ∧
  (0 < ps.length → ∃ b o, a = some ⟨b, o, none⟩ ∧ b < w.heap.size ∧ ∀ j, j < ps.length → ∃ l : Sl, (w.cell? ⟨b, o + j * 2, none⟩ = some (.int .i64 (ps[j]!).1) ∧ w.cell? ⟨b, o + j * 2 + 1, none⟩ = some (.slice l.a l.n l.c)) ∧ PairsAre w l.val (ps[j]!).2)
theorem PFaresAre.below {w w' : World} {v : Value} {ps : List (Int × List (Int × Int))} (h : PFaresAre w v ps) (hb : Below w.heap.size w w') : PFaresAre w' v ps := by
  obtain ⟨a, c, e, h1, h2, h4, h3⟩ := h
  refine ⟨a, c, e, h1, h2, h4, fun hp => ?_⟩
  obtain ⟨b, o, ea, hlt, hc⟩ := h3 hp
  refine ⟨b, o, ea, Nat.lt_of_lt_of_le hlt hb.size, fun j hj => ?_⟩
  obtain ⟨l, k, p⟩ := hc j hj
  refine ⟨l, ?_, p.below hb⟩
  rw [hb.cell (p := ⟨b, o + j * 2, none⟩) hlt, hb.cell (p := ⟨b, o + j * 2 + 1, none⟩) hlt]
  exact k
/-- The fares that they make. -/
def frOf (ps : List (Int × List (Int × Int))) : List (Int × List Rat) := ps.map fun p => (p.1, pqs p.2)
theorem frOf_length (ps : List (Int × List (Int × Int))) : (frOf ps).length = ps.length := by simp [frOf]
theorem frOf_get {ps : List (Int × List (Int × Int))} {j : Nat} (h : j < ps.length) : (frOf ps)[j]! = ((ps[j]!).1, pqs (ps[j]!).2) := by simp [frOf, h]

/-- What Check says: 0, or the error's number. -/
def fst_ (ks : List (Int × List Rat)) (j : Nat) : Int := if (ks[j]!).1 < 1 ∨ 100000 < (ks[j]!).1 then 2 else if 0 < j ∧ (ks[j - 1]!).1 < (ks[j]!).1 then 12 else chk (ks[j]!).2
def fcd (ks : List (Int × List Rat)) : Nat → Int
  | 0 => 0
  | j + 1 => if fcd ks j = 0 then fst_ ks j else fcd ks j
def fcode (ks : List (Int × List Rat)) : Int := if 1 ≤ ks.length ∧ ks.length ≤ 8 then fcd ks ks.length else 4
theorem fcd_stays {ks : List (Int × List Rat)} {i : Nat} (h : fcd ks i ≠ 0) : ∀ d, fcd ks (i + d) = fcd ks i
  | 0 => rfl
  | d + 1 => by
    have ih := fcd_stays h d
    show (if fcd ks (i + d) = 0 then _ else fcd ks (i + d)) = _
    rw [ih, if_neg h]
theorem fcd_zero {ks : List (Int × List Rat)} : ∀ {m : Nat}, fcd ks m = 0 → ∀ j, j < m → fst_ ks j = 0
  | m + 1, h, j, hj => by
    have h : (if fcd ks m = 0 then fst_ ks m else fcd ks m) = 0 := h
    by_cases e : fcd ks m = 0
    · rw [if_pos e] at h
      by_cases ej : j = m
      · rw [ej]; exact h
      · exact fcd_zero e j (by omega)
    · rw [if_neg e] at h; exact absurd h e
theorem fcd_next {ks : List (Int × List Rat)} {j : Nat} (h0 : fcd ks j = 0) : fcd ks (j + 1) = fst_ ks j := by
  show (if fcd ks j = 0 then _ else _) = _
  rw [if_pos h0]
theorem fcd_end {ks : List (Int × List Rat)} {j m : Nat} {k : Int} (hj : j < m) (h0 : fcd ks j = 0) (h1 : fst_ ks j = k) (hk : k ≠ 0) : fcd ks m = k := by
  have e : fcd ks (j + 1) = k := by rw [fcd_next h0, h1]
  have := fcd_stays (ks := ks) (i := j + 1) (by rw [e]; exact hk) (m - (j + 1))
  rw [show j + 1 + (m - (j + 1)) = m by omega, e] at this
  exact this
theorem fcode_end {ks : List (Int × List Rat)} {j : Nat} {k : Int} (hn : 1 ≤ ks.length ∧ ks.length ≤ 8) (hj : j < ks.length) (h0 : fcd ks j = 0) (h1 : fst_ ks j = k) (hk : k ≠ 0) : fcode ks = k := by
  unfold fcode
  rw [if_pos hn]
  exact fcd_end hj h0 h1 hk
/-- Prices and asks as the mathematics has them. -/
def pF (ks : List (Int × List Rat)) (j : Nat) : Rat := (((ks[j]!).1 : Int) : Rat)
def aF (ks : List (Int × List Rat)) (j i : Nat) : Rat := ((ks[j]!).2)[i]!
def kF (ks : List (Int × List Rat)) (j : Nat) : Nat := (ks[j]!).2.length
/-- Fares that may be. -/
structure GoodF (ks : List (Int × List Rat)) : Prop where
  n1 : 1 ≤ ks.length
  n8 : ks.length ≤ 8
  p1 : ∀ j, j < ks.length → 1 ≤ (ks[j]!).1
  p2 : ∀ j, j < ks.length → (ks[j]!).1 ≤ 100000
  ord : ∀ j, j + 1 < ks.length → (ks[j + 1]!).1 ≤ (ks[j]!).1
  k1 : ∀ j, j < ks.length → 1 ≤ kF ks j
  law : ∀ j, j < ks.length → Sea.Law (aF ks j) (kF ks j)
theorem chk_law {qs : List Rat} (h : chk qs = 0) : 1 ≤ qs.length ∧ Sea.Law (fun i => qs[i]!) qs.length := by
  have hp := chk_parts h
  refine ⟨?_, fun n hn => hp.1 n hn, ?_⟩
  · unfold chk at h
    split at h
    · exact absurd h (by decide)
    · omega
  · have h2 := hp.2
    rw [qsum_ps] at h2
    exact h2
theorem goodF_of {ks : List (Int × List Rat)} (h : fcode ks = 0) : GoodF ks := by
  unfold fcode at h
  by_cases a : 1 ≤ ks.length ∧ ks.length ≤ 8
  rotate_left
  · rw [if_neg a] at h; exact absurd h (by decide)
  rw [if_pos a] at h
  have hs := fcd_zero h
  have hx : ∀ j, j < ks.length → (1 ≤ (ks[j]!).1 ∧ (ks[j]!).1 ≤ 100000) ∧ (0 < j → (ks[j]!).1 ≤ (ks[j - 1]!).1) ∧ chk (ks[j]!).2 = 0 := fun j hj => by
    have h1 := hs j hj
    unfold fst_ at h1
    by_cases e : (ks[j]!).1 < 1 ∨ 100000 < (ks[j]!).1
    · rw [if_pos e] at h1; exact absurd h1 (by decide)
    rw [if_neg e] at h1
    by_cases e2 : 0 < j ∧ (ks[j - 1]!).1 < (ks[j]!).1
    · rw [if_pos e2] at h1; exact absurd h1 (by decide)
    rw [if_neg e2] at h1
    refine ⟨by omega, fun h0 => ?_, h1⟩
    have : ¬ (ks[j - 1]!).1 < (ks[j]!).1 := fun h => e2 ⟨h0, h⟩
    omega
  refine ⟨a.1, a.2, fun j hj => (hx j hj).1.1, fun j hj => (hx j hj).1.2, fun j hj => ?_, fun j hj => (chk_law (hx j hj).2.2).1, fun j hj => (chk_law (hx j hj).2.2).2⟩
  have := (hx (j + 1) hj).2.1 (by omega)
  simpa using this
/-- Asks as great as pairs make them, and not too many. -/
structure SmF (ks : List (Int × List Rat)) : Prop where
  n : ks.length ≤ 4
  k : ∀ j, j < ks.length → (ks[j]!).2.length ≤ 8
  r : ∀ j i, j < ks.length → i < (ks[j]!).2.length → RS ((ks[j]!).2)[i]! 1
theorem SmF.one {ks : List (Int × List Rat)} (h : SmF ks) {j : Nat} (hj : j < ks.length) (i : Nat) : RS (aF ks j i) 1 := by
  unfold aF
  by_cases hi : i < (ks[j]!).2.length
  · exact h.r j i hj hi
  · rw [List.getElem!_eq_getElem?_getD, List.getElem?_eq_none (by omega)]
    exact RS.zero
theorem smF_of {w : World} {v : Value} {ps : List (Int × List (Int × Int))} (h : PFaresAre w v ps) (hn : ps.length ≤ 4) (hk : ∀ j, j < ps.length → (ps[j]!).2.length ≤ 8) : SmF (frOf ps) := by
  refine ⟨by rw [frOf_length]; exact hn, fun j hj => ?_, fun j i hj hi => ?_⟩
  · rw [frOf_length] at hj
    rw [frOf_get hj]
    show (pqs _).length ≤ 8
    rw [pqs_length]; exact hk j hj
  · rw [frOf_length] at hj
    rw [frOf_get hj] at hi ⊢
    obtain ⟨a, c, _, _, _, _, h3⟩ := h
    obtain ⟨b, o, _, _, hc⟩ := h3 (by omega)
    obtain ⟨l, _, hp⟩ := hc j hj
    exact pqs_RS hp i hi
theorem RS_nat {n : Nat} (h : n ≤ 1000000) : RS (((n : Nat) : Int) : Rat) 1 := by
  have e : Wd.pw 1 = 18446744073709551616 := Wd.pw_one
  refine ⟨?_, ?_⟩
  · rw [e]; show (((n : Int).natAbs : Nat) : Int) < _; omega
  · rw [e]; show ((1 : Nat) : Int) < _; decide
theorem RS_one : RS 1 1 := RS_nat (n := 1) (by omega)
theorem KKe : KK = 1099511627776 := rfl
theorem ps_RS {a : Nat → Rat} {J : Nat} {K : Nat} (h : ∀ i, i < K → RS (a i) J) : ∀ k, k ≤ K → RS (Bth.ps a k) (k * (J + 1) + 1)
  | 0, _ => RS.zero.mono (by omega)
  | k + 1, hk => ((ps_RS h k (by omega)).add (h k (by omega))).mono (by rw [Nat.succ_mul]; omega)
/-- How great what a class brings may be. -/
def wz : Nat → Nat
  | 0 => 1
  | i + 1 => 9 * wz i + 80
theorem mn_RS {a b : Nat → Rat} {K t J : Nat} (hK : K ≤ 8) (ha : ∀ i, RS (a i) 1) (hb : ∀ i, i ≤ min t K → RS (b i) J) : RS (Sea.mn a K t b) (9 * J + 50) := by
  have h1 := ps_RS (a := fun n => a n * b n) (J := 1 + J) (K := min t K) (fun i hi => (ha i).mul (hb i (by omega))) _ (Nat.le_refl _)
  have h2 := ps_RS (a := a) (J := 1) (K := min t K) (fun i _ => ha i) _ (Nat.le_refl _)
  have h3 := hb (min t K) (Nat.le_refl _)
  have hm : min t K ≤ 8 := Nat.le_trans (Nat.min_le_right _ _) hK
  have m1 := Nat.mul_le_mul_right (1 + J + 1) hm
  have m2 := Nat.mul_le_mul_right (1 + 1) hm
  have h1' := h1.mono (show min t K * (1 + J + 1) + 1 ≤ 8 * (1 + J + 1) + 1 by omega)
  have h2' := h2.mono (show min t K * (1 + 1) + 1 ≤ 17 by omega)
  unfold Sea.mn
  exact (h1'.add ((RS_one.sub' h2').mul h3)).mono (by omega)

theorem pF_RS {ks : List (Int × List Rat)} (g : GoodF ks) {j : Nat} (hj : j < ks.length) : RS (pF ks j) 1 := by
  have h1 := g.p1 j hj
  have h2 := g.p2 j hj
  have e : Wd.pw 1 = 18446744073709551616 := Wd.pw_one
  refine ⟨?_, ?_⟩
  · rw [e]; show ((((ks[j]!).1).natAbs : Nat) : Int) < _; omega
  · rw [e]; show ((1 : Nat) : Int) < _; decide
theorem pF_ps {ks : List (Int × List Rat)} (g : GoodF ks) {j : Nat} (hj : j < ks.length) : 0 < pF ks j := by
  have h1 := g.p1 j hj
  have : (0 : Rat) = ((0 : Int) : Rat) := rfl
  unfold pF
  rw [this, Rat.intCast_lt_intCast]
  omega
theorem pF_ord {ks : List (Int × List Rat)} (g : GoodF ks) {j : Nat} (hj : j + 1 < ks.length) : pF ks (j + 1) ≤ pF ks j := Rat.intCast_le_intCast.2 (g.ord j hj)
theorem sd_RS {p : Rat} {a v : Nat → Rat} {K N J : Nat} (hp : RS p 1) (hK : K ≤ 8) (ha : ∀ i, RS (a i) 1) (hv : ∀ s, s ≤ N → RS (v s) J) (k s : Nat) (hs : s ≤ N) : RS (Sea.sd p a K v k s) (9 * J + 80) := by
  refine (mn_RS (J := J + 3) hK ha (fun i hi => ?_)).mono (by omega)
  have h1 : RS (((i : Int)) : Rat) 1 := RS_nat (by omega)
  exact ((hp.mul h1).add (hv (s - i) (by omega))).mono (by omega)
theorem wo_RS {ks : List (Int × List Rat)} (sm : SmF ks) (g : GoodF ks) (N : Nat) : ∀ i, i ≤ ks.length → ∀ s, s ≤ N → RS (Sea.wo (pF ks) (aF ks) (kF ks) N i s) (wz i)
  | 0, _, _, _ => RS.zero
  | i + 1, h, s, hs => sd_RS (pF_RS g (by omega)) (sm.k i (by omega)) (sm.one (by omega)) (wo_RS sm g N i (by omega)) _ s hs
theorem se_RS {ks : List (Int × List Rat)} (sm : SmF ks) (g : GoodF ks) (o : Nat → Nat) (N : Nat) : ∀ i, i ≤ ks.length → ∀ s, s ≤ N → RS (Sea.se (pF ks) (aF ks) (kF ks) o i s) (wz i)
  | 0, _, _, _ => RS.zero
  | i + 1, h, s, hs => sd_RS (pF_RS g (by omega)) (sm.k i (by omega)) (sm.one (by omega)) (se_RS sm g o N i (by omega)) _ s hs
theorem wz_mono {i : Nat} : ∀ d, wz i ≤ wz (i + d)
  | 0 => Nat.le_refl _
  | d + 1 => by
    have := wz_mono (i := i) d
    show wz i ≤ 9 * wz (i + d) + 80
    omega
theorem wz_le {i : Nat} (h : i ≤ 4) : wz i ≤ 100000 := by
  have := wz_mono (i := i) (4 - i)
  rw [show i + (4 - i) = 4 by omega] at this
  exact Nat.le_trans this (by decide)

end Go.Proofs.Ytfnbjenneodcdaa
