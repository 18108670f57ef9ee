/- States that nobody sees: chances of signs, both beliefs, Viterbi. -/
import Derived.Test.YtfnbjenneodcdaaGreatDoorM22
namespace Go.Proofs.YtfnbjenneodcdaaGreatDoor.Blf
open Bth Lin

/-- States, what comes first, what comes next, which signs they give. -/
structure Hm where
  n : Nat
  f : Nat → Rat
  p : Nat → Nat → Rat
  g : Nat → Nat → Rat
/-- They may be. -/
structure Ok (m : Hm) (K : Nat) : Prop where
  f0 : ∀ i, i < m.n → 0 ≤ m.f i
  p0 : ∀ i j, i < m.n → j < m.n → 0 ≤ m.p i j
  g0 : ∀ i s, i < m.n → s < K → 0 ≤ m.g i s
  f1 : ps m.f m.n = 1
  p1 : ∀ i, i < m.n → ps (m.p i) m.n = 1
  g1 : ∀ i, i < m.n → ps (m.g i) K = 1
def wsg (m : Hm) (x : Nat → Rat) (s : Nat) (i : Nat) : Rat := x i * m.g i s
def fol (m : Hm) (x : Nat → Rat) (i : Nat) : Rat := ps (fun j => x j * m.p j i) m.n
/-- Each state with the signs up to then. -/
def al (m : Hm) (s : Nat → Nat) : Nat → Nat → Rat
  | 0 => wsg m m.f (s 0)
  | t + 1 => wsg m (fol m (al m s t)) (s (t + 1))
def mn (n : Nat) (sh to : Nat → Rat) : Rat := ps (fun j => sh j * to j) n
/-- The first of the greatest. -/
def lk (x : Nat → Rat) : Nat → Nat
  | 0 => 0
  | k + 1 => if x (lk x k) < x k then k else lk x k
def mo (n : Nat) (sh to : Nat → Rat) : Rat := sh (lk (fun j => sh j * to j) n) * to (lk (fun j => sh j * to j) n)
/-- What is told of the signs behind, so many times ahead of the end. -/
def bw (m : Hm) (s : Nat → Nat) (T : Nat) (ov : (Nat → Rat) → (Nat → Rat) → Rat) : Nat → Nat → Rat
  | 0 => fun _ => 1
  | d + 1 => fun i => ov (m.p i) (wsg m (bw m s T ov d) (s (T - 1 - d)))
def seen (m : Hm) (s : Nat → Nat) : Nat → Rat
  | 0 => 1
  | t + 1 => ps (al m s t) m.n

theorem lk_lt {x : Nat → Rat} : ∀ {k : Nat}, 0 < k → lk x k < k
  | 1, _ => by unfold lk; unfold lk; by_cases h : x 0 < x 0 <;> simp [h]
  | k + 2, _ => by
    have := lk_lt (x := x) (k := k + 1) (by omega)
    unfold lk
    by_cases h : x (lk x (k + 1)) < x (k + 1)
    · rw [if_pos h]; omega
    · rw [if_neg h]; omega
theorem lk_le {x : Nat → Rat} : ∀ {k j : Nat}, j < k → x j ≤ x (lk x k)
  | k + 1, j, hj => by
    unfold lk
    by_cases h : x (lk x k) < x k
    · rw [if_pos h]
      by_cases e : j = k
      · rw [e]; exact Rat.le_refl
      · exact Rat.le_trans (lk_le (by omega)) (Rat.le_of_lt h)
    · rw [if_neg h]
      by_cases e : j = k
      · rw [e]; exact Rat.not_lt.1 h
      · exact lk_le (by omega)
theorem mo_ge {n : Nat} {sh to : Nat → Rat} {j : Nat} (h : j < n) : sh j * to j ≤ mo n sh to := lk_le (x := fun j => sh j * to j) h
theorem wsg_nn {m : Hm} {K : Nat} (h : Ok m K) {x : Nat → Rat} (hx : ∀ i, i < m.n → 0 ≤ x i) {s : Nat} (hs : s < K) : ∀ i, i < m.n → 0 ≤ wsg m x s i := fun i hi => Rat.mul_nonneg (hx i hi) (h.g0 i s hi hs)
theorem fol_nn {m : Hm} {K : Nat} (h : Ok m K) {x : Nat → Rat} (hx : ∀ i, i < m.n → 0 ≤ x i) : ∀ i, i < m.n → 0 ≤ fol m x i := fun i hi => ps_nn (N := m.n) (fun j hj => Rat.mul_nonneg (hx j hj) (h.p0 j i hj hi)) _ (Nat.le_refl _)
theorem al_nn {m : Hm} {K : Nat} (h : Ok m K) {s : Nat → Nat} : ∀ (t : Nat), (∀ u, u ≤ t → s u < K) → ∀ i, i < m.n → 0 ≤ al m s t i
  | 0, hs => wsg_nn h h.f0 (hs 0 (by omega))
  | t + 1, hs => wsg_nn h (fol_nn h (al_nn h t (fun u hu => hs u (by omega)))) (hs (t + 1) (by omega))
theorem al_zero {m : Hm} {K : Nat} (h : Ok m K) {s : Nat → Nat} {t : Nat} (hs : ∀ u, u ≤ t → s u < K) (hz : ps (al m s t) m.n = 0) : ps (al m s (t + 1)) m.n = 0 := by
  have h0 := ps_nn_zero (al_nn h t hs) (by rw [hz]; exact Rat.le_refl)
  refine ps_zero _ (fun i hi => ?_)
  show ps (fun j => al m s t j * m.p j i) m.n * _ = 0
  rw [ps_zero _ (fun j hj => by rw [h0 j hj, Rat.zero_mul]), Rat.zero_mul]
theorem al_ne {m : Hm} {K : Nat} (h : Ok m K) {s : Nat → Nat} {t : Nat} : ∀ (d : Nat), (∀ u, u ≤ t + d → s u < K) → ps (al m s (t + d)) m.n ≠ 0 → ps (al m s t) m.n ≠ 0
  | 0, _, hz => hz
  | d + 1, hs, hz => al_ne h d (fun u hu => hs u (by omega)) (fun e => hz (al_zero h (fun u hu => hs u (by show u ≤ t + d + 1; exact Nat.le_succ_of_le hu)) e))
/-- What is told by the mean, of all times, is how likely all signs are. -/
theorem both {m : Hm} {s : Nat → Nat} {T : Nat} : ∀ (d t : Nat), t + d + 1 = T → ps (fun i => al m s t i * bw m s T (mn m.n) d i) m.n = ps (al m s (T - 1)) m.n
  | 0, t, e => by
    obtain rfl : t = T - 1 := by omega
    exact ps_congr _ (fun i _ => by show _ * (1 : Rat) = _; rw [Rat.mul_one])
  | d + 1, t, e => by
    have et : T - 1 - d = t + 1 := by omega
    rw [← both d (t + 1) (by omega)]
    have e1 : ps (fun i => al m s t i * bw m s T (mn m.n) (d + 1) i) m.n = ps (fun i => ps (fun j => al m s t i * m.p i j * (bw m s T (mn m.n) d j * m.g j (s (t + 1)))) m.n) m.n := ps_congr _ (fun i _ => by
      show al m s t i * ps (fun j => m.p i j * (bw m s T (mn m.n) d j * m.g j (s (T - 1 - d)))) m.n = _
      rw [← ps_mul, et]
      exact ps_congr _ (fun j _ => by grind))
    rw [e1, ps_swap]
    refine ps_congr _ (fun j _ => ?_)
    show _ = ps (fun i => al m s t i * m.p i j) m.n * m.g j (s (t + 1)) * _
    rw [show ps (fun i => al m s t i * m.p i j) m.n * m.g j (s (t + 1)) * bw m s T (mn m.n) d j = (bw m s T (mn m.n) d j * m.g j (s (t + 1))) * ps (fun i => al m s t i * m.p i j) m.n by grind, ← ps_mul]
    exact ps_congr _ (fun i _ => by grind)
theorem fol_sum {m : Hm} {K : Nat} (h : Ok m K) (x : Nat → Rat) : ps (fol m x) m.n = ps x m.n := by
  unfold fol
  rw [ps_swap]
  refine ps_congr _ (fun j hj => ?_)
  rw [ps_mul, h.p1 j hj, Rat.mul_one]
theorem wsg_sum {m : Hm} {K : Nat} (h : Ok m K) (x : Nat → Rat) : ps (fun k => ps (wsg m x k) m.n) K = ps x m.n := by
  unfold wsg
  rw [ps_swap (fun k i => x i * m.g i k)]
  refine ps_congr _ (fun j hj => ?_)
  rw [ps_mul, h.g1 j hj, Rat.mul_one]
theorem al_congr {m : Hm} {s s' : Nat → Nat} : ∀ (t : Nat), (∀ u, u ≤ t → s u = s' u) → al m s t = al m s' t
  | 0, h => by show wsg m m.f (s 0) = wsg m m.f (s' 0); rw [h 0 (by omega)]
  | t + 1, h => by
    show wsg m (fol m (al m s t)) (s (t + 1)) = wsg m (fol m (al m s' t)) (s' (t + 1))
    rw [al_congr t (fun u hu => h u (by omega)), h (t + 1) (by omega)]
/-- A further sign. -/
def snoc (s : Nat → Nat) (T k : Nat) : Nat → Nat := fun u => if u = T then k else s u
theorem more {m : Hm} {K : Nat} (h : Ok m K) (s : Nat → Nat) : ∀ (T : Nat), ps (fun k => seen m (snoc s T k) (T + 1)) K = seen m s T
  | 0 => by
    show ps (fun k => ps (wsg m m.f (snoc s 0 k 0)) m.n) K = 1
    rw [show (fun k => ps (wsg m m.f (snoc s 0 k 0)) m.n) = fun k => ps (wsg m m.f k) m.n by funext k; rw [show snoc s 0 k 0 = k from if_pos rfl], wsg_sum h, h.f1]
  | T + 1 => by
    show ps (fun k => ps (wsg m (fol m (al m (snoc s (T + 1) k) T)) (snoc s (T + 1) k (T + 1))) m.n) K = ps (al m s T) m.n
    rw [show (fun k => ps (wsg m (fol m (al m (snoc s (T + 1) k) T)) (snoc s (T + 1) k (T + 1))) m.n) = fun k => ps (wsg m (fol m (al m s T)) k) m.n by
      funext k
      rw [show snoc s (T + 1) k (T + 1) = k from if_pos rfl, al_congr (s := snoc s (T + 1) k) (s' := s) T (fun u hu => if_neg (by omega))], wsg_sum h, fol_sum h]
theorem seen_nn {m : Hm} {K : Nat} (h : Ok m K) {s : Nat → Nat} : ∀ (T : Nat), (∀ u, u < T → s u < K) → 0 ≤ seen m s T
  | 0, _ => by show (0 : Rat) ≤ 1; decide
  | t + 1, hs => ps_nn (N := m.n) (al_nn h t (fun u hu => hs u (by omega))) _ (Nat.le_refl _)

/-- How likely a row is from some time on. -/
def wrow (m : Hm) (s r : Nat → Nat) (come : Nat → Rat) (t : Nat) : Nat → Rat
  | 0 => 1
  | k + 1 => come (r t) * m.g (r t) (s t) * wrow m s r (m.p (r t)) (t + 1) k
/-- What comes at a time, by the row. -/
def cmr (m : Hm) (r : Nat → Nat) : Nat → Nat → Rat
  | 0 => m.f
  | t + 1 => m.p (r t)
/-- How likely a row is up to some time. -/
def pr (m : Hm) (s r : Nat → Nat) : Nat → Rat
  | 0 => 1
  | t + 1 => pr m s r t * cmr m r t (r t) * m.g (r t) (s t)
theorem pr_wrow (m : Hm) (s r : Nat → Nat) : ∀ (k t : Nat), pr m s r t * wrow m s r (cmr m r t) t k = pr m s r (t + k)
  | 0, t => by show _ * (1 : Rat) = _; rw [Rat.mul_one]; rfl
  | k + 1, t => by
    have := pr_wrow m s r k (t + 1)
    rw [show t + (k + 1) = t + 1 + k by omega, ← this]
    show pr m s r t * (cmr m r t (r t) * m.g (r t) (s t) * wrow m s r (m.p (r t)) (t + 1) k) = pr m s r t * cmr m r t (r t) * m.g (r t) (s t) * wrow m s r (m.p (r t)) (t + 1) k
    grind
theorem bw_nn {m : Hm} {K : Nat} (h : Ok m K) {s : Nat → Nat} {T : Nat} (hn : 0 < m.n) (hs : ∀ u, u < T → s u < K) : ∀ (d : Nat), d < T → ∀ i, i < m.n → 0 ≤ bw m s T (mo m.n) d i
  | 0, _, i, _ => by show (0 : Rat) ≤ 1; decide
  | d + 1, hd, i, hi => by
    show 0 ≤ mo m.n (m.p i) (wsg m (bw m s T (mo m.n) d) (s (T - 1 - d)))
    unfold mo
    have hl := lk_lt (x := fun j => m.p i j * wsg m (bw m s T (mo m.n) d) (s (T - 1 - d)) j) hn
    exact Rat.mul_nonneg (h.p0 i _ hi hl) (wsg_nn h (bw_nn h hn hs d (by omega)) (hs _ (by omega)) _ hl)
theorem row_le {m : Hm} {K : Nat} (h : Ok m K) {s r : Nat → Nat} {T : Nat} (hn : 0 < m.n) (hs : ∀ u, u < T → s u < K) (hr : ∀ u, u < T → r u < m.n) : ∀ (k t : Nat), t + k + 1 = T → ∀ come : Nat → Rat, (∀ i, i < m.n → 0 ≤ come i) → wrow m s r come t (k + 1) ≤ mo m.n come (wsg m (bw m s T (mo m.n) k) (s t))
  | 0, t, e, come, hc => by
    have := mo_ge (sh := come) (to := wsg m (bw m s T (mo m.n) 0) (s t)) (hr t (by omega))
    have e1 : wrow m s r come t 1 = come (r t) * wsg m (bw m s T (mo m.n) 0) (s t) (r t) := by
      show come (r t) * m.g (r t) (s t) * 1 = come (r t) * (1 * m.g (r t) (s t))
      grind
    rw [e1]; exact this
  | k + 1, t, e, come, hc => by
    have h1 := row_le h hn hs hr k (t + 1) (by omega) (m.p (r t)) (fun i hi => h.p0 _ i (hr t (by omega)) hi)
    have h2 : wrow m s r (m.p (r t)) (t + 1) (k + 1) ≤ bw m s T (mo m.n) (k + 1) (r t) := by
      show _ ≤ mo m.n (m.p (r t)) (wsg m (bw m s T (mo m.n) k) (s (T - 1 - k)))
      rw [show T - 1 - k = t + 1 by omega]; exact h1
    have h3 := mo_ge (sh := come) (to := wsg m (bw m s T (mo m.n) (k + 1)) (s t)) (hr t (by omega))
    have h4 := Rat.mul_le_mul_of_nonneg_left h2 (Rat.mul_nonneg (hc (r t) (hr t (by omega))) (h.g0 (r t) (s t) (hr t (by omega)) (hs t (by omega))))
    refine Rat.le_trans (Rat.le_trans h4 ?_) h3
    have e1 : come (r t) * m.g (r t) (s t) * bw m s T (mo m.n) (k + 1) (r t) = come (r t) * wsg m (bw m s T (mo m.n) (k + 1)) (s t) (r t) := by
      unfold wsg; grind
    rw [e1]; exact Rat.le_refl
/-- A row that takes the first of the greatest each time. -/
def Vit (m : Hm) (s r : Nat → Nat) (T n : Nat) : Prop := ∀ t, t < n → r t = lk (fun j => cmr m r t j * wsg m (bw m s T (mo m.n) (T - 1 - t)) (s t) j) m.n
theorem row_eq {m : Hm} {s r : Nat → Nat} {T : Nat} (hv : Vit m s r T T) : ∀ (k t : Nat), t + k + 1 = T → wrow m s r (cmr m r t) t (k + 1) = mo m.n (cmr m r t) (wsg m (bw m s T (mo m.n) k) (s t))
  | 0, t, e => by
    have h := hv t (by omega)
    rw [show T - 1 - t = 0 by omega] at h
    unfold mo
    unfold mo at h
    rw [← h]
    show cmr m r t (r t) * m.g (r t) (s t) * 1 = cmr m r t (r t) * (1 * m.g (r t) (s t))
    grind
  | k + 1, t, e => by
    have h := hv t (by omega)
    have h1 := row_eq hv k (t + 1) (by omega)
    have h2 : wrow m s r (m.p (r t)) (t + 1) (k + 1) = bw m s T (mo m.n) (k + 1) (r t) := by
      show _ = mo m.n (m.p (r t)) (wsg m (bw m s T (mo m.n) k) (s (T - 1 - k)))
      rw [show T - 1 - k = t + 1 by omega]; exact h1
    rw [show T - 1 - t = k + 1 by omega] at h
    have e2 : mo m.n (cmr m r t) (wsg m (bw m s T (mo m.n) (k + 1)) (s t)) = cmr m r t (r t) * wsg m (bw m s T (mo m.n) (k + 1)) (s t) (r t) := by
      show cmr m r t (lk (fun j => cmr m r t j * wsg m (bw m s T (mo m.n) (k + 1)) (s t) j) m.n) * wsg m (bw m s T (mo m.n) (k + 1)) (s t) (lk (fun j => cmr m r t j * wsg m (bw m s T (mo m.n) (k + 1)) (s t) j) m.n) = _
      rw [← h]
    rw [e2]
    show cmr m r t (r t) * m.g (r t) (s t) * wrow m s r (m.p (r t)) (t + 1) (k + 1) = _
    rw [h2]
    unfold wsg
    grind
/-- VITERBI: no row is likelier. -/
theorem viterbi {m : Hm} {K : Nat} (h : Ok m K) {s r v : Nat → Nat} {T : Nat} (hn : 0 < m.n) (hs : ∀ u, u < T → s u < K) (hr : ∀ u, u < T → r u < m.n) (hv : Vit m s v T T) : pr m s r T ≤ pr m s v T := by
  cases T with
  | zero => exact Rat.le_refl
  | succ k =>
    have h1 := pr_wrow m s r (k + 1) 0
    have h2 := pr_wrow m s v (k + 1) 0
    rw [Nat.zero_add] at h1 h2
    rw [← h1, ← h2]
    show 1 * wrow m s r m.f 0 (k + 1) ≤ 1 * wrow m s v m.f 0 (k + 1)
    have e := row_eq hv k 0 (by omega)
    have e' : wrow m s v m.f 0 (k + 1) = mo m.n m.f (wsg m (bw m s (k + 1) (mo m.n) k) (s 0)) := e
    rw [Rat.one_mul, Rat.one_mul, e']
    exact row_le h hn hs hr k 0 (by omega) m.f h.f0
end Go.Proofs.YtfnbjenneodcdaaGreatDoor.Blf
