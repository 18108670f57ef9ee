/- Seats: how many are kept from cheap classes; the best limits are nested (Littlewood). -/
import Derived.Test.YtfnbjenneodcdaaM20
namespace Go.Proofs.Ytfnbjenneodcdaa.Sea
open Go.Proofs.Ytfnbjenneodcdaa.Bth

theorem ps_add (f g : Nat → Rat) (k : Nat) : ps (fun j => f j + g j) k = ps f k + ps g k := by
  induction k with
  | zero => show (0 : Rat) = 0 + 0; grind
  | succ k ih => show ps (fun j => f j + g j) k + (f k + g k) = (ps f k + f k) + (ps g k + g k); rw [ih]; grind
theorem ps_mul (f : Nat → Rat) (c : Rat) (k : Nat) : ps (fun j => f j * c) k = ps f k * c := by
  induction k with
  | zero => show (0 : Rat) = 0 * c; grind
  | succ k ih => show ps (fun j => f j * c) k + f k * c = (ps f k + f k) * c; rw [ih]; grind
theorem ps_le {f g : Nat → Rat} : ∀ k, (∀ j, j < k → f j ≤ g j) → ps f k ≤ ps g k
  | 0, _ => Rat.le_refl
  | k + 1, h => by
    have a := ps_le (f := f) (g := g) k (fun j hj => h j (by omega))
    have b := h k (by omega)
    show ps f k + f k ≤ ps g k + g k
    grind

/-- The mean of what tickets bring. -/
def mn (a : Nat → Rat) (K t : Nat) (b : Nat → Rat) : Rat := ps (fun n => a n * b n) (min t K) + (1 - ps a (min t K)) * b (min t K)
/-- What seats bring if a class comes first. -/
def sd (p : Rat) (a : Nat → Rat) (K : Nat) (v : Nat → Rat) (k s : Nat) : Rat := mn a K (s - k) (fun n => p * ((n : Int) : Rat) + v (s - n))
/-- How many of the first seats bring more than p each. -/
def kp (v : Nat → Rat) (p : Rat) : Nat → Nat
  | 0 => 0
  | N + 1 => if kp v p N = N ∧ p < v (N + 1) - v N then N + 1 else kp v p N
theorem kp_le (v : Nat → Rat) (p : Rat) : ∀ N, kp v p N ≤ N
  | 0 => Nat.le_refl _
  | N + 1 => by
    have := kp_le v p N
    unfold kp; split <;> omega
theorem kp_more (v : Nat → Rat) (p : Rat) : ∀ N m, m < kp v p N → p < v (m + 1) - v m
  | 0, m, h => by unfold kp at h; omega
  | N + 1, m, h => by
    unfold kp at h
    split at h
    · rename_i c
      by_cases e : m = N
      · rw [e]; exact c.2
      · exact kp_more v p N m (by rw [c.1]; omega)
    · exact kp_more v p N m h
theorem kp_end (v : Nat → Rat) (p : Rat) : ∀ N, kp v p N < N → ¬ p < v (kp v p N + 1) - v (kp v p N)
  | 0, h => by omega
  | N + 1, h => by
    by_cases c : kp v p N = N ∧ p < v (N + 1) - v N
    · have e : kp v p (N + 1) = N + 1 := by show (if _ then _ else _) = _; rw [if_pos c]
      omega
    · have e : kp v p (N + 1) = kp v p N := by show (if _ then _ else _) = _; rw [if_neg c]
      rw [e]
      by_cases d : kp v p N = N
      · rw [d]; exact fun h => c ⟨d, h⟩
      · have := kp_le v p N
        exact kp_end v p N (by omega)
theorem kp_is {v : Nat → Rat} {p : Rat} {N n : Nat} (h1 : n ≤ N) (h2 : ∀ m, m < n → p < v (m + 1) - v m) (h3 : n < N → ¬ p < v (n + 1) - v n) : kp v p N = n := by
  have a := kp_le v p N
  rcases Nat.lt_trichotomy (kp v p N) n with h | h | h
  · exact absurd (h2 _ h) (kp_end v p N (by omega))
  · exact h
  · exact absurd (kp_more v p N n h) (h3 (by omega))
theorem kp_ge {v : Nat → Rat} {p : Rat} {N n : Nat} (h1 : n ≤ N) (h2 : ∀ m, m < n → p < v (m + 1) - v m) : n ≤ kp v p N := by
  rcases Nat.lt_or_ge (kp v p N) n with h | h
  · exact absurd (h2 _ h) (kp_end v p N (by omega))
  · exact h

/-- Asks: a law. -/
structure Law (a : Nat → Rat) (K : Nat) : Prop where
  nn : ∀ n, n < K → 0 ≤ a n
  one : ps a K = 1
theorem ps_split (f g : Nat → Rat) (m : Nat) : ∀ d, ps (fun x => f x * g (min x m)) (m + d) = ps (fun x => f x * g x) m + (ps f (m + d) - ps f m) * g m
  | 0 => by
    have e : ps (fun x => f x * g (min x m)) m = ps (fun x => f x * g x) m := ps_congr _ (fun j hj => by rw [Nat.min_eq_left (by omega)])
    rw [Nat.add_zero, e]; grind
  | d + 1 => by
    have ih := ps_split f g m d
    show ps (fun x => f x * g (min x m)) (m + d) + f (m + d) * g (min (m + d) m) = ps (fun x => f x * g x) m + (ps f (m + d) + f (m + d) - ps f m) * g m
    rw [ih, Nat.min_eq_right (by omega)]
    grind
theorem mn_is {a : Nat → Rat} {K : Nat} (h : Law a K) (t : Nat) (b : Nat → Rat) : mn a K t b = ps (fun x => a x * b (min x t)) K := by
  unfold mn
  rcases Nat.lt_or_ge t K with c | c
  · rw [Nat.min_eq_left (by omega)]
    have e := ps_split a b t (K - t)
    rw [show t + (K - t) = K by omega, h.one] at e
    rw [e]
  · rw [Nat.min_eq_right c, h.one]
    have e : ps (fun x => a x * b (min x t)) K = ps (fun n => a n * b n) K := ps_congr _ (fun j hj => by rw [Nat.min_eq_left (by omega)])
    rw [e]; grind

def gx (p : Rat) (v : Nat → Rat) (k x s : Nat) : Rat := p * ((min x (s - k) : Nat) : Int) + v (s - min x (s - k))
theorem sd_is {p : Rat} {a : Nat → Rat} {K : Nat} (h : Law a K) (v : Nat → Rat) (k s : Nat) : sd p a K v k s = ps (fun x => a x * gx p v k x s) K := mn_is h _ _

/-- Less and less for each more, up to N. -/
def Cc (v : Nat → Rat) (N : Nat) : Prop := ∀ s, s + 2 ≤ N → v (s + 2) - v (s + 1) ≤ v (s + 1) - v s
theorem Cc.far {v : Nat → Rat} {N : Nat} (h : Cc v N) {i : Nat} : ∀ d, i + d + 1 ≤ N → v (i + d + 1) - v (i + d) ≤ v (i + 1) - v i
  | 0, _ => Rat.le_refl
  | d + 1, hd => Rat.le_trans (h (i + d) (by omega)) (h.far d (by omega))
theorem Cc.behind {v : Nat → Rat} {N : Nat} {p : Rat} (h : Cc v N) {m : Nat} (hk : kp v p N ≤ m) (hm : m < N) : v (m + 1) - v m ≤ p := by
  have e := kp_end v p N (by omega)
  have a := h.far (i := kp v p N) (m - kp v p N) (by omega)
  rw [show kp v p N + (m - kp v p N) = m by omega] at a
  grind

theorem gx_lo {p : Rat} {v : Nat → Rat} {k x s : Nat} (h : s ≤ k) : gx p v k x s = v s := by
  unfold gx
  rw [show s - k = 0 by omega, Nat.min_zero, Nat.sub_zero]
  show p * ((0 : Int) : Rat) + _ = _
  grind
theorem gx_mid {p : Rat} {v : Nat → Rat} {k x s : Nat} (h : k ≤ s) (h2 : s ≤ k + x) : gx p v k x s = p * (((s - k : Nat) : Int) : Rat) + v k := by
  unfold gx
  rw [Nat.min_eq_right (by omega), show s - (s - k) = k by omega]
theorem gx_hi {p : Rat} {v : Nat → Rat} {k x s : Nat} (h2 : k + x ≤ s) : gx p v k x s = p * ((x : Int) : Rat) + v (s - x) := by
  unfold gx
  rw [Nat.min_eq_left (by omega)]
theorem d_lo {p : Rat} {v : Nat → Rat} {k x s : Nat} (h : s < k) : gx p v k x (s + 1) - gx p v k x s = v (s + 1) - v s := by
  rw [gx_lo (by omega), gx_lo (by omega)]
theorem d_mid {p : Rat} {v : Nat → Rat} {k x s : Nat} (h : k ≤ s) (h2 : s < k + x) : gx p v k x (s + 1) - gx p v k x s = p := by
  rw [gx_mid (by omega) (by omega), gx_mid h (by omega), show s + 1 - k = (s - k) + 1 by omega, cast_succ]
  grind
theorem d_hi {p : Rat} {v : Nat → Rat} {k x s : Nat} (h2 : k + x ≤ s) : gx p v k x (s + 1) - gx p v k x s = v (s - x + 1) - v (s - x) := by
  rw [gx_hi (by omega), gx_hi h2, show s + 1 - x = s - x + 1 by omega]
  grind
theorem gx_cc {p : Rat} {v : Nat → Rat} {N x : Nat} (h : Cc v N) : Cc (gx p v (kp v p N) x) N := by
  intro s hs
  obtain ⟨k, hk⟩ : ∃ k, kp v p N = k := ⟨_, rfl⟩
  have hkN : k ≤ N := by rw [← hk]; exact kp_le _ _ _
  have lo : ∀ m, m < k → p < v (m + 1) - v m := fun m hm => kp_more v p N m (by rw [hk]; exact hm)
  have hi : ∀ m, k ≤ m → m < N → v (m + 1) - v m ≤ p := fun m h1 h2 => h.behind (by rw [hk]; exact h1) h2
  rw [hk]
  rcases Nat.lt_or_ge (s + 1) k with c | c
  · rw [d_lo c, d_lo (by omega)]; exact h s hs
  rcases Nat.lt_or_ge s k with c1 | c1
  · rw [d_lo c1]
    rcases Nat.lt_or_ge (s + 1) (k + x) with c2 | c2
    · rw [d_mid c c2]
      have := lo s c1
      grind
    · rw [d_hi c2]
      have a := hi (s + 1 - x) (by omega) (by omega)
      have b := lo s c1
      grind
  rcases Nat.lt_or_ge s (k + x) with c2 | c2
  · rw [d_mid c1 c2]
    rcases Nat.lt_or_ge (s + 1) (k + x) with c3 | c3
    · rw [d_mid c c3]; exact Rat.le_refl
    · rw [d_hi c3]; exact hi _ (by omega) (by omega)
  · rw [d_hi c2, d_hi (by omega), show s + 1 - x = s - x + 1 by omega]
    exact h (s - x) (by omega)
theorem sd_cc {p : Rat} {a : Nat → Rat} {K : Nat} (hl : Law a K) {v : Nat → Rat} {N : Nat} (h : Cc v N) : Cc (sd p a K v (kp v p N)) N := by
  intro s hs
  rw [sd_is hl, sd_is hl, sd_is hl]
  have e : ps (fun x => a x * gx p v (kp v p N) x (s + 2)) K + ps (fun x => a x * gx p v (kp v p N) x s) K ≤ ps (fun x => a x * gx p v (kp v p N) x (s + 1)) K + ps (fun x => a x * gx p v (kp v p N) x (s + 1)) K := by
    rw [← ps_add, ← ps_add]
    refine ps_le K (fun x hx => ?_)
    have a1 := gx_cc (p := p) (x := x) h s hs
    have a2 := hl.nn x hx
    have a3 : gx p v (kp v p N) x (s + 2) + gx p v (kp v p N) x s ≤ gx p v (kp v p N) x (s + 1) + gx p v (kp v p N) x (s + 1) := by grind
    have a4 := Rat.mul_le_mul_of_nonneg_left a3 a2
    grind
  grind

/-- No other way to sell is better. -/
theorem hi_best {p : Rat} {v : Nat → Rat} {N s : Nat} (h : Cc v N) (hs : s ≤ N) {x j : Nat} (hj : j ≤ x) (hjs : j ≤ s) : p * ((j : Int) : Rat) + v (s - j) ≤ gx p v (kp v p N) x s := by
  obtain ⟨k, hk⟩ : ∃ k, kp v p N = k := ⟨_, rfl⟩
  have lo : ∀ m, m < k → p < v (m + 1) - v m := fun m hm => kp_more v p N m (by rw [hk]; exact hm)
  have hi : ∀ m, k ≤ m → m < N → v (m + 1) - v m ≤ p := fun m h1 h2 => h.behind (by rw [hk]; exact h1) h2
  rw [hk]
  have up : ∀ d i, i + d ≤ s - k → p * ((i : Int) : Rat) + v (s - i) ≤ p * (((i + d : Nat) : Int) : Rat) + v (s - (i + d)) := by
    intro d
    induction d with
    | zero => intro i _; exact Rat.le_refl
    | succ d ih =>
      intro i hi'
      have a := ih i (by omega)
      have b := hi (s - (i + d) - 1) (by omega) (by omega)
      rw [show s - (i + d) - 1 + 1 = s - (i + d) by omega] at b
      rw [show i + (d + 1) = i + d + 1 by omega, cast_succ, show s - (i + d + 1) = s - (i + d) - 1 by omega]
      grind
  have dn : ∀ d i, s - k ≤ i → i + d ≤ s → p * (((i + d : Nat) : Int) : Rat) + v (s - (i + d)) ≤ p * ((i : Int) : Rat) + v (s - i) := by
    intro d
    induction d with
    | zero => intro i _ _; exact Rat.le_refl
    | succ d ih =>
      intro i h1 h2
      have a := ih i h1 (by omega)
      have b := lo (s - (i + d) - 1) (by omega)
      rw [show s - (i + d) - 1 + 1 = s - (i + d) by omega] at b
      rw [show i + (d + 1) = i + d + 1 by omega, cast_succ, show s - (i + d + 1) = s - (i + d) - 1 by omega]
      grind
  unfold gx
  rcases Nat.le_total x (s - k) with c | c
  · rw [Nat.min_eq_left c]
    have := up (x - j) j (by omega)
    rw [show j + (x - j) = x by omega] at this
    exact this
  · rw [Nat.min_eq_right c]
    rcases Nat.le_total j (s - k) with c2 | c2
    · have := up (s - k - j) j (by omega)
      rw [show j + (s - k - j) = s - k by omega] at this
      exact this
    · have := dn (j - (s - k)) (s - k) (Nat.le_refl _) (by omega)
      rw [show s - k + (j - (s - k)) = j by omega] at this
      exact this
theorem sd_best {p : Rat} {a : Nat → Rat} {K : Nat} (hl : Law a K) {u v : Nat → Rat} {N : Nat} (h : Cc v N) (hu : ∀ s, s ≤ N → u s ≤ v s) (o : Nat) {s : Nat} (hs : s ≤ N) : sd p a K u o s ≤ sd p a K v (kp v p N) s := by
  rw [sd_is hl, sd_is hl]
  refine ps_le K (fun x hx => ?_)
  refine Rat.mul_le_mul_of_nonneg_left ?_ (hl.nn x hx)
  refine Rat.le_trans ?_ (hi_best h hs (x := x) (j := min x (s - o)) (Nat.min_le_left _ _) (by omega))
  have := hu (s - min x (s - o)) (by omega)
  unfold gx
  grind

/-- What 0, 1, .. seats bring, if the first so many classes are to come. -/
def wo (p : Nat → Rat) (a : Nat → Nat → Rat) (K : Nat → Nat) (N : Nat) : Nat → Nat → Rat
  | 0 => fun _ => 0
  | i + 1 => sd (p i) (a i) (K i) (wo p a K N i) (kp (wo p a K N i) (p i) N)
/-- What seats bring by given limits. -/
def se (p : Nat → Rat) (a : Nat → Nat → Rat) (K : Nat → Nat) (o : Nat → Nat) : Nat → Nat → Rat
  | 0 => fun _ => 0
  | i + 1 => sd (p i) (a i) (K i) (se p a K o i) (o i)
def kpo (p : Nat → Rat) (a : Nat → Nat → Rat) (K : Nat → Nat) (N : Nat) (i : Nat) : Nat := kp (wo p a K N i) (p i) N
theorem wo_se (p : Nat → Rat) (a : Nat → Nat → Rat) (K : Nat → Nat) (N : Nat) : ∀ i, wo p a K N i = se p a K (kpo p a K N) i
  | 0 => rfl
  | i + 1 => by show sd _ _ _ (wo p a K N i) _ = sd _ _ _ (se p a K (kpo p a K N) i) _; rw [← wo_se p a K N i]; rfl
theorem se_congr {p : Nat → Rat} {a : Nat → Nat → Rat} {K : Nat → Nat} {o o' : Nat → Nat} : ∀ i, (∀ j, j < i → o j = o' j) → se p a K o i = se p a K o' i
  | 0, _ => rfl
  | i + 1, h => by show sd _ _ _ (se p a K o i) _ = sd _ _ _ (se p a K o' i) _; rw [se_congr i (fun j hj => h j (by omega)), h i (by omega)]
theorem wo_cc {p : Nat → Rat} {a : Nat → Nat → Rat} {K : Nat → Nat} {N n : Nat} (hl : ∀ i, i < n → Law (a i) (K i)) : ∀ i, i ≤ n → Cc (wo p a K N i) N
  | 0, _ => fun s _ => by show (0 : Rat) - 0 ≤ 0 - 0; grind
  | i + 1, h => sd_cc (hl i (by omega)) (wo_cc hl i (by omega))
theorem best {p : Nat → Rat} {a : Nat → Nat → Rat} {K : Nat → Nat} {N n : Nat} (hl : ∀ i, i < n → Law (a i) (K i)) (o : Nat → Nat) : ∀ i, i ≤ n → ∀ s, s ≤ N → se p a K o i s ≤ wo p a K N i s
  | 0, _, _, _ => Rat.le_refl
  | i + 1, h, s, hs => sd_best (hl i (by omega)) (wo_cc hl i (by omega)) (best hl o i (by omega)) (o i) hs
theorem sd_low {p : Rat} {a : Nat → Rat} {K : Nat} (hl : Law a K) {v : Nat → Rat} {k s : Nat} (h : s ≤ k) : sd p a K v k s = v s := by
  rw [sd_is hl]
  have e : ps (fun x => a x * gx p v k x s) K = ps (fun x => a x * v s) K := ps_congr _ (fun x _ => by rw [gx_lo h])
  rw [e, ps_mul, hl.one]; grind
theorem nested {p : Nat → Rat} {a : Nat → Nat → Rat} {K : Nat → Nat} {N n : Nat} (hl : ∀ i, i < n → Law (a i) (K i)) {i : Nat} (hi : i < n) (hp : p (i + 1) ≤ p i) : kpo p a K N i ≤ kpo p a K N (i + 1) := by
  refine kp_ge (kp_le _ _ _) (fun m hm => ?_)
  have h1 := kp_more (wo p a K N i) (p i) N m hm
  have hm' : m < kp (wo p a K N i) (p i) N := hm
  show p (i + 1) < sd (p i) (a i) (K i) (wo p a K N i) (kp (wo p a K N i) (p i) N) (m + 1) - sd (p i) (a i) (K i) (wo p a K N i) (kp (wo p a K N i) (p i) N) m
  rw [sd_low (hl i hi) (by omega), sd_low (hl i hi) (by omega)]
  grind
theorem kpo_zero {p : Nat → Rat} {a : Nat → Nat → Rat} {K : Nat → Nat} {N : Nat} (h : 0 ≤ p 0) : kpo p a K N 0 = 0 := by
  refine kp_is (Nat.zero_le _) (fun m hm => by omega) (fun _ => ?_)
  show ¬ p 0 < (0 : Rat) - 0
  grind

/-! Two classes -/
/-- From one seat to the next the dear class brings its price by the chance that one more asks. -/
theorem one_more {p : Rat} {a : Nat → Rat} {K : Nat} (hl : Law a K) (m : Nat) : sd p a K (fun _ => 0) 0 (m + 1) - sd p a K (fun _ => 0) 0 m = p * (1 - ps a (min (m + 1) K)) := by
  rw [sd_is hl, sd_is hl]
  have e : ∀ d, ps (fun x => a x * gx p (fun _ => 0) 0 x (m + 1)) d - ps (fun x => a x * gx p (fun _ => 0) 0 x m) d = p * (ps a d - ps a (min (m + 1) d)) := by
    intro d
    induction d with
    | zero => rw [Nat.min_zero]; show (0 : Rat) - 0 = p * (0 - 0); grind
    | succ d ih =>
      show (ps (fun x => a x * gx p (fun _ => 0) 0 x (m + 1)) d + a d * gx p (fun _ => 0) 0 d (m + 1)) - (ps (fun x => a x * gx p (fun _ => 0) 0 x m) d + a d * gx p (fun _ => 0) 0 d m) = p * (ps a d + a d - _)
      rcases Nat.lt_or_ge m d with c | c
      · have h1 := d_mid (p := p) (v := fun _ => 0) (k := 0) (x := d) (s := m) (by omega) (by omega)
        rw [Nat.min_eq_left (by omega)] at ih ⊢
        grind
      · have h1 := d_hi (p := p) (v := fun _ => (0 : Rat)) (k := 0) (x := d) (s := m) (by omega)
        rw [Nat.min_eq_right (by omega)] at ih ⊢
        have e2 : ps a (d + 1) = ps a d + a d := rfl
        rw [e2]
        grind
  rw [e, hl.one]
/-- Littlewood: as long as it is more likely than the share that one more asks. -/
theorem two {p q c : Rat} {a : Nat → Rat} {K N n : Nat} (hl : Law a K) (hp : 0 < p) (hc : c * p = q) (hn : n < K) (hnN : n < N) (h1 : ∀ m, m < n → c < 1 - ps a (m + 1)) (h2 : ¬ c < 1 - ps a (n + 1)) : kp (sd p a K (fun _ => 0) 0) q N = n := by
  have e : ∀ m, m < K → (q < sd p a K (fun _ => 0) 0 (m + 1) - sd p a K (fun _ => 0) 0 m ↔ c < 1 - ps a (m + 1)) := by
    intro m hm
    rw [one_more hl, Nat.min_eq_left (by omega), ← hc]
    have e1 : p * (1 - ps a (m + 1)) = (1 - ps a (m + 1)) * p := Rat.mul_comm _ _
    rw [e1]
    exact ⟨fun h => lt_of_mul hp h, fun h => Rat.mul_lt_mul_of_pos_right h hp⟩
  exact kp_is (by omega) (fun m hm => (e m (by omega)).2 (h1 m hm)) (fun _ => fun h => h2 ((e n hn).1 h))
end Go.Proofs.Ytfnbjenneodcdaa.Sea
