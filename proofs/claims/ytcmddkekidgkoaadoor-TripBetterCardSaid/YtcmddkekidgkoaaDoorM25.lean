/- A stable sort: places changed among themselves, rows in order, merging by turning two neighbours about. -/
namespace Go.Proofs.YtcmddkekidgkoaaDoor.Stb

def swp (f : Nat → Nat) (a b : Nat) : Nat → Nat := fun i => if i = a then f b else if i = b then f a else f i
theorem swp_a (f : Nat → Nat) (a b : Nat) : swp f a b a = f b := by simp [swp]
theorem swp_b (f : Nat → Nat) {a b : Nat} (h : a ≠ b) : swp f a b b = f a := by simp [swp, Ne.symm h]
theorem swp_o (f : Nat → Nat) {a b i : Nat} (h : i ≠ a) (h' : i ≠ b) : swp f a b i = f i := by simp [swp, h, h']

/-- f' is f with its places from a to b changed among themselves. -/
def Re (a b : Nat) (f f' : Nat → Nat) : Prop :=
  ∃ σ τ : Nat → Nat, (∀ i, τ (σ i) = i) ∧ (∀ i, σ (τ i) = i) ∧ (∀ i, ¬ (a ≤ i ∧ i < b) → σ i = i) ∧ ∀ i, f' i = f (σ i)
theorem Re.refl (a b : Nat) (f : Nat → Nat) : Re a b f f := ⟨id, id, fun _ => rfl, fun _ => rfl, fun _ _ => rfl, fun _ => rfl⟩
theorem Re.trans {a b : Nat} {f g h : Nat → Nat} : Re a b f g → Re a b g h → Re a b f h
  | ⟨σ, τ, h1, h2, h3, h4⟩, ⟨σ', τ', k1, k2, k3, k4⟩ =>
    ⟨fun i => σ (σ' i), fun i => τ' (τ i), fun i => by show τ' (τ (σ (σ' i))) = i; rw [h1, k1], fun i => by show σ (σ' (τ' (τ i))) = i; rw [k2, h2], fun i hi => by show σ (σ' i) = i; rw [k3 i hi, h3 i hi], fun i => by rw [k4, h4]⟩
theorem Re.mono {a b a' b' : Nat} {f g : Nat → Nat} (ha : a' ≤ a) (hb : b ≤ b') : Re a b f g → Re a' b' f g
  | ⟨σ, τ, h1, h2, h3, h4⟩ => ⟨σ, τ, h1, h2, fun i hi => h3 i (by omega), h4⟩
theorem Re.out {a b : Nat} {f g : Nat → Nat} : Re a b f g → ∀ i, ¬ (a ≤ i ∧ i < b) → g i = f i
  | ⟨σ, τ, h1, h2, h3, h4⟩, i, hi => by rw [h4, h3 i hi]
theorem Re.from {a b : Nat} {f g : Nat → Nat} : Re a b f g → ∀ i, a ≤ i → i < b → ∃ j, a ≤ j ∧ j < b ∧ g i = f j
  | ⟨σ, τ, h1, h2, h3, h4⟩, i, hi, hi' => by
    by_cases c : a ≤ σ i ∧ σ i < b
    · exact ⟨σ i, c.1, c.2, h4 i⟩
    · have e := h3 (σ i) c
      have e2 : σ i = i := by rw [← h1 (σ i), e, h1]
      exact ⟨i, hi, hi', by rw [h4, e2]⟩
theorem Re.sym {a b : Nat} {f g : Nat → Nat} : Re a b f g → Re a b g f
  | ⟨σ, τ, h1, h2, h3, h4⟩ => ⟨τ, σ, h2, h1, fun i hi => by have := h3 i hi; rw [← this, h1]; exact this.symm, fun i => by rw [h4, h2]⟩
theorem Re.swp {a b x y : Nat} (f : Nat → Nat) (hx : a ≤ x) (hx' : x < b) (hy : a ≤ y) (hy' : y < b) : Re a b f (swp f x y) := by
  refine ⟨Stb.swp id x y, Stb.swp id x y, ?_, ?_, ?_, ?_⟩
  · intro i; unfold Stb.swp; simp only [id]; grind
  · intro i; unfold Stb.swp; simp only [id]; grind
  · intro i hi; unfold Stb.swp; simp only [id]; grind
  · intro i; unfold Stb.swp; simp only [id]; grind
theorem Re.inj {a b n : Nat} {f g : Nat → Nat} (h : Re a b f g) (hb : b ≤ n) (hf : ∀ i j, i < n → j < n → f i = f j → i = j) : ∀ i j, i < n → j < n → g i = g j → i = j := by
  have h := h.mono (Nat.zero_le a) hb
  obtain ⟨σ, τ, h1, h2, h3, h4⟩ := h
  have hs : ∀ i, i < n → σ i < n := fun i hi => by
    rcases Nat.lt_or_ge (σ i) n with c | c
    · exact c
    · have e := h3 (σ i) (by omega)
      have e2 : σ i = i := by rw [← h1 (σ i), e, h1]
      omega
  intro i j hi hj e
  rw [h4, h4] at e
  have := hf _ _ (hs i hi) (hs j hj) e
  rw [← h1 i, this, h1]
theorem Re.lt {a b n : Nat} {f g : Nat → Nat} (h : Re a b f g) (hb : b ≤ n) (hf : ∀ i, i < n → f i < n) : ∀ i, i < n → g i < n := fun i hi => by
  by_cases c : a ≤ i ∧ i < b
  · obtain ⟨j, h1, h2, h3⟩ := h.from i c.1 c.2
    rw [h3]; exact hf j (by omega)
  · rw [h.out i c]; exact hf i hi

/-- What is told by comparing, and of like ones by number. -/
def Lo (lt : Nat → Nat → Bool) (x y : Nat) : Prop := lt x y = true ∨ (lt y x = false ∧ x < y)
/-- A comparison that is an order (of like ones). -/
structure Wo (n : Nat) (lt : Nat → Nat → Bool) : Prop where
  asym : ∀ x y, x < n → y < n → lt x y = true → lt y x = false
  tr : ∀ x y z, x < n → y < n → z < n → lt y x = false → lt z y = false → lt z x = false
theorem Wo.trans {n : Nat} {lt : Nat → Nat → Bool} (W : Wo n lt) {x y z : Nat} (hx : x < n) (hy : y < n) (hz : z < n) (h1 : Lo lt x y) (h2 : Lo lt y z) : Lo lt x z := by
  have n1 : lt y x = false := by
    rcases h1 with h | h
    · exact W.asym x y hx hy h
    · exact h.1
  have n2 : lt z y = false := by
    rcases h2 with h | h
    · exact W.asym y z hy hz h
    · exact h.1
  have n3 := W.tr x y z hx hy hz n1 n2
  cases c : lt x z with
  | true => exact Or.inl c
  | false =>
    have m1 : lt x y = false := W.tr y z x hy hz hx n2 c
    have m2 : lt y z = false := W.tr z x y hz hx hy c n1
    rcases h1 with h | h
    · rw [m1] at h; cases h
    · rcases h2 with h' | h'
      · rw [m2] at h'; cases h'
      · exact Or.inr ⟨n3, by omega⟩
theorem Wo.irr {n : Nat} {lt : Nat → Nat → Bool} (W : Wo n lt) {x : Nat} (hx : x < n) : ¬ Lo lt x x := by
  rintro (h | h)
  · have := W.asym x x hx hx h; rw [this] at h; cases h
  · omega

/-- In order from a to b; like ones in the order of their numbers. -/
def Sr (lt : Nat → Nat → Bool) (f : Nat → Nat) (a b : Nat) : Prop := ∀ p q, a ≤ p → p < q → q < b → Lo lt (f p) (f q)
def Stl (lt : Nat → Nat → Bool) (f : Nat → Nat) (a b : Nat) : Prop := ∀ p q, a ≤ p → p < q → q < b → lt (f q) (f p) = false → Lo lt (f p) (f q)
def Rng (n : Nat) (f : Nat → Nat) : Prop := ∀ i, i < n → f i < n
theorem Sr.stl {lt : Nat → Nat → Bool} {f : Nat → Nat} {a b : Nat} (h : Sr lt f a b) : Stl lt f a b := fun p q h1 h2 h3 _ => h p q h1 h2 h3
theorem Stl.sub {lt : Nat → Nat → Bool} {f : Nat → Nat} {a b a' b' : Nat} (h : Stl lt f a b) (ha : a ≤ a') (hb : b' ≤ b) : Stl lt f a' b' := fun p q h1 h2 h3 => h p q (by omega) h2 (by omega)
theorem Sr.sub {lt : Nat → Nat → Bool} {f : Nat → Nat} {a b a' b' : Nat} (h : Sr lt f a b) (ha : a ≤ a') (hb : b' ≤ b) : Sr lt f a' b' := fun p q h1 h2 h3 => h p q (by omega) h2 (by omega)
theorem Sr.congr {lt : Nat → Nat → Bool} {f g : Nat → Nat} {a b : Nat} (h : Sr lt f a b) (e : ∀ i, a ≤ i → i < b → g i = f i) : Sr lt g a b := fun p q h1 h2 h3 => by
  rw [e p h1 (by omega), e q (by omega) h3]; exact h p q h1 h2 h3
theorem stl_next {lt : Nat → Nat → Bool} {f g : Nat → Nat} {a b n : Nat} (h : Stl lt f 0 n) (hbn : b ≤ n) (hr : Re a b f g) (hs : Sr lt g a b) : Stl lt g 0 n := fun p q h1 h2 h3 hl => by
  by_cases cp : a ≤ p ∧ p < b
  · by_cases cq : a ≤ q ∧ q < b
    · exact hs p q cp.1 h2 cq.2
    · obtain ⟨j, j1, j2, j3⟩ := hr.from p cp.1 cp.2
      rw [j3, hr.out q cq] at hl ⊢
      exact h j q (Nat.zero_le _) (by omega) h3 hl
  · rw [hr.out p cp] at hl ⊢
    by_cases cq : a ≤ q ∧ q < b
    · obtain ⟨j, j1, j2, j3⟩ := hr.from q cq.1 cq.2
      rw [j3] at hl ⊢
      exact h p j (Nat.zero_le _) (by omega) (by omega) hl
    · rw [hr.out q cq] at hl ⊢
      exact h p q h1 h2 h3 hl

/-- Insertion: all in order but for the one at j, which is ahead of all behind it. -/
structure Flo (lt : Nat → Nat → Bool) (f : Nat → Nat) (a i j : Nat) : Prop where
  rest : ∀ p q, a ≤ p → p < q → q ≤ i → p ≠ j → q ≠ j → Lo lt (f p) (f q)
  behind : ∀ q, j < q → q ≤ i → Lo lt (f j) (f q)
  ahead : ∀ p, a ≤ p → p < j → lt (f j) (f p) = false → Lo lt (f p) (f j)
theorem flo_start {lt : Nat → Nat → Bool} {f0 f : Nat → Nat} {a i b : Nat} (h0 : Stl lt f0 a b) (hr : Re a i f0 f) (h : Sr lt f a i) (hi : i < b) : Flo lt f a i i :=
  ⟨fun p q h1 h2 h3 h4 h5 => h p q h1 h2 (by omega), fun q h1 h2 => by omega, fun p h1 h2 h3 => by
    obtain ⟨j, j1, j2, j3⟩ := hr.from p h1 h2
    rw [j3, hr.out i (by omega)] at h3 ⊢
    exact h0 j i j1 (by omega) hi h3⟩
theorem flo_step {lt : Nat → Nat → Bool} {f : Nat → Nat} {a i m : Nat} (h : Flo lt f a i (m + 1)) (ha : a ≤ m) (hi : m + 1 ≤ i) (hlt : lt (f (m + 1)) (f m) = true) : Flo lt (swp f (m + 1) m) a i m := by
  have hne : m + 1 ≠ m := by omega
  refine ⟨fun p q ap hpq hq hp hq' => ?_, fun q h1 h2 => ?_, fun p h1 h2 => ?_⟩
  · by_cases e1 : p = m + 1
    · subst e1
      rw [swp_a, swp_o f (by omega) hq']
      exact h.rest m q ha (by omega) hq (by omega) (by omega)
    · rw [swp_o f e1 hp]
      by_cases e2 : q = m + 1
      · subst e2
        rw [swp_a]
        exact h.rest p m ap (by omega) (by omega) e1 (by omega)
      · rw [swp_o f e2 hq']
        exact h.rest p q ap hpq hq e1 e2
  · rw [swp_b f hne]
    by_cases e2 : q = m + 1
    · subst e2
      rw [swp_a]
      exact Or.inl hlt
    · rw [swp_o f e2 (by omega)]
      exact h.behind q (by omega) h2
  · rw [swp_b f hne, swp_o f (by omega) (by omega)]
    exact h.ahead p h1 (by omega)
theorem flo_stop {n : Nat} {lt : Nat → Nat → Bool} (W : Wo n lt) {f : Nat → Nat} {a i j : Nat} (hf : Rng n f) (hin : i < n) (h : Flo lt f a i j) (hj : j ≤ i) (hs : j ≤ a ∨ lt (f j) (f (j - 1)) = false) : Sr lt f a (i + 1) := fun p q ap hpq hq => by
  by_cases e1 : p = j
  · subst e1; exact h.behind q hpq (by omega)
  · by_cases e2 : q = j
    · subst e2
      rcases hs with hs | hs
      · omega
      · have hl := h.ahead (q - 1) (by omega) (by omega) hs
        by_cases e3 : p = q - 1
        · rw [e3]; exact hl
        · exact W.trans (hf _ (by omega)) (hf _ (by omega)) (hf _ (by omega)) (h.rest p (q - 1) ap (by omega) (by omega) e1 (by omega)) hl
    · exact h.rest p q ap hpq (by omega) e1 e2

/-- Two pieces change places; two neighbours turned about. -/
def srg (f : Nat → Nat) (a b n : Nat) : Nat → Nat := fun x => if a ≤ x ∧ x < a + n then f (x - a + b) else if b ≤ x ∧ x < b + n then f (x - b + a) else f x
def rot (f : Nat → Nat) (a m b : Nat) : Nat → Nat := fun x => if a ≤ x ∧ x < a + (b - m) then f (x - a + m) else if a + (b - m) ≤ x ∧ x < b then f (x - (b - m)) else f x
theorem srg_zero (f : Nat → Nat) (a b : Nat) : srg f a b 0 = f := by
  funext x; unfold srg; rw [if_neg (by omega), if_neg (by omega)]
theorem srg_step (f : Nat → Nat) {a b k : Nat} (h : a + k < b) : swp (srg f a b k) (a + k) (b + k) = srg f a b (k + 1) := by
  funext x
  unfold swp srg
  grind
theorem rot_gt (f : Nat → Nat) {m i j : Nat} (hi : i ≤ m) (h : j < i) (hj : 0 < j) : rot (srg f (m - i) m j) (m - (i - j)) m (m + j) = rot f (m - i) m (m + j) := by
  funext x
  unfold rot srg
  grind
theorem rot_lt (f : Nat → Nat) {m i j : Nat} (hi : i ≤ m) (h : i < j) (hi0 : 0 < i) : rot (srg f (m - i) (m + j - i) i) (m - i) m (m + (j - i)) = rot f (m - i) m (m + j) := by
  funext x
  unfold rot srg
  grind
theorem rot_eq (f : Nat → Nat) {m i : Nat} (hi : i ≤ m) : srg f (m - i) m i = rot f (m - i) m (m + i) := by
  funext x
  unfold rot srg
  grind
theorem Re.rot (f : Nat → Nat) {a m b : Nat} (h1 : a ≤ m) (h2 : m ≤ b) : Re a b f (rot f a m b) := by
  refine ⟨Stb.rot id a m b, fun x => if a ≤ x ∧ x < m then x + (b - m) else if m ≤ x ∧ x < b then x - (m - a) else x, ?_, ?_, ?_, ?_⟩
  · intro i; unfold Stb.rot; simp only [id]; grind
  · intro i; unfold Stb.rot; simp only [id]; grind
  · intro i hi; unfold Stb.rot; simp only [id]; grind
  · intro i; unfold Stb.rot; simp only [id]; grind
theorem Re.srg (f : Nat → Nat) {a b n lo hi : Nat} (h0 : lo ≤ a) (h1 : a + n ≤ b) (h2 : b + n ≤ hi) : Re lo hi f (srg f a b n) := by
  refine ⟨Stb.srg id a b n, Stb.srg id a b n, ?_, ?_, ?_, ?_⟩
  · intro i; unfold Stb.srg; simp only [id]; grind
  · intro i; unfold Stb.srg; simp only [id]; grind
  · intro i hi; unfold Stb.srg; simp only [id]; grind
  · intro i; unfold Stb.srg; simp only [id]; grind

/-- One put among those behind it, one put among those ahead of it. -/
def mvf (f : Nat → Nat) (a k : Nat) : Nat → Nat := fun x => if a ≤ x ∧ x < k then f (x + 1) else if x = k then f a else f x
def mvb (f : Nat → Nat) (m k : Nat) : Nat → Nat := fun x => if k < x ∧ x ≤ m then f (x - 1) else if x = k then f m else f x
theorem mvf_start (f : Nat → Nat) (a : Nat) : mvf f a a = f := by funext x; unfold mvf; grind
theorem mvb_start (f : Nat → Nat) (m : Nat) : mvb f m m = f := by funext x; unfold mvb; grind
theorem mvf_step (f : Nat → Nat) {a k : Nat} (h : a ≤ k) : swp (mvf f a k) k (k + 1) = mvf f a (k + 1) := by
  funext x
  unfold swp mvf
  grind
theorem mvb_step (f : Nat → Nat) {m k : Nat} (h : k + 1 ≤ m) : swp (mvb f m (k + 1)) (k + 1) k = mvb f m k := by
  funext x
  unfold swp mvb
  grind
theorem mvf_sorted {lt : Nat → Nat → Bool} {f : Nat → Nat} {a i b : Nat} (hib : i ≤ b) (hai : a < i) (hs : Sr lt f (a + 1) b) (h1 : ∀ q, a + 1 ≤ q → q < i → Lo lt (f q) (f a)) (h2 : ∀ q, i ≤ q → q < b → Lo lt (f a) (f q)) : Sr lt (mvf f a (i - 1)) a b := fun p q hp hpq hq => by
  unfold mvf
  by_cases c1 : p < i - 1
  · rw [if_pos ⟨hp, c1⟩]
    by_cases c2 : q < i - 1
    · rw [if_pos ⟨by omega, c2⟩]; exact hs _ _ (by omega) (by omega) (by omega)
    · rw [if_neg (by omega)]
      by_cases c3 : q = i - 1
      · rw [if_pos c3]; exact h1 _ (by omega) (by omega)
      · rw [if_neg c3]; exact hs _ _ (by omega) (by omega) hq
  · rw [if_neg (by omega), if_neg (show ¬ (a ≤ q ∧ q < i - 1) by omega), if_neg (show q ≠ i - 1 by omega)]
    by_cases c3 : p = i - 1
    · rw [if_pos c3]; exact h2 q (by omega) hq
    · rw [if_neg c3]; exact hs _ _ (by omega) (by omega) hq
theorem mvb_sorted {lt : Nat → Nat → Bool} {f : Nat → Nat} {a i m : Nat} (hai : a ≤ i) (him : i ≤ m) (hs : Sr lt f a m) (h1 : ∀ p, a ≤ p → p < i → Lo lt (f p) (f m)) (h2 : ∀ p, i ≤ p → p < m → Lo lt (f m) (f p)) : Sr lt (mvb f m i) a (m + 1) := fun p q hp hpq hq => by
  unfold mvb
  by_cases c1 : i < q
  · rw [if_pos (show i < q ∧ q ≤ m by omega)]
    by_cases c2 : i < p
    · rw [if_pos (show i < p ∧ p ≤ m by omega)]; exact hs _ _ (by omega) (by omega) (by omega)
    · rw [if_neg (show ¬ (i < p ∧ p ≤ m) by omega)]
      by_cases c3 : p = i
      · rw [if_pos c3]; exact h2 _ (by omega) (by omega)
      · rw [if_neg c3]; exact hs _ _ (by omega) (by omega) (by omega)
  · rw [if_neg (show ¬ (i < q ∧ q ≤ m) by omega), if_neg (show ¬ (i < p ∧ p ≤ m) by omega), if_neg (show p ≠ i by omega)]
    by_cases c3 : q = i
    · rw [if_pos c3]; exact h1 _ (by omega) (by omega)
    · rw [if_neg c3]; exact hs _ _ (by omega) (by omega) (by omega)

/-- The search of a turning place. -/
structure Sea (lt : Nat → Nat → Bool) (f : Nat → Nat) (p s0 r0 s r : Nat) : Prop where
  h1 : s0 ≤ s
  h2 : s ≤ r
  h3 : r ≤ r0
  lo : ∀ c, s0 ≤ c → c < s → Lo lt (f c) (f (p - c))
  hi : ∀ c, r ≤ c → c < r0 → Lo lt (f (p - c)) (f c)
theorem sea_start {lt : Nat → Nat → Bool} {f : Nat → Nat} {p s0 r0 : Nat} (h : s0 ≤ r0) : Sea lt f p s0 r0 s0 r0 := ⟨Nat.le_refl _, h, Nat.le_refl _, fun c h1 h2 => by omega, fun c h1 h2 => by omega⟩
/-- What a merge begins with. -/
structure Mg (n : Nat) (lt : Nat → Nat → Bool) (f : Nat → Nat) (a m b : Nat) : Prop where
  am : a < m
  mb : m < b
  bn : b ≤ n
  rng : Rng n f
  s1 : Sr lt f a m
  s2 : Sr lt f m b
  st : Stl lt f a b
/-- Where the search begins. -/
structure Sta (a m b mid s0 r0 : Nat) : Prop where
  mid1 : 2 * mid ≤ a + b
  mid2 : a + b ≤ 2 * mid + 1
  c : (mid < m ∧ s0 + b = mid + m ∧ r0 = mid) ∨ (m ≤ mid ∧ s0 = a ∧ r0 = m)
theorem sea_lo {n : Nat} {lt : Nat → Nat → Bool} (W : Wo n lt) {f : Nat → Nat} {a m b mid s0 r0 s r c : Nat} (M : Mg n lt f a m b) (S : Sta a m b mid s0 r0) (h : Sea lt f (mid + m - 1) s0 r0 s r) (hc : s ≤ c) (hc' : c < r) (hl : lt (f (mid + m - 1 - c)) (f c) = false) : Sea lt f (mid + m - 1) s0 r0 (c + 1) r := by
  obtain ⟨am, mb, bn, rng, s1, s2, st⟩ := M
  obtain ⟨d1, d2, d3⟩ := S
  obtain ⟨h1, h2, h3, lo, hi⟩ := h
  have k := st c (mid + m - 1 - c) (by omega) (by omega) (by omega) hl
  refine ⟨by omega, by omega, h3, fun x hx hx' => ?_, hi⟩
  rcases Nat.lt_or_ge x s with q | q
  · exact lo x hx q
  · have k1 : Lo lt (f x) (f (mid + m - 1 - c)) := by
      rcases Nat.lt_or_ge x c with t | t
      · exact W.trans (rng _ (by omega)) (rng _ (by omega)) (rng _ (by omega)) (s1 x c (by omega) t (by omega)) k
      · rw [show x = c by omega]; exact k
    rcases Nat.lt_or_ge x c with t | t
    · exact W.trans (rng _ (by omega)) (rng _ (by omega)) (rng _ (by omega)) k1 (s2 (mid + m - 1 - c) (mid + m - 1 - x) (by omega) (by omega) (by omega))
    · rw [show x = c by omega]; exact k
theorem sea_hi {n : Nat} {lt : Nat → Nat → Bool} (W : Wo n lt) {f : Nat → Nat} {a m b mid s0 r0 s r c : Nat} (M : Mg n lt f a m b) (S : Sta a m b mid s0 r0) (h : Sea lt f (mid + m - 1) s0 r0 s r) (hc : s ≤ c) (hc' : c < r) (hl : lt (f (mid + m - 1 - c)) (f c) = true) : Sea lt f (mid + m - 1) s0 r0 s c := by
  obtain ⟨am, mb, bn, rng, s1, s2, st⟩ := M
  obtain ⟨d1, d2, d3⟩ := S
  obtain ⟨h1, h2, h3, lo, hi⟩ := h
  have k : Lo lt (f (mid + m - 1 - c)) (f c) := Or.inl hl
  refine ⟨by omega, by omega, by omega, lo, fun x hx hx' => ?_⟩
  rcases Nat.lt_or_ge x r with q | q
  · rcases Nat.lt_or_ge c x with t | t
    · have k1 : Lo lt (f (mid + m - 1 - x)) (f c) := W.trans (rng _ (by omega)) (rng _ (by omega)) (rng _ (by omega)) (s2 (mid + m - 1 - x) (mid + m - 1 - c) (by omega) (by omega) (by omega)) k
      exact W.trans (rng _ (by omega)) (rng _ (by omega)) (rng _ (by omega)) k1 (s1 c x (by omega) t (by omega))
    · rw [show x = c by omega]; exact k
  · exact hi x q hx'

/-- Behind the turn: four pieces, the first two ahead of the last two. -/
structure Four (n : Nat) (lt : Nat → Nat → Bool) (g : Nat → Nat) (a s mid e b : Nat) : Prop where
  h1 : a ≤ s
  h2 : s ≤ mid
  h3 : mid ≤ e
  h4 : e ≤ b
  s1 : Sr lt g a s
  s2 : Sr lt g s mid
  s3 : Sr lt g mid e
  s4 : Sr lt g e b
  t1 : Stl lt g a mid
  t2 : Stl lt g mid b
  x : ∀ p q, a ≤ p → p < mid → mid ≤ q → q < b → Lo lt (g p) (g q)
theorem four {n : Nat} {lt : Nat → Nat → Bool} (W : Wo n lt) {f : Nat → Nat} {a m b mid s0 r0 s : Nat} (M : Mg n lt f a m b) (S : Sta a m b mid s0 r0) (h : Sea lt f (mid + m - 1) s0 r0 s s) : Four n lt (rot f s m (mid + m - s)) a s mid (mid + m - s) b := by
  obtain ⟨am, mb, bn, rng, s1, s2, st⟩ := M
  obtain ⟨d1, d2, d3⟩ := S
  obtain ⟨h1, h2, h3, lo, hi⟩ := h
  have hsm : s ≤ m := by omega
  have hsd : s ≤ mid := by omega
  have has : a ≤ s := by omega
  have hme : m ≤ mid + m - s := by omega
  have heb : mid + m - s ≤ b := by omega
  have e1 : ∀ x, x < s → rot f s m (mid + m - s) x = f x := fun x hx => by unfold rot; rw [if_neg (by omega), if_neg (by omega)]
  have e2 : ∀ x, s ≤ x → x < mid → rot f s m (mid + m - s) x = f (x - s + m) := fun x hx hx' => by unfold rot; rw [if_pos (by omega)]
  have e3 : ∀ x, mid ≤ x → x < mid + m - s → rot f s m (mid + m - s) x = f (x - (mid - s)) := fun x hx hx' => by
    unfold rot; rw [if_neg (by omega), if_pos (by omega)]; congr 1; omega
  have e4 : ∀ x, mid + m - s ≤ x → rot f s m (mid + m - s) x = f x := fun x hx => by unfold rot; rw [if_neg (by omega), if_neg (by omega)]
  have q1 : Sr lt (rot f s m (mid + m - s)) a s := fun p q k1 k2 k3 => by rw [e1 p (by omega), e1 q k3]; exact s1 p q k1 k2 (by omega)
  have q2 : Sr lt (rot f s m (mid + m - s)) s mid := fun p q k1 k2 k3 => by rw [e2 p k1 (by omega), e2 q (by omega) k3]; exact s2 _ _ (by omega) (by omega) (by omega)
  have q3 : Sr lt (rot f s m (mid + m - s)) mid (mid + m - s) := fun p q k1 k2 k3 => by rw [e3 p k1 (by omega), e3 q (by omega) k3]; exact s1 _ _ (by omega) (by omega) (by omega)
  have q4 : Sr lt (rot f s m (mid + m - s)) (mid + m - s) b := fun p q k1 k2 k3 => by rw [e4 p k1, e4 q (by omega)]; exact s2 _ _ (by omega) (by omega) k3
  refine ⟨has, hsd, by omega, heb, q1, q2, q3, q4, fun p q k1 k2 k3 k4 => ?_, fun p q k1 k2 k3 k4 => ?_, fun p q k1 k2 k3 k4 => ?_⟩
  · rcases Nat.lt_or_ge q s with c | c
    · exact q1 p q k1 k2 c
    · rcases Nat.lt_or_ge p s with d | d
      · rw [e1 p d, e2 q c k3] at k4 ⊢
        exact st _ _ k1 (by omega) (by omega) k4
      · exact q2 p q d k2 k3
  · rcases Nat.lt_or_ge q (mid + m - s) with c | c
    · exact q3 p q k1 k2 c
    · rcases Nat.lt_or_ge p (mid + m - s) with d | d
      · rw [e3 p k1 d, e4 q c] at k4 ⊢
        exact st _ _ (by omega) (by omega) k3 k4
      · exact q4 p q d k2 k3
  · rcases Nat.lt_or_ge p s with c | c
    · rw [e1 p c]
      rcases Nat.lt_or_ge q (mid + m - s) with d | d
      · rw [e3 q k3 d]; exact s1 _ _ k1 (by omega) (by omega)
      · rw [e4 q d]
        have hlt : s0 < s := by omega
        have k := lo (s - 1) (by omega) (by omega)
        rw [show mid + m - 1 - (s - 1) = mid + m - s by omega] at k
        have k5 : Lo lt (f p) (f (mid + m - s)) := by
          rcases Nat.lt_or_ge p (s - 1) with t | t
          · exact W.trans (rng _ (by omega)) (rng _ (by omega)) (rng _ (by omega)) (s1 p (s - 1) k1 t (by omega)) k
          · rw [show p = s - 1 by omega]; exact k
        rcases Nat.lt_or_ge (mid + m - s) q with t | t
        · exact W.trans (rng _ (by omega)) (rng _ (by omega)) (rng _ (by omega)) k5 (s2 _ _ (by omega) t k4)
        · rw [show q = mid + m - s by omega]; exact k5
    · rw [e2 p c k2]
      rcases Nat.lt_or_ge q (mid + m - s) with d | d
      · rw [e3 q k3 d]
        have k := hi s (Nat.le_refl _) (by omega)
        have k5 : Lo lt (f (p - s + m)) (f s) := by
          rcases Nat.lt_or_ge (p - s + m) (mid + m - 1 - s) with t | t
          · exact W.trans (rng _ (by omega)) (rng _ (by omega)) (rng _ (by omega)) (s2 _ _ (by omega) t (by omega)) k
          · rw [show p - s + m = mid + m - 1 - s by omega]; exact k
        rcases Nat.lt_or_ge s (q - (mid - s)) with t | t
        · exact W.trans (rng _ (by omega)) (rng _ (by omega)) (rng _ (by omega)) k5 (s1 _ _ (by omega) t (by omega))
        · rw [show q - (mid - s) = s by omega]; exact k5
      · rw [e4 q d]; exact s2 _ _ (by omega) (by omega) k4
/-- Both halves put in order: the whole is. -/
theorem four_done {n : Nat} {lt : Nat → Nat → Bool} {g h : Nat → Nat} {a s mid e b : Nat} (F : Four n lt g a s mid e b) {g1 : Nat → Nat} (r1 : Re a mid g g1) (o1 : Sr lt g1 a mid) (r2 : Re mid b g1 h) (o2 : Sr lt h mid b) : Sr lt h a b := fun p q k1 k2 k3 => by
  rcases Nat.lt_or_ge q mid with c | c
  · rw [r2.out p (by omega), r2.out q (by omega)]; exact o1 p q k1 k2 c
  · rcases Nat.lt_or_ge p mid with d | d
    · obtain ⟨j, j1, j2, j3⟩ := r1.from p k1 d
      obtain ⟨i, i1, i2, i3⟩ := r2.from q c k3
      rw [r2.out p (by omega), j3, i3, r1.out i (by omega)]
      exact F.x j i j1 j2 i1 i2
    · exact o2 p q d k2 k3

/-- Blocks in order. -/
def Blk (lt : Nat → Nat → Bool) (f : Nat → Nat) (s n : Nat) : Prop := ∀ k, Sr lt f (k * s) (min (k * s + s) n)
structure Mix (lt : Nat → Nat → Bool) (f : Nat → Nat) (s n k : Nat) : Prop where
  did : ∀ j, j < k → Sr lt f (j * (2 * s)) (j * (2 * s) + 2 * s)
  left : ∀ j, 2 * k ≤ j → Sr lt f (j * s) (min (j * s + s) n)
theorem mix_start {lt : Nat → Nat → Bool} {f : Nat → Nat} {s n : Nat} (h : Blk lt f s n) : Mix lt f s n 0 := ⟨fun j hj => by omega, fun j _ => h j⟩
theorem mix_step {lt : Nat → Nat → Bool} {f g : Nat → Nat} {s n k : Nat} (h : Mix lt f s n k) (hr : Re (k * (2 * s)) (k * (2 * s) + 2 * s) f g) (hs : Sr lt g (k * (2 * s)) (k * (2 * s) + 2 * s)) : Mix lt g s n (k + 1) := by
  refine ⟨fun j hj => ?_, fun j hj => ?_⟩
  · rcases Nat.lt_or_ge j k with c | c
    · have hm : (j + 1) * (2 * s) ≤ k * (2 * s) := Nat.mul_le_mul_right _ c
      rw [Nat.succ_mul] at hm
      exact (h.did j c).congr fun i h1 h2 => hr.out i (by omega)
    · rw [show j = k by omega]; exact hs
  · have hm : (2 * (k + 1)) * s ≤ j * s := Nat.mul_le_mul_right _ hj
    have e : (2 * (k + 1)) * s = k * (2 * s) + 2 * s := by grind
    exact (h.left j (by omega)).congr fun i h1 h2 => hr.out i (by omega)
theorem mix_pair {lt : Nat → Nat → Bool} {f : Nat → Nat} {s n k b : Nat} (h : Mix lt f s n k) (hb : b ≤ n) (hb1 : b ≤ k * (2 * s) + 2 * s) (hb2 : k * (2 * s) + s < b) : Sr lt f (k * (2 * s)) (k * (2 * s) + s) ∧ Sr lt f (k * (2 * s) + s) b := by
  have e : (2 * k) * s = k * (2 * s) := by grind
  have e' : (2 * k + 1) * s = k * (2 * s) + s := by grind
  have h1 := h.left (2 * k) (Nat.le_refl _)
  have h2 := h.left (2 * k + 1) (by omega)
  rw [e] at h1
  rw [e'] at h2
  exact ⟨h1.sub (Nat.le_refl _) (by omega), h2.sub (Nat.le_refl _) (by omega)⟩
/-- All pairs merged, and the rest (if there are two in it). -/
theorem mix_done {lt : Nat → Nat → Bool} {f g : Nat → Nat} {s n k : Nat} (h : Mix lt f s n k) (hr : Re (k * (2 * s)) n f g) (hs : Sr lt g (k * (2 * s)) n) : Blk lt g (2 * s) n := fun j => by
  rcases Nat.lt_or_ge j k with c | c
  · have hm : (j + 1) * (2 * s) ≤ k * (2 * s) := Nat.mul_le_mul_right _ c
    rw [Nat.succ_mul] at hm
    exact ((h.did j c).congr fun i h1 h2 => hr.out i (by omega)).sub (Nat.le_refl _) (by omega)
  · have hm : k * (2 * s) ≤ j * (2 * s) := Nat.mul_le_mul_right _ c
    exact hs.sub hm (by omega)
theorem mix_end {lt : Nat → Nat → Bool} {f : Nat → Nat} {s n k : Nat} (h : Mix lt f s n k) (hk : n ≤ k * (2 * s) + s) : Sr lt f (k * (2 * s)) n := by
  have h1 := h.left (2 * k) (Nat.le_refl _)
  rw [show (2 * k) * s = k * (2 * s) by grind] at h1
  exact h1.sub (Nat.le_refl _) (by omega)
/-- The first blocks. -/
def Fst (lt : Nat → Nat → Bool) (f : Nat → Nat) (s k : Nat) : Prop := ∀ j, j < k → Sr lt f (j * s) (j * s + s)
theorem fst_step {lt : Nat → Nat → Bool} {f g : Nat → Nat} {s k : Nat} (h : Fst lt f s k) (hr : Re (k * s) (k * s + s) f g) (hs : Sr lt g (k * s) (k * s + s)) : Fst lt g s (k + 1) := fun j hj => by
  rcases Nat.lt_or_ge j k with c | c
  · have hm : (j + 1) * s ≤ k * s := Nat.mul_le_mul_right _ c
    rw [Nat.succ_mul] at hm
    exact (h j c).congr fun i h1 h2 => hr.out i (by omega)
  · rw [show j = k by omega]; exact hs
theorem fst_done {lt : Nat → Nat → Bool} {f g : Nat → Nat} {s n k : Nat} (h : Fst lt f s k) (hr : Re (k * s) n f g) (hs : Sr lt g (k * s) n) : Blk lt g s n := fun j => by
  rcases Nat.lt_or_ge j k with c | c
  · have hm : (j + 1) * s ≤ k * s := Nat.mul_le_mul_right _ c
    rw [Nat.succ_mul] at hm
    exact ((h j c).congr fun i h1 h2 => hr.out i (by omega)).sub (Nat.le_refl _) (by omega)
  · have hm : k * s ≤ j * s := Nat.mul_le_mul_right _ c
    exact hs.sub hm (by omega)
theorem blk_done {lt : Nat → Nat → Bool} {f : Nat → Nat} {s n : Nat} (h : Blk lt f s n) (hs : n ≤ s) : Sr lt f 0 n := by
  have := h 0
  rw [Nat.zero_mul] at this
  exact this.sub (Nat.le_refl _) (by omega)
end Go.Proofs.YtcmddkekidgkoaaDoor.Stb
