/- Wagner and Whitin: periods are parted into runs; the best last run, again and again, is the best of all plans. -/
namespace Go.Proofs.YtbbmhidnakghfaaDoor.Lot

/-- What is wanted, what an order costs, what it costs to keep a piece, in each of n periods. -/
structure Nd where
  n : Nat
  W : Nat → Int
  O : Nat → Int
  K : Nat → Int
structure Good (N : Nd) : Prop where
  few : N.n ≤ 50
  w : ∀ i, i < N.n → 0 ≤ N.W i ∧ N.W i ≤ 1000000
  o : ∀ i, i < N.n → 0 ≤ N.O i ∧ N.O i ≤ 1000000
  k : ∀ i, i < N.n → 0 ≤ N.K i ∧ N.K i ≤ 1000000

/-- What is wanted in the d periods ahead of t. -/
def ws (N : Nd) (t : Nat) : Nat → Int
  | 0 => 0
  | d + 1 => ws N t d + N.W (t - (d + 1))
/-- What it costs to keep what they want, where all comes in the first of them. -/
def kp (N : Nd) (t : Nat) : Nat → Int
  | 0 => 0
  | d + 1 => kp N t d + N.K (t - (d + 1)) * ws N t d
def run (N : Nd) (t d : Nat) : Int := kp N t d + if 0 < ws N t d then N.O (t - d) else 0
/-- The best of the last runs of up to so many periods. -/
def sc (N : Nd) (l : Nat → Int) (t : Nat) : Nat → Int × Nat
  | 0 => (0, 0)
  | b + 1 => if b = 0 ∨ l (t - (b + 1)) + run N t (b + 1) < (sc N l t b).1 then (l (t - (b + 1)) + run N t (b + 1), t - (b + 1)) else sc N l t b
def tab (N : Nd) : Nat → Nat → Int × Nat
  | 0 => fun _ => (0, 0)
  | t + 1 => fun i => if i = t + 1 then sc N (fun j => (tab N t j).1) (t + 1) (t + 1) else tab N t i
def L (N : Nd) (i : Nat) : Int := (tab N i i).1
def B (N : Nd) (i : Nat) : Nat := (tab N i i).2

theorem tab_gt (N : Nd) : ∀ t i, t < i → tab N t i = (0, 0)
  | 0, _, _ => rfl
  | t + 1, i, h => by
    show (if i = t + 1 then _ else tab N t i) = _
    rw [if_neg (by omega)]
    exact tab_gt N t i (by omega)
theorem tab_le (N : Nd) : ∀ t i, i ≤ t → tab N t i = tab N i i
  | 0, i, h => by rw [show i = 0 by omega]
  | t + 1, i, h => by
    by_cases c : i = t + 1
    · rw [c]
    · show (if i = t + 1 then _ else tab N t i) = _
      rw [if_neg c]
      exact tab_le N t i (by omega)
theorem sc_congr (N : Nd) {l l' : Nat → Int} {t : Nat} (h : ∀ j, j < t → l j = l' j) : ∀ b, b ≤ t → sc N l t b = sc N l' t b
  | 0, _ => rfl
  | b + 1, hb => by
    show (if b = 0 ∨ l (t - (b + 1)) + run N t (b + 1) < (sc N l t b).1 then _ else _) = (if b = 0 ∨ l' (t - (b + 1)) + run N t (b + 1) < (sc N l' t b).1 then _ else _)
    rw [sc_congr N h b (by omega), h (t - (b + 1)) (by omega)]
theorem tab_sc (N : Nd) (t : Nat) : tab N (t + 1) (t + 1) = sc N (L N) (t + 1) (t + 1) := by
  show (if t + 1 = t + 1 then sc N (fun j => (tab N t j).1) (t + 1) (t + 1) else _) = _
  rw [if_pos rfl]
  refine sc_congr N (fun j hj => ?_) _ (Nat.le_refl _)
  show (tab N t j).1 = (tab N j j).1
  rw [tab_le N t j (by omega)]
/-- What the scan finds: the least, of like ones the latest. -/
theorem sc_is (N : Nd) (l : Nat → Int) (t : Nat) : ∀ b, 0 < b → ∃ k, 0 < k ∧ k ≤ b ∧ sc N l t b = (l (t - k) + run N t k, t - k) ∧ (∀ j, 0 < j → j ≤ b → l (t - k) + run N t k ≤ l (t - j) + run N t j) ∧ (∀ j, 0 < j → j < k → l (t - k) + run N t k < l (t - j) + run N t j)
  | 0, h => absurd h (Nat.lt_irrefl _)
  | b + 1, _ => by
    by_cases hb : b = 0
    · subst hb
      refine ⟨1, by omega, by omega, ?_, fun j h1 h2 => ?_, fun j h1 h2 => absurd h2 (by omega)⟩
      · show (if 0 = 0 ∨ _ then _ else _) = _
        rw [if_pos (Or.inl rfl)]
      · rw [show j = 1 by omega]; exact Int.le_refl _
    · obtain ⟨k, k1, k2, e, h1, h2⟩ := sc_is N l t b (by omega)
      by_cases hs : l (t - (b + 1)) + run N t (b + 1) < l (t - k) + run N t k
      · refine ⟨b + 1, by omega, Nat.le_refl _, ?_, fun j j1 j2 => ?_, fun j j1 j2 => ?_⟩
        · show (if b = 0 ∨ l (t - (b + 1)) + run N t (b + 1) < (sc N l t b).1 then _ else _) = _
          rw [if_pos (Or.inr (by rw [e]; exact hs))]
        · by_cases c : j = b + 1
          · rw [c]; exact Int.le_refl _
          · have := h1 j j1 (by omega); omega
        · have := h1 j j1 (by omega); omega
      · refine ⟨k, k1, by omega, ?_, fun j j1 j2 => ?_, h2⟩
        · show (if b = 0 ∨ l (t - (b + 1)) + run N t (b + 1) < (sc N l t b).1 then _ else sc N l t b) = _
          rw [if_neg (by rw [e]; rintro (c | c); exact hb c; exact hs c)]
          exact e
        · by_cases c : j = b + 1
          · rw [c]; omega
          · exact h1 j j1 (by omega)
theorem B_lt (N : Nd) {t : Nat} (h : 0 < t) : B N t < t := by
  obtain ⟨t, rfl⟩ : ∃ s, t = s + 1 := ⟨t - 1, by omega⟩
  obtain ⟨k, k1, k2, e, _⟩ := sc_is N (L N) (t + 1) (t + 1) (by omega)
  show (tab N (t + 1) (t + 1)).2 < _
  rw [tab_sc, e]
  show t + 1 - k < t + 1
  omega
theorem L_is (N : Nd) {t : Nat} (h : 0 < t) : L N t = L N (B N t) + run N t (t - B N t) := by
  obtain ⟨t, rfl⟩ : ∃ s, t = s + 1 := ⟨t - 1, by omega⟩
  obtain ⟨k, k1, k2, e, _⟩ := sc_is N (L N) (t + 1) (t + 1) (by omega)
  have eb : B N (t + 1) = t + 1 - k := by show (tab N (t + 1) (t + 1)).2 = _; rw [tab_sc, e]
  have el : L N (t + 1) = L N (t + 1 - k) + run N (t + 1) k := by show (tab N (t + 1) (t + 1)).1 = _; rw [tab_sc, e]
  rw [eb, el, show t + 1 - (t + 1 - k) = k by omega]
theorem L_le (N : Nd) {t d : Nat} (h : 0 < d) (h2 : d ≤ t) : L N t ≤ L N (t - d) + run N t d := by
  obtain ⟨t, rfl⟩ : ∃ s, t = s + 1 := ⟨t - 1, by omega⟩
  obtain ⟨k, k1, k2, e, h3, _⟩ := sc_is N (L N) (t + 1) (t + 1) (by omega)
  have el : L N (t + 1) = L N (t + 1 - k) + run N (t + 1) k := by show (tab N (t + 1) (t + 1)).1 = _; rw [tab_sc, e]
  rw [el]
  exact h3 d h h2
theorem sc_end (N : Nd) {t : Nat} (h : 0 < t) : sc N (L N) t t = (L N t, B N t) := by
  obtain ⟨t, rfl⟩ : ∃ s, t = s + 1 := ⟨t - 1, by omega⟩
  show _ = ((tab N (t + 1) (t + 1)).1, (tab N (t + 1) (t + 1)).2)
  rw [tab_sc]

/-- Bounds. -/
theorem ws_bd {N : Nd} (g : Good N) {t : Nat} (ht : t ≤ N.n) : ∀ d, d ≤ t → 0 ≤ ws N t d ∧ ws N t d ≤ 1000000 * (d : Int)
  | 0, _ => by show (0 : Int) ≤ 0 ∧ (0 : Int) ≤ 1000000 * ((0 : Nat) : Int); omega
  | d + 1, h => by
    have ih := ws_bd g ht d (by omega)
    have := g.w (t - (d + 1)) (by omega)
    show 0 ≤ ws N t d + N.W (t - (d + 1)) ∧ ws N t d + N.W (t - (d + 1)) ≤ _
    omega
theorem mul_bd {a b A C : Int} (h1 : 0 ≤ a) (h2 : a ≤ A) (h3 : 0 ≤ b) (h4 : b ≤ C) : 0 ≤ a * b ∧ a * b ≤ A * C :=
  ⟨Int.mul_nonneg h1 h3, Int.mul_le_mul h2 h4 h3 (by omega)⟩
theorem kp_bd {N : Nd} (g : Good N) {t : Nat} (ht : t ≤ N.n) : ∀ d, d ≤ t → 0 ≤ kp N t d ∧ kp N t d ≤ 50000000000000 * (d : Int)
  | 0, _ => by show (0 : Int) ≤ 0 ∧ (0 : Int) ≤ 50000000000000 * ((0 : Nat) : Int); omega
  | d + 1, h => by
    have ih := kp_bd g ht d (by omega)
    have h1 := g.k (t - (d + 1)) (by omega)
    have h2 := ws_bd g ht d (by omega)
    have h3 := g.few
    have h4 := mul_bd h1.1 h1.2 h2.1 (show ws N t d ≤ 50000000 by omega)
    show 0 ≤ kp N t d + N.K (t - (d + 1)) * ws N t d ∧ kp N t d + N.K (t - (d + 1)) * ws N t d ≤ _
    omega
theorem run_bd {N : Nd} (g : Good N) {t d : Nat} (ht : t ≤ N.n) (hd : d ≤ t) (h0 : 0 < d) : 0 ≤ run N t d ∧ run N t d ≤ 50000000000000 * (d : Int) + 1000000 := by
  have h1 := kp_bd g ht d hd
  have h2 := g.o (t - d) (by omega)
  unfold run
  split <;> omega
theorem L_bd {N : Nd} (g : Good N) : ∀ k t, t ≤ k → t ≤ N.n → 0 ≤ L N t ∧ L N t ≤ 50000001000000 * (t : Int)
  | k, 0, _, _ => by show (0 : Int) ≤ 0 ∧ (0 : Int) ≤ 50000001000000 * ((0 : Nat) : Int); omega
  | 0, t + 1, h, _ => absurd h (by omega)
  | k + 1, t + 1, hk, h => by
    have hb := B_lt N (show 0 < t + 1 by omega)
    have ih := L_bd g k (B N (t + 1)) (by omega) (by omega)
    have hr := run_bd g h (show t + 1 - B N (t + 1) ≤ t + 1 by omega) (by omega)
    rw [L_is N (show 0 < t + 1 by omega)]
    omega
theorem L_nn {N : Nd} (g : Good N) {t : Nat} (h : t ≤ N.n) : 0 ≤ L N t ∧ L N t ≤ 2500000050000000 := by
  have := L_bd g t t (Nat.le_refl _) h
  have := g.few
  omega

/-- What is left ahead of period k, and what it has cost. -/
def lf (N : Nd) (q : Nat → Int) : Nat → Int
  | 0 => 0
  | k + 1 => lf N q k + (q k - N.W k)
def co (N : Nd) (q : Nat → Int) : Nat → Int
  | 0 => 0
  | k + 1 => co N q k + (if 0 < q k then N.O k else 0) + N.K k * lf N q (k + 1)
/-- What is wrong in the first k periods: the first. -/
def er (N : Nd) (q : Nat → Int) : Nat → Int
  | 0 => 0
  | k + 1 => if er N q k ≠ 0 then er N q k else if q k < 0 ∨ 50000000 < q k then 2 else if lf N q (k + 1) < 0 then 8 else 0
theorem er_stays {N : Nd} {q : Nat → Int} {m : Nat} (h : er N q m ≠ 0) : ∀ d, er N q (m + d) = er N q m
  | 0 => rfl
  | d + 1 => by
    have ih := er_stays h d
    show (if er N q (m + d) ≠ 0 then er N q (m + d) else _) = _
    rw [ih, if_pos h]
theorem er_end {N : Nd} {q : Nat → Int} {m k : Nat} {c : Int} (h : er N q (m + 1) = c) (hc : c ≠ 0) (hm : m < k) : er N q k = c := by
  obtain ⟨d, rfl⟩ := Nat.le.dest (show m + 1 ≤ k by omega)
  rw [er_stays (by rw [h]; exact hc), h]
theorem er_range {N : Nd} {q : Nat → Int} {m : Nat} (h0 : er N q m = 0) (h : q m < 0 ∨ 50000000 < q m) : er N q (m + 1) = 2 := by
  show (if er N q m ≠ 0 then _ else if q m < 0 ∨ 50000000 < q m then 2 else _) = _
  rw [if_neg (by rw [h0]; decide), if_pos h]
theorem er_none {N : Nd} {q : Nat → Int} {m : Nat} (h0 : er N q m = 0) (h : ¬ (q m < 0 ∨ 50000000 < q m)) (h2 : lf N q (m + 1) < 0) : er N q (m + 1) = 8 := by
  show (if er N q m ≠ 0 then _ else if q m < 0 ∨ 50000000 < q m then 2 else if lf N q (m + 1) < 0 then 8 else 0) = _
  rw [if_neg (by rw [h0]; decide), if_neg h, if_pos h2]
theorem er_good {N : Nd} {q : Nat → Int} {m : Nat} (h0 : er N q m = 0) (h : ¬ (q m < 0 ∨ 50000000 < q m)) (h2 : ¬ lf N q (m + 1) < 0) : er N q (m + 1) = 0 := by
  show (if er N q m ≠ 0 then _ else if q m < 0 ∨ 50000000 < q m then 2 else if lf N q (m + 1) < 0 then 8 else 0) = _
  rw [if_neg (by rw [h0]; decide), if_neg h, if_neg h2]
theorem er_zero {N : Nd} {q : Nat → Int} : ∀ {k : Nat}, er N q k = 0 → ∀ i, i < k → 0 ≤ q i ∧ q i ≤ 50000000 ∧ 0 ≤ lf N q (i + 1)
  | k + 1, h, i, hi => by
    have h' : (if er N q k ≠ 0 then er N q k else if q k < 0 ∨ 50000000 < q k then 2 else if lf N q (k + 1) < 0 then 8 else 0) = (0 : Int) := h
    by_cases c1 : er N q k = 0
    · rw [if_neg (by simpa using c1)] at h'
      by_cases c2 : q k < 0 ∨ 50000000 < q k
      · rw [if_pos c2] at h'; exact absurd h' (by decide)
      · rw [if_neg c2] at h'
        by_cases c3 : lf N q (k + 1) < 0
        · rw [if_pos c3] at h'; exact absurd h' (by decide)
        · rcases Nat.lt_or_ge i k with c | c
          · exact er_zero c1 i c
          · obtain rfl : i = k := by omega
            omega
    · rw [if_pos c1] at h'; exact absurd h' c1
theorem lf_bd {N : Nd} (g : Good N) {q : Nat → Int} : ∀ {k : Nat}, k ≤ N.n → er N q k = 0 → 0 ≤ lf N q k ∧ lf N q k ≤ 50000000 * (k : Int)
  | 0, _, _ => by show (0 : Int) ≤ 0 ∧ (0 : Int) ≤ 50000000 * ((0 : Nat) : Int); omega
  | k + 1, hk, h => by
    have h0 : er N q k = 0 := by
      cases Decidable.em (er N q k = 0) with
      | inl c => exact c
      | inr c => rw [er_stays c 1] at h; exact h
    have ih := lf_bd g (by omega) h0
    have h1 := er_zero h k (by omega)
    have h2 := g.w k hk
    refine ⟨h1.2.2, ?_⟩
    show lf N q k + (q k - N.W k) ≤ _
    omega
theorem co_bd {N : Nd} (g : Good N) {q : Nat → Int} : ∀ {k : Nat}, k ≤ N.n → er N q k = 0 → 0 ≤ co N q k ∧ co N q k ≤ 2500000001000000 * (k : Int)
  | 0, _, _ => by show (0 : Int) ≤ 0 ∧ (0 : Int) ≤ 2500000001000000 * ((0 : Nat) : Int); omega
  | k + 1, hk, h => by
    have h0 : er N q k = 0 := by
      cases Decidable.em (er N q k = 0) with
      | inl c => exact c
      | inr c => rw [er_stays c 1] at h; exact h
    have ih := co_bd g (by omega) h0
    have h1 := lf_bd g hk h
    have h2 := g.k k hk
    have h3 := g.o k hk
    have h4 := g.few
    have h5 := mul_bd h2.1 h2.2 h1.1 (show lf N q (k + 1) ≤ 2500000000 by omega)
    show 0 ≤ co N q k + (if 0 < q k then N.O k else 0) + N.K k * lf N q (k + 1) ∧ co N q k + (if 0 < q k then N.O k else 0) + N.K k * lf N q (k + 1) ≤ _
    split <;> omega

/-- Where nothing comes behind s: what is left there is what is wanted, and what is left in the end. -/
theorem lf_back {N : Nd} {q : Nat → Int} {t : Nat} : ∀ d, d ≤ t → (∀ i, t - d ≤ i → i < t → q i = 0) → lf N q (t - d) = lf N q t + ws N t d
  | 0, _, _ => by show lf N q (t - 0) = lf N q t + 0; rw [Nat.sub_zero, Int.add_zero]
  | d + 1, hd, h => by
    have ih := lf_back (N := N) (q := q) d (by omega) (fun i h1 h2 => h i (by omega) h2)
    have h0 := h (t - (d + 1)) (Nat.le_refl _) (by omega)
    have e : lf N q (t - d) = lf N q (t - (d + 1)) + (q (t - (d + 1)) - N.W (t - (d + 1))) := by
      have e1 : t - d = t - (d + 1) + 1 := by omega
      rw [e1]; rfl
    show lf N q (t - (d + 1)) = lf N q t + (ws N t d + N.W (t - (d + 1)))
    omega
theorem co_back {N : Nd} (g : Good N) {q : Nat → Int} {t : Nat} (ht : t ≤ N.n) (hl : 0 ≤ lf N q t) : ∀ d, d ≤ t → (∀ i, t - d < i → i < t → q i = 0) → 0 < d →
    co N q (t - d) + (if 0 < q (t - d) then N.O (t - d) else 0) + kp N t d ≤ co N q t
  | 0, _, _, h => absurd h (Nat.lt_irrefl _)
  | d + 1, hd, h, _ => by
    have e1 : t - d = t - (d + 1) + 1 := by omega
    have hlf := lf_back (N := N) (q := q) (t := t) d (by omega) (fun i h1 h2 => h i (by omega) h2)
    have hk := g.k (t - (d + 1)) (by omega)
    have hw := ws_bd g ht d (by omega)
    have ec : co N q (t - d) = co N q (t - (d + 1)) + (if 0 < q (t - (d + 1)) then N.O (t - (d + 1)) else 0) + N.K (t - (d + 1)) * lf N q (t - d) := by
      rw [e1]; rfl
    have hm : N.K (t - (d + 1)) * ws N t d ≤ N.K (t - (d + 1)) * lf N q (t - d) := Int.mul_le_mul_of_nonneg_left (by omega) hk.1
    show co N q (t - (d + 1)) + (if 0 < q (t - (d + 1)) then N.O (t - (d + 1)) else 0) + (kp N t d + N.K (t - (d + 1)) * ws N t d) ≤ co N q t
    rcases Nat.eq_zero_or_pos d with c | c
    · subst c
      rw [Nat.sub_zero] at ec hm
      have : kp N t 0 = 0 := rfl
      omega
    · have ih := co_back g ht hl d (by omega) (fun i h1 h2 => h i (by omega) h2) c
      have h0 := h (t - d) (by omega) (by omega)
      rw [h0, if_neg (by omega)] at ih
      omega
theorem last_order (q : Nat → Int) (t : Nat) : ∀ d, d ≤ t → (∀ i, t - d ≤ i → i < t → q i = 0) ∨ ∃ s, s < t ∧ q s ≠ 0 ∧ ∀ i, s < i → i < t → q i = 0
  | 0, _ => Or.inl fun i h1 h2 => absurd h1 (by omega)
  | d + 1, hd => by
    rcases last_order q t d (by omega) with h | h
    · by_cases c : q (t - (d + 1)) = 0
      · refine Or.inl fun i h1 h2 => ?_
        by_cases ci : i = t - (d + 1)
        · rw [ci]; exact c
        · exact h i (by omega) h2
      · exact Or.inr ⟨t - (d + 1), by omega, c, fun i h1 h2 => h i (by omega) h2⟩
    · exact Or.inr h
/-- WAGNER AND WHITIN: no plan costs less. -/
theorem least {N : Nd} (g : Good N) {q : Nat → Int} : ∀ k t, t ≤ k → t ≤ N.n → (∀ i, i < t → 0 ≤ q i ∧ 0 ≤ lf N q (i + 1)) → L N t ≤ co N q t
  | k, 0, _, _, _ => Int.le_refl _
  | 0, t + 1, h, _, _ => absurd h (by omega)
  | k + 1, t + 1, hk, ht, h => by
    have hl := (h t (by omega)).2
    rcases last_order q (t + 1) (t + 1) (Nat.le_refl _) with c | ⟨s, s1, s2, s3⟩
    · have e := lf_back (N := N) (t := t + 1) (t + 1) (Nat.le_refl _) c
      rw [Nat.sub_self] at e
      have e0 : lf N q 0 = 0 := rfl
      have hw := ws_bd g ht (t + 1) (Nat.le_refl _)
      have h1 := co_back g ht hl (t + 1) (Nat.le_refl _) (fun i a b => c i (by omega) b) (by omega)
      rw [Nat.sub_self, c 0 (by omega) (by omega), if_neg (by omega)] at h1
      have hL := L_le N (show 0 < t + 1 by omega) (Nat.le_refl _)
      rw [Nat.sub_self] at hL
      have er : run N (t + 1) (t + 1) = kp N (t + 1) (t + 1) := by unfold run; rw [if_neg (by omega), Int.add_zero]
      have eL : L N 0 = 0 := rfl
      have ec : co N q 0 = 0 := rfl
      omega
    · have hq : 0 < q s := by have := (h s s1).1; omega
      have ih := least g k s (by omega) (by omega) (fun i hi => h i (by omega))
      have h1 := co_back g ht hl (t + 1 - s) (by omega) (fun i a b => s3 i (by omega) b) (by omega)
      rw [show t + 1 - (t + 1 - s) = s by omega, if_pos hq] at h1
      have hL := L_le N (show 0 < t + 1 - s by omega) (show t + 1 - s ≤ t + 1 by omega)
      rw [show t + 1 - (t + 1 - s) = s by omega] at hL
      have ho := g.o s (by omega)
      have er : run N (t + 1) (t + 1 - s) ≤ kp N (t + 1) (t + 1 - s) + N.O s := by
        unfold run
        rw [show t + 1 - (t + 1 - s) = s by omega]
        split <;> omega
      omega

/-- A run: all comes at f, nothing up to t. -/
theorem run_is {N : Nd} (g : Good N) {q : Nat → Int} {f t : Nat} (hft : f < t) (ht : t ≤ N.n) (h0 : lf N q f = 0) (hq : q f = ws N t (t - f)) (hz : ∀ i, f < i → i < t → q i = 0) (he : er N q f = 0) :
    ∀ d, d < t - f → lf N q (f + d + 1) = ws N t (t - f - d - 1) ∧ er N q (f + d + 1) = 0 ∧ co N q (f + d + 1) + kp N t (t - f - d - 1) = co N q f + run N t (t - f)
  | 0, _ => by
    have ew : ws N t (t - f) = ws N t (t - f - 1) + N.W f := by
      obtain ⟨m, hm⟩ : ∃ m, t - f = m + 1 := ⟨t - f - 1, by omega⟩
      have e2 : t - (m + 1) = f := by omega
      rw [hm]
      show ws N t m + N.W (t - (m + 1)) = _
      rw [e2, Nat.add_sub_cancel]
    have ek : kp N t (t - f) = kp N t (t - f - 1) + N.K f * ws N t (t - f - 1) := by
      obtain ⟨m, hm⟩ : ∃ m, t - f = m + 1 := ⟨t - f - 1, by omega⟩
      have e2 : t - (m + 1) = f := by omega
      rw [hm]
      show kp N t m + N.K (t - (m + 1)) * ws N t m = _
      rw [e2, Nat.add_sub_cancel]
    have hb := ws_bd g ht (t - f) (by omega)
    have hb1 := ws_bd g ht (t - f - 1) (by omega)
    have hfew := g.few
    have el : lf N q (f + 0 + 1) = ws N t (t - f - 0 - 1) := by
      show lf N q f + (q f - N.W f) = ws N t (t - f - 1)
      omega
    refine ⟨el, er_good he (by rw [hq]; omega) (by show ¬ lf N q (f + 0 + 1) < 0; rw [el]; show ¬ ws N t (t - f - 1) < 0; omega), ?_⟩
    show co N q f + (if 0 < q f then N.O f else 0) + N.K f * lf N q (f + 0 + 1) + kp N t (t - f - 1) = _
    rw [el, hq]
    show co N q f + (if 0 < ws N t (t - f) then N.O f else 0) + N.K f * ws N t (t - f - 1) + kp N t (t - f - 1) = _
    unfold run
    rw [ek, show t - (t - f) = f by omega]
    omega
  | d + 1, hd => by
    obtain ⟨i1, i2, i3⟩ := run_is g hft ht h0 hq hz he d (by omega)
    have hqz := hz (f + d + 1) (by omega) (by omega)
    have ew : ws N t (t - f - d - 1) = ws N t (t - f - (d + 1) - 1) + N.W (f + d + 1) := by
      obtain ⟨m, hm⟩ : ∃ m, t - f - d - 1 = m + 1 := ⟨t - f - d - 2, by omega⟩
      have e2 : t - (m + 1) = f + d + 1 := by omega
      rw [hm, show t - f - (d + 1) - 1 = m by omega]
      show ws N t m + N.W (t - (m + 1)) = _
      rw [e2]
    have ek : kp N t (t - f - d - 1) = kp N t (t - f - (d + 1) - 1) + N.K (f + d + 1) * ws N t (t - f - (d + 1) - 1) := by
      obtain ⟨m, hm⟩ : ∃ m, t - f - d - 1 = m + 1 := ⟨t - f - d - 2, by omega⟩
      have e2 : t - (m + 1) = f + d + 1 := by omega
      rw [hm, show t - f - (d + 1) - 1 = m by omega]
      show kp N t m + N.K (t - (m + 1)) * ws N t m = _
      rw [e2]
    have hb1 := ws_bd g ht (t - f - (d + 1) - 1) (by omega)
    have el : lf N q (f + (d + 1) + 1) = ws N t (t - f - (d + 1) - 1) := by
      show lf N q (f + d + 1) + (q (f + d + 1) - N.W (f + d + 1)) = _
      omega
    refine ⟨el, er_good i2 (by show ¬ (q (f + d + 1) < 0 ∨ 50000000 < q (f + d + 1)); rw [hqz]; omega) (by show ¬ lf N q (f + (d + 1) + 1) < 0; rw [el]; omega), ?_⟩
    show co N q (f + d + 1) + (if 0 < q (f + d + 1) then N.O (f + d + 1) else 0) + N.K (f + d + 1) * lf N q (f + (d + 1) + 1) + kp N t (t - f - (d + 1) - 1) = _
    rw [el, hqz, if_neg (by omega)]
    omega
theorem run_end {N : Nd} (g : Good N) {q : Nat → Int} {f t : Nat} (hft : f < t) (ht : t ≤ N.n) (h0 : lf N q f = 0) (hq : q f = ws N t (t - f)) (hz : ∀ i, f < i → i < t → q i = 0) (he : er N q f = 0) :
    lf N q t = 0 ∧ er N q t = 0 ∧ co N q t = co N q f + run N t (t - f) := by
  obtain ⟨h1, h2, h3⟩ := run_is g hft ht h0 hq hz he (t - f - 1) (by omega)
  rw [show f + (t - f - 1) + 1 = t by omega, show t - f - (t - f - 1) - 1 = 0 by omega] at h1 h3
  rw [show f + (t - f - 1) + 1 = t by omega] at h2
  refine ⟨h1, h2, ?_⟩
  have : kp N t 0 = 0 := rfl
  omega

/-- The plan. -/
def pl (N : Nd) : Nat → Nat → Nat → Int
  | 0, _ => fun _ => 0
  | k + 1, e => if e = 0 then fun _ => 0 else fun i => if i = B N e then ws N e (e - B N e) else pl N k (B N e) i
def pln (N : Nd) (e : Nat) : Nat → Int := pl N e e
theorem pl_fuel (N : Nd) : ∀ k k' e, e ≤ k → e ≤ k' → pl N k e = pl N k' e
  | 0, 0, e, _, _ => rfl
  | 0, k' + 1, e, h, _ => by
    show (fun _ => 0) = (if e = 0 then fun _ => 0 else _)
    rw [if_pos (by omega)]
  | k + 1, 0, e, _, h => by
    show (if e = 0 then fun _ => 0 else _) = (fun _ => 0)
    rw [if_pos (by omega)]
  | k + 1, k' + 1, e, h, h' => by
    show (if e = 0 then fun _ => 0 else fun i => if i = B N e then ws N e (e - B N e) else pl N k (B N e) i) = (if e = 0 then fun _ => 0 else fun i => if i = B N e then ws N e (e - B N e) else pl N k' (B N e) i)
    by_cases c : e = 0
    · rw [if_pos c, if_pos c]
    · rw [if_neg c, if_neg c, pl_fuel N k k' (B N e) (by have := B_lt N (t := e) (by omega); omega) (by have := B_lt N (t := e) (by omega); omega)]
theorem pln_zero (N : Nd) : pln N 0 = fun _ => 0 := rfl
theorem pln_step (N : Nd) {e : Nat} (h : 0 < e) : pln N e = fun i => if i = B N e then ws N e (e - B N e) else pln N (B N e) i := by
  obtain ⟨k, rfl⟩ : ∃ k, e = k + 1 := ⟨e - 1, by omega⟩
  have hb := B_lt N h
  show (if k + 1 = 0 then fun _ => 0 else fun i => if i = B N (k + 1) then ws N (k + 1) (k + 1 - B N (k + 1)) else pl N k (B N (k + 1)) i) = _
  rw [if_neg (by omega)]
  funext i
  rw [pl_fuel N k (B N (k + 1)) (B N (k + 1)) (by omega) (Nat.le_refl _)]
  rfl
theorem pln_out (N : Nd) : ∀ k e i, e ≤ k → e ≤ i → pln N e i = 0
  | k, 0, i, _, _ => rfl
  | 0, e + 1, i, h, _ => absurd h (by omega)
  | k + 1, e + 1, i, h, hi => by
    have hb := B_lt N (show 0 < e + 1 by omega)
    rw [pln_step N (show 0 < e + 1 by omega)]
    show (if i = B N (e + 1) then _ else pln N (B N (e + 1)) i) = 0
    rw [if_neg (by omega)]
    exact pln_out N k (B N (e + 1)) i (by omega) (by omega)
theorem pln_cost {N : Nd} (g : Good N) : ∀ k e, e ≤ k → e ≤ N.n → ∀ q, (∀ i, i < e → q i = pln N e i) → lf N q e = 0 ∧ er N q e = 0 ∧ co N q e = L N e ∧ ∀ t, t < e → 0 < lf N q t → q t = 0
  | k, 0, _, _, q, _ => ⟨rfl, rfl, rfl, fun t ht => absurd ht (Nat.not_lt_zero _)⟩
  | 0, e + 1, h, _, _, _ => absurd h (by omega)
  | k + 1, e + 1, hk, he, q, hq => by
    have h0 : 0 < e + 1 := by omega
    have hb := B_lt N h0
    have hs := pln_step N h0
    obtain ⟨i1, i2, i3, i4⟩ := pln_cost g k (B N (e + 1)) (by omega) (by omega) q (fun i hi => by
      rw [hq i (by omega), hs]
      show (if i = B N (e + 1) then _ else _) = _
      rw [if_neg (by omega)])
    have hf : q (B N (e + 1)) = ws N (e + 1) (e + 1 - B N (e + 1)) := by
      rw [hq _ hb, hs]
      show (if B N (e + 1) = B N (e + 1) then _ else _) = _
      rw [if_pos rfl]
    have hz : ∀ i, B N (e + 1) < i → i < e + 1 → q i = 0 := fun i h1 h2 => by
      rw [hq _ h2, hs]
      show (if i = B N (e + 1) then _ else pln N (B N (e + 1)) i) = _
      rw [if_neg (by omega)]
      exact pln_out N _ _ i (Nat.le_refl _) (by omega)
    obtain ⟨j1, j2, j3⟩ := run_end g hb he i1 hf hz i2
    refine ⟨j1, j2, ?_, fun t ht hl => ?_⟩
    · rw [j3, i3, ← L_is N h0]
    · rcases Nat.lt_trichotomy t (B N (e + 1)) with c | c | c
      · exact i4 t c hl
      · rw [c, i1] at hl; exact absurd hl (by omega)
      · exact hz t c ht
theorem pln_bd {N : Nd} (g : Good N) : ∀ k e i, e ≤ k → e ≤ N.n → 0 ≤ pln N e i ∧ pln N e i ≤ 50000000
  | k, 0, i, _, _ => by rw [pln_zero]; show (0 : Int) ≤ 0 ∧ (0 : Int) ≤ 50000000; omega
  | 0, e + 1, i, h, _ => absurd h (by omega)
  | k + 1, e + 1, i, h, he => by
    have hb := B_lt N (show 0 < e + 1 by omega)
    have hw := ws_bd g he (e + 1 - B N (e + 1)) (by omega)
    have hf := g.few
    rw [pln_step N (show 0 < e + 1 by omega)]
    show 0 ≤ (if i = B N (e + 1) then ws N (e + 1) (e + 1 - B N (e + 1)) else pln N (B N (e + 1)) i) ∧ (if i = B N (e + 1) then ws N (e + 1) (e + 1 - B N (e + 1)) else pln N (B N (e + 1)) i) ≤ 50000000
    split
    · omega
    · exact pln_bd g k (B N (e + 1)) i (by omega) (by omega)
/-- The plan from behind: e is where a run of it ends. -/
def On (N : Nd) (e : Nat) : Prop := e ≤ N.n ∧ ∀ i, i < e → pln N N.n i = pln N e i
theorem On.start (N : Nd) : On N N.n := ⟨Nat.le_refl _, fun _ _ => rfl⟩
theorem On.next {N : Nd} {e : Nat} (h : On N e) (h0 : 0 < e) : On N (B N e) ∧ pln N N.n (B N e) = ws N e (e - B N e) ∧ ∀ i, B N e < i → i < e → pln N N.n i = 0 := by
  have hb := B_lt N h0
  have hs := pln_step N h0
  refine ⟨⟨by have := h.1; omega, fun i hi => ?_⟩, ?_, fun i h1 h2 => ?_⟩
  · rw [h.2 i (by omega), hs]
    show (if i = B N e then _ else _) = _
    rw [if_neg (by omega)]
  · rw [h.2 _ hb, hs]
    show (if B N e = B N e then _ else _) = _
    rw [if_pos rfl]
  · rw [h.2 _ h2, hs]
    show (if i = B N e then _ else pln N (B N e) i) = _
    rw [if_neg (by omega)]
    exact pln_out N _ _ i (Nat.le_refl _) (by omega)

/-- What is planned from e on, whatever comes ahead. -/
def Tl (N : Nd) (q : Nat → Int) (e : Nat) (c : Int) : Prop :=
  ∀ p : Nat → Int, (∀ i, e ≤ i → i < N.n → p i = q i) → lf N p e = 0 → er N p e = 0 → lf N p N.n = 0 ∧ er N p N.n = 0 ∧ co N p N.n = co N p e + c
def up (q : Nat → Int) (f : Nat) (x : Int) : Nat → Int := fun i => if i = f then x else q i
theorem Tl.start (N : Nd) (q : Nat → Int) : Tl N q N.n 0 := fun p _ h1 h2 => ⟨h1, h2, by omega⟩
theorem Tl.next {N : Nd} (g : Good N) {q : Nat → Int} {e f : Nat} {c : Int} (h : Tl N q e c) (he : e ≤ N.n) (hf : f < e) (hz : ∀ i, i < e → q i = 0) : Tl N (up q f (ws N e (e - f))) f (run N e (e - f) + c) := by
  intro p hp h1 h2
  have hpf : p f = ws N e (e - f) := by rw [hp f (Nat.le_refl _) (by omega)]; unfold up; rw [if_pos rfl]
  obtain ⟨j1, j2, j3⟩ := run_end g hf he h1 hpf (fun i a b => by rw [hp i (by omega) (by omega)]; unfold up; rw [if_neg (by omega)]; exact hz i b) h2
  obtain ⟨k1, k2, k3⟩ := h p (fun i a b => by rw [hp i (by omega) b]; unfold up; rw [if_neg (by omega)]) j1 j2
  exact ⟨k1, k2, by omega⟩
theorem Tl.done {N : Nd} {q : Nat → Int} {c : Int} (h : Tl N q 0 c) : lf N q N.n = 0 ∧ er N q N.n = 0 ∧ co N q N.n = c := by
  obtain ⟨h1, h2, h3⟩ := h q (fun _ _ _ => rfl) rfl rfl
  exact ⟨h1, h2, by have : co N q 0 = 0 := rfl; omega⟩
/-- What the walk over all ways to part periods has found: of up to d runs that end at e, ahead of a tail. -/
def jn (N : Nd) (q : Nat → Int) (e : Nat) : Nat → Int := fun i => if i < e then pln N e i else q i
def fnd (N : Nd) (q : Nat → Int) (e : Nat) (c : Int) (s : Int × (Nat → Int)) : Nat → Int × (Nat → Int)
  | 0 => s
  | d + 1 => if s.1 < 0 ∨ (sc N (L N) e (d + 1)).1 + c < s.1 then ((sc N (L N) e (d + 1)).1 + c, jn N (up q (sc N (L N) e (d + 1)).2 (ws N e (e - (sc N (L N) e (d + 1)).2))) (sc N (L N) e (d + 1)).2) else s
/-- What one walk makes of what was found. -/
def wk (N : Nd) (q : Nat → Int) (e : Nat) (c : Int) (s : Int × (Nat → Int)) : Int × (Nat → Int) := if s.1 < 0 ∨ L N e + c < s.1 then (L N e + c, jn N q e) else s
theorem fnd_next {N : Nd} (g : Good N) {q : Nat → Int} {e d : Nat} {c : Int} {s : Int × (Nat → Int)} (he : e ≤ N.n) (hd : d < e) (hc : 0 ≤ c) :
    wk N (up q (e - (d + 1)) (ws N e (d + 1))) (e - (d + 1)) (run N e (d + 1) + c) (fnd N q e c s d) = fnd N q e c s (d + 1) := by
  have hL := L_nn g (show e - (d + 1) ≤ N.n by omega)
  have hr := run_bd g he (show d + 1 ≤ e by omega) (by omega)
  have es : sc N (L N) e (d + 1) = if d = 0 ∨ L N (e - (d + 1)) + run N e (d + 1) < (sc N (L N) e d).1 then (L N (e - (d + 1)) + run N e (d + 1), e - (d + 1)) else sc N (L N) e d := rfl
  have ed : e - (e - (d + 1)) = d + 1 := by omega
  have ea : L N (e - (d + 1)) + (run N e (d + 1) + c) = L N (e - (d + 1)) + run N e (d + 1) + c := by omega
  have ef : fnd N q e c s (d + 1) = if s.1 < 0 ∨ (sc N (L N) e (d + 1)).1 + c < s.1 then ((sc N (L N) e (d + 1)).1 + c, jn N (up q (sc N (L N) e (d + 1)).2 (ws N e (e - (sc N (L N) e (d + 1)).2))) (sc N (L N) e (d + 1)).2) else s := rfl
  rw [ef]
  unfold wk
  rw [ea]
  rcases Nat.eq_zero_or_pos d with c0 | c0
  · subst c0
    rw [if_pos (Or.inl rfl)] at es
    rw [es]
    simp only
    rw [ed]
    rfl
  · obtain ⟨d', rfl⟩ : ∃ d', d = d' + 1 := ⟨d - 1, by omega⟩
    obtain ⟨k, k1, k2, ek, _⟩ := sc_is N (L N) e (d' + 1) c0
    have hk := L_nn g (show e - k ≤ N.n by omega)
    have hk2 := run_bd g he (show k ≤ e by omega) k1
    have ed' : fnd N q e c s (d' + 1) = if s.1 < 0 ∨ (sc N (L N) e (d' + 1)).1 + c < s.1 then ((sc N (L N) e (d' + 1)).1 + c, jn N (up q (sc N (L N) e (d' + 1)).2 (ws N e (e - (sc N (L N) e (d' + 1)).2))) (sc N (L N) e (d' + 1)).2) else s := rfl
    rw [ed']
    have hp : 0 ≤ (sc N (L N) e (d' + 1)).1 := by rw [ek]; show 0 ≤ L N (e - k) + run N e k; omega
    by_cases h1 : L N (e - (d' + 1 + 1)) + run N e (d' + 1 + 1) < (sc N (L N) e (d' + 1)).1
    · rw [if_pos (Or.inr h1)] at es
      rw [es]
      simp only
      rw [ed]
      by_cases h2 : s.1 < 0 ∨ (sc N (L N) e (d' + 1)).1 + c < s.1
      · rw [if_pos h2]
        simp only
        rw [if_pos (by omega), if_pos (by omega)]
      · rw [if_neg h2]
    · rw [if_neg (by omega)] at es
      rw [es]
      by_cases h2 : s.1 < 0 ∨ (sc N (L N) e (d' + 1)).1 + c < s.1
      · rw [if_pos h2]
        simp only
        rw [if_neg (by omega)]
      · rw [if_neg h2, if_neg (by omega)]
theorem fnd_end {N : Nd} {q : Nat → Int} {e : Nat} {c : Int} {s : Int × (Nat → Int)} (h : 0 < e) (hz : ∀ i, i < e → q i = 0) : fnd N q e c s e = wk N q e c s := by
  obtain ⟨k, rfl⟩ : ∃ k, e = k + 1 := ⟨e - 1, by omega⟩
  show (if s.1 < 0 ∨ (sc N (L N) (k + 1) (k + 1)).1 + c < s.1 then ((sc N (L N) (k + 1) (k + 1)).1 + c, jn N (up q (sc N (L N) (k + 1) (k + 1)).2 (ws N (k + 1) (k + 1 - (sc N (L N) (k + 1) (k + 1)).2))) (sc N (L N) (k + 1) (k + 1)).2) else s) = _
  rw [sc_end N h]
  have ej : jn N (up q (B N (k + 1)) (ws N (k + 1) (k + 1 - B N (k + 1)))) (B N (k + 1)) = jn N q (k + 1) := by
    have hb := B_lt N h
    funext i
    unfold jn up
    rw [pln_step N h]
    show (if i < B N (k + 1) then pln N (B N (k + 1)) i else if i = B N (k + 1) then ws N (k + 1) (k + 1 - B N (k + 1)) else q i) = if i < k + 1 then (if i = B N (k + 1) then ws N (k + 1) (k + 1 - B N (k + 1)) else pln N (B N (k + 1)) i) else q i
    by_cases c1 : i < B N (k + 1)
    · rw [if_pos c1, if_pos (by omega), if_neg (by omega)]
    · rw [if_neg c1]
      by_cases c2 : i = B N (k + 1)
      · rw [if_pos c2, if_pos (by omega), if_pos c2]
      · rw [if_neg c2]
        by_cases c3 : i < k + 1
        · rw [if_pos c3, if_neg c2, pln_out N _ _ i (Nat.le_refl _) (by omega)]
          exact hz i c3
        · rw [if_neg c3]
  unfold wk
  simp only
  rw [ej]
theorem wk_zero {N : Nd} {q : Nat → Int} {c : Int} {s : Int × (Nat → Int)} : wk N q 0 c s = if s.1 < 0 ∨ c < s.1 then (c, q) else s := by
  unfold wk
  have e1 : L N 0 + c = c := by have : L N 0 = 0 := rfl; omega
  have e2 : jn N q 0 = q := by funext i; unfold jn; rw [if_neg (by omega)]
  rw [e1, e2]
/-- From nothing: the plan and what it costs. -/
theorem wk_all {N : Nd} (z : Nat → Int) : (wk N (fun _ => 0) N.n 0 (-1, z)).1 = L N N.n ∧ ∀ i, i < N.n → (wk N (fun _ => 0) N.n 0 (-1, z)).2 i = pln N N.n i := by
  unfold wk
  rw [if_pos (Or.inl (by show (-1 : Int) < 0; decide))]
  refine ⟨by show L N N.n + 0 = _; omega, fun i hi => ?_⟩
  show (if i < N.n then pln N N.n i else 0) = _
  rw [if_pos hi]
end Go.Proofs.YtbbmhidnakghfaaDoor.Lot
