/- Words and chances: Conway's number, its steps, and that it grows. -/
import Derived.Test.YtdicbnchkfclaaaDoorM7
namespace Go.Proofs.YtdicbnchkfclaaaDoor.Kmp

/-- A sum. -/
def rsum (f : Nat → Rat) : Nat → Rat
  | 0 => 0
  | n + 1 => rsum f n + f n

theorem rsum_congr {f g : Nat → Rat} : ∀ {n : Nat}, (∀ i, i < n → f i = g i) → rsum f n = rsum g n
  | 0, _ => rfl
  | n + 1, h => by
    show rsum f n + f n = rsum g n + g n
    rw [rsum_congr (fun i hi => h i (Nat.lt_succ_of_lt hi)), h n (Nat.lt_succ_self n)]
theorem rsum_zero {f : Nat → Rat} : ∀ {n : Nat}, (∀ i, i < n → f i = 0) → rsum f n = 0
  | 0, _ => rfl
  | n + 1, h => by
    show rsum f n + f n = 0
    rw [rsum_zero (fun i hi => h i (Nat.lt_succ_of_lt hi)), h n (Nat.lt_succ_self n)]
    grind
theorem rsum_mul (c : Rat) (f : Nat → Rat) : ∀ n, rsum (fun i => c * f i) n = c * rsum f n
  | 0 => by show (0 : Rat) = c * 0; grind
  | n + 1 => by
    show rsum (fun i => c * f i) n + c * f n = c * (rsum f n + f n)
    rw [rsum_mul c f n]
    grind
theorem rsum_add (f g : Nat → Rat) : ∀ n, rsum (fun i => f i + g i) n = rsum f n + rsum g n
  | 0 => by show (0 : Rat) = 0 + 0; grind
  | n + 1 => by
    show rsum (fun i => f i + g i) n + (f n + g n) = rsum f n + f n + (rsum g n + g n)
    rw [rsum_add f g n]
    grind
theorem rsum_swap (f : Nat → Nat → Rat) (m : Nat) : ∀ n, rsum (fun i => rsum (f i) m) n = rsum (fun j => rsum (fun i => f i j) n) m
  | 0 => by
    exact (rsum_zero (f := fun j => rsum (fun i => f i j) 0) (fun i _ => rfl)).symm
  | n + 1 => by
    show rsum (fun i => rsum (f i) m) n + rsum (f n) m = rsum (fun j => rsum (fun i => f i j) n + f n j) m
    rw [rsum_add, rsum_swap f m n]
theorem rsum_one {f : Nat → Rat} {j : Nat} : ∀ {n : Nat}, j < n → (∀ i, i < n → i ≠ j → f i = 0) → rsum f n = f j
  | 0, h, _ => absurd h (Nat.not_lt_zero _)
  | n + 1, h, h0 => by
    show rsum f n + f n = f j
    rcases Nat.lt_or_ge j n with h' | h'
    · rw [rsum_one h' (fun i hi hne => h0 i (Nat.lt_succ_of_lt hi) hne), h0 n (Nat.lt_succ_self n) (by omega)]
      grind
    · obtain rfl : j = n := by omega
      rw [rsum_zero (fun i hi => h0 i (Nat.lt_succ_of_lt hi) (by omega))]
      grind
theorem rsum_le {f g : Nat → Rat} : ∀ {n : Nat}, (∀ i, i < n → f i ≤ g i) → rsum f n ≤ rsum g n
  | 0, _ => Rat.le_refl
  | n + 1, h => by
    have h1 := rsum_le (fun i hi => h i (Nat.lt_succ_of_lt hi))
    have h2 := h n (Nat.lt_succ_self n)
    show rsum f n + f n ≤ rsum g n + g n
    grind
/-- More terms that are 0. -/
theorem rsum_more {f : Nat → Rat} {m : Nat} : ∀ {n : Nat}, m ≤ n → (∀ i, m ≤ i → i < n → f i = 0) → rsum f n = rsum f m
  | 0, h, _ => by
    obtain rfl : m = 0 := by omega
    rfl
  | n + 1, h, h0 => by
    rcases Nat.lt_or_ge n m with h' | h'
    · obtain rfl : m = n + 1 := by omega
      rfl
    · show rsum f n + f n = _
      rw [h0 n h' (Nat.lt_succ_self n), rsum_more h' (fun i h1 h2 => h0 i h1 (Nat.lt_succ_of_lt h2))]
      grind

/-- One over the chance of the first n letters. -/
def rare (w : Nat → Int) (p : Nat → Rat) : Nat → Rat
  | 0 => 1
  | n + 1 => rare w p n / p (w n).toNat

/-- Conway's number of a word's first k letters with themselves. -/
def cw (w : Nat → Int) (p : Nat → Rat) (k : Nat) : Rat := rsum (fun i => if Bd w (i + 1) k then rare w p (i + 1) else 0) k

/-- What may be: chances of letters, and a word of them that can come. -/
structure Word (w : Nat → Int) (p : Nat → Rat) (L M : Nat) : Prop where
  all : rsum p L = 1
  ge : ∀ l, l < L → 0 ≤ p l
  w0 : ∀ i, i < M → 0 ≤ w i
  wl : ∀ i, i < M → (w i).toNat < L
  pos : ∀ i, i < M → 0 < p (w i).toNat

theorem rare_mul {w : Nat → Int} {p : Nat → Rat} {L M i : Nat} (h : Word w p L M) (hi : i < M) : p (w i).toNat * rare w p (i + 1) = rare w p i := by
  show p _ * (rare w p i / p _) = _
  have := h.pos i hi
  have hz : p (w i).toNat ≠ 0 := fun e => by rw [e] at this; exact absurd this (by decide)
  rw [Rat.mul_comm]
  exact Rat.div_mul_cancel hz

/-- Conway's number where so many letters stand: by the text. -/
theorem cw_top {w : Nat → Int} {p : Nat → Rat} {k x : Nat} {l : Int} (hx : Top (fun n => Ds w n k l) (k + 1) x) : cw w p x = rsum (fun m => if w m = l ∧ Bd w m k then rare w p (m + 1) else 0) (k + 1) := by
  have hle := hx.2.1
  rw [rsum_more (m := x) hle (fun m h1 h2 => ?_)]
  · refine rsum_congr fun m hm => ?_
    have : Bd w (m + 1) x ↔ (w m = l ∧ Bd w m k) := by
      rcases hx.1 with h | ⟨y, rfl, hy, hb⟩
      · omega
      · constructor
        · intro h
          have e : Ds w (m + 1) y (w y) := Ds.step.2 (Or.inl h)
          rcases e with h' | ⟨m', h', e1, e2⟩
          · omega
          · obtain rfl : m' = m := by omega
            exact ⟨e1.trans hy, e2.trans hb⟩
        · rintro ⟨h1, h2⟩
          have e : Ds w (m + 1) y (w y) := Or.inr ⟨m, rfl, by rw [h1, hy], h2.among hb (by omega)⟩
          rcases Ds.step.1 e with h' | h'
          · exact h'
          · omega
    simp only [this]
  · rw [if_neg]
    rintro ⟨e1, e2⟩
    exact hx.2.2 (m + 1) (by omega) (by omega) (Or.inr ⟨m, rfl, e1, e2⟩)

/-- One letter on: the chances of all letters, and Conway's number behind each. -/
theorem cw_step {w : Nat → Int} {p : Nat → Rat} {L M k : Nat} (h : Word w p L M) (hk : k < M) (x : Nat → Nat) (hx : ∀ l, l < L → Top (fun n => Ds w n k (l : Int)) (k + 1) (x l)) :
    rsum (fun l => p l * cw w p (x l)) L = cw w p k + 1 := by
  have e1 : rsum (fun l => p l * cw w p (x l)) L = rsum (fun l => rsum (fun m => if w m = (l : Int) ∧ Bd w m k then p l * rare w p (m + 1) else 0) (k + 1)) L := by
    refine rsum_congr fun l hl => ?_
    rw [cw_top (hx l hl), ← rsum_mul]
    refine rsum_congr fun m _ => ?_
    split <;> grind
  rw [e1, rsum_swap]
  have e2 : ∀ m, m < k + 1 → rsum (fun l => if w m = (l : Int) ∧ Bd w m k then p l * rare w p (m + 1) else 0) L = if Bd w m k then rare w p m else 0 := by
    intro m hm
    have hmM : m < M := by omega
    have h0 := h.w0 m hmM
    rw [rsum_one (h.wl m hmM) (fun i _ hne => if_neg (fun e => hne (by omega)))]
    by_cases hb : Bd w m k
    · rw [if_pos ⟨by omega, hb⟩, if_pos hb, rare_mul h hmM]
    · rw [if_neg (fun e => hb e.2), if_neg hb]
  rw [rsum_congr e2]
  have e3 : ∀ n, rsum (fun m => if Bd w m k then rare w p m else 0) (n + 1) = rsum (fun i => if Bd w (i + 1) k then rare w p (i + 1) else 0) n + 1 := by
    intro n
    induction n with
    | zero =>
      show 0 + (if Bd w 0 k then rare w p 0 else 0) = 0 + 1
      rw [if_pos (Bd.zero w k)]
      rfl
    | succ n ih =>
      show rsum (fun m => if Bd w m k then rare w p m else 0) (n + 1) + _ = _
      rw [ih]
      show _ = rsum (fun i => if Bd w (i + 1) k then rare w p (i + 1) else 0) n + _ + 1
      grind
  exact e3 k

theorem cw_zero (w : Nat → Int) (p : Nat → Rat) : cw w p 0 = 0 := rfl

/-- The letter that goes on, and all others. -/
theorem rsum_split {f : Nat → Rat} {j : Nat} : ∀ {n : Nat}, j < n → rsum f n = rsum (fun i => if i = j then 0 else f i) n + f j
  | 0, h => absurd h (Nat.not_lt_zero _)
  | n + 1, h => by
    show rsum f n + f n = rsum (fun i => if i = j then 0 else f i) n + (if n = j then 0 else f n) + f j
    rcases Nat.lt_or_ge j n with h' | h'
    · rw [rsum_split h', if_neg (by omega)]
      grind
    · obtain rfl : j = n := by omega
      rw [if_pos rfl, rsum_congr (f := f) (g := fun i => if i = j then 0 else f i) (fun i hi => (if_neg (show i ≠ j by omega)).symm)]
      grind

/-- Behind a letter that doesn't go on no more stand. -/
theorem top_le {w : Nat → Int} {k x : Nat} {l : Int} (hx : Top (fun n => Ds w n k l) (k + 1) x) (hl : w k ≠ l) : x ≤ k := by
  rcases hx.1 with h | ⟨m, h, e, hb⟩
  · omega
  · have := hb.1
    rcases Nat.lt_or_ge m k with h' | h'
    · omega
    · obtain rfl : m = k := by omega
      exact absurd e hl
theorem top_go {w : Nat → Int} {k x : Nat} (hx : Top (fun n => Ds w n k (w k)) (k + 1) x) : x = k + 1 := hx.uniq top_on

theorem exists_top (p : Nat → Prop) (h0 : p 0) : ∀ m, ∃ n, Top p m n
  | 0 => ⟨0, h0, Nat.le_refl _, fun j h1 h2 => by omega⟩
  | m + 1 => by
    rcases Classical.em (p (m + 1)) with h | h
    · exact ⟨m + 1, h, Nat.le_refl _, fun j h1 h2 => by omega⟩
    · obtain ⟨n, h1, h2, h3⟩ := exists_top p h0 m
      refine ⟨n, h1, by omega, fun j h4 h5 => ?_⟩
      rcases Nat.lt_or_ge m j with h' | h'
      · obtain rfl : j = m + 1 := by omega
        exact h
      · exact h3 j h4 h'

/-- Conway's number grows from letter to letter. -/
theorem cw_grows {w : Nat → Int} {p : Nat → Rat} {L M : Nat} (h : Word w p L M) : ∀ k, k < M → (∀ j, j ≤ k → cw w p j ≤ cw w p k) ∧ cw w p k < cw w p (k + 1) := by
  have step : ∀ k, k < M → (∀ j, j ≤ k → cw w p j ≤ cw w p k) → cw w p k < cw w p (k + 1) := by
    intro k hk hj
    have hx' : ∀ l : Nat, ∃ x, Top (fun n => Ds w n k (l : Int)) (k + 1) x := fun l => exists_top _ (Or.inl rfl) _
    obtain ⟨x, hx⟩ := Classical.axiomOfChoice hx'
    have e := cw_step h hk x (fun l _ => hx l)
    have hw := h.wl k hk
    have h0 := h.w0 k hk
    have hp := h.pos k hk
    have hwk : (((w k).toNat : Nat) : Int) = w k := by omega
    have hgo : x (w k).toNat = k + 1 := by
      have t := hx (w k).toNat
      rw [hwk] at t
      exact top_go t
    rw [rsum_split hw, hgo] at e
    have hle : rsum (fun i => if i = (w k).toNat then 0 else p i * cw w p (x i)) L ≤ rsum (fun i => cw w p k * (if i = (w k).toNat then 0 else p i)) L := by
      refine rsum_le fun i hi => ?_
      by_cases hh : i = (w k).toNat
      · rw [if_pos hh, if_pos hh]; grind
      · rw [if_neg hh, if_neg hh]
        have t := hx i
        have hl : w k ≠ (i : Int) := by omega
        have c := hj _ (top_le t hl)
        have := Rat.mul_le_mul_of_nonneg_left c (h.ge i hi)
        grind
    rw [rsum_mul] at hle
    have hs := rsum_split (f := p) hw
    rw [h.all] at hs
    have hr : rsum (fun i => if i = (w k).toNat then 0 else p i) L = 1 - p (w k).toNat := by grind
    rw [hr] at hle
    generalize cw w p k = a at *
    generalize cw w p (k + 1) = b at *
    generalize p (w k).toNat = q at *
    have h1 : 0 < q * (b - a) := by grind
    rcases Rat.le_total (a := b) (b := a) with h2 | h2
    · exfalso
      have := Rat.mul_le_mul_of_nonneg_left h2 (Rat.le_of_lt hp)
      grind
    · rcases Classical.em (a = b) with h3 | h3
      · subst h3; grind
      · grind
  intro k
  induction k with
  | zero =>
    intro hk
    have : ∀ j, j ≤ 0 → cw w p j ≤ cw w p 0 := fun j hj => by
      obtain rfl : j = 0 := by omega
      exact Rat.le_refl
    exact ⟨this, step 0 hk this⟩
  | succ k ih =>
    intro hk
    obtain ⟨h1, h2⟩ := ih (by omega)
    have : ∀ j, j ≤ k + 1 → cw w p j ≤ cw w p (k + 1) := fun j hj => by
      rcases Nat.lt_or_ge k j with h' | h'
      · obtain rfl : j = k + 1 := by omega
        exact Rat.le_refl
      · exact Rat.le_trans (h1 j h') (Rat.le_of_lt h2)
    exact ⟨this, step (k + 1) hk this⟩

theorem cw_lt {w : Nat → Int} {p : Nat → Rat} {L M : Nat} (h : Word w p L M) {j k : Nat} (hjk : j < k) (hk : k ≤ M) : cw w p j < cw w p k := by
  obtain ⟨m, rfl⟩ : ∃ m, k = m + 1 := ⟨k - 1, by omega⟩
  obtain ⟨h1, h2⟩ := cw_grows h m (by omega)
  have := h1 j (by omega)
  grind

/-- Chances of letters in a row, and turned round. -/
theorem rare_congr {v w : Nat → Int} {p : Nat → Rat} : ∀ {n : Nat}, (∀ i, i < n → v i = w i) → rare v p n = rare w p n
  | 0, _ => rfl
  | n + 1, h => by
    show rare v p n / _ = rare w p n / _
    rw [rare_congr (fun i hi => h i (Nat.lt_succ_of_lt hi)), h n (Nat.lt_succ_self n)]
theorem rare_first (w : Nat → Int) (p : Nat → Rat) : ∀ n, rare w p (n + 1) = rare (fun i => w (i + 1)) p n / p (w 0).toNat
  | 0 => rfl
  | n + 1 => by
    show rare w p (n + 1) / _ = rare (fun i => w (i + 1)) p n / p (w (n + 1)).toNat / _
    rw [rare_first w p n]
    simp only [Rat.div_def]
    grind
theorem rare_turned (p : Nat → Rat) : ∀ (n : Nat) (w : Nat → Int), rare (fun i => w (n - 1 - i)) p n = rare w p n
  | 0, _ => rfl
  | n + 1, w => by
    rw [rare_first w p n]
    show rare (fun i => w (n + 1 - 1 - i)) p n / p (w (n + 1 - 1 - n)).toNat = _
    rw [show n + 1 - 1 - n = 0 by omega]
    congr 1
    rw [← rare_turned p n (fun i => w (i + 1))]
    exact rare_congr fun i hi => by show w _ = w _; congr 1; omega

theorem cw_congr {v w : Nat → Int} {p : Nat → Rat} {k : Nat} (h : ∀ i, i < k → v i = w i) : cw v p k = cw w p k := by
  refine rsum_congr fun i hi => ?_
  have : Bd v (i + 1) k ↔ Bd w (i + 1) k := ⟨fun e => e.of_eq h, fun e => e.of_eq (fun i hi => (h i hi).symm)⟩
  simp only [this]
  split
  · exact rare_congr fun j hj => h j (by omega)
  · rfl

/-- A word turned round has the same number. -/
theorem cw_turned (w : Nat → Int) (p : Nat → Rat) (k : Nat) : cw (fun i => w (k - 1 - i)) p k = cw w p k := by
  refine rsum_congr fun i hi => ?_
  have : Bd (fun i => w (k - 1 - i)) (i + 1) k ↔ Bd w (i + 1) k := by
    constructor
    · rintro ⟨h1, h2⟩
      refine ⟨h1, fun j hj => ?_⟩
      have e := h2 (i - j) (by omega)
      dsimp only at e
      rw [show k - 1 - (k - (i + 1) + (i - j)) = j by omega, show k - 1 - (i - j) = k - (i + 1) + j by omega] at e
      exact e.symm
    · rintro ⟨h1, h2⟩
      refine ⟨h1, fun j hj => ?_⟩
      have e := h2 (i - j) (by omega)
      dsimp only
      rw [show k - 1 - (k - (i + 1) + j) = i - j by omega, show k - 1 - j = k - (i + 1) + (i - j) by omega]
      exact e.symm
  simp only [this]
  split
  · rename_i hb
    rw [← rare_turned p (i + 1) w]
    refine rare_congr fun j hj => ?_
    have e := hb.2 (i - j) (by omega)
    rw [show i + 1 - 1 - j = i - j by omega, e]
    show w _ = w _
    congr 1
    omega
  · rfl

/-- Of the one word's end and the other's beginning, n letters are the same. -/
abbrev Ov (v w : Nat → Int) (B n : Nat) : Prop := ∀ i, i < n → v (B - n + i) = w i
/-- Conway's number of two words: the ends of the one, the beginnings of the other. -/
def lead (v w : Nat → Int) (p : Nat → Rat) (B : Nat) (n : Nat) : Rat := rsum (fun i => if Ov v w B (i + 1) then rare w p (i + 1) else 0) n

theorem lead_self (w : Nat → Int) (p : Nat → Rat) (M : Nat) : lead w w p M M = cw w p M := by
  refine rsum_congr fun i hi => ?_
  have : Ov w w M (i + 1) ↔ Bd w (i + 1) M := ⟨fun h => ⟨by omega, fun j hj => (h j hj).symm⟩, fun h j hj => (h.2 j hj).symm⟩
  simp only [this]

/-- A word leads itself further than it leads another one in which it doesn't stand. -/
theorem lead_lt {v w : Nat → Int} {p : Nat → Rat} {L A B : Nat} (hv : Word v p L B) (h1 : 1 ≤ B) (hno : B ≤ A → ¬ Ov v w B B) : lead v w p B (min B A) < lead v v p B B := by
  obtain ⟨N, hN, hNm, hmax⟩ := exists_top (fun n => Ov v w B n) (fun i hi => absurd hi (Nat.not_lt_zero _)) (min B A)
  have hNB : N < B := by
    rcases Nat.lt_or_ge N B with h | h
    · exact h
    · obtain rfl : N = B := by omega
      exact absurd hN (hno (by omega))
  have e1 : lead v w p B (min B A) = cw w p N := by
    unfold lead
    rw [rsum_more (m := N) hNm (fun i h1 h2 => if_neg (hmax (i + 1) (by omega) (by omega)))]
    refine rsum_congr fun i hi => ?_
    have : Ov v w B (i + 1) ↔ Bd w (i + 1) N := by
      constructor
      · refine fun h => ⟨by omega, fun j hj => ?_⟩
        rw [← h j hj, ← hN (N - (i + 1) + j) (by omega)]
        congr 1
        omega
      · intro h j hj
        rw [h.2 j hj, ← hN (N - (i + 1) + j) (by omega)]
        congr 1
        omega
    simp only [this]
  have hr : Word (fun i => v (B - 1 - i)) p L B := ⟨hv.all, hv.ge, fun i hi => hv.w0 _ (by omega), fun i hi => hv.wl _ (by omega), fun i hi => hv.pos _ (by omega)⟩
  rw [e1, lead_self, ← cw_turned v p B, ← cw_turned w p N]
  have e2 : cw (fun i => w (N - 1 - i)) p N = cw (fun i => v (B - 1 - i)) p N := cw_congr fun i hi => by
    rw [← hN (N - 1 - i) (by omega)]
    congr 1
    omega
  rw [e2]
  exact cw_lt hr hNB (Nat.le_refl _)

/-- What is left where all letters are taken off that don't go on. -/
theorem cw_next {w : Nat → Int} {p : Nat → Rat} {L M k : Nat} (h : Word w p L M) (hk : k < M) (x : Nat → Nat) (hx : ∀ l, l < L → Top (fun n => Ds w n k (l : Int)) (k + 1) (x l)) :
    (cw w p k + 1 - rsum (fun l => if x l ≤ k then p l * cw w p (x l) else 0) L) / p (w k).toNat = cw w p (k + 1) := by
  have e := cw_step h hk x hx
  have hw := h.wl k hk
  have h0 := h.w0 k hk
  have hp := h.pos k hk
  have hwk : (((w k).toNat : Nat) : Int) = w k := by omega
  have hgo : x (w k).toNat = k + 1 := by
    have t := hx (w k).toNat hw
    rw [hwk] at t
    exact top_go t
  rw [rsum_split hw, hgo] at e
  have e2 : rsum (fun i => if i = (w k).toNat then 0 else p i * cw w p (x i)) L = rsum (fun l => if x l ≤ k then p l * cw w p (x l) else 0) L := by
    refine rsum_congr fun i hi => ?_
    by_cases hh : i = (w k).toNat
    · subst hh
      rw [if_pos rfl, if_neg (by omega)]
    · rw [if_neg hh, if_pos (top_le (hx i hi) (by omega))]
  rw [e2] at e
  have hz : p (w k).toNat ≠ 0 := fun e => by rw [e] at hp; exact absurd hp (by decide)
  have e3 : cw w p k + 1 - rsum (fun l => if x l ≤ k then p l * cw w p (x l) else 0) L = cw w p (k + 1) * p (w k).toNat := by grind
  rw [e3, Rat.div_def, Rat.mul_assoc, Rat.mul_inv_cancel _ hz, Rat.mul_one]

/-- Of two numbers above 0: their shares. -/
theorem shares {a b : Rat} (ha : 0 < a) (hb : 0 < b) : a / (a + b) + b / (b + a) = 1 ∧ 0 < a / (a + b) ∧ 0 < b / (b + a) := by
  have hs : 0 < a + b := by grind
  have hz : a + b ≠ 0 := fun e => by rw [e] at hs; exact absurd hs (by decide)
  have hi := Rat.inv_pos.2 hs
  rw [Rat.add_comm b a, Rat.div_def, Rat.div_def]
  refine ⟨?_, Rat.mul_pos ha hi, Rat.mul_pos hb hi⟩
  rw [← Rat.add_mul, Rat.mul_inv_cancel _ hz]
end Go.Proofs.YtdicbnchkfclaaaDoor.Kmp
