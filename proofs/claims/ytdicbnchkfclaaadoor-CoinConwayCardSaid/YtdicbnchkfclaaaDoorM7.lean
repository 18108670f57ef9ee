/- Words: how much of a word's beginning stands at an end. -/
namespace Go.Proofs.YtdicbnchkfclaaaDoor.Kmp

/-- The first n letters are the last n of the first k. -/
abbrev Bd (w : Nat → Int) (n k : Nat) : Prop := n ≤ k ∧ ∀ i, i < n → w i = w (k - n + i)
/-- The first n letters are the last n of the first k with l behind them. -/
def Ds (w : Nat → Int) (n k : Nat) (l : Int) : Prop := n = 0 ∨ ∃ m, n = m + 1 ∧ w m = l ∧ Bd w m k
/-- The greatest number up to m with a property. -/
def Top (p : Nat → Prop) (m n : Nat) : Prop := p n ∧ n ≤ m ∧ ∀ j, n < j → j ≤ m → ¬ p j

theorem Top.uniq {p : Nat → Prop} {m a b : Nat} (ha : Top p m a) (hb : Top p m b) : a = b := by
  rcases Nat.lt_trichotomy a b with h | h | h
  · exact absurd hb.1 (ha.2.2 b h hb.2.1)
  · exact h
  · exact absurd ha.1 (hb.2.2 a h ha.2.1)

theorem Top.congr {p q : Nat → Prop} {m a : Nat} (h : Top p m a) (hpq : ∀ j, j ≤ m → (p j ↔ q j)) : Top q m a :=
  ⟨(hpq a h.2.1).1 h.1, h.2.1, fun j h1 h2 hq => h.2.2 j h1 h2 ((hpq j h2).2 hq)⟩

theorem Bd.refl (w : Nat → Int) (k : Nat) : Bd w k k := ⟨Nat.le_refl _, fun _ _ => by rw [Nat.sub_self, Nat.zero_add]⟩
theorem Bd.zero (w : Nat → Int) (k : Nat) : Bd w 0 k := ⟨Nat.zero_le _, fun _ h => absurd h (Nat.not_lt_zero _)⟩
theorem Bd.trans {w : Nat → Int} {a b c : Nat} (h : Bd w a b) (h' : Bd w b c) : Bd w a c := by
  refine ⟨Nat.le_trans h.1 h'.1, fun i hi => ?_⟩
  have h1 := h.1
  have h2 := h'.1
  rw [h.2 i hi, h'.2 (b - a + i) (by omega)]
  congr 1
  omega
theorem Bd.among {w : Nat → Int} {a b c : Nat} (h : Bd w a c) (h' : Bd w b c) (hab : a ≤ b) : Bd w a b := by
  refine ⟨hab, fun i hi => ?_⟩
  have h1 := h.1
  have h2 := h'.1
  rw [h.2 i hi, h'.2 (b - a + i) (by omega)]
  congr 1
  omega
theorem Ds.step {w : Nat → Int} {n k : Nat} : Ds w n k (w k) ↔ (Bd w n (k + 1) ∨ n = 0) := by
  constructor
  · rintro (rfl | ⟨m, rfl, h1, h2⟩)
    · exact Or.inr rfl
    · refine Or.inl ⟨by have := h2.1; omega, fun i hi => ?_⟩
      have := h2.1
      rcases Nat.lt_or_ge i m with h | h
      · rw [h2.2 i h]; congr 1; omega
      · obtain rfl : i = m := by omega
        rw [h1]; congr 1; omega
  · rintro (h | rfl)
    · cases n with
      | zero => exact Or.inl rfl
      | succ m =>
        have h1 := h.1
        refine Or.inr ⟨m, rfl, ?_, by omega, fun i hi => ?_⟩
        · rw [h.2 m (by omega)]; congr 1; omega
        · rw [h.2 i (by omega)]; congr 1; omega
    · exact Or.inl rfl

/-- Behind a letter that does not go on, what stands goes on as the greatest shorter beginning does. -/
theorem top_short {w : Nat → Int} {k s x : Nat} {l : Int} (hk : 0 < k) (hs : Top (fun n => Bd w n k) (k - 1) s) (hx : Top (fun n => Ds w n s l) (s + 1) x) : Top (fun n => Ds w n k l) k x := by
  have h2 := hs.2.1
  refine ⟨?_, by have := hx.2.1; omega, fun j hj hjk hd => ?_⟩
  · rcases hx.1 with h | ⟨m, h, h1, hb⟩
    · exact Or.inl h
    · exact Or.inr ⟨m, h, h1, hb.trans hs.1⟩
  · rcases hd with h | ⟨m, h, h1, hb⟩
    · omega
    · have hms : m ≤ s := by
        rcases Nat.lt_or_ge s m with h' | h'
        · exact absurd hb (hs.2.2 m h' (by omega))
        · exact h'
      exact hx.2.2 j hj (by omega) (Or.inr ⟨m, h, h1, hb.among hs.1 hms⟩)

theorem top_on {w : Nat → Int} {k : Nat} : Top (fun n => Ds w n k (w k)) (k + 1) (k + 1) :=
  ⟨Or.inr ⟨k, rfl, rfl, Bd.refl w k⟩, Nat.le_refl _, fun j h1 h2 => by omega⟩

theorem top_off {w : Nat → Int} {k x : Nat} {l : Int} (hl : w k ≠ l) (hx : Top (fun n => Ds w n k l) k x) : Top (fun n => Ds w n k l) (k + 1) x := by
  refine ⟨hx.1, by have := hx.2.1; omega, fun j h1 h2 hd => ?_⟩
  rcases Nat.lt_or_ge k j with h | h
  · obtain rfl : j = k + 1 := by omega
    rcases hd with h | ⟨m, h, e, _⟩
    · omega
    · obtain rfl : m = k := by omega
      exact hl e
  · exact hx.2.2 j h1 h hd

theorem top_next {w : Nat → Int} {k x : Nat} (hx : Top (fun n => Ds w n k (w k)) k x) : Top (fun n => Bd w n (k + 1)) (k + 1 - 1) x := by
  rw [Nat.add_sub_cancel]
  refine hx.congr fun j hj => ?_
  rw [Ds.step]
  constructor
  · rintro (h | rfl)
    · exact h
    · exact Bd.zero w _
  · exact Or.inl

theorem top_first (w : Nat → Int) : Top (fun n => Bd w n 1) (1 - 1) 0 := ⟨Bd.zero w 1, Nat.le_refl _, fun j h1 h2 => by omega⟩
theorem top_zero {w : Nat → Int} {l : Int} (h : w 0 ≠ l) : Top (fun n => Ds w n 0 l) (0 + 1) 0 := top_off h ⟨Or.inl rfl, Nat.le_refl _, fun j h1 h2 => by omega⟩

/-- What stands is a matter of the letters. -/
theorem Bd.of_eq {w v : Nat → Int} {n k : Nat} (h : Bd w n k) (e : ∀ i, i < k → w i = v i) : Bd v n k := by
  have := h.1
  exact ⟨h.1, fun i hi => by rw [← e i (by omega), ← e (k - n + i) (by omega)]; exact h.2 i hi⟩

/-- The text's end, told by its letters: n of the first k ones and l. -/
theorem ds_text {w : Nat → Int} {n k : Nat} {l : Int} (T : Nat → Int) (hT : ∀ i, i < k → T i = w i) (hl : T k = l) (hn : n ≤ k + 1) : Ds w n k l ↔ ∀ i, i < n → T (k + 1 - n + i) = w i := by
  constructor
  · rintro (rfl | ⟨m, rfl, h1, h2⟩) i hi
    · omega
    · have := h2.1
      rcases Nat.lt_or_ge i m with h | h
      · rw [h2.2 i h, hT _ (by omega)]; congr 1; omega
      · obtain rfl : i = m := by omega
        rw [h1, ← hl]; congr 1; omega
  · intro h
    cases n with
    | zero => exact Or.inl rfl
    | succ m =>
      refine Or.inr ⟨m, rfl, ?_, by omega, fun i hi => ?_⟩
      · rw [← h m (by omega), ← hl]; congr 1; omega
      · rw [← h i (by omega), hT _ (by omega)]; congr 1; omega
end Go.Proofs.YtdicbnchkfclaaaDoor.Kmp
