/- A heap of numbers. -/
import Derived.Test.YtepgdlgifempeaaDoorM25
import Derived.Test.YtepgdlgifempeaaDoorM28
namespace Go.Proofs.YtepgdlgifempeaaDoor.Hp
open Stb

structure Or (lt : Nat → Nat → Bool) : Prop where
  asym : ∀ x y, lt x y = true → lt y x = false
  trans : ∀ x y z, lt x y = true → lt y z = true → lt x z = true
  ntrans : ∀ x y z, lt y x = false → lt z y = false → lt z x = false
/-- The machine that is free the soonest, of like ones the less one. -/
def les (L : Nat → Int) (a b : Nat) : Bool := decide (L a < L b ∨ (L a = L b ∧ a < b))
theorem les_or (L : Nat → Int) : Or (les L) where
  asym x y h := by unfold les at *; simp only [decide_eq_true_eq, decide_eq_false_iff_not] at *; omega
  trans x y z h k := by unfold les at *; simp only [decide_eq_true_eq] at *; omega
  ntrans x y z h k := by unfold les at *; simp only [decide_eq_false_iff_not] at *; omega
def par (c : Nat) : Nat := (c - 1) / 2
theorem par_lt {c : Nat} (h : 0 < c) : par c < c := by unfold par; omega
def Heap (lt : Nat → Nat → Bool) (f : Nat → Nat) (n : Nat) : Prop := ∀ c, 0 < c → c < n → lt (f c) (f (par c)) = false
section
variable {lt : Nat → Nat → Bool} (O : Or lt) {f : Nat → Nat} {n : Nat}
include O
theorem root (h : Heap lt f n) : ∀ k c, c ≤ k → c < n → lt (f c) (f 0) = false
  | 0, c, hc, _ => by
    rw [show c = 0 by omega]
    cases e : lt (f 0) (f 0) with
    | false => rfl
    | true => exact absurd (O.asym _ _ e) (by rw [e]; decide)
  | k + 1, c, hc, hn => by
    by_cases c0 : c = 0
    · exact root h k c (by omega) hn
    · have h1 := par_lt (show 0 < c by omega)
      exact O.ntrans _ _ _ (root h k (par c) (by omega) (by omega)) (h c (by omega) hn)
/-- Going down at i. -/
structure Down (lt : Nat → Nat → Bool) (f : Nat → Nat) (n i : Nat) : Prop where
  out : ∀ c, 0 < c → c < n → par c ≠ i → lt (f c) (f (par c)) = false
  kid : ∀ c, 0 < c → c < n → par c = i → 0 < i → lt (f c) (f (par i)) = false
theorem down_step {i j : Nat} (h : Down lt f n i) (h0 : 0 < j) (hj : j < n) (hp : par j = i) (hmin : ∀ c, 0 < c → c < n → par c = i → lt (f c) (f j) = false) (hlt : lt (f j) (f i) = true) : Down lt (swp f i j) n j := by
  have hij : i < j := by rw [← hp]; exact par_lt h0
  constructor
  · intro c hc hn hne
    by_cases c1 : c = i
    · have h1 : par i < i := par_lt (by omega)
      rw [c1, swp_a, swp_o _ (by omega) (by omega)]
      exact h.kid j h0 hj hp (by omega)
    · by_cases c2 : c = j
      · rw [c2, swp_b _ (by omega), hp, swp_a]
        exact O.asym _ _ hlt
      · rw [swp_o _ c1 c2]
        by_cases c3 : par c = i
        · rw [c3, swp_a]; exact hmin c hc hn c3
        · rw [swp_o _ c3 hne]; exact h.out c hc hn c3
  · intro c hc hn hpc hj0
    have h1 := par_lt hc
    rw [hp, swp_a, swp_o _ (by omega) (by omega)]
    have := h.out c hc hn (by omega)
    rw [hpc] at this
    exact this
omit O in
theorem down_leaf {i : Nat} (h : Down lt f n i) (hi : n ≤ 2 * i + 1) : Heap lt f n := fun c hc hn => by
  refine h.out c hc hn ?_
  unfold par
  omega
theorem down_stop {i j : Nat} (h : Down lt f n i) (hmin : ∀ c, 0 < c → c < n → par c = i → lt (f c) (f j) = false) (hlt : lt (f j) (f i) = false) : Heap lt f n := fun c hc hn => by
  by_cases c1 : par c = i
  · rw [c1]; exact O.ntrans _ _ _ hlt (hmin c hc hn c1)
  · exact h.out c hc hn c1
omit O in
theorem kids {i c : Nat} (h : par c = i) (hc : 0 < c) : c = 2 * i + 1 ∨ c = 2 * i + 2 := by unfold par at h; omega
/-- Of two children the less one. -/
theorem kid_right {i : Nat} (h : lt (f (2 * i + 2)) (f (2 * i + 1)) = true) : ∀ c, 0 < c → c < n → par c = i → lt (f c) (f (2 * i + 2)) = false := fun c hc _ hp => by
  rcases kids hp hc with e | e
  · rw [e]; exact O.asym _ _ h
  · rw [e]; cases k : lt (f (2 * i + 2)) (f (2 * i + 2)) with
    | false => rfl
    | true => exact absurd (O.asym _ _ k) (by rw [k]; decide)
theorem kid_left {i : Nat} (h : 2 * i + 2 < n → lt (f (2 * i + 2)) (f (2 * i + 1)) = false) : ∀ c, 0 < c → c < n → par c = i → lt (f c) (f (2 * i + 1)) = false := fun c hc hn hp => by
  rcases kids hp hc with e | e
  · rw [e]; cases k : lt (f (2 * i + 1)) (f (2 * i + 1)) with
    | false => rfl
    | true => exact absurd (O.asym _ _ k) (by rw [k]; decide)
  · rw [e]; exact h (by omega)
/-- Going up at j. -/
structure Up (lt : Nat → Nat → Bool) (f : Nat → Nat) (n j : Nat) : Prop where
  out : ∀ c, 0 < c → c < n → c ≠ j → lt (f c) (f (par c)) = false
  kid : ∀ c, 0 < c → c < n → par c = j → 0 < j → lt (f c) (f (par j)) = false
theorem up_step {j : Nat} (h : Up lt f n j) (h0 : 0 < j) (hj : j < n) (hlt : lt (f j) (f (par j)) = true) : Up lt (swp f (par j) j) n (par j) := by
  obtain ⟨i, hi⟩ : ∃ i, par j = i := ⟨_, rfl⟩
  rw [hi] at hlt ⊢
  have hij : i < j := by rw [← hi]; exact par_lt h0
  constructor
  · intro c hc hn hne
    by_cases c2 : c = j
    · rw [c2, swp_b _ (by omega), hi, swp_a]; exact O.asym _ _ hlt
    · rw [swp_o _ hne c2]
      by_cases c3 : par c = i
      · rw [c3, swp_a]
        have h1 := h.out c hc hn c2
        rw [c3] at h1
        cases k : lt (f c) (f j) with
        | false => rfl
        | true => rw [O.trans _ _ _ k hlt] at h1; cases h1
      · by_cases c4 : par c = j
        · rw [c4, swp_b _ (by omega)]
          have := h.kid c hc hn c4 h0
          rw [hi] at this
          exact this
        · rw [swp_o _ c3 c4]; exact h.out c hc hn c2
  · intro c hc hn hpc hi0
    have h1 := par_lt hi0
    rw [swp_o f (a := i) (b := j) (i := par i) (by omega) (by omega)]
    have h2 := h.out i hi0 (by omega) (by omega)
    by_cases c2 : c = j
    · rw [c2, swp_b _ (by omega)]; exact h2
    · have h3 := par_lt hc
      rw [swp_o _ (by omega) c2]
      have h4 := h.out c hc hn c2
      rw [hpc] at h4
      exact O.ntrans _ _ _ h2 h4
omit O in
theorem up_stop {j : Nat} (h : Up lt f n j) (hs : j = 0 ∨ lt (f j) (f (par j)) = false) : Heap lt f n := fun c hc hn => by
  by_cases c1 : c = j
  · rcases hs with e | e
    · omega
    · rw [c1]; exact e
  · exact h.out c hc hn c1
omit O in
/-- The first goes last, to be taken out. -/
theorem down_start (h : Heap lt f (n + 1)) : Down lt (swp f 0 n) n 0 := by
  constructor
  · intro c hc hn hne
    have := par_lt hc
    rw [swp_o _ (by omega) (by omega), swp_o _ hne (by omega)]
    exact h c hc (by omega)
  · intro c _ _ _ h0; omega
omit O in
/-- One more at the end. -/
theorem up_start (h : Heap lt f n) : Up lt f (n + 1) n := by
  constructor
  · intro c hc hn hne; exact h c hc (by omega)
  · intro c hc hn hp _
    have := par_lt hc
    omega
end
theorem les_upd {L : Nat → Int} {c : Nat} {v : Int} {a b : Nat} (ha : a ≠ c) (hb : b ≠ c) : les (Shp.upd L c v) a b = les L a b := by
  unfold les Shp.upd
  rw [if_neg ha, if_neg hb]
/-- What is not in the heap may change. -/
theorem heap_upd {L : Nat → Int} {f : Nat → Nat} {n c : Nat} {v : Int} (h : Heap (les L) f n) (hc : ∀ i, i < n → f i ≠ c) : Heap (les (Shp.upd L c v)) f n := fun k h0 hn => by
  have := par_lt h0
  rw [les_upd (hc k hn) (hc _ (by omega))]
  exact h k h0 hn
/-- The first of a heap of all machines is the one that List takes. -/
theorem root_am {L : Nat → Int} {f : Nat → Nat} {m : Nat} (hm : 0 < m) (h : Heap (les L) f m) (hr : Re 0 m id f) : f 0 = Shp.am L m := by
  have hlt := hr.lt (Nat.le_refl _) (fun i hi => hi)
  obtain ⟨j, _, hj, e⟩ := hr.sym.from (Shp.am L m) (Nat.zero_le _) (Shp.am_lt L m hm)
  have e' : f j = Shp.am L m := e.symm
  have h1 := root (les_or L) h j j (Nat.le_refl _) hj
  rw [e'] at h1
  have h2 := Shp.am_le L m (f 0) (hlt 0 hm)
  have h3 := Shp.am_first L m (f 0)
  unfold les at h1
  simp only [decide_eq_false_iff_not] at h1
  rcases Nat.lt_trichotomy (f 0) (Shp.am L m) with c | c | c
  · have := h3 c; omega
  · exact c
  · omega
end Go.Proofs.YtepgdlgifempeaaDoor.Hp
