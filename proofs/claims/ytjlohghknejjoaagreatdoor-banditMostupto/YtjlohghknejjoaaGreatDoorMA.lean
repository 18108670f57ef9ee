/- Models with acts: what plans are worth, Howard, contraction, MacQueen, the long run. -/
import Derived.Test.YtjlohghknejjoaaGreatDoorM22
namespace Go.Proofs.YtjlohghknejjoaaGreatDoor.Mdp
open Bth Lin

/-- The first place that no other one is better than. -/
def am (r : Rat → Rat → Bool) (f : Nat → Rat) : Nat → Nat
  | 0 => 0
  | i + 1 => if r (f i) (f (am r f i)) = true then i else am r f i
def gt (a b : Rat) : Bool := decide (b < a)
theorem am_lt (r : Rat → Rat → Bool) (f : Nat → Rat) : ∀ {n : Nat}, 0 < n → am r f n < n
  | n + 1, _ => by
    show (if r (f n) (f (am r f n)) = true then n else am r f n) < n + 1
    by_cases h : r (f n) (f (am r f n)) = true
    · rw [if_pos h]; omega
    · rw [if_neg h]
      by_cases e : 0 < n
      · have := am_lt r f e; omega
      · obtain rfl : n = 0 := by omega
        show 0 < 1; omega
theorem am_max (f : Nat → Rat) : ∀ {n j : Nat}, j < n → f j ≤ f (am gt f n)
  | n + 1, j, hj => by
    show f j ≤ f (if gt (f n) (f (am gt f n)) = true then n else am gt f n)
    by_cases h : gt (f n) (f (am gt f n)) = true
    · rw [if_pos h]
      have h : f (am gt f n) < f n := by simpa [gt] using h
      by_cases e : j = n
      · rw [e]; exact Rat.le_refl
      · have := am_max f (n := n) (j := j) (by omega); grind
    · rw [if_neg h]
      have h : f n ≤ f (am gt f n) := by
        have h : ¬ f (am gt f n) < f n := fun x => h (by simpa [gt] using x)
        exact Rat.not_lt.1 h
      by_cases e : j = n
      · rw [e]; exact h
      · exact am_max f (by omega)
theorem am_congr (r : Rat → Rat → Bool) {f g : Nat → Rat} : ∀ {n : Nat}, (∀ j, j < n → f j = g j) → am r f n = am r g n
  | 0, _ => rfl
  | n + 1, h => by
    have ih := am_congr r (n := n) (fun j hj => h j (by omega))
    show (if r (f n) (f (am r f n)) = true then n else am r f n) = (if r (g n) (g (am r g n)) = true then n else am r g n)
    by_cases e : 0 < n
    · have hl := am_lt r g e
      rw [ih, h n (by omega), h _ (by omega)]
    · obtain rfl : n = 0 := by omega
      have e1 : am r f 0 = 0 := rfl
      have e2 : am r g 0 = 0 := rfl
      rw [e1, e2, h 0 (by omega)]

theorem ps_le {f g : Nat → Rat} (k : Nat) (h : ∀ j, j < k → f j ≤ g j) : ps f k ≤ ps g k := by
  induction k with
  | zero => exact Rat.le_refl
  | succ k ih =>
    have a := ih (fun j hj => h j (by omega))
    have b := h k (by omega)
    show ps f k + f k ≤ ps g k + g k
    grind

/-- States, how many acts each has, what each brings, how likely each state comes next, and what a time later is worth. -/
structure Md where
  n : Nat
  k : Nat → Nat
  g : Nat → Nat → Rat
  p : Nat → Nat → Nat → Rat
  b : Rat
structure Ok (m : Md) : Prop where
  k1 : ∀ s, s < m.n → 0 < m.k s
  b0 : 0 ≤ m.b
  b1 : m.b < 1
  p0 : ∀ s a t, s < m.n → a < m.k s → t < m.n → 0 ≤ m.p s a t
  p1 : ∀ s a, s < m.n → a < m.k s → ps (m.p s a) m.n = 1
/-- What an act is worth. -/
def qv (m : Md) (v : Nat → Rat) (s a : Nat) : Rat := m.g s a + m.b * ps (fun t => m.p s a t * v t) m.n
def bst (m : Md) (v : Nat → Rat) (s : Nat) : Nat := am gt (qv m v s) (m.k s)
def T (m : Md) (v : Nat → Rat) (s : Nat) : Rat := qv m v s (bst m v s)
def Plan (m : Md) (d : Nat → Nat) : Prop := ∀ s, s < m.n → d s < m.k s
def Val (m : Md) (d : Nat → Nat) (x : Nat → Rat) : Prop := ∀ s, s < m.n → x s = qv m x s (d s)

theorem mul_le_left {b x y : Rat} (hb : 0 ≤ b) (h : x ≤ y) : b * x ≤ b * y := Rat.mul_le_mul_of_nonneg_left h hb
theorem qv_congr {m : Md} {v w : Nat → Rat} (h : ∀ t, t < m.n → v t = w t) (s a : Nat) : qv m v s a = qv m w s a := by
  unfold qv
  rw [ps_congr m.n (fun t ht => by rw [h t ht])]
theorem bst_congr {m : Md} {v w : Nat → Rat} (h : ∀ t, t < m.n → v t = w t) (s : Nat) : bst m v s = bst m w s := am_congr gt (fun a _ => qv_congr h s a)
theorem T_congr {m : Md} {v w : Nat → Rat} (h : ∀ t, t < m.n → v t = w t) (s : Nat) : T m v s = T m w s := by
  unfold T
  rw [bst_congr h, qv_congr h]
theorem bst_plan {m : Md} (h : Ok m) (v : Nat → Rat) : Plan m (bst m v) := fun s hs => am_lt gt _ (h.k1 s hs)
theorem T_ge {m : Md} (v : Nat → Rat) {s a : Nat} (ha : a < m.k s) : qv m v s a ≤ T m v s := am_max _ ha
/-- Two rows of values, by one act. -/
theorem qv_sub (m : Md) (v w : Nat → Rat) (s a : Nat) : qv m v s a - qv m w s a = m.b * ps (fun t => m.p s a t * (v t - w t)) m.n := by
  have : ps (fun t => m.p s a t * (v t - w t)) m.n = ps (fun t => m.p s a t * v t) m.n - ps (fun t => m.p s a t * w t) m.n := by
    rw [← ps_sub]
    exact ps_congr _ (fun t _ => by grind)
  unfold qv
  rw [this]; grind
theorem mean_le {m : Md} (h : Ok m) {s a : Nat} (hs : s < m.n) (ha : a < m.k s) {u : Nat → Rat} {c : Rat} (hu : ∀ t, t < m.n → u t ≤ c) : ps (fun t => m.p s a t * u t) m.n ≤ c := by
  have e : ps (fun t => m.p s a t * u t) m.n ≤ ps (fun t => c * m.p s a t) m.n := ps_le _ (fun t ht => by
    have := mul_le_left (h.p0 s a t hs ha ht) (hu t ht)
    grind)
  rw [ps_mul, h.p1 s a hs ha] at e
  grind
theorem mean_ge {m : Md} (h : Ok m) {s a : Nat} (hs : s < m.n) (ha : a < m.k s) {u : Nat → Rat} {c : Rat} (hu : ∀ t, t < m.n → c ≤ u t) : c ≤ ps (fun t => m.p s a t * u t) m.n := by
  have e : ps (fun t => c * m.p s a t) m.n ≤ ps (fun t => m.p s a t * u t) m.n := ps_le _ (fun t ht => by
    have := mul_le_left (h.p0 s a t hs ha ht) (hu t ht)
    grind)
  rw [ps_mul, h.p1 s a hs ha] at e
  grind
/-- What is nowhere above a part of its own mean is nowhere above 0. -/
theorem dom {m : Md} (h : Ok m) {d : Nat → Nat} (hd : Plan m d) {u : Nat → Rat} (hu : ∀ s, s < m.n → u s ≤ m.b * ps (fun t => m.p s (d s) t * u t) m.n) : ∀ s, s < m.n → u s ≤ 0 := by
  intro s hs
  have hm := am_lt gt u (n := m.n) (by omega)
  obtain ⟨z, hz⟩ : ∃ z, z = am gt u m.n := ⟨_, rfl⟩
  have hmx : ∀ t, t < m.n → u t ≤ u z := fun t ht => by rw [hz]; exact am_max u ht
  rw [← hz] at hm
  have a1 := hu z hm
  have a2 := mul_le_left h.b0 (mean_le h hm (hd z hm) hmx)
  have a3 : u z ≤ m.b * u z := Rat.le_trans a1 a2
  have a4 := hmx s hs
  by_cases c : u z ≤ 0
  · exact Rat.le_trans a4 c
  · have c : 0 < u z := Rat.not_le.1 c
    have := Rat.mul_lt_mul_of_pos_right h.b1 c
    grind
theorem val_le {m : Md} (h : Ok m) {d : Nat → Nat} (hd : Plan m d) {x y : Nat → Rat} (hx : ∀ s, s < m.n → x s ≤ qv m x s (d s)) (hy : ∀ s, s < m.n → qv m y s (d s) ≤ y s) : ∀ s, s < m.n → x s ≤ y s := by
  intro s hs
  have := dom h hd (u := fun t => x t - y t) (fun t ht => by
    have a := hx t ht
    have b := hy t ht
    have c := qv_sub m x y t (d t)
    show x t - y t ≤ _
    grind) s hs
  grind
theorem val_one {m : Md} (h : Ok m) {d : Nat → Nat} (hd : Plan m d) {x y : Nat → Rat} (hx : Val m d x) (hy : Val m d y) : ∀ s, s < m.n → x s = y s := fun s hs => by
  have a := val_le h hd (x := x) (y := y) (fun t ht => by rw [← hx t ht]; exact Rat.le_refl) (fun t ht => by rw [← hy t ht]; exact Rat.le_refl) s hs
  have b := val_le h hd (x := y) (y := x) (fun t ht => by rw [← hy t ht]; exact Rat.le_refl) (fun t ht => by rw [← hx t ht]; exact Rat.le_refl) s hs
  grind
/-- A plan's own best acts are worth no less. -/
theorem up_T {m : Md} {d : Nat → Nat} (hd : Plan m d) {x : Nat → Rat} (hx : Val m d x) {s : Nat} (hs : s < m.n) : x s ≤ T m x s := by
  have e : x s = qv m x s (d s) := hx s hs
  have := T_ge (m := m) x (hd s hs)
  grind
theorem better {m : Md} (h : Ok m) {d : Nat → Nat} (hd : Plan m d) {x y : Nat → Rat} (hx : Val m d x) (hy : Val m (bst m x) y) : ∀ s, s < m.n → T m x s ≤ y s := by
  refine val_le h (bst_plan h x) (x := T m x) (y := y) (fun s hs => ?_) (fun t ht => by rw [← hy t ht]; exact Rat.le_refl)
  have := qv_sub m (T m x) x s (bst m x s)
  have a := mul_le_left h.b0 (mean_ge h hs (bst_plan h x s hs) (u := fun t => T m x t - x t) (c := 0) (fun t ht => by have := up_T hd hx ht; grind))
  have e : T m x s = qv m x s (bst m x s) := rfl
  grind
/-- The equations of what a plan is worth. -/
def veq (m : Md) (d : Nat → Nat) (i j : Nat) : Rat := if j < m.n then (if i = j then 1 else 0) - m.b * m.p i (d i) j else m.g i (d i)
theorem ps_delta {n i : Nat} (hi : i < n) (x : Nat → Rat) : ps (fun j => (if i = j then 1 else 0) * x j) n = x i := by
  rw [ps_one (i := i) hi (fun j hj hn => by rw [if_neg (fun e => hn e.symm)]; grind), if_pos rfl]; grind
theorem veq_sat {m : Md} {d : Nat → Nat} {x : Nat → Rat} {t : Rat} : Sat m.n (veq m d) x t ↔ ∀ s, s < m.n → x s = m.g s (d s) * t + m.b * ps (fun t => m.p s (d s) t * x t) m.n := by
  have key : ∀ i, i < m.n → ps (fun j => veq m d i j * x j) m.n = x i - m.b * ps (fun t => m.p i (d i) t * x t) m.n := fun i hi => by
    have : ps (fun j => veq m d i j * x j) m.n = ps (fun j => (if i = j then 1 else 0) * x j - m.b * (m.p i (d i) j * x j)) m.n := ps_congr _ (fun j hj => by unfold veq; rw [if_pos hj]; grind)
    rw [this, ps_sub, ps_mul, ps_delta hi]
  have rgt : ∀ i, veq m d i m.n = m.g i (d i) := fun i => by unfold veq; rw [if_neg (by omega)]
  constructor
  · intro h s hs
    have := h s hs
    rw [key s hs, rgt s] at this
    grind
  · intro h s hs
    have := h s hs
    rw [key s hs, rgt s]
    grind
theorem veq_val {m : Md} {d : Nat → Nat} {x : Nat → Rat} (h : Sat m.n (veq m d) x 1) : Val m d x := fun s hs => by
  have := veq_sat.1 h s hs
  unfold qv
  grind
theorem veq_only {m : Md} (h : Ok m) {d : Nat → Nat} (hd : Plan m d) {y : Nat → Rat} (hy : Sat m.n (veq m d) y 0) : ∀ s, s < m.n → y s = 0 := fun s hs => by
  have hq := veq_sat.1 hy
  have a := dom h hd (u := y) (fun t ht => by have := hq t ht; grind) s hs
  have b := dom h hd (u := fun t => -y t) (fun t ht => by
    have e := hq t ht
    have : ps (fun z => m.p t (d t) z * -y z) m.n = -ps (fun z => m.p t (d t) z * y z) m.n := by
      have := ps_mul (-1) (fun z => m.p t (d t) z * y z) m.n
      rw [show -ps (fun z => m.p t (d t) z * y z) m.n = -1 * ps (fun z => m.p t (d t) z * y z) m.n by grind, ← this]
      exact ps_congr _ (fun z _ => by grind)
    show -y t ≤ _
    rw [this]; grind) s hs
  have b : -y s ≤ 0 := b
  grind

/-- All plans. -/
def plans (k : Nat → Nat) : Nat → List (List Nat)
  | 0 => [[]]
  | s + 1 => (plans k s).flatMap fun l => (List.range (k s)).map fun a => l ++ [a]
theorem plans_mem (k : Nat → Nat) : ∀ (n : Nat) (l : List Nat), l.length = n → (∀ s, s < n → l[s]! < k s) → l ∈ plans k n
  | 0, l, hl, _ => by
    obtain rfl := List.length_eq_zero_iff.1 hl
    exact List.mem_singleton.2 rfl
  | n + 1, l, hl, h => by
    have e : l = l.take n ++ [l[n]!] := by
      have := List.take_append_drop n l
      have hd : l.drop n = [l[n]!] := by
        rw [List.drop_eq_getElem_cons (by omega : n < l.length)]
        have : l.drop (n + 1) = [] := List.drop_eq_nil_iff.2 (by omega)
        rw [this]
        simp [show n < l.length by omega]
      rw [hd] at this
      exact this.symm
    rw [e]
    refine List.mem_flatMap.2 ⟨l.take n, plans_mem k n (l.take n) (by rw [List.length_take]; omega) (fun s hs => ?_), List.mem_map.2 ⟨l[n]!, List.mem_range.2 (h n (by omega)), rfl⟩⟩
    have : (l.take n)[s]! = l[s]! := by simp [hs]
    rw [this]
    exact h s (by omega)
/-- A number that falls with each better plan. -/
theorem falls {m : Md} (h : Ok m) : ∃ mu : List Nat → Nat, ∀ (d e : List Nat) (x y : Nat → Rat), d.length = m.n → e.length = m.n → Plan m (fun s => d[s]!) → Plan m (fun s => e[s]!) → Val m (fun s => d[s]!) x → Val m (fun s => e[s]!) y → ps x m.n < ps y m.n → mu e < mu d := by
  have dec : ∀ p : Prop, ∃ b : Bool, b = true ↔ p := fun p => by
    by_cases c : p
    · exact ⟨true, by simp [c]⟩
    · exact ⟨false, by simp [c]⟩
  have : ∀ d : List Nat, ∃ f : List Nat → Bool, ∀ e, f e = true ↔ ∃ x y, Val m (fun s => d[s]!) x ∧ Val m (fun s => e[s]!) y ∧ ps x m.n < ps y m.n := fun d => Classical.skolem.1 (fun e => dec _)
  obtain ⟨f, hf⟩ := Classical.skolem.1 this
  refine ⟨fun d => ((plans m.k m.n).filter (f d)).length, fun d e x y hd he pd pe vd ve hlt => ?_⟩
  have strict : ∀ (l : List (List Nat)) (p q : List Nat → Bool), (∀ z ∈ l, p z = true → q z = true) → (∃ z ∈ l, q z = true ∧ p z = false) → (l.filter p).length < (l.filter q).length := by
    intro l p q
    have weak : ∀ (l : List (List Nat)), (∀ z ∈ l, p z = true → q z = true) → (l.filter p).length ≤ (l.filter q).length := by
      intro l
      induction l with
      | nil => intro _; exact Nat.le_refl _
      | cons a l ih =>
        intro h1
        have := ih (fun z hz => h1 z (List.mem_cons_of_mem _ hz))
        have ha := h1 a (List.mem_cons_self ..)
        by_cases c : p a = true
        · simp [c, ha c]; omega
        · by_cases c2 : q a = true
          · simp [c, c2]; omega
          · simp [c, c2]; omega
    induction l with
    | nil => rintro _ ⟨z, hz, _⟩; cases hz
    | cons a l ih =>
      rintro h1 ⟨z, hz, hq, hp⟩
      have ha := h1 a (List.mem_cons_self ..)
      have h1' : ∀ z ∈ l, p z = true → q z = true := fun z hz => h1 z (List.mem_cons_of_mem _ hz)
      have hw := weak l h1'
      by_cases e : z = a
      · subst e
        simp [hp, hq]; omega
      · have hz : z ∈ l := by rcases List.mem_cons.1 hz with c | c; exact absurd c e; exact c
        have := ih h1' ⟨z, hz, hq, hp⟩
        by_cases c : p a = true
        · simp [c, ha c]; omega
        · by_cases c2 : q a = true
          · simp [c, c2]; omega
          · simp [c, c2]; omega
  refine strict _ _ _ (fun z _ hz => ?_) ⟨e, plans_mem _ _ e he pe, (hf d e).2 ⟨x, y, vd, ve, hlt⟩, ?_⟩
  · obtain ⟨a, b, va, vb, hab⟩ := (hf e z).1 hz
    refine (hf d z).2 ⟨x, b, vd, vb, ?_⟩
    have : ps a m.n = ps y m.n := ps_congr _ (val_one h pe va ve)
    grind
  · cases c : f e e with
    | false => rfl
    | true =>
      obtain ⟨a, b, va, vb, hab⟩ := (hf e e).1 c
      have : ps a m.n = ps b m.n := ps_congr _ (val_one h pe va vb)
      grind
theorem ps_lt {f g : Nat → Rat} {k : Nat} (h : ∀ j, j < k → f j ≤ g j) (hs : ∃ j, j < k ∧ f j ≠ g j) : ps f k < ps g k := by
  obtain ⟨j, hj, hn⟩ := hs
  induction k with
  | zero => omega
  | succ k ih =>
    show ps f k + f k < ps g k + g k
    have b := h k (by omega)
    by_cases e : j = k
    · subst e
      have a := ps_le j (fun i hi => h i (by omega))
      have : f j < g j := by grind
      grind
    · have := ih (fun i hi => h i (by omega)) (by omega)
      grind
end Go.Proofs.YtjlohghknejjoaaGreatDoor.Mdp
/- Equations that have no other answer than 0 where all is 0 on the right have one: a plan's worth. -/
namespace Go.Proofs.YtjlohghknejjoaaGreatDoor.Mdp
open Bth Lin

theorem solvable {n : Nat} {A : Nat → Nat → Rat} (h : ∀ y, Sat n A y 0 → ∀ i, i < n → y i = 0) : ∃ x, Sat n A x 1 := by
  have key : ∀ k, k ≤ n → ∃ L, Inv n A k L := fun k => by
    induction k with
    | zero => intro _; exact ⟨A, inv_zero n A⟩
    | succ k ih =>
      intro hk
      obtain ⟨L, hL⟩ := ih (by omega)
      by_cases c : ∃ p, k ≤ p ∧ p < n ∧ L p k ≠ 0
      · obtain ⟨p, h1, h2, h3⟩ := c
        exact ⟨_, inv_next hL h1 h2 h3⟩
      · exfalso
        obtain ⟨y, hy, y1⟩ := singular hL (by omega) (fun p h1 h2 => Classical.not_not.1 (fun h3 => c ⟨p, h1, h2, h3⟩))
        have := h y hy k (by omega)
        rw [y1] at this
        exact absurd this (by decide)
  obtain ⟨L, hL⟩ := key n (Nat.le_refl _)
  exact ⟨_, bk_sat hL⟩
theorem val_ex {m : Md} (h : Ok m) {d : Nat → Nat} (hd : Plan m d) : ∃ x, Val m d x := by
  obtain ⟨x, hx⟩ := solvable (n := m.n) (A := veq m d) (fun y hy => veq_only h hd hy)
  exact ⟨x, veq_val hx⟩
/-- The next plan is worth more in all. -/
theorem grows {m : Md} (h : Ok m) {d : Nat → Nat} (hd : Plan m d) {x y : Nat → Rat} (hx : Val m d x) (hy : Val m (bst m x) y) (hne : ¬ ∀ s, s < m.n → T m x s = x s) : ps x m.n < ps y m.n := by
  have hb := better h hd hx hy
  have hu : ∀ s, s < m.n → x s ≤ T m x s := fun s hs => up_T hd hx hs
  have : ∃ s, s < m.n ∧ ¬ T m x s = x s := by
    refine Classical.byContradiction (fun c => hne (fun s hs => Classical.byContradiction (fun e => c ⟨s, hs, e⟩)))
  obtain ⟨s, hs, he⟩ := this
  refine ps_lt (fun j hj => Rat.le_trans (hu j hj) (hb j hj)) ⟨s, hs, fun e => he ?_⟩
  have a := hu s hs
  have b := hb s hs
  grind
end Go.Proofs.YtjlohghknejjoaaGreatDoor.Mdp
