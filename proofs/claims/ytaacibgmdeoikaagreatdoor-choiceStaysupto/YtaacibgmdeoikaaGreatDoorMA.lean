/- Models with acts: what plans are worth, Howard, contraction, MacQueen, the long run. -/
import Derived.Test.YtaacibgmdeoikaaGreatDoorM22
namespace Go.Proofs.YtaacibgmdeoikaaGreatDoor.Mdp
open Bth Lin

/-- The first place that no other one is better than. -/
def am (r : Rat → Rat → Bool) (f : Nat → Rat) : Nat → Nat
  | 0 => 0
  | i + 1 => if r (f i) (f (am r f i)) = true then i else am r f i
def gt (a b : Rat) : Bool := decide (b < a)
def lt (a b : Rat) : Bool := decide (a < b)
theorem am_lt (r : Rat → Rat → Bool) (f : Nat → Rat) : ∀ {n : Nat}, 0 < n → am r f n < n
  | n + 1, _ => by
    show (if r (f n) (f (am r f n)) = true then n else am r f n) < n + 1
    by_cases h : r (f n) (f (am r f n)) = true
    · rw [if_pos h]; omega
    · rw [if_neg h]
      by_cases e : 0 < n
      · have := am_lt r f e; omega
      · obtain rfl : n = 0 := by omega
        show 0 < 1; omega
theorem am_max (f : Nat → Rat) : ∀ {n j : Nat}, j < n → f j ≤ f (am gt f n)
  | n + 1, j, hj => by
    show f j ≤ f (if gt (f n) (f (am gt f n)) = true then n else am gt f n)
    by_cases h : gt (f n) (f (am gt f n)) = true
    · rw [if_pos h]
      have h : f (am gt f n) < f n := by simpa [gt] using h
      by_cases e : j = n
      · rw [e]; exact Rat.le_refl
      · have := am_max f (n := n) (j := j) (by omega); grind
    · rw [if_neg h]
      have h : f n ≤ f (am gt f n) := by
        have h : ¬ f (am gt f n) < f n := fun x => h (by simpa [gt] using x)
        exact Rat.not_lt.1 h
      by_cases e : j = n
      · rw [e]; exact h
      · exact am_max f (by omega)
theorem am_min (f : Nat → Rat) : ∀ {n j : Nat}, j < n → f (am lt f n) ≤ f j
  | n + 1, j, hj => by
    show f (if lt (f n) (f (am lt f n)) = true then n else am lt f n) ≤ f j
    by_cases h : lt (f n) (f (am lt f n)) = true
    · rw [if_pos h]
      have h : f n < f (am lt f n) := by simpa [lt] using h
      by_cases e : j = n
      · rw [e]; exact Rat.le_refl
      · have := am_min f (n := n) (j := j) (by omega); grind
    · rw [if_neg h]
      have h : f (am lt f n) ≤ f n := by
        have h : ¬ f n < f (am lt f n) := fun x => h (by simpa [lt] using x)
        exact Rat.not_lt.1 h
      by_cases e : j = n
      · rw [e]; exact h
      · exact am_min f (by omega)
theorem am_congr (r : Rat → Rat → Bool) {f g : Nat → Rat} : ∀ {n : Nat}, (∀ j, j < n → f j = g j) → am r f n = am r g n
  | 0, _ => rfl
  | n + 1, h => by
    have ih := am_congr r (n := n) (fun j hj => h j (by omega))
    show (if r (f n) (f (am r f n)) = true then n else am r f n) = (if r (g n) (g (am r g n)) = true then n else am r g n)
    by_cases e : 0 < n
    · have hl := am_lt r g e
      rw [ih, h n (by omega), h _ (by omega)]
    · obtain rfl : n = 0 := by omega
      have e1 : am r f 0 = 0 := rfl
      have e2 : am r g 0 = 0 := rfl
      rw [e1, e2, h 0 (by omega)]

theorem ps_le {f g : Nat → Rat} (k : Nat) (h : ∀ j, j < k → f j ≤ g j) : ps f k ≤ ps g k := by
  induction k with
  | zero => exact Rat.le_refl
  | succ k ih =>
    have a := ih (fun j hj => h j (by omega))
    have b := h k (by omega)
    show ps f k + f k ≤ ps g k + g k
    grind

/-- States, how many acts each has, what each brings, how likely each state comes next, and what a time later is worth. -/
structure Md where
  n : Nat
  k : Nat → Nat
  g : Nat → Nat → Rat
  p : Nat → Nat → Nat → Rat
  b : Rat
structure Ok (m : Md) : Prop where
  k1 : ∀ s, s < m.n → 0 < m.k s
  b0 : 0 ≤ m.b
  b1 : m.b < 1
  p0 : ∀ s a t, s < m.n → a < m.k s → t < m.n → 0 ≤ m.p s a t
  p1 : ∀ s a, s < m.n → a < m.k s → ps (m.p s a) m.n = 1
/-- What an act is worth. -/
def qv (m : Md) (v : Nat → Rat) (s a : Nat) : Rat := m.g s a + m.b * ps (fun t => m.p s a t * v t) m.n
def bst (m : Md) (v : Nat → Rat) (s : Nat) : Nat := am gt (qv m v s) (m.k s)
def T (m : Md) (v : Nat → Rat) (s : Nat) : Rat := qv m v s (bst m v s)
def Plan (m : Md) (d : Nat → Nat) : Prop := ∀ s, s < m.n → d s < m.k s
def Val (m : Md) (d : Nat → Nat) (x : Nat → Rat) : Prop := ∀ s, s < m.n → x s = qv m x s (d s)

theorem mul_le_left {b x y : Rat} (hb : 0 ≤ b) (h : x ≤ y) : b * x ≤ b * y := Rat.mul_le_mul_of_nonneg_left h hb
theorem qv_congr {m : Md} {v w : Nat → Rat} (h : ∀ t, t < m.n → v t = w t) (s a : Nat) : qv m v s a = qv m w s a := by
  unfold qv
  rw [ps_congr m.n (fun t ht => by rw [h t ht])]
theorem bst_congr {m : Md} {v w : Nat → Rat} (h : ∀ t, t < m.n → v t = w t) (s : Nat) : bst m v s = bst m w s := am_congr gt (fun a _ => qv_congr h s a)
theorem T_congr {m : Md} {v w : Nat → Rat} (h : ∀ t, t < m.n → v t = w t) (s : Nat) : T m v s = T m w s := by
  unfold T
  rw [bst_congr h, qv_congr h]
theorem bst_plan {m : Md} (h : Ok m) (v : Nat → Rat) : Plan m (bst m v) := fun s hs => am_lt gt _ (h.k1 s hs)
theorem T_ge {m : Md} (v : Nat → Rat) {s a : Nat} (ha : a < m.k s) : qv m v s a ≤ T m v s := am_max _ ha
/-- Two rows of values, by one act. -/
theorem qv_sub (m : Md) (v w : Nat → Rat) (s a : Nat) : qv m v s a - qv m w s a = m.b * ps (fun t => m.p s a t * (v t - w t)) m.n := by
  have : ps (fun t => m.p s a t * (v t - w t)) m.n = ps (fun t => m.p s a t * v t) m.n - ps (fun t => m.p s a t * w t) m.n := by
    rw [← ps_sub]
    exact ps_congr _ (fun t _ => by grind)
  unfold qv
  rw [this]; grind
theorem mean_le {m : Md} (h : Ok m) {s a : Nat} (hs : s < m.n) (ha : a < m.k s) {u : Nat → Rat} {c : Rat} (hu : ∀ t, t < m.n → u t ≤ c) : ps (fun t => m.p s a t * u t) m.n ≤ c := by
  have e : ps (fun t => m.p s a t * u t) m.n ≤ ps (fun t => c * m.p s a t) m.n := ps_le _ (fun t ht => by
    have := mul_le_left (h.p0 s a t hs ha ht) (hu t ht)
    grind)
  rw [ps_mul, h.p1 s a hs ha] at e
  grind
theorem mean_ge {m : Md} (h : Ok m) {s a : Nat} (hs : s < m.n) (ha : a < m.k s) {u : Nat → Rat} {c : Rat} (hu : ∀ t, t < m.n → c ≤ u t) : c ≤ ps (fun t => m.p s a t * u t) m.n := by
  have e : ps (fun t => c * m.p s a t) m.n ≤ ps (fun t => m.p s a t * u t) m.n := ps_le _ (fun t ht => by
    have := mul_le_left (h.p0 s a t hs ha ht) (hu t ht)
    grind)
  rw [ps_mul, h.p1 s a hs ha] at e
  grind
/-- What is nowhere above a part of its own mean is nowhere above 0. -/
theorem dom {m : Md} (h : Ok m) {d : Nat → Nat} (hd : Plan m d) {u : Nat → Rat} (hu : ∀ s, s < m.n → u s ≤ m.b * ps (fun t => m.p s (d s) t * u t) m.n) : ∀ s, s < m.n → u s ≤ 0 := by
  intro s hs
  have hm := am_lt gt u (n := m.n) (by omega)
  obtain ⟨z, hz⟩ : ∃ z, z = am gt u m.n := ⟨_, rfl⟩
  have hmx : ∀ t, t < m.n → u t ≤ u z := fun t ht => by rw [hz]; exact am_max u ht
  rw [← hz] at hm
  have a1 := hu z hm
  have a2 := mul_le_left h.b0 (mean_le h hm (hd z hm) hmx)
  have a3 : u z ≤ m.b * u z := Rat.le_trans a1 a2
  have a4 := hmx s hs
  by_cases c : u z ≤ 0
  · exact Rat.le_trans a4 c
  · have c : 0 < u z := Rat.not_le.1 c
    have := Rat.mul_lt_mul_of_pos_right h.b1 c
    grind
theorem val_le {m : Md} (h : Ok m) {d : Nat → Nat} (hd : Plan m d) {x y : Nat → Rat} (hx : ∀ s, s < m.n → x s ≤ qv m x s (d s)) (hy : ∀ s, s < m.n → qv m y s (d s) ≤ y s) : ∀ s, s < m.n → x s ≤ y s := by
  intro s hs
  have := dom h hd (u := fun t => x t - y t) (fun t ht => by
    have a := hx t ht
    have b := hy t ht
    have c := qv_sub m x y t (d t)
    show x t - y t ≤ _
    grind) s hs
  grind
theorem val_one {m : Md} (h : Ok m) {d : Nat → Nat} (hd : Plan m d) {x y : Nat → Rat} (hx : Val m d x) (hy : Val m d y) : ∀ s, s < m.n → x s = y s := fun s hs => by
  have a := val_le h hd (x := x) (y := y) (fun t ht => by rw [← hx t ht]; exact Rat.le_refl) (fun t ht => by rw [← hy t ht]; exact Rat.le_refl) s hs
  have b := val_le h hd (x := y) (y := x) (fun t ht => by rw [← hy t ht]; exact Rat.le_refl) (fun t ht => by rw [← hx t ht]; exact Rat.le_refl) s hs
  grind
/-- A plan's own best acts are worth no less. -/
theorem up_T {m : Md} {d : Nat → Nat} (hd : Plan m d) {x : Nat → Rat} (hx : Val m d x) {s : Nat} (hs : s < m.n) : x s ≤ T m x s := by
  have e : x s = qv m x s (d s) := hx s hs
  have := T_ge (m := m) x (hd s hs)
  grind
theorem better {m : Md} (h : Ok m) {d : Nat → Nat} (hd : Plan m d) {x y : Nat → Rat} (hx : Val m d x) (hy : Val m (bst m x) y) : ∀ s, s < m.n → T m x s ≤ y s := by
  refine val_le h (bst_plan h x) (x := T m x) (y := y) (fun s hs => ?_) (fun t ht => by rw [← hy t ht]; exact Rat.le_refl)
  have := qv_sub m (T m x) x s (bst m x s)
  have a := mul_le_left h.b0 (mean_ge h hs (bst_plan h x s hs) (u := fun t => T m x t - x t) (c := 0) (fun t ht => by have := up_T hd hx ht; grind))
  have e : T m x s = qv m x s (bst m x s) := rfl
  grind
/-- HOWARD: no plan is worth more than what is worth a step ahead what it is. -/
theorem opt {m : Md} (h : Ok m) {v : Nat → Rat} (hv : ∀ s, s < m.n → T m v s = v s) {d : Nat → Nat} (hd : Plan m d) {y : Nat → Rat} (hy : Val m d y) : ∀ s, s < m.n → y s ≤ v s :=
  val_le h hd (fun t ht => by rw [← hy t ht]; exact Rat.le_refl) (fun t ht => by have := T_ge (m := m) v (hd t ht); rw [hv t ht] at this; exact this)
theorem fix_val {m : Md} {v : Nat → Rat} (hv : ∀ s, s < m.n → T m v s = v s) : Val m (bst m v) v := fun s hs => (hv s hs).symm
theorem below_fix {m : Md} (h : Ok m) {v w : Nat → Rat} (hv : ∀ s, s < m.n → T m v s = v s) (hw : ∀ s, s < m.n → T m w s ≤ w s) : ∀ s, s < m.n → v s ≤ w s :=
  val_le h (bst_plan h v) (fun t ht => by rw [← fix_val hv t ht]; exact Rat.le_refl) (fun t ht => Rat.le_trans (T_ge (m := m) w (bst_plan h v t ht)) (hw t ht))
theorem above_fix {m : Md} (h : Ok m) {v w : Nat → Rat} (hv : ∀ s, s < m.n → T m v s = v s) (hw : ∀ s, s < m.n → w s ≤ T m w s) : ∀ s, s < m.n → w s ≤ v s :=
  val_le h (bst_plan h w) (fun t ht => hw t ht) (fun t ht => by have := T_ge (m := m) v (bst_plan h w t ht); rw [hv t ht] at this; exact this)

/-- Two steps differ by no more than a part of what is the most that they did. -/
theorem T_up {m : Md} (h : Ok m) {x y : Nat → Rat} {D : Rat} (hD : ∀ t, t < m.n → x t - y t ≤ D) {s : Nat} (hs : s < m.n) : T m x s - T m y s ≤ m.b * D := by
  have hp := bst_plan h x s hs
  have a := T_ge (m := m) y hp
  have b := qv_sub m x y s (bst m x s)
  have c := mul_le_left h.b0 (mean_le h hs hp (u := fun t => x t - y t) hD)
  have e : T m x s = qv m x s (bst m x s) := rfl
  grind

/-- The greatest amount by which two rows differ. -/
def absq (q : Rat) : Rat := if q < 0 then 0 - q else q
def far (f : Nat → Rat) : Nat → Rat
  | 0 => 0
  | i + 1 => if far f i < absq (f i) then absq (f i) else far f i
theorem far_nn (f : Nat → Rat) : ∀ n, 0 ≤ far f n
  | 0 => Rat.le_refl
  | n + 1 => by
    have := far_nn f n
    show 0 ≤ (if far f n < absq (f n) then absq (f n) else far f n)
    by_cases h : far f n < absq (f n)
    · rw [if_pos h]; grind
    · rw [if_neg h]; exact this
theorem far_ge (f : Nat → Rat) : ∀ {n j : Nat}, j < n → absq (f j) ≤ far f n
  | n + 1, j, hj => by
    show absq (f j) ≤ (if far f n < absq (f n) then absq (f n) else far f n)
    by_cases e : j = n
    · subst e
      by_cases h : far f j < absq (f j)
      · rw [if_pos h]; exact Rat.le_refl
      · rw [if_neg h]; exact Rat.not_lt.1 h
    · have := far_ge f (n := n) (j := j) (by omega)
      by_cases h : far f n < absq (f n)
      · rw [if_pos h]; grind
      · rw [if_neg h]; exact this
theorem far_le (f : Nat → Rat) {c : Rat} (hc : 0 ≤ c) : ∀ {n : Nat}, (∀ j, j < n → absq (f j) ≤ c) → far f n ≤ c
  | 0, _ => hc
  | n + 1, h => by
    show (if far f n < absq (f n) then absq (f n) else far f n) ≤ c
    by_cases e : far f n < absq (f n)
    · rw [if_pos e]; exact h n (by omega)
    · rw [if_neg e]; exact far_le f hc (fun j hj => h j (by omega))
theorem absq_le {q c : Rat} (h1 : q ≤ c) (h2 : -q ≤ c) : absq q ≤ c := by
  unfold absq
  by_cases h : q < 0
  · rw [if_pos h]; grind
  · rw [if_neg h]; exact h1
theorem le_absq (q : Rat) : q ≤ absq q ∧ -q ≤ absq q := by
  unfold absq
  by_cases h : q < 0
  · rw [if_pos h]; grind
  · rw [if_neg h]; grind
/-- A STEP BRINGS VALUES NEARER. -/
theorem contracts {m : Md} (h : Ok m) (x y : Nat → Rat) : far (fun s => T m x s - T m y s) m.n ≤ m.b * far (fun s => x s - y s) m.n := by
  have nn := far_nn (fun s => x s - y s) m.n
  refine far_le _ (Rat.mul_nonneg h.b0 nn) (fun s hs => absq_le ?_ ?_)
  · exact T_up h (fun t ht => Rat.le_trans (le_absq _).1 (far_ge (fun s => x s - y s) ht)) hs
  · have := T_up h (x := y) (y := x) (D := far (fun s => x s - y s) m.n) (fun t ht => by
      have a := (le_absq (x t - y t)).2
      have b := far_ge (fun s => x s - y s) ht
      have b : absq (x t - y t) ≤ far (fun s => x s - y s) m.n := b
      grind) hs
    grind

/-- MACQUEEN, from above. -/
theorem high {m : Md} (h : Ok m) {v b : Nat → Rat} (hb : ∀ s, s < m.n → T m b s = b s) {M : Rat} (hM : ∀ s, s < m.n → T m v s - v s ≤ M) : ∀ s, s < m.n → b s ≤ T m v s + m.b / (1 - m.b) * M := by
  have h1 : (0 : Rat) < 1 - m.b := by have := h.b1; grind
  have e : m.b / (1 - m.b) * (1 - m.b) = m.b := div_mul_self (ne_of_pos h1)
  obtain ⟨c, hc⟩ : ∃ c, c = m.b / (1 - m.b) * M := ⟨_, rfl⟩
  have ec : m.b * M + m.b * c = c := by rw [hc]; grind
  rw [← hc]
  refine below_fix h hb (w := fun s => T m v s + c) (fun s hs => ?_)
  have := T_up h (x := fun s => T m v s + c) (y := v) (D := M + c) (fun t ht => by have := hM t ht; show T m v t + c - v t ≤ M + c; grind) hs
  show T m (fun s => T m v s + c) s ≤ T m v s + c
  grind
/-- MACQUEEN, from below. -/
theorem low {m : Md} (h : Ok m) {v b : Nat → Rat} (hb : ∀ s, s < m.n → T m b s = b s) {M : Rat} (hM : ∀ s, s < m.n → M ≤ T m v s - v s) : ∀ s, s < m.n → T m v s + m.b / (1 - m.b) * M ≤ b s := by
  have h1 : (0 : Rat) < 1 - m.b := by have := h.b1; grind
  have e : m.b / (1 - m.b) * (1 - m.b) = m.b := div_mul_self (ne_of_pos h1)
  obtain ⟨c, hc⟩ : ∃ c, c = m.b / (1 - m.b) * M := ⟨_, rfl⟩
  have ec : m.b * M + m.b * c = c := by rw [hc]; grind
  rw [← hc]
  refine above_fix h hb (w := fun s => T m v s + c) (fun s hs => ?_)
  have := T_up h (x := v) (y := fun s => T m v s + c) (D := -(M + c)) (fun t ht => by have := hM t ht; show v t - (T m v t + c) ≤ -(M + c); grind) hs
  show T m v s + c ≤ T m (fun s => T m v s + c) s
  grind

/-- The equations of what a plan is worth. -/
def veq (m : Md) (d : Nat → Nat) (i j : Nat) : Rat := if j < m.n then (if i = j then 1 else 0) - m.b * m.p i (d i) j else m.g i (d i)
theorem ps_delta {n i : Nat} (hi : i < n) (x : Nat → Rat) : ps (fun j => (if i = j then 1 else 0) * x j) n = x i := by
  rw [ps_one (i := i) hi (fun j hj hn => by rw [if_neg (fun e => hn e.symm)]; grind), if_pos rfl]; grind
theorem veq_sat {m : Md} {d : Nat → Nat} {x : Nat → Rat} {t : Rat} : Sat m.n (veq m d) x t ↔ ∀ s, s < m.n → x s = m.g s (d s) * t + m.b * ps (fun t => m.p s (d s) t * x t) m.n := by
  have key : ∀ i, i < m.n → ps (fun j => veq m d i j * x j) m.n = x i - m.b * ps (fun t => m.p i (d i) t * x t) m.n := fun i hi => by
    have : ps (fun j => veq m d i j * x j) m.n = ps (fun j => (if i = j then 1 else 0) * x j - m.b * (m.p i (d i) j * x j)) m.n := ps_congr _ (fun j hj => by unfold veq; rw [if_pos hj]; grind)
    rw [this, ps_sub, ps_mul, ps_delta hi]
  have rgt : ∀ i, veq m d i m.n = m.g i (d i) := fun i => by unfold veq; rw [if_neg (by omega)]
  constructor
  · intro h s hs
    have := h s hs
    rw [key s hs, rgt s] at this
    grind
  · intro h s hs
    have := h s hs
    rw [key s hs, rgt s]
    grind
theorem veq_val {m : Md} {d : Nat → Nat} {x : Nat → Rat} (h : Sat m.n (veq m d) x 1) : Val m d x := fun s hs => by
  have := veq_sat.1 h s hs
  unfold qv
  grind
theorem veq_only {m : Md} (h : Ok m) {d : Nat → Nat} (hd : Plan m d) {y : Nat → Rat} (hy : Sat m.n (veq m d) y 0) : ∀ s, s < m.n → y s = 0 := fun s hs => by
  have hq := veq_sat.1 hy
  have a := dom h hd (u := y) (fun t ht => by have := hq t ht; grind) s hs
  have b := dom h hd (u := fun t => -y t) (fun t ht => by
    have e := hq t ht
    have : ps (fun z => m.p t (d t) z * -y z) m.n = -ps (fun z => m.p t (d t) z * y z) m.n := by
      have := ps_mul (-1) (fun z => m.p t (d t) z * y z) m.n
      rw [show -ps (fun z => m.p t (d t) z * y z) m.n = -1 * ps (fun z => m.p t (d t) z * y z) m.n by grind, ← this]
      exact ps_congr _ (fun z _ => by grind)
    show -y t ≤ _
    rw [this]; grind) s hs
  have b : -y s ≤ 0 := b
  grind

/-- The equations of the long run. -/
def oeq (m : Md) (d : Nat → Nat) (i j : Nat) : Rat := if i + 1 = m.n then 1 else if j < m.n then (if i = j then 1 else 0) - m.p j (d j) i else 0
theorem oeq_stays {m : Md} (h : Ok m) {d : Nat → Nat} (hd : Plan m d) {x : Nat → Rat} (hx : Sat m.n (oeq m d) x 1) : ∀ k, k < m.n → ps (fun i => x i * m.p i (d i) k) m.n = x k := by
  have first : ∀ k, k + 1 < m.n → ps (fun i => x i * m.p i (d i) k) m.n = x k := fun k hk => by
    have := hx k (by omega)
    have e1 : ps (fun j => oeq m d k j * x j) m.n = x k - ps (fun i => x i * m.p i (d i) k) m.n := by
      have e2 : ps (fun j => oeq m d k j * x j) m.n = ps (fun j => (if k = j then 1 else 0) * x j - x j * m.p j (d j) k) m.n := ps_congr _ (fun j hj => by unfold oeq; rw [if_neg (by omega), if_pos hj]; grind)
      rw [e2, ps_sub, ps_delta (by omega)]
    have e3 : oeq m d k m.n = 0 := by unfold oeq; rw [if_neg (by omega), if_neg (by omega)]
    rw [e1, e3] at this
    grind
  intro k hk
  by_cases e : k + 1 < m.n
  · exact first k e
  · have all : ps (fun k => ps (fun i => x i * m.p i (d i) k) m.n) m.n = ps x m.n := by
      rw [← ps_swap]
      refine ps_congr _ (fun i hi => ?_)
      rw [ps_mul, h.p1 i (d i) hi (hd i hi)]; grind
    obtain ⟨z, hz⟩ : ∃ z, m.n = z + 1 := ⟨m.n - 1, by omega⟩
    have ek : k = z := by omega
    obtain ⟨F, hF⟩ : ∃ F : Nat → Rat, F = fun k => ps (fun i => x i * m.p i (d i) k) m.n := ⟨_, rfl⟩
    rw [← hF] at all
    have hF2 : ∀ k, ps (fun i => x i * m.p i (d i) k) m.n = F k := fun k => by rw [hF]
    rw [hF2]
    have fst : ps F z = ps x z := ps_congr _ (fun j hj => by rw [← hF2]; exact first j (by omega))
    rw [hz] at all
    have all : ps F z + F z = ps x z + x z := all
    rw [ek]; grind
/-- The mean worth and the mean gain. -/
theorem stays {m : Md} {d : Nat → Nat} {x v : Nat → Rat} (hx : ∀ k, k < m.n → ps (fun i => x i * m.p i (d i) k) m.n = x k) (hv : Val m d v) : ps (fun i => x i * m.g i (d i)) m.n = ps (fun i => x i * v i) m.n * (1 - m.b) := by
  have e1 : ps (fun i => x i * v i) m.n = ps (fun i => x i * m.g i (d i) + m.b * ps (fun k => x i * m.p i (d i) k * v k) m.n) m.n := ps_congr _ (fun i hi => by
    have : v i = m.g i (d i) + m.b * ps (fun t => m.p i (d i) t * v t) m.n := hv i hi
    have e : ps (fun k => x i * m.p i (d i) k * v k) m.n = x i * ps (fun t => m.p i (d i) t * v t) m.n := by
      rw [← ps_mul]; exact ps_congr _ (fun t _ => by grind)
    rw [e, this]; grind)
  rw [ps_add, ps_mul, ps_swap] at e1
  have e2 : ps (fun k => ps (fun i => x i * m.p i (d i) k * v k) m.n) m.n = ps (fun i => x i * v i) m.n := ps_congr _ (fun k hk => by
    rw [← hx k hk]
    have := ps_mul (v k) (fun i => x i * m.p i (d i) k) m.n
    rw [show ps (fun i => x i * m.p i (d i) k) m.n * v k = v k * ps (fun i => x i * m.p i (d i) k) m.n by grind, ← this]
    exact ps_congr _ (fun i _ => by grind))
  rw [e2] at e1
  grind

/-- All plans. -/
def plans (k : Nat → Nat) : Nat → List (List Nat)
  | 0 => [[]]
  | s + 1 => (plans k s).flatMap fun l => (List.range (k s)).map fun a => l ++ [a]
theorem plans_mem (k : Nat → Nat) : ∀ (n : Nat) (l : List Nat), l.length = n → (∀ s, s < n → l[s]! < k s) → l ∈ plans k n
  | 0, l, hl, _ => by
    obtain rfl := List.length_eq_zero_iff.1 hl
    exact List.mem_singleton.2 rfl
  | n + 1, l, hl, h => by
    have e : l = l.take n ++ [l[n]!] := by
      have := List.take_append_drop n l
      have hd : l.drop n = [l[n]!] := by
        rw [List.drop_eq_getElem_cons (by omega : n < l.length)]
        have : l.drop (n + 1) = [] := List.drop_eq_nil_iff.2 (by omega)
        rw [this]
        simp [show n < l.length by omega]
      rw [hd] at this
      exact this.symm
    rw [e]
    refine List.mem_flatMap.2 ⟨l.take n, plans_mem k n (l.take n) (by rw [List.length_take]; omega) (fun s hs => ?_), List.mem_map.2 ⟨l[n]!, List.mem_range.2 (h n (by omega)), rfl⟩⟩
    have : (l.take n)[s]! = l[s]! := by simp [hs]
    rw [this]
    exact h s (by omega)
/-- A number that falls with each better plan. -/
theorem falls {m : Md} (h : Ok m) : ∃ mu : List Nat → Nat, ∀ (d e : List Nat) (x y : Nat → Rat), d.length = m.n → e.length = m.n → Plan m (fun s => d[s]!) → Plan m (fun s => e[s]!) → Val m (fun s => d[s]!) x → Val m (fun s => e[s]!) y → ps x m.n < ps y m.n → mu e < mu d := by
  have dec : ∀ p : Prop, ∃ b : Bool, b = true ↔ p := fun p => by
    by_cases c : p
    · exact ⟨true, by simp [c]⟩
    · exact ⟨false, by simp [c]⟩
  have : ∀ d : List Nat, ∃ f : List Nat → Bool, ∀ e, f e = true ↔ ∃ x y, Val m (fun s => d[s]!) x ∧ Val m (fun s => e[s]!) y ∧ ps x m.n < ps y m.n := fun d => Classical.skolem.1 (fun e => dec _)
  obtain ⟨f, hf⟩ := Classical.skolem.1 this
  refine ⟨fun d => ((plans m.k m.n).filter (f d)).length, fun d e x y hd he pd pe vd ve hlt => ?_⟩
  have strict : ∀ (l : List (List Nat)) (p q : List Nat → Bool), (∀ z ∈ l, p z = true → q z = true) → (∃ z ∈ l, q z = true ∧ p z = false) → (l.filter p).length < (l.filter q).length := by
    intro l p q
    have weak : ∀ (l : List (List Nat)), (∀ z ∈ l, p z = true → q z = true) → (l.filter p).length ≤ (l.filter q).length := by
      intro l
      induction l with
      | nil => intro _; exact Nat.le_refl _
      | cons a l ih =>
        intro h1
        have := ih (fun z hz => h1 z (List.mem_cons_of_mem _ hz))
        have ha := h1 a (List.mem_cons_self ..)
        by_cases c : p a = true
        · simp [c, ha c]; omega
        · by_cases c2 : q a = true
          · simp [c, c2]; omega
          · simp [c, c2]; omega
    induction l with
    | nil => rintro _ ⟨z, hz, _⟩; cases hz
    | cons a l ih =>
      rintro h1 ⟨z, hz, hq, hp⟩
      have ha := h1 a (List.mem_cons_self ..)
      have h1' : ∀ z ∈ l, p z = true → q z = true := fun z hz => h1 z (List.mem_cons_of_mem _ hz)
      have hw := weak l h1'
      by_cases e : z = a
      · subst e
        simp [hp, hq]; omega
      · have hz : z ∈ l := by rcases List.mem_cons.1 hz with c | c; exact absurd c e; exact c
        have := ih h1' ⟨z, hz, hq, hp⟩
        by_cases c : p a = true
        · simp [c, ha c]; omega
        · by_cases c2 : q a = true
          · simp [c, c2]; omega
          · simp [c, c2]; omega
  refine strict _ _ _ (fun z _ hz => ?_) ⟨e, plans_mem _ _ e he pe, (hf d e).2 ⟨x, y, vd, ve, hlt⟩, ?_⟩
  · obtain ⟨a, b, va, vb, hab⟩ := (hf e z).1 hz
    refine (hf d z).2 ⟨x, b, vd, vb, ?_⟩
    have : ps a m.n = ps y m.n := ps_congr _ (val_one h pe va ve)
    grind
  · cases c : f e e with
    | false => rfl
    | true =>
      obtain ⟨a, b, va, vb, hab⟩ := (hf e e).1 c
      have : ps a m.n = ps b m.n := ps_congr _ (val_one h pe va vb)
      grind
theorem ps_lt {f g : Nat → Rat} {k : Nat} (h : ∀ j, j < k → f j ≤ g j) (hs : ∃ j, j < k ∧ f j ≠ g j) : ps f k < ps g k := by
  obtain ⟨j, hj, hn⟩ := hs
  induction k with
  | zero => omega
  | succ k ih =>
    show ps f k + f k < ps g k + g k
    have b := h k (by omega)
    by_cases e : j = k
    · subst e
      have a := ps_le j (fun i hi => h i (by omega))
      have : f j < g j := by grind
      grind
    · have := ih (fun i hi => h i (by omega)) (by omega)
      grind
end Go.Proofs.YtaacibgmdeoikaaGreatDoor.Mdp
/- Equations that have no other answer than 0 where all is 0 on the right have one: a plan's worth. -/
namespace Go.Proofs.YtaacibgmdeoikaaGreatDoor.Mdp
open Bth Lin

theorem solvable {n : Nat} {A : Nat → Nat → Rat} (h : ∀ y, Sat n A y 0 → ∀ i, i < n → y i = 0) : ∃ x, Sat n A x 1 := by
  have key : ∀ k, k ≤ n → ∃ L, Inv n A k L := fun k => by
    induction k with
    | zero => intro _; exact ⟨A, inv_zero n A⟩
    | succ k ih =>
      intro hk
      obtain ⟨L, hL⟩ := ih (by omega)
      by_cases c : ∃ p, k ≤ p ∧ p < n ∧ L p k ≠ 0
      · obtain ⟨p, h1, h2, h3⟩ := c
        exact ⟨_, inv_next hL h1 h2 h3⟩
      · exfalso
        obtain ⟨y, hy, y1⟩ := singular hL (by omega) (fun p h1 h2 => Classical.not_not.1 (fun h3 => c ⟨p, h1, h2, h3⟩))
        have := h y hy k (by omega)
        rw [y1] at this
        exact absurd this (by decide)
  obtain ⟨L, hL⟩ := key n (Nat.le_refl _)
  exact ⟨_, bk_sat hL⟩
theorem val_ex {m : Md} (h : Ok m) {d : Nat → Nat} (hd : Plan m d) : ∃ x, Val m d x := by
  obtain ⟨x, hx⟩ := solvable (n := m.n) (A := veq m d) (fun y hy => veq_only h hd hy)
  exact ⟨x, veq_val hx⟩
/-- The next plan is worth more in all. -/
theorem grows {m : Md} (h : Ok m) {d : Nat → Nat} (hd : Plan m d) {x y : Nat → Rat} (hx : Val m d x) (hy : Val m (bst m x) y) (hne : ¬ ∀ s, s < m.n → T m x s = x s) : ps x m.n < ps y m.n := by
  have hb := better h hd hx hy
  have hu : ∀ s, s < m.n → x s ≤ T m x s := fun s hs => up_T hd hx hs
  have : ∃ s, s < m.n ∧ ¬ T m x s = x s := by
    refine Classical.byContradiction (fun c => hne (fun s hs => Classical.byContradiction (fun e => c ⟨s, hs, e⟩)))
  obtain ⟨s, hs, he⟩ := this
  refine ps_lt (fun j hj => Rat.le_trans (hu j hj) (hb j hj)) ⟨s, hs, fun e => he ?_⟩
  have a := hu s hs
  have b := hb s hs
  grind
end Go.Proofs.YtaacibgmdeoikaaGreatDoor.Mdp
