/- Gittins: the states with the greatest index first. -/
import Derived.Test.YtjlohghknejjoaaGreatDoorMA
namespace Go.Proofs.YtjlohghknejjoaaGreatDoor.Git
open Bth Lin Mdp

/-- The greatest of a list, or 0. -/
theorem lmax {α : Type} (e : α → Rat) : ∀ l : List α, ∃ K, 0 ≤ K ∧ (∀ x, x ∈ l → e x ≤ K) ∧ (K = 0 ∨ ∃ x, x ∈ l ∧ e x = K)
  | [] => ⟨0, Rat.le_refl, fun x hx => (by cases hx), Or.inl rfl⟩
  | a :: l => by
    obtain ⟨K, h0, h1, h2⟩ := lmax e l
    by_cases c : K < e a
    · refine ⟨e a, by grind, fun x hx => ?_, Or.inr ⟨a, by simp, rfl⟩⟩
      rcases List.mem_cons.1 hx with rfl | hx
      · exact Rat.le_refl
      · exact Rat.le_trans (h1 x hx) (Rat.le_of_lt c)
    · refine ⟨K, h0, fun x hx => ?_, ?_⟩
      · rcases List.mem_cons.1 hx with rfl | hx
        · exact Rat.not_lt.1 c
        · exact h1 x hx
      · rcases h2 with h2 | ⟨x, hx, h2⟩
        · exact Or.inl h2
        · exact Or.inr ⟨x, List.mem_cons_of_mem _ hx, h2⟩
/-- What is at most b times its own bound is at most 0. -/
theorem shrink {α : Type} {e : α → Rat} {l : List α} {b : Rat} (hb : b < 1) (h : ∀ K, 0 ≤ K → (∀ x, x ∈ l → e x ≤ K) → ∀ x, x ∈ l → e x ≤ b * K) : ∀ x, x ∈ l → e x ≤ 0 := by
  obtain ⟨K, h0, h1, h2⟩ := lmax e l
  have h3 := h K h0 h1
  have hK : K ≤ 0 := by
    rcases h2 with h2 | ⟨x, hx, h2⟩
    · rw [h2]; exact Rat.le_refl
    · have h4 := h3 x hx
      rw [h2] at h4
      by_cases c : 0 < K
      · have : 0 < (1 - b) * K := Rat.mul_pos (by grind) c
        grind
      · exact Rat.not_lt.1 c
  exact fun x hx => Rat.le_trans (h1 x hx) hK
theorem shrink_n {e : Nat → Rat} {n : Nat} {b : Rat} (hb : b < 1) (h : ∀ K, 0 ≤ K → (∀ x, x < n → e x ≤ K) → ∀ x, x < n → e x ≤ b * K) : ∀ x, x < n → e x ≤ 0 := fun x hx =>
  shrink (l := List.range n) hb (fun K h0 h1 y hy => h K h0 (fun z hz => h1 z (List.mem_range.2 hz)) y (List.mem_range.1 hy)) x (List.mem_range.2 hx)
theorem zero_n {e : Nat → Rat} {n : Nat} {b : Rat} (hb : b < 1) (h : ∀ c : Rat, (c = 1 ∨ c = -1) → ∀ K, 0 ≤ K → (∀ x, x < n → c * e x ≤ K) → ∀ x, x < n → c * e x ≤ b * K) : ∀ x, x < n → e x = 0 := fun x hx => by
  have h1 := shrink_n (e := fun x => 1 * e x) hb (h 1 (Or.inl rfl)) x hx
  have h2 := shrink_n (e := fun x => -1 * e x) hb (h (-1) (Or.inr rfl)) x hx
  grind

/-- An arm: what pulls bring, what comes next, what a time later is worth. -/
structure Arm where
  n : Nat
  r : Nat → Rat
  p : Nat → Nat → Rat
  b : Rat
structure AOk (a : Arm) : Prop where
  b0 : 0 ≤ a.b
  b1 : a.b < 1
  p0 : ∀ s t, s < a.n → t < a.n → 0 ≤ a.p s t
  p1 : ∀ s, s < a.n → ps (a.p s) a.n = 1
/-- The mean of what comes next. -/
def pm (a : Arm) (v : Nat → Rat) (s : Nat) : Rat := ps (fun t => a.p s t * v t) a.n
theorem pm_congr {a : Arm} {u v : Nat → Rat} (h : ∀ t, t < a.n → u t = v t) (s : Nat) : pm a u s = pm a v s := ps_congr _ (fun t ht => by rw [h t ht])
theorem pm_sub (a : Arm) (u v : Nat → Rat) (s : Nat) : pm a u s - pm a v s = pm a (fun t => u t - v t) s := by
  unfold pm
  rw [← ps_sub]
  exact ps_congr _ (fun t _ => by grind)
theorem pm_mul (a : Arm) (c : Rat) (u : Nat → Rat) (s : Nat) : pm a (fun t => c * u t) s = c * pm a u s := by
  unfold pm
  rw [← ps_mul]
  exact ps_congr _ (fun t _ => by grind)
theorem pm_le {a : Arm} (h : AOk a) {s : Nat} (hs : s < a.n) {u v : Nat → Rat} (hu : ∀ t, t < a.n → u t ≤ v t) : pm a u s ≤ pm a v s :=
  ps_le _ (fun t ht => Rat.mul_le_mul_of_nonneg_left (hu t ht) (h.p0 s t hs ht))
theorem pm_const {a : Arm} (h : AOk a) {s : Nat} (hs : s < a.n) (c : Rat) : pm a (fun _ => c) s = c := by
  have e : pm a (fun _ => c) s = ps (fun t => c * a.p s t) a.n := ps_congr _ (fun t _ => by grind)
  rw [e, ps_mul, h.p1 s hs, Rat.mul_one]
theorem pm_le_const {a : Arm} (h : AOk a) {s : Nat} (hs : s < a.n) {u : Nat → Rat} {c : Rat} (hu : ∀ t, t < a.n → u t ≤ c) : pm a u s ≤ c := by
  have := pm_le h hs (v := fun _ => c) hu
  rw [pm_const h hs] at this
  exact this
theorem pm_nn {a : Arm} (h : AOk a) {s : Nat} (hs : s < a.n) {u : Nat → Rat} (hu : ∀ t, t < a.n → 0 ≤ u t) : 0 ≤ pm a u s := by
  have := pm_le h hs (u := fun _ => 0) hu
  rw [pm_const h hs] at this
  exact this
theorem bmul {b x y : Rat} (hb : 0 ≤ b) (h : x ≤ y) : b * x ≤ b * y := Rat.mul_le_mul_of_nonneg_left h hb

/-- The greater one. -/
def gr (x y : Rat) : Rat := if x < y then y else x
/-- What is left of a pull with a charge, and then the best. -/
def cont (a : Arm) (m : Rat) (f : Nat → Rat) (s : Nat) : Rat := a.r s - m + a.b * pm a f s
/-- Stopping at the best time, where each pull is charged m. -/
def Stop (a : Arm) (m : Rat) (f : Nat → Rat) : Prop := ∀ s, s < a.n → f s = gr 0 (cont a m f s)
theorem Stop.nn {a : Arm} {m : Rat} {f : Nat → Rat} (h : Stop a m f) {s : Nat} (hs : s < a.n) : 0 ≤ f s := by
  rw [h s hs]; unfold gr; split
  · rename_i c; exact Rat.le_of_lt c
  · exact Rat.le_refl
theorem Stop.ge {a : Arm} {m : Rat} {f : Nat → Rat} (h : Stop a m f) {s : Nat} (hs : s < a.n) : cont a m f s ≤ f s := by
  rw [h s hs]; unfold gr; split
  · exact Rat.le_refl
  · rename_i c; exact Rat.not_lt.1 c
/-- While in C: what one gets, and how long. -/
def inC (C : Nat → Bool) (v : Nat → Rat) (t : Nat) : Rat := if C t = true then v t else 0
def Whl (a : Arm) (C : Nat → Bool) (g : Nat → Rat) (x : Nat → Rat) : Prop := ∀ s, s < a.n → x s = g s + a.b * pm a (inC C x) s
theorem inC_le {C : Nat → Bool} {v : Nat → Rat} {K : Rat} (hK : 0 ≤ K) {t : Nat} (h : v t ≤ K) : inC C v t ≤ K := by
  unfold inC; split
  · exact h
  · exact hK
theorem inC_sub (C : Nat → Bool) (u v : Nat → Rat) (t : Nat) : inC C u t - inC C v t = inC C (fun t => u t - v t) t := by
  unfold inC; split
  · rfl
  · grind
theorem inC_mul (C : Nat → Bool) (c : Rat) (u : Nat → Rat) (t : Nat) : c * inC C u t = inC C (fun t => c * u t) t := by
  unfold inC; split
  · rfl
  · grind
theorem whl_one {a : Arm} (h : AOk a) {C : Nat → Bool} {g x y : Nat → Rat} (hx : Whl a C g x) (hy : Whl a C g y) : ∀ s, s < a.n → x s = y s := fun s hs => by
  have := zero_n (e := fun s => x s - y s) (n := a.n) h.b1 (fun c hc K hK hb t ht => by
    have e : c * (x t - y t) = a.b * pm a (inC C (fun t => c * (x t - y t))) t := by
      rw [hx t ht, hy t ht]
      have e1 : pm a (inC C (fun t => c * (x t - y t))) t = c * (pm a (inC C x) t - pm a (inC C y) t) := by
        rw [pm_sub, ← pm_mul]
        exact pm_congr (fun u _ => by rw [inC_sub, inC_mul]) t
      rw [e1]; grind
    rw [e]
    exact bmul h.b0 (pm_le_const h ht (fun u hu => inC_le hK (hb u hu)))) s hs
  have : x s - y s = 0 := this
  grind
theorem whl_ex {a : Arm} (h : AOk a) (C : Nat → Bool) (g : Nat → Rat) : ∃ x, Whl a C g x := by
  have conv : ∀ (y : Nat → Rat) (t : Rat) (i : Nat), i < a.n → ps (fun j => (if j < a.n then (if i = j then (1 : Rat) else 0) - a.b * (if C j = true then a.p i j else 0) else g i) * y j) a.n = y i - a.b * pm a (inC C y) i := fun y t i hi => by
    have e : ps (fun j => (if j < a.n then (if i = j then (1 : Rat) else 0) - a.b * (if C j = true then a.p i j else 0) else g i) * y j) a.n = ps (fun j => (if i = j then (1 : Rat) else 0) * y j - a.b * (a.p i j * inC C y j)) a.n := ps_congr _ (fun j hj => by
      rw [if_pos hj]
      unfold inC
      split <;> split <;> grind)
    rw [e, ps_sub, ps_delta hi, ps_mul]
    rfl
  obtain ⟨x, hx⟩ := solvable (n := a.n) (A := fun i j => if j < a.n then (if i = j then (1 : Rat) else 0) - a.b * (if C j = true then a.p i j else 0) else g i) (fun y hy => by
    have hz : Whl a C (fun _ => 0) y := fun s hs => by
      have := hy s hs
      rw [conv y 0 s hs] at this
      have e : (if a.n < a.n then (if s = a.n then (1 : Rat) else 0) - a.b * (if C a.n = true then a.p s a.n else 0) else g s) * 0 = 0 := Rat.mul_zero _
      rw [e] at this
      grind
    have hz0 : Whl a C (fun _ => 0) (fun _ => 0) := fun s hs => by
      have e : pm a (inC C (fun _ => 0)) s = 0 := by
        have e1 : pm a (inC C (fun _ => 0)) s = pm a (fun _ => 0) s := pm_congr (fun t _ => by unfold inC; split <;> rfl) s
        rw [e1, pm_const h hs]
      rw [e]; grind
    exact fun i hi => whl_one h hz hz0 i hi)
  refine ⟨x, fun s hs => ?_⟩
  have e : x s - a.b * pm a (inC C x) s = (if a.n < a.n then (if s = a.n then (1 : Rat) else 0) - a.b * (if C a.n = true then a.p s a.n else 0) else g s) * 1 := by
    rw [← conv x 1 s hs]; exact hx s hs
  rw [if_neg (Nat.lt_irrefl _)] at e
  grind
/-- How long is at least one. -/
theorem whl_ge {a : Arm} (h : AOk a) {C : Nat → Bool} {D : Nat → Rat} (hD : Whl a C (fun _ => 1) D) : ∀ s, s < a.n → 1 ≤ D s := fun s hs => by
  have hneg := shrink_n (e := fun s => 0 - D s) (n := a.n) h.b1 (fun K hK hb t ht => by
    have e : (0 : Rat) - D t = -1 + a.b * pm a (inC C (fun t => 0 - D t)) t := by
      rw [hD t ht]
      have e1 : pm a (inC C (fun t => 0 - D t)) t = (-1) * pm a (inC C D) t := by
        rw [← pm_mul]
        exact pm_congr (fun u _ => by rw [inC_mul]; unfold inC; split <;> grind) t
      rw [e1]; grind
    show 0 - D t ≤ _
    rw [e]
    have := bmul h.b0 (pm_le_const h ht (u := inC C (fun t => 0 - D t)) (fun u hu => inC_le (v := fun t => 0 - D t) hK (hb u hu)))
    grind)
  rw [hD s hs]
  have := Rat.mul_nonneg h.b0 (pm_nn h hs (u := inC C D) (fun t ht => by
    unfold inC; split
    · have := hneg t ht; grind
    · exact Rat.le_refl))
  grind
/-- No set gets more than the best stopping. -/
theorem while_le {a : Arm} (h : AOk a) {m : Rat} {f : Nat → Rat} (hf : Stop a m f) {C : Nat → Bool} {N D : Nat → Rat} (hN : Whl a C a.r N) (hD : Whl a C (fun _ => 1) D) : ∀ s, s < a.n → N s - m * D s ≤ cont a m f s := fun s hs => by
  have hx : Whl a C (fun s => a.r s - m) (fun s => N s - m * D s) := fun s hs => by
    show N s - m * D s = a.r s - m + _
    rw [hN s hs, hD s hs]
    have e : pm a (inC C (fun s => N s - m * D s)) s = pm a (inC C N) s - m * pm a (inC C D) s := by
      rw [← pm_mul, pm_sub]
      exact pm_congr (fun u _ => by rw [inC_mul, inC_sub]) s
    rw [e]; grind
  have := shrink_n (e := fun s => (N s - m * D s) - cont a m f s) (n := a.n) h.b1 (fun K hK hb t ht => by
    have e : (N t - m * D t) - cont a m f t = a.b * pm a (fun u => inC C (fun s => N s - m * D s) u - f u) t := by
      have h1 : N t - m * D t = a.r t - m + a.b * pm a (inC C (fun s => N s - m * D s)) t := hx t ht
      rw [h1, ← pm_sub]
      unfold cont
      grind
    show (N t - m * D t) - cont a m f t ≤ _
    rw [e]
    refine bmul h.b0 (pm_le_const h ht (fun u hu => ?_))
    have hge := hf.ge hu
    have hnn := hf.nn hu
    have hbu : (N u - m * D u) - cont a m f u ≤ K := hb u hu
    unfold inC
    split
    · grind
    · grind) s hs
  have h2 : (N s - m * D s) - cont a m f s ≤ 0 := this
  grind
/-- The best stopping is to go on in the states where something is left. -/
theorem best_set {a : Arm} (h : AOk a) {m : Rat} {f : Nat → Rat} (hf : Stop a m f) {N D : Nat → Rat} (hN : Whl a (fun t => decide (0 < f t)) a.r N) (hD : Whl a (fun t => decide (0 < f t)) (fun _ => 1) D) : ∀ s, s < a.n → N s - m * D s = cont a m f s := fun s hs => by
  have hx : Whl a (fun t => decide (0 < f t)) (fun s => a.r s - m) (fun s => N s - m * D s) := fun s hs => by
    show N s - m * D s = a.r s - m + _
    rw [hN s hs, hD s hs]
    have e : pm a (inC (fun t => decide (0 < f t)) (fun s => N s - m * D s)) s = pm a (inC (fun t => decide (0 < f t)) N) s - m * pm a (inC (fun t => decide (0 < f t)) D) s := by
      rw [← pm_mul, pm_sub]
      exact pm_congr (fun u _ => by rw [inC_mul, inC_sub]) s
    rw [e]; grind
  have hc : Whl a (fun t => decide (0 < f t)) (fun s => a.r s - m) (cont a m f) := fun s hs => by
    unfold cont
    have e : pm a f s = pm a (inC (fun t => decide (0 < f t)) (fun s => a.r s - m + a.b * pm a f s)) s := pm_congr (fun u hu => by
      unfold inC
      by_cases c : 0 < f u
      · rw [if_pos (decide_eq_true c)]
        have h1 := hf u hu
        unfold gr at h1
        split at h1
        · exact h1
        · rw [h1] at c; exact absurd c (by decide)
      · rw [if_neg (by simpa using c)]
        have := hf.nn hu
        grind) s
    show a.r s - m + a.b * pm a f s = a.r s - m + a.b * pm a (inC (fun t => decide (0 < f t)) (fun s => a.r s - m + a.b * pm a f s)) s
    rw [← e]
  exact whl_one h hx hc s hs
/-- An index: the most that a set gets for its time. -/
def Idx (a : Arm) (v : Nat → Rat) : Prop := ∀ s, s < a.n → (∀ C N D, Whl a C a.r N → Whl a C (fun _ => 1) D → N s ≤ v s * D s) ∧ ∃ C N D, Whl a C a.r N ∧ Whl a C (fun _ => 1) D ∧ N s = v s * D s
/-- Beginning anew: both ways to tell the index agree. -/
theorem again_is {a : Arm} (h : AOk a) {v : Nat → Rat} (hv : Idx a v) {s : Nat} (hs : s < a.n) {W : Nat → Rat} (hW : ∀ x, x < a.n → W x = gr (a.r x + a.b * pm a W x) (a.r s + a.b * pm a W s)) : W s * (1 - a.b) = v s := by
  have hWs : W s = a.r s + a.b * pm a W s := by
    rw [hW s hs]; unfold gr; split <;> rfl
  obtain ⟨w, hw⟩ : ∃ w, W s = w := ⟨_, rfl⟩
  have hp : ∀ x, x < a.n → pm a (fun t => W t - w) x = pm a W x - w := fun x hx => by
    rw [← pm_sub, pm_const h hx]
  have hf : Stop a (w * (1 - a.b)) (fun t => W t - w) := fun x hx => by
    unfold cont
    rw [hp x hx]
    show W x - w = _
    rw [hW x hx, ← hWs, hw]
    unfold gr
    split <;> split <;> grind
  have hc : cont a (w * (1 - a.b)) (fun t => W t - w) s = 0 := by
    unfold cont
    rw [hp s hs]
    grind
  obtain ⟨N, hN⟩ := whl_ex h (fun t => decide (0 < W t - w)) a.r
  obtain ⟨D, hD⟩ := whl_ex h (fun t => decide (0 < W t - w)) (fun _ => 1)
  have h1 := best_set h hf hN hD s hs
  have h2 := (hv s hs).1 _ N D hN hD
  have h5 := whl_ge h hD s hs
  rw [hc] at h1
  have hle : w * (1 - a.b) ≤ v s := by
    by_cases c : w * (1 - a.b) ≤ v s
    · exact c
    · have : 0 < (w * (1 - a.b) - v s) * D s := Rat.mul_pos (by grind) (by grind)
      grind
  have hge : v s ≤ w * (1 - a.b) := by
    obtain ⟨C, N', D', k1, k2, k3⟩ := (hv s hs).2
    have k4 := while_le h hf k1 k2 s hs
    have k5 := whl_ge h k2 s hs
    rw [hc] at k4
    by_cases c : v s ≤ w * (1 - a.b)
    · exact c
    · have : 0 < (v s - w * (1 - a.b)) * D' s := Rat.mul_pos (by grind) (by grind)
      grind
  rw [hw]
  grind
end Go.Proofs.YtjlohghknejjoaaGreatDoor.Git
namespace Go.Proofs.YtjlohghknejjoaaGreatDoor.Git
open Bth Lin Mdp

/-- The index of one state. -/
def IdxAt (a : Arm) (q : Rat) (s : Nat) : Prop := (∀ C N D, Whl a C a.r N → Whl a C (fun _ => 1) D → N s ≤ q * D s) ∧ ∃ C N D, Whl a C a.r N ∧ Whl a C (fun _ => 1) D ∧ N s = q * D s
/-- Those with the greatest index are known. -/
def Gi (a : Arm) (K : Nat → Bool) : Prop := ∃ m N D, Whl a K a.r N ∧ Whl a K (fun _ => 1) D ∧ (∀ s, s < a.n → K s = true → m * D s ≤ N s) ∧ (∀ s, s < a.n → K s = false → N s ≤ m * D s)
def ins (K : Nat → Bool) (s t : Nat) : Bool := if t = s then true else K t
theorem gi_start {a : Arm} (h : AOk a) : Gi a (fun _ => false) := by
  obtain ⟨M, h0, h1, _⟩ := lmax a.r (List.range a.n)
  have e : ∀ x s, s < a.n → pm a (inC (fun _ => false) x) s = 0 := fun x s hs => by
    have e1 : pm a (inC (fun _ => false) x) s = pm a (fun _ => 0) s := pm_congr (fun t _ => by unfold inC; rfl) s
    rw [e1, pm_const h hs]
  refine ⟨M, a.r, fun _ => 1, fun s hs => ?_, fun s hs => ?_, fun s _ hc => (by cases hc), fun s hs _ => ?_⟩
  · rw [e _ s hs]; grind
  · rw [e _ s hs]; grind
  · have := h1 s (List.mem_range.2 hs)
    grind
theorem gi_step {a : Arm} (h : AOk a) {K : Nat → Bool} (hG : Gi a K) {N D : Nat → Rat} (hN : Whl a K a.r N) (hD : Whl a K (fun _ => 1) D) {z : Nat} (hz : z < a.n) (hK : K z = false) (hm : ∀ s, s < a.n → K s = false → N s / D s ≤ N z / D z) :
    IdxAt a (N z / D z) z ∧ Gi a (ins K z) := by
  obtain ⟨m, N0, D0, hN0, hD0, hon, hoff⟩ := hG
  have eN := whl_one h hN0 hN
  have eD := whl_one h hD0 hD
  have hge := whl_ge h hD
  obtain ⟨l, hl⟩ : ∃ l, N z / D z = l := ⟨_, rfl⟩
  have hzl : N z = l * D z := by
    have := hge z hz
    rw [← hl]
    exact (Rat.div_mul_cancel (by grind)).symm
  have hlm : l ≤ m := by
    have h1 := hoff z hz hK
    rw [eN z hz, eD z hz, hzl] at h1
    have h2 := hge z hz
    by_cases c : l ≤ m
    · exact c
    · have : 0 < (l - m) * D z := Rat.mul_pos (by grind) (by grind)
      grind
  have hx : Whl a K (fun s => a.r s - l) (fun s => N s - l * D s) := fun s hs => by
    show N s - l * D s = a.r s - l + _
    rw [hN s hs, hD s hs]
    have e : pm a (inC K (fun s => N s - l * D s)) s = pm a (inC K N) s - l * pm a (inC K D) s := by
      rw [← pm_mul, pm_sub]
      exact pm_congr (fun u _ => by rw [inC_mul, inC_sub]) s
    rw [e]; grind
  have xon : ∀ s, s < a.n → K s = true → 0 ≤ N s - l * D s := fun s hs hk => by
    have h1 := hon s hs hk
    rw [eN s hs, eD s hs] at h1
    have h2 := hge s hs
    have : 0 ≤ (m - l) * D s := Rat.mul_nonneg (by grind) (by grind)
    grind
  have xoff : ∀ s, s < a.n → K s = false → N s - l * D s ≤ 0 := fun s hs hk => by
    have h1 := hm s hs hk
    rw [hl] at h1
    have h2 := hge s hs
    have h3 : N s / D s * D s ≤ l * D s := Rat.mul_le_mul_of_nonneg_right h1 (by grind)
    rw [Rat.div_mul_cancel (by grind)] at h3
    grind
  have hc : ∀ s, s < a.n → cont a l (inC K (fun s => N s - l * D s)) s = N s - l * D s := fun s hs => (hx s hs).symm
  have hf : Stop a l (inC K (fun s => N s - l * D s)) := fun s hs => by
    rw [hc s hs]
    show (if K s = true then N s - l * D s else 0) = _
    unfold gr
    cases hk : K s
    · have := xoff s hs hk
      rw [if_neg (by simp), if_neg (by grind)]
    · have := xon s hs hk
      rw [if_pos rfl]
      split
      · rfl
      · grind
  rw [hl]
  refine ⟨⟨fun C N' D' k1 k2 => ?_, K, N, D, hN, hD, hzl⟩, ?_⟩
  · have k3 := while_le h hf k1 k2 z hz
    rw [hc z hz, hzl] at k3
    grind
  · obtain ⟨N', k1⟩ := whl_ex h (ins K z) a.r
    obtain ⟨D', k2⟩ := whl_ex h (ins K z) (fun _ => 1)
    have y1 : Whl a (ins K z) (fun s => a.r s - l) (fun s => N' s - l * D' s) := fun s hs => by
      show N' s - l * D' s = a.r s - l + _
      rw [k1 s hs, k2 s hs]
      have e : pm a (inC (ins K z) (fun s => N' s - l * D' s)) s = pm a (inC (ins K z) N') s - l * pm a (inC (ins K z) D') s := by
        rw [← pm_mul, pm_sub]
        exact pm_congr (fun u _ => by rw [inC_mul, inC_sub]) s
      rw [e]; grind
    have y2 : Whl a (ins K z) (fun s => a.r s - l) (fun s => N s - l * D s) := fun s hs => by
      have e : pm a (inC (ins K z) (fun s => N s - l * D s)) s = pm a (inC K (fun s => N s - l * D s)) s := pm_congr (fun u _ => by
        unfold inC ins
        by_cases c : u = z
        · rw [if_pos c, if_pos rfl, c, hK, if_neg (by simp)]
          show N z - l * D z = 0
          grind
        · rw [if_neg c]) s
      rw [e]
      exact hx s hs
    have y3 := whl_one h y1 y2
    refine ⟨l, N', D', k1, k2, fun s hs hk => ?_, fun s hs hk => ?_⟩
    · have e : N' s - l * D' s = N s - l * D s := y3 s hs
      by_cases c : s = z
      · rw [c] at e ⊢
        grind
      · have := xon s hs (by unfold ins at hk; rw [if_neg c] at hk; exact hk)
        grind
    · have e : N' s - l * D' s = N s - l * D s := y3 s hs
      by_cases c : s = z
      · unfold ins at hk
        rw [if_pos c] at hk
        cases hk
      · have := xoff s hs (by unfold ins at hk; rw [if_neg c] at hk; exact hk)
        grind
end Go.Proofs.YtjlohghknejjoaaGreatDoor.Git
