/- Hu: like tasks of a forest, by levels. -/
import Derived.Test.YtepgdlgifempeaaDoorM26
namespace Go.Proofs.YtepgdlgifempeaaDoor.Hux
open Lin

/-- How many numbers below n are such. -/
def cn (P : Nat → Bool) (n : Nat) : Nat := ((List.range n).filter P).length
theorem cn_succ (P : Nat → Bool) (n : Nat) : cn P (n + 1) = cn P n + if P n then 1 else 0 := by
  unfold cn
  rw [List.range_succ, List.filter_append, List.length_append]
  congr 1
  cases h : P n <;> simp [h]
theorem cn_le (P : Nat → Bool) : ∀ n, cn P n ≤ n
  | 0 => Nat.le_refl _
  | n + 1 => by rw [cn_succ]; have := cn_le P n; split <;> omega
theorem cn_mono {P Q : Nat → Bool} : ∀ n, (∀ i, i < n → P i = true → Q i = true) → cn P n ≤ cn Q n
  | 0, _ => Nat.le_refl _
  | n + 1, h => by
    rw [cn_succ, cn_succ]
    have h1 := cn_mono n (fun i hi => h i (by omega))
    have h2 := h n (by omega)
    cases c : P n
    · cases c2 : Q n <;> simp <;> omega
    · rw [h2 c]; simp; omega
theorem cn_congr {P Q : Nat → Bool} {n : Nat} (h : ∀ i, i < n → P i = Q i) : cn P n = cn Q n := Nat.le_antisymm (cn_mono n (fun i hi e => by rw [← h i hi]; exact e)) (cn_mono n (fun i hi e => by rw [h i hi]; exact e))
theorem cn_pos {P : Nat → Bool} {n i : Nat} (hi : i < n) (h : P i = true) : 0 < cn P n := by
  unfold cn
  exact List.length_pos_of_mem (List.mem_filter.2 ⟨List.mem_range.2 hi, h⟩)
theorem cn_some {P : Nat → Bool} {n : Nat} (h : 0 < cn P n) : ∃ i, i < n ∧ P i = true := by
  unfold cn at h
  obtain ⟨x, hx⟩ := List.exists_mem_of_length_pos h
  have := List.mem_filter.1 hx
  exact ⟨x, List.mem_range.1 this.1, this.2⟩
theorem cn_zero {P : Nat → Bool} {n : Nat} (h : ∀ i, i < n → P i = false) : cn P n = 0 := by
  rcases Nat.eq_zero_or_pos (cn P n) with c | c
  · exact c
  · obtain ⟨i, h1, h2⟩ := cn_some c
    rw [h i h1] at h2; cases h2
/-- Two kinds that none is of both. -/
theorem cn_add {P Q R : Nat → Bool} : ∀ n, (∀ i, i < n → R i = (P i || Q i)) → (∀ i, i < n → ¬ (P i = true ∧ Q i = true)) → cn R n = cn P n + cn Q n
  | 0, _, _ => rfl
  | n + 1, h, h' => by
    rw [cn_succ, cn_succ, cn_succ, cn_add n (fun i hi => h i (by omega)) (fun i hi => h' i (by omega)), h n (by omega)]
    have := h' n (by omega)
    cases c1 : P n <;> cases c2 : Q n <;> simp_all <;> omega
theorem sub_len : ∀ (xs ys : List Nat), xs.Nodup → (∀ x ∈ xs, x ∈ ys) → xs.length ≤ ys.length
  | [], ys, _, _ => Nat.zero_le _
  | x :: xs, ys, hd, h => by
    have hx := List.nodup_cons.1 hd
    have h1 := sub_len xs (ys.erase x) hx.2 (fun y hy => by
      have : y ≠ x := fun e => by subst e; exact hx.1 hy
      exact (List.mem_erase_of_ne this).2 (h y (List.mem_cons_of_mem _ hy)))
    have h2 := h x (List.mem_cons_self ..)
    rw [List.length_erase_of_mem h2] at h1
    have := List.length_pos_of_mem h2
    simp only [List.length_cons]
    omega
/-- Each P comes of some Q. -/
theorem cn_onto {P Q : Nat → Bool} {n : Nat} (g : Nat → Nat) (h : ∀ i, i < n → P i = true → ∃ k, k < n ∧ Q k = true ∧ g k = i) : cn P n ≤ cn Q n := by
  unfold cn
  rw [← List.length_map (f := g) (as := (List.range n).filter Q)]
  refine sub_len _ _ (List.nodup_range.filter _) (fun x hx => ?_)
  have h1 := List.mem_filter.1 hx
  obtain ⟨k, h2, h3, h4⟩ := h x (List.mem_range.1 h1.1) h1.2
  exact List.mem_map.2 ⟨k, List.mem_filter.2 ⟨List.mem_range.2 h2, h3⟩, h4⟩

/-- A plan of n tasks on m machines: next (-1: none), levels, times. -/
structure Plan (n m : Nat) (nx : Nat → Int) (lev T : Nat → Nat) : Prop where
  m0 : 0 < m
  nxt : ∀ i, i < n → 0 ≤ nx i → (nx i).toNat < n ∧ lev i = lev (nx i).toNat + 1 ∧ T i < T (nx i).toNat
  last : ∀ i, i < n → nx i < 0 → lev i = 1
  few : ∀ t, cn (fun i => T i == t) n ≤ m
  /-- Whoever might go now and doesn't: all machines are at work, at no lower levels. -/
  greedy : ∀ i t, i < n → t < T i → (∀ k, k < n → nx k = (i : Int) → T k < t) → cn (fun k => T k == t) n = m ∧ ∀ k, k < n → T k = t → lev i ≤ lev k

def gt (lev : Nat → Nat) (q : Nat) (i : Nat) : Bool := decide (q < lev i)
section
variable {n m : Nat} {nx : Nat → Int} {lev T : Nat → Nat}
/-- As many as are done at one time, of levels above q. -/
def now (lev T : Nat → Nat) (q t : Nat) (i : Nat) : Bool := gt lev q i && T i == t
theorem Plan.now_le (h : Plan n m nx lev T) (q t : Nat) : cn (now lev T q t) n ≤ m := by
  refine Nat.le_trans (cn_mono n (fun i _ e => ?_)) (h.few t)
  unfold now at e
  simp only [Bool.and_eq_true] at e
  exact e.2
theorem before_sum (lev T : Nat → Nat) (n q : Nat) : ∀ t c, (∀ s, s < t → cn (now lev T q s) n = c) → cn (fun i => gt lev q i && decide (T i < t)) n = t * c
  | 0, c, _ => by rw [Nat.zero_mul]; exact cn_zero (fun i _ => by simp)
  | t + 1, c, h => by
    have h1 := before_sum lev T n q t c (fun s hs => h s (by omega))
    have h2 := h t (by omega)
    rw [Nat.succ_mul, ← h1, ← h2]
    refine cn_add n (fun i _ => ?_) (fun i _ e => ?_)
    · unfold now
      by_cases c1 : T i < t
      · have : T i ≠ t := by omega
        simp [c1, show T i < t + 1 by omega, this]
      · by_cases c2 : T i = t
        · simp [c2]
        · simp [c1, c2, show ¬ T i < t + 1 by omega]
    · unfold now at e
      simp only [Bool.and_eq_true, decide_eq_true_eq, beq_iff_eq] at e
      omega
theorem before_le (lev T : Nat → Nat) (n q : Nat) : ∀ t c, (∀ s, s < t → cn (now lev T q s) n ≤ c) → cn (fun i => gt lev q i && decide (T i < t)) n ≤ t * c
  | 0, c, _ => by rw [Nat.zero_mul]; exact Nat.le_of_eq (cn_zero (fun i _ => by simp))
  | t + 1, c, h => by
    have h1 := before_le lev T n q t c (fun s hs => h s (by omega))
    have h2 := h t (by omega)
    rw [Nat.succ_mul]
    refine Nat.le_trans (Nat.le_of_eq (cn_add (P := fun i => gt lev q i && decide (T i < t)) (Q := now lev T q t) n (fun i _ => ?_) (fun i _ e => ?_))) (Nat.add_le_add h1 h2)
    · unfold now
      by_cases c1 : T i < t
      · have : T i ≠ t := by omega
        simp [c1, show T i < t + 1 by omega, this]
      · by_cases c2 : T i = t
        · simp [c2]
        · simp [c1, c2, show ¬ T i < t + 1 by omega]
    · unfold now at e
      simp only [Bool.and_eq_true, decide_eq_true_eq, beq_iff_eq] at e
      omega
/-- Where a machine rests from those above q, all of these that may go do. -/
theorem Plan.all_go (h : Plan n m nx lev T) {q t i : Nat} (hi : i < n) (hq : q < lev i) (hc : cn (now lev T q t) n < m) (ht : t ≤ T i) (hp : ∀ k, k < n → nx k = (i : Int) → T k < t) : T i = t := by
  rcases Nat.lt_or_ge t (T i) with c | c
  · obtain ⟨h1, h2⟩ := h.greedy i t hi c hp
    have : cn (fun k => T k == t) n ≤ cn (now lev T q t) n := cn_mono n (fun k hk e => by
      have e' : T k = t := by simpa using e
      have := h2 k hk e'
      unfold now gt
      simp [e']; omega)
    omega
  · omega
theorem Plan.rests (h : Plan n m nx lev T) {q t : Nat} (hc : cn (now lev T q t) n < m) : ∀ d, cn (now lev T q (t + d)) n < m
  | 0 => hc
  | d + 1 => by
    have ih := h.rests hc d
    refine Nat.lt_of_le_of_lt (cn_onto (fun k => (nx k).toNat) (fun i hi hP => ?_)) ih
    unfold now gt at hP
    simp only [Bool.and_eq_true, decide_eq_true_eq, beq_iff_eq] at hP
    -- some that must be ahead of it is done at t + d
    by_cases c : ∃ k, k < n ∧ nx k = (i : Int) ∧ t + d ≤ T k
    · obtain ⟨k, h1, h2, h3⟩ := c
      have h4 := h.nxt k h1 (by omega)
      have h5 : (nx k).toNat = i := by omega
      rw [h5] at h4
      refine ⟨k, h1, ?_, h5⟩
      unfold now gt
      simp only [Bool.and_eq_true, decide_eq_true_eq, beq_iff_eq]
      omega
    · have := h.all_go hi hP.1 ih (by omega) (fun k h1 h2 => by
        rcases Nat.lt_or_ge (T k) (t + d) with c2 | c2
        · exact c2
        · exact absurd ⟨k, h1, h2, c2⟩ c)
      omega
def up (a m : Nat) : Nat := (a + m - 1) / m
theorem up_ge {a m t : Nat} (hm : 0 < m) (h : t * m < a) : t + 1 ≤ up a m := by
  unfold up
  rw [Nat.le_div_iff_mul_le hm, Nat.succ_mul]
  omega
theorem up_le {a m t : Nat} (hm : 0 < m) (h : a ≤ t * m) : up a m ≤ t := by
  unfold up
  refine Nat.le_of_lt_succ ((Nat.div_lt_iff_lt_mul hm).2 ?_)
  rw [Nat.succ_mul]
  omega
theorem most (T : Nat → Nat) (P : Nat → Bool) : ∀ n, (∃ i, i < n ∧ P i = true) → ∃ i, i < n ∧ P i = true ∧ ∀ k, k < n → P k = true → T k ≤ T i
  | 0, ⟨i, h, _⟩ => absurd h (Nat.not_lt_zero _)
  | n + 1, h => by
    by_cases c : ∃ i, i < n ∧ P i = true
    · obtain ⟨i, h1, h2, h3⟩ := most T P n c
      by_cases c2 : P n = true ∧ T i < T n
      · refine ⟨n, by omega, c2.1, fun k hk hP => ?_⟩
        rcases Nat.lt_or_ge k n with c3 | c3
        · have := h3 k c3 hP; omega
        · rw [show k = n by omega]; exact Nat.le_refl _
      · refine ⟨i, by omega, h2, fun k hk hP => ?_⟩
        rcases Nat.lt_or_ge k n with c3 | c3
        · exact h3 k c3 hP
        · have e : k = n := by omega
          subst e
          rcases Nat.lt_or_ge (T i) (T k) with c4 | c4
          · exact absurd ⟨hP, c4⟩ c2
          · exact c4
    · obtain ⟨i, h1, h2⟩ := h
      have e : i = n := by
        rcases Nat.lt_or_ge i n with c3 | c3
        · exact absurd ⟨i, c3, h2⟩ c
        · omega
      subst e
      refine ⟨i, by omega, h2, fun k hk hP => ?_⟩
      rcases Nat.lt_or_ge k i with c3 | c3
      · exact absurd ⟨k, c3, hP⟩ c
      · rw [show k = i by omega]; exact Nat.le_refl _
/-- Hu: the end is within what some level asks. -/
theorem Plan.above (h : Plan n m nx lev T) (hl : ∀ i, i < n → lev i ≤ n) : ∀ (d q : Nat), n - q ≤ d → (∃ i, i < n ∧ gt lev q i = true) →
    ∃ r, q ≤ r ∧ r < n ∧ 0 < cn (gt lev r) n ∧ ∀ i, i < n → q < lev i → T i + 1 + q ≤ up (cn (gt lev r) n) m + r
  | 0, q, hd, ⟨i, h1, h2⟩ => by
    have := hl i h1
    have h3 := of_decide_eq_true h2
    omega
  | d + 1, q, hd, hex => by
    obtain ⟨i0, hi0, hP, hmax⟩ := most T (gt lev q) n hex
    have hq0 : q < lev i0 := of_decide_eq_true hP
    have hmax' : ∀ k, k < n → q < lev k → T k ≤ T i0 := fun k h1 h2 => hmax k h1 (decide_eq_true h2)
    have hqn : q < n := by have := hl i0 hi0; omega
    by_cases hA : ∀ s, s < T i0 → cn (now lev T q s) n = m
    · refine ⟨q, Nat.le_refl _, hqn, cn_pos hi0 hP, fun i hi hlev => ?_⟩
      have h1 := before_sum lev T n q (T i0) m hA
      have h2 : T i0 * m < cn (gt lev q) n := by
        have h3 : cn (gt lev q) n = cn (fun i => gt lev q i && decide (T i < T i0)) n + cn (fun i => gt lev q i && decide (¬ T i < T i0)) n := cn_add n (fun i _ => by
          by_cases c : T i < T i0 <;> simp [c]) (fun i _ e => by
          simp only [Bool.and_eq_true, decide_eq_true_eq] at e; exact e.2.2 e.1.2)
        have h4 : 0 < cn (fun i => gt lev q i && decide (¬ T i < T i0)) n := cn_pos hi0 (by simp [hP])
        omega
      have h3 := up_ge h.m0 h2
      have h4 := hmax' i hi hlev
      omega
    · obtain ⟨s, hs, hne⟩ : ∃ s, s < T i0 ∧ cn (now lev T q s) n < m := by
        rcases Classical.em (∃ s, s < T i0 ∧ cn (now lev T q s) n < m) with c | c
        · exact c
        · refine absurd (fun s hs => ?_) hA
          have h1 := h.now_le q s
          rcases Nat.lt_or_ge (cn (now lev T q s) n) m with c2 | c2
          · exact absurd ⟨s, hs, c2⟩ c
          · omega
      have h1 := h.rests hne (T i0 - 1 - s)
      rw [show s + (T i0 - 1 - s) = T i0 - 1 by omega] at h1
      obtain ⟨k, h2, h3, h4⟩ : ∃ k, k < n ∧ nx k = (i0 : Int) ∧ T i0 - 1 ≤ T k := by
        rcases Classical.em (∃ k, k < n ∧ nx k = (i0 : Int) ∧ T i0 - 1 ≤ T k) with c | c
        · exact c
        · have := h.all_go hi0 hq0 h1 (by omega) (fun k h5 h6 => by
            rcases Nat.lt_or_ge (T k) (T i0 - 1) with c2 | c2
            · exact c2
            · exact absurd ⟨k, h5, h6, c2⟩ c)
          omega
      have h5 := h.nxt k h2 (by omega)
      rw [show (nx k).toNat = i0 by omega] at h5
      obtain ⟨r, h6, h7, h8, h9⟩ := h.above hl d (q + 1) (by omega) ⟨k, h2, decide_eq_true (by omega)⟩
      refine ⟨r, by omega, h7, h8, fun i hi hlev => ?_⟩
      have h10 := h9 k h2 (by omega)
      have h11 := hmax' i hi hlev
      omega
theorem Plan.chain (h : Plan n m nx lev T) {E : Nat} (hE : ∀ i, i < n → T i + 1 ≤ E) : ∀ (v i : Nat), i < n → lev i ≤ v → T i + lev i ≤ E
  | 0, i, hi, hv => by
    by_cases c : 0 ≤ nx i
    · have := (h.nxt i hi c).2.1; omega
    · have := h.last i hi (by omega); omega
  | v + 1, i, hi, hv => by
    by_cases c : 0 ≤ nx i
    · obtain ⟨h1, h2, h3⟩ := h.nxt i hi c
      have := h.chain hE v _ h1 (by omega)
      omega
    · have h1 := h.last i hi (by omega)
      have := hE i hi
      omega
/-- What each level asks is within the end. -/
theorem Plan.below (h : Plan n m nx lev T) {E : Nat} (hE : ∀ i, i < n → T i + 1 ≤ E) {q : Nat} (hq : 0 < cn (gt lev q) n) : up (cn (gt lev q) n) m + q ≤ E := by
  obtain ⟨i0, hi0, hP, hmax⟩ := most T (gt lev q) n (cn_some hq)
  have hq0 : q < lev i0 := of_decide_eq_true hP
  have h1 := h.chain hE (lev i0) i0 hi0 (Nat.le_refl _)
  have h2 : cn (gt lev q) n ≤ (T i0 + 1) * m := by
    refine Nat.le_trans (cn_mono n (fun i hi e => ?_)) (before_le lev T n q (T i0 + 1) m (fun s _ => h.now_le q s))
    have := hmax i hi e
    simp [e]; omega
  have h3 := up_le h.m0 h2
  omega
/-- What the checker takes for the best. -/
def best (n m : Nat) (lev : Nat → Nat) : Nat → Nat
  | 0 => 0
  | k + 1 => max (best n m lev k) (up (cn (gt lev k) n) m + k * min (cn (gt lev k) n) 1)
theorem best_ge (n m : Nat) (lev : Nat → Nat) : ∀ k q, q < k → up (cn (gt lev q) n) m + q * min (cn (gt lev q) n) 1 ≤ best n m lev k
  | k + 1, q, h => by
    show _ ≤ max (best n m lev k) (up (cn (gt lev k) n) m + k * min (cn (gt lev k) n) 1)
    rcases Nat.lt_or_ge q k with c | c
    · have := best_ge n m lev k q c; omega
    · rw [show q = k by omega]; omega
theorem best_le (n m : Nat) (lev : Nat → Nat) {E : Nat} : ∀ k, (∀ q, q < k → up (cn (gt lev q) n) m + q * min (cn (gt lev q) n) 1 ≤ E) → best n m lev k ≤ E
  | 0, _ => Nat.zero_le _
  | k + 1, h => by
    have h1 := best_le n m lev k (fun q hq => h q (by omega))
    have h2 := h k (by omega)
    show max (best n m lev k) (up (cn (gt lev k) n) m + k * min (cn (gt lev k) n) 1) ≤ E
    omega
theorem up_zero {m : Nat} (hm : 0 < m) : up 0 m = 0 := by
  unfold up
  exact Nat.div_eq_of_lt (by omega)
/-- Hu. -/
theorem Plan.hu (h : Plan n m nx lev T) (hl : ∀ i, i < n → 1 ≤ lev i ∧ lev i ≤ n) {E : Nat} (hE : ∀ i, i < n → T i + 1 ≤ E) (hE' : E = 0 ∨ ∃ i, i < n ∧ E = T i + 1) : E = best n m lev (n + 1) := by
  apply Nat.le_antisymm
  · rcases hE' with e | ⟨i, hi, e⟩
    · rw [e]; exact Nat.zero_le _
    · obtain ⟨r, _, h1, h2, h3⟩ := h.above (fun i hi => (hl i hi).2) n 0 (by omega) ⟨i, hi, decide_eq_true (by have := hl i hi; omega)⟩
      have h4 := h3 i hi (by have := hl i hi; omega)
      have h5 := best_ge n m lev (n + 1) r (by omega)
      rw [show min (cn (gt lev r) n) 1 = 1 by omega] at h5
      omega
  · refine best_le n m lev _ (fun q _ => ?_)
    rcases Nat.eq_zero_or_pos (cn (gt lev q) n) with c | c
    · rw [c, up_zero h.m0]; simp
    · rw [show min (cn (gt lev q) n) 1 = 1 by omega, Nat.mul_one]
      exact h.below hE c
end
end Go.Proofs.YtepgdlgifempeaaDoor.Hux
