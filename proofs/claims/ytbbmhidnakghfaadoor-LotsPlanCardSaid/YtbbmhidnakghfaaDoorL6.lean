/- The program's Check and Order, and the ends of tasks. -/
import Derived.Test.YtbbmhidnakghfaaDoorL0
import Derived.Test.YtbbmhidnakghfaaDoorM26
namespace Go.Proofs.YtbbmhidnakghfaaDoor
open Go.RowKit Go.Sort

def errV (k : Int) : Value := if k = 0 then .nilIface else .iface 26 (.int .i64 k)
theorem errV_zero : errV 0 = .nilIface := rfl
theorem errV_not {k : Int} (h : k ≠ 0) : errV k = .iface 26 (.int .i64 k) := by unfold errV; rw [if_neg h]

def tbad (t : T3) : Bool := decide (t.1 < 0 ∨ 1000000000 < t.1 ∨ t.2.2 < 0 ∨ 1000000000 < t.2.2 ∨ t.2.1 < 0 ∨ 10000 < t.2.1)
def tcode (n : Nat) (f : Nat → T3) : Int := if 60 < n then 4 else if (List.range n).any (fun j => tbad (f j)) then 2 else 0
theorem tcode_bad {n j : Nat} {f : Nat → T3} (hn : ¬ 60 < n) (hj : j < n) (h : tbad (f j) = true) : tcode n f = 2 := by
  unfold tcode
  rw [if_neg hn, if_pos]
  rw [List.any_eq_true]
  exact ⟨j, List.mem_range.2 hj, h⟩
theorem tcode_good {n : Nat} {f : Nat → T3} (hn : ¬ 60 < n) (h : ∀ j, j < n → tbad (f j) = false) : tcode n f = 0 := by
  unfold tcode
  rw [if_neg hn, if_neg]
  intro h'
  rw [List.any_eq_true] at h'
  obtain ⟨j, h1, h2⟩ := h'
  rw [h j (List.mem_range.1 h1)] at h2
  cases h2
/-- Tasks that may be. -/
structure GoodT (n : Nat) (f : Nat → T3) : Prop where
  few : n ≤ 60
  p : ∀ i, i < n → 0 ≤ (f i).1 ∧ (f i).1 ≤ 1000000000
  d : ∀ i, i < n → 0 ≤ (f i).2.2 ∧ (f i).2.2 ≤ 1000000000
  w : ∀ i, i < n → 0 ≤ (f i).2.1 ∧ (f i).2.1 ≤ 10000
theorem goodT_of {n : Nat} {f : Nat → T3} (h : tcode n f = 0) : GoodT n f := by
  unfold tcode at h
  by_cases c : 60 < n
  · rw [if_pos c] at h; exact absurd h (by decide)
  · rw [if_neg c] at h
    by_cases c2 : (List.range n).any (fun j => tbad (f j)) = true
    · rw [if_pos c2] at h; exact absurd h (by decide)
    · have hb : ∀ i, i < n → ¬ ((f i).1 < 0 ∨ 1000000000 < (f i).1 ∨ (f i).2.2 < 0 ∨ 1000000000 < (f i).2.2 ∨ (f i).2.1 < 0 ∨ 10000 < (f i).2.1) := fun i hi => by
        have : tbad (f i) = false := by
          cases ht : tbad (f i) with
          | false => rfl
          | true => exact absurd (List.any_eq_true.2 ⟨i, List.mem_range.2 hi, ht⟩) c2
        exact of_decide_eq_false this
      exact ⟨by omega, fun i hi => by have := hb i hi; omega, fun i hi => by have := hb i hi; omega, fun i hi => by have := hb i hi; omega⟩

/-- The first fault of a row of numbers that should be each of n once. -/
def stood (r : Nat → Int) (k : Nat) (x : Int) : Bool := (List.range k).any (fun j => r j == x)
theorem stood_succ (r : Nat → Int) (k : Nat) (x : Int) : stood r (k + 1) x = (stood r k x || r k == x) := by
  unfold stood
  rw [List.range_succ, List.any_append]
  simp
theorem stood_true {r : Nat → Int} {k : Nat} {x : Int} : stood r k x = true ↔ ∃ j, j < k ∧ r j = x := by
  unfold stood
  rw [List.any_eq_true]
  constructor
  · rintro ⟨j, h1, h2⟩; exact ⟨j, List.mem_range.1 h1, by simpa using h2⟩
  · rintro ⟨j, h1, h2⟩; exact ⟨j, List.mem_range.2 h1, by simpa using h2⟩
def oc (r : Nat → Int) (n : Nat) : Nat → Int
  | 0 => 0
  | k + 1 => if oc r n k ≠ 0 then oc r n k else if r k < 0 ∨ (n : Int) ≤ r k then 2 else if stood r k (r k) then 9 else 0
theorem oc_stays {r : Nat → Int} {n m : Nat} (h : oc r n m ≠ 0) : ∀ d, oc r n (m + d) = oc r n m
  | 0 => rfl
  | d + 1 => by
    have ih := oc_stays h d
    show (if oc r n (m + d) ≠ 0 then oc r n (m + d) else _) = _
    rw [ih, if_pos h]
theorem oc_end {r : Nat → Int} {n m k : Nat} {c : Int} (h : oc r n (m + 1) = c) (hc : c ≠ 0) (hm : m < k) : oc r n k = c := by
  obtain ⟨d, rfl⟩ := Nat.le.dest (show m + 1 ≤ k by omega)
  rw [oc_stays (by rw [h]; exact hc), h]
theorem oc_range {r : Nat → Int} {n m : Nat} (h0 : oc r n m = 0) (h : r m < 0 ∨ (n : Int) ≤ r m) : oc r n (m + 1) = 2 := by
  show (if oc r n m ≠ 0 then _ else if r m < 0 ∨ (n : Int) ≤ r m then 2 else _) = _
  rw [if_neg (by rw [h0]; decide), if_pos h]
theorem oc_many {r : Nat → Int} {n m : Nat} (h0 : oc r n m = 0) (h : ¬ (r m < 0 ∨ (n : Int) ≤ r m)) (h2 : stood r m (r m) = true) : oc r n (m + 1) = 9 := by
  show (if oc r n m ≠ 0 then _ else if r m < 0 ∨ (n : Int) ≤ r m then 2 else if stood r m (r m) then 9 else 0) = _
  rw [if_neg (by rw [h0]; decide), if_neg h, if_pos h2]
theorem oc_good {r : Nat → Int} {n m : Nat} (h0 : oc r n m = 0) (h : ¬ (r m < 0 ∨ (n : Int) ≤ r m)) (h2 : stood r m (r m) = false) : oc r n (m + 1) = 0 := by
  show (if oc r n m ≠ 0 then _ else if r m < 0 ∨ (n : Int) ≤ r m then 2 else if stood r m (r m) then 9 else 0) = _
  rw [if_neg (by rw [h0]; decide), if_neg h, if_neg (by rw [h2]; decide)]
theorem oc_zero {r : Nat → Int} {n : Nat} : ∀ {k : Nat}, oc r n k = 0 → ∀ i, i < k → 0 ≤ r i ∧ r i < (n : Int) ∧ stood r i (r i) = false
  | k + 1, h, i, hi => by
    have h' : (if oc r n k ≠ 0 then oc r n k else if r k < 0 ∨ (n : Int) ≤ r k then 2 else if stood r k (r k) then 9 else 0) = (0 : Int) := h
    by_cases c1 : oc r n k = 0
    · rw [if_neg (by simpa using c1)] at h'
      by_cases c2 : r k < 0 ∨ (n : Int) ≤ r k
      · rw [if_pos c2] at h'; exact absurd h' (by decide)
      · rw [if_neg c2] at h'
        by_cases c3 : stood r k (r k) = true
        · rw [if_pos c3] at h'; exact absurd h' (by decide)
        · rcases Nat.lt_or_ge i k with c | c
          · exact oc_zero c1 i c
          · obtain rfl : i = k := by omega
            exact ⟨by omega, by omega, by simpa using c3⟩
    · rw [if_pos c1] at h'; exact absurd h' c1
/-- A row that is each of n once. -/
structure GoodR (n : Nat) (r : Nat → Int) : Prop where
  rng : ∀ i, i < n → 0 ≤ r i ∧ r i < (n : Int)
  inj : ∀ i j, i < n → j < n → r i = r j → i = j
theorem goodR_of {n : Nat} {r : Nat → Int} (h : oc r n n = 0) : GoodR n r := by
  have h1 := oc_zero h
  have key : ∀ i j, i < j → j < n → r i ≠ r j := fun i j hij hj e => by
    have h2 := (h1 j hj).2.2
    have h3 : stood r j (r j) = true := stood_true.2 ⟨i, hij, e⟩
    rw [h2] at h3; cases h3
  refine ⟨fun i hi => ⟨(h1 i hi).1, (h1 i hi).2.1⟩, fun i j hi hj e => ?_⟩
  rcases Nat.lt_trichotomy i j with c | c | c
  · exact absurd e (key i j c hj)
  · exact c
  · exact absurd e.symm (key j i c hi)
theorem oc_of_good {n : Nat} {r : Nat → Int} (h : GoodR n r) : ∀ k, k ≤ n → oc r n k = 0
  | 0, _ => rfl
  | k + 1, hk => by
    have h1 := h.rng k hk
    refine oc_good (oc_of_good h k (by omega)) (by omega) ?_
    cases c : stood r k (r k) with
    | false => rfl
    | true =>
      obtain ⟨j, h2, h3⟩ := stood_true.1 c
      have := h.inj j k (by omega) hk h3
      omega
def ocode (r : Nat → Int) (len : Nat) (n : Int) : Int := if (len : Int) ≠ n then 3 else oc r len len

/-- The row's tasks, as a list. -/
def rl (r : Nat → Int) (k : Nat) : List Nat := (List.range k).map (fun j => (r j).toNat)
theorem rl_succ (r : Nat → Int) (k : Nat) : rl r (k + 1) = rl r k ++ [(r k).toNat] := by unfold rl; rw [List.range_succ, List.map_append]; rfl
theorem rl_nodup {n : Nat} {r : Nat → Int} (h : GoodR n r) : ∀ k, k ≤ n → (rl r k).Nodup ∧ ∀ j, k ≤ j → j < n → (r j).toNat ∉ rl r k
  | 0, _ => ⟨List.nodup_nil, fun j _ _ => List.not_mem_nil⟩
  | k + 1, hk => by
    have ih := rl_nodup h k (by omega)
    rw [rl_succ]
    refine ⟨List.nodup_append.2 ⟨ih.1, by simp, fun a ha b hb e => ?_⟩, fun j h1 h2 hm => ?_⟩
    · rw [List.mem_singleton] at hb
      subst hb e
      exact ih.2 k (Nat.le_refl _) hk ha
    · rcases List.mem_append.1 hm with c | c
      · exact ih.2 j (by omega) h2 c
      · rw [List.mem_singleton] at c
        have a1 := h.rng j h2
        have a2 := h.rng k hk
        have := h.inj j k h2 hk (by omega)
        omega
theorem rl_perm {n : Nat} {r : Nat → Int} (h : GoodR n r) : (rl r n).Perm (List.range n) := by
  refine Lin.perm_range (rl_nodup h n (Nat.le_refl _)).1 (fun x hx => ?_) (by simp [rl])
  unfold rl at hx
  rw [List.mem_map] at hx
  obtain ⟨j, h1, h2⟩ := hx
  have := h.rng j (List.mem_range.1 h1)
  omega
theorem endOf_snoc (p : Nat → Int) : ∀ (t : Int) (xs : List Nat) (x i : Nat), x ∉ xs → Lin.endOf p t (xs ++ [x]) i = if i = x then t + Lin.psum p xs + p x else Lin.endOf p t xs i
  | t, [], x, i, _ => by
    show (if i = x then t + p x else 0) = if i = x then t + 0 + p x else 0
    rw [Int.add_zero]
  | t, y :: xs, x, i, h => by
    have hy : x ≠ y := fun e => h (by rw [e]; exact List.mem_cons_self ..)
    show (if i = y then t + p y else Lin.endOf p (t + p y) (xs ++ [x]) i) = if i = x then t + (p y + Lin.psum p xs) + p x else if i = y then t + p y else Lin.endOf p (t + p y) xs i
    rw [endOf_snoc p (t + p y) xs x i (fun hx => h (List.mem_cons_of_mem _ hx))]
    by_cases c : i = y
    · rw [if_pos c, if_pos c, if_neg (by omega)]
    · rw [if_neg c, if_neg c]
      by_cases c2 : i = x
      · rw [if_pos c2, if_pos c2]; omega
      · rw [if_neg c2, if_neg c2]
def pT (f : Nat → T3) (i : Nat) : Int := (f i).1
def wT (f : Nat → T3) (i : Nat) : Int := (f i).2.1
def dT (f : Nat → T3) (i : Nat) : Int := (f i).2.2
def endR (f : Nat → T3) (r : Nat → Int) (n : Nat) : Nat → Int := fun i => Lin.endOf (pT f) 0 (rl r n) i
theorem psum_rl {n : Nat} {f : Nat → T3} {r : Nat → Int} (hT : GoodT n f) (h : GoodR n r) : ∀ k, k ≤ n → 0 ≤ Lin.psum (pT f) (rl r k) ∧ Lin.psum (pT f) (rl r k) ≤ 1000000000 * k
  | 0, _ => by show (0 : Int) ≤ 0 ∧ (0 : Int) ≤ 1000000000 * ((0 : Nat) : Int); omega
  | k + 1, hk => by
    have ih := psum_rl hT h k (by omega)
    have a := h.rng k hk
    have b := hT.p (r k).toNat (by omega)
    rw [rl_succ, Lin.psum_append]
    have e : Lin.psum (pT f) [(r k).toNat] = (f (r k).toNat).1 + 0 := rfl
    rw [e]
    omega
theorem endOf_le (p : Nat → Int) {B : Int} : ∀ (t : Int) (xs : List Nat) (i : Nat), (∀ x ∈ xs, 0 ≤ p x) → 0 ≤ t → t + Lin.psum p xs ≤ B → 0 ≤ Lin.endOf p t xs i ∧ Lin.endOf p t xs i ≤ B
  | t, [], i, _, h0, hB => by
    have e : Lin.psum p [] = 0 := rfl
    rw [e] at hB
    show (0 : Int) ≤ 0 ∧ (0 : Int) ≤ B
    omega
  | t, x :: xs, i, hp, h0, hB => by
    have e : Lin.psum p (x :: xs) = p x + Lin.psum p xs := rfl
    rw [e] at hB
    have h1 := hp x (List.mem_cons_self ..)
    have h2 := Lin.psum_nonneg p (xs := xs) (fun y hy => hp y (List.mem_cons_of_mem _ hy))
    have ih := endOf_le p (B := B) (t + p x) xs i (fun y hy => hp y (List.mem_cons_of_mem _ hy)) (by omega) (by omega)
    show 0 ≤ (if i = x then t + p x else Lin.endOf p (t + p x) xs i) ∧ (if i = x then t + p x else Lin.endOf p (t + p x) xs i) ≤ B
    split
    · omega
    · exact ih
theorem endR_bd {n : Nat} {f : Nat → T3} {r : Nat → Int} (hT : GoodT n f) (h : GoodR n r) (i : Nat) : 0 ≤ endR f r n i ∧ endR f r n i ≤ 60000000000 := by
  have h1 := psum_rl hT h n (Nat.le_refl _)
  have h2 := hT.few
  refine endOf_le (pT f) 0 (rl r n) i (fun x hx => ?_) (Int.le_refl _) (by omega)
  have := List.mem_range.1 ((rl_perm h).subset hx)
  exact (hT.p x this).1

def ecode (n : Nat) (f : Nat → T3) (r : Nat → Int) (len : Nat) : Int := if tcode n f ≠ 0 then tcode n f else ocode r len n
structure EGood (n : Nat) (f : Nat → T3) (r : Nat → Int) (len : Nat) : Prop where
  t : GoodT n f
  r : GoodR n r
  l : len = n
theorem egood_of {n len : Nat} {f : Nat → T3} {r : Nat → Int} (h : ecode n f r len = 0) : EGood n f r len := by
  unfold ecode at h
  by_cases c : tcode n f = 0
  · rw [if_neg (by simpa using c)] at h
    unfold ocode at h
    by_cases c2 : (len : Int) = n
    · have c3 : len = n := by omega
      subst c3
      rw [if_neg (by simp)] at h
      exact ⟨goodT_of c, goodR_of h, rfl⟩
    · rw [if_pos c2] at h; exact absurd h (by decide)
  · rw [if_pos c] at h; exact absurd h c
/-- What Ends leaves. -/
def EndsPost (w : World) (n : Nat) (f : Nat → T3) (r : Nat → Int) (len : Nat) (e : Ending) (w' : World) : Prop :=
  Below w.heap.size w w' ∧ ((ecode n f r len ≠ 0 ∧ e = .returned (.tuple #[.slice none 0 0, .iface 26 (.int .i64 (ecode n f r len))])) ∨ (ecode n f r len = 0 ∧ ∃ G, w.heap.size ≤ G ∧ e = .returned (.tuple #[.slice (some ⟨G, 0, none⟩) n n, .nilIface]) ∧ OwnI w' G n (endR f r n)))

end Go.Proofs.YtbbmhidnakghfaaDoor
