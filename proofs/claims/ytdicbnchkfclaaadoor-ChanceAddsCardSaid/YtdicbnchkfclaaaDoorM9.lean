/- The law of two amounts together: it is a law; its mean and its variance. -/
import Derived.Test.YtdicbnchkfclaaaDoorM8
namespace Go.Proofs.YtdicbnchkfclaaaDoor

theorem tlen_zero (qs : List Rat) : ∀ n j, tlen qs n ≤ j → j < n → qs[j]! = 0
  | 0, _, _, h => absurd h (Nat.not_lt_zero _)
  | 1, j, h, h' => by unfold tlen at h; omega
  | n + 2, j, h, h' => by
    unfold tlen at h
    split at h
    · rename_i hz
      rcases Nat.lt_or_ge j (n + 1) with h1 | h1
      · exact tlen_zero qs (n + 1) j h h1
      · obtain rfl : j = n + 1 := by omega
        exact Rat.num_eq_zero.1 hz
    · omega

theorem rowAdd_get (B : List Rat) (x : Rat) (i : Nat) (l : List Rat) (p : Rat → Prop) (hp : ∀ k, k < l.length → p l[k]!) (n : Nat) (hn : i + n ≤ l.length) (hs : ∀ j y, j < n → p y → p (y + x * B[j]!)) : ∀ k, k < l.length → p (rowAdd B x i n l)[k]! := by
  induction n with
  | zero => exact hp
  | succ n ih =>
    have hl := rowAdd_length B x i n l
    have ih' := ih (by omega) (fun j y hj => hs j y (by omega))
    intro k hk
    simp only [rowAdd]
    by_cases e : i + n = k
    · subst e
      have e1 : ((rowAdd B x i n l).set (i + n) ((rowAdd B x i n l)[i + n]! + x * B[n]!))[i + n]! = (rowAdd B x i n l)[i + n]! + x * B[n]! := by simp [show i + n < (rowAdd B x i n l).length by omega]
      rw [e1]
      exact hs n _ (by omega) (ih' _ hk)
    · have e1 : ((rowAdd B x i n l).set (i + n) ((rowAdd B x i n l)[i + n]! + x * B[n]!))[k]! = (rowAdd B x i n l)[k]! := by simp [e]
      rw [e1]
      exact ih' k hk

theorem conv_nn (A B : List Rat) (n K : Nat) (hA : ∀ j : Nat, 0 ≤ A[j]!) (hB : ∀ j : Nat, 0 ≤ B[j]!) (i : Nat) (h : i + n ≤ K + 1) : ∀ k, k < K → 0 ≤ (conv A B n K i)[k]! := by
  induction i with
  | zero => intro k hk; simp [conv, hk]
  | succ i ih =>
    have hl := conv_length A B n K i
    intro k hk
    simp only [conv]
    exact rowAdd_get B A[i]! i (conv A B n K i) (fun y => 0 ≤ y) (fun k hk => ih (by omega) k (by omega)) n (by omega) (fun j y _ hy => Rat.add_nonneg hy (Rat.mul_nonneg (hA i) (hB j))) k (by omega)

theorem rowAdd_RS (B : List Rat) (x : Rat) (i : Nat) (l : List Rat) (a J : Nat) (hl : ∀ k, k < l.length → RS l[k]! a) (hx : RS x J) (hB : ∀ j, j < B.length → RS B[j]! J) (n : Nat) (hn : i + n ≤ l.length) (hnB : n ≤ B.length) : ∀ k, k < l.length → RS (rowAdd B x i n l)[k]! (a + n * (2 * J + 1)) := by
  induction n with
  | zero => intro k hk; exact (hl k hk).mono (by omega)
  | succ n ih =>
    have hll := rowAdd_length B x i n l
    have ih' := ih (by omega) (by omega)
    intro k hk
    simp only [rowAdd]
    have es : (n + 1) * (2 * J + 1) = n * (2 * J + 1) + (2 * J + 1) := Nat.succ_mul n (2 * J + 1)
    by_cases e : i + n = k
    · subst e
      have e1 : ((rowAdd B x i n l).set (i + n) ((rowAdd B x i n l)[i + n]! + x * B[n]!))[i + n]! = (rowAdd B x i n l)[i + n]! + x * B[n]! := by simp [show i + n < (rowAdd B x i n l).length by omega]
      rw [e1]
      exact ((ih' _ hk).add (hx.mul (hB n (by omega)))).mono (by omega)
    · have e1 : ((rowAdd B x i n l).set (i + n) ((rowAdd B x i n l)[i + n]! + x * B[n]!))[k]! = (rowAdd B x i n l)[k]! := by simp [e]
      rw [e1]
      exact (ih' k hk).mono (by omega)

theorem conv_RS (A B : List Rat) (n K J : Nat) (hA : ∀ j, j < A.length → RS A[j]! J) (hB : ∀ j, j < B.length → RS B[j]! J) (hnB : n ≤ B.length) (i : Nat) (hi : i ≤ A.length) (h : i + n ≤ K + 1) : ∀ k, k < K → RS (conv A B n K i)[k]! (1 + i * (n * (2 * J + 1))) := by
  induction i with
  | zero =>
    intro k hk
    have e : (conv A B n K 0)[k]! = 0 := by simp [conv, hk]
    rw [e]; exact RS.zero.mono (by omega)
  | succ i ih =>
    have hl := conv_length A B n K i
    intro k hk
    simp only [conv]
    have es : (i + 1) * (n * (2 * J + 1)) = i * (n * (2 * J + 1)) + n * (2 * J + 1) := Nat.succ_mul _ _
    refine (rowAdd_RS B A[i]! i (conv A B n K i) _ J (fun k hk => ih (by omega) (by omega) k (by omega)) (hA i (by omega)) hB n (by omega) hnB k (by omega)).mono (by omega)

theorem get_nn {qs : List Rat} (h : ∀ j, j < qs.length → 0 ≤ qs[j]!.num) : ∀ j : Nat, 0 ≤ qs[j]! := fun j => by
  rcases Nat.lt_or_ge j qs.length with h' | h'
  · exact Rat.num_nonneg.1 (h j h')
  · rw [List.getElem!_eq_getElem?_getD, List.getElem?_eq_none h']; exact Rat.le_refl

/-- Two laws. -/
structure Two (A B : List Rat) : Prop where
  a : chk A = 0
  b : chk B = 0
  la : A.length ≤ 25
  lb : B.length ≤ 25

def both (A B : List Rat) : List Rat := conv A B (tlen B B.length) (tlen A A.length + tlen B B.length - 1) (tlen A A.length)

theorem both_length {A B : List Rat} : (both A B).length = tlen A A.length + tlen B B.length - 1 := conv_length _ _ _ _ _

theorem both_sum {A B : List Rat} (h : Two A B) (F : Nat → Int) : wsum (both A B) F (both A B).length = dsum A B F (tlen B B.length) (tlen A A.length) := by
  obtain ⟨a1, _, _, _⟩ := chk_zero h.a
  have ta := tlen_pos A a1
  rw [both_length]
  exact conv_sum A B F _ _ _ (by omega)

theorem one_sum {A : List Rat} (h : chk A = 0) : wsum A (fun _ => 1) (tlen A A.length) = 1 := by
  obtain ⟨_, _, _, hs⟩ := chk_zero h
  rw [← wsum_cut A _ (tlen A A.length) A.length (tlen_le _ _) (fun j h1 h2 => tlen_zero A _ j h1 h2), ← qsum_one]
  exact hs

theorem dsum_one (A B : List Rat) (n m : Nat) (hB : wsum B (fun _ => 1) n = 1) : dsum A B (fun _ => 1) n m = wsum A (fun _ => 1) m := by
  induction m with
  | zero => rfl
  | succ m ih =>
    simp only [dsum, wsum]
    rw [ih, hB]
    have : ((1 : Int) : Rat) = 1 := rfl
    rw [this]

theorem both_chk {A B : List Rat} (h : Two A B) : chk (both A B) = 0 := by
  obtain ⟨a1, _, a3, _⟩ := chk_zero h.a
  obtain ⟨b1, _, b3, _⟩ := chk_zero h.b
  have ta := tlen_pos A a1
  have tb := tlen_pos B b1
  have la := tlen_le A A.length
  have lb := tlen_le B B.length
  have hl := both_length (A := A) (B := B)
  have := h.la
  have := h.lb
  unfold chk
  rw [if_neg (by omega), if_neg ?_, if_pos ?_]
  · rw [qsum_one, both_sum h, dsum_one _ _ _ _ (one_sum h.b)]
    exact one_sum h.a
  · rintro ⟨j, hj, hn⟩
    have h0 := conv_nn A B (tlen B B.length) (tlen A A.length + tlen B B.length - 1) (get_nn a3) (get_nn b3) (tlen A A.length) (by omega) j (by omega)
    have := Rat.num_nonneg.2 h0
    have hn' : ((conv A B (tlen B B.length) (tlen A A.length + tlen B B.length - 1) (tlen A A.length))[j]!).num < 0 := hn
    omega

theorem both_RS {A B : List Rat} (h : Two A B) (hA : ∀ j, j < A.length → RS A[j]! 1) (hB : ∀ j, j < B.length → RS B[j]! 1) : ∀ j, j < (both A B).length → RS (both A B)[j]! 2000 := fun j hj => by
  obtain ⟨a1, _, _, _⟩ := chk_zero h.a
  have ta := tlen_pos A a1
  have la := tlen_le A A.length
  have lb := tlen_le B B.length
  have hl := both_length (A := A) (B := B)
  have h1 := h.la
  have h2 := h.lb
  have m1 : tlen A A.length * (tlen B B.length * (2 * 1 + 1)) ≤ 25 * (25 * 3) := Nat.mul_le_mul (by omega) (Nat.mul_le_mul (by omega) (by omega))
  exact (conv_RS A B (tlen B B.length) (tlen A A.length + tlen B B.length - 1) 1 hA hB lb (tlen A A.length) la (by omega) j (by omega)).mono (by omega)

/-- The mean, and the mean of squares. -/
def m1 (A : List Rat) : Rat := wsum A (fun j => ((j ^ 1 : Nat) : Int)) A.length
def m2 (A : List Rat) : Rat := wsum A (fun j => ((j ^ 2 : Nat) : Int)) A.length

theorem m1_cut {A : List Rat} : m1 A = wsum A (fun j => (j : Int)) (tlen A A.length) := by
  unfold m1
  rw [wsum_cut A _ (tlen A A.length) A.length (tlen_le _ _) (fun j h1 h2 => tlen_zero A _ j h1 h2)]
  exact wsum_congr A _ (fun j _ => by rw [Nat.pow_one])
theorem m2_cut {A : List Rat} : m2 A = wsum A (fun j => (j : Int) * j) (tlen A A.length) := by
  unfold m2
  rw [wsum_cut A _ (tlen A A.length) A.length (tlen_le _ _) (fun j h1 h2 => tlen_zero A _ j h1 h2)]
  exact wsum_congr A _ (fun j _ => by rw [Nat.pow_two, Int.natCast_mul])

theorem means_add {A B : List Rat} (h : Two A B) : m1 A + m1 B = m1 (both A B) := by
  have e : m1 (both A B) = dsum A B (fun k => (k : Int)) (tlen B B.length) (tlen A A.length) := by
    rw [← both_sum h]
    exact wsum_congr _ _ (fun j _ => by rw [Nat.pow_one])
  rw [e, dsum_first A B _ _ (one_sum h.b), one_sum h.a, m1_cut, m1_cut]
  grind
theorem vars_add {A B : List Rat} (h : Two A B) : (m2 A - m1 A * m1 A) + (m2 B - m1 B * m1 B) = m2 (both A B) - m1 (both A B) * m1 (both A B) := by
  have e : m2 (both A B) = dsum A B (fun k => (k : Int) * k) (tlen B B.length) (tlen A A.length) := by
    rw [← both_sum h]
    exact wsum_congr _ _ (fun j _ => by rw [Nat.pow_two, Int.natCast_mul])
  rw [← means_add h, e, dsum_second A B _ _ (one_sum h.b), one_sum h.a, m2_cut, m2_cut, m1_cut, m1_cut]
  grind
end Go.Proofs.YtdicbnchkfclaaaDoor
