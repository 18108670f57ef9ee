/- Births and deaths, Erlang's numbers, and calls that share lines: the sums. -/
import Derived.WalkKit
namespace Go.Proofs.YtcelbgleajpenaaGreatDoor.Bth

theorem div_nn {a b : Rat} (ha : 0 ≤ a) (hb : 0 < b) : 0 ≤ a / b := by
  rw [Rat.div_def]
  exact Rat.mul_nonneg ha (Rat.le_of_lt (Rat.inv_pos.2 hb))
theorem div_ps {a b : Rat} (ha : 0 < a) (hb : 0 < b) : 0 < a / b := by
  rw [Rat.div_def]
  exact Rat.mul_pos ha (Rat.inv_pos.2 hb)
theorem ne_of_pos {a : Rat} (h : 0 < a) : a ≠ 0 := fun e => by rw [e] at h; exact absurd h (by decide)
theorem div_le_div_right {a b s : Rat} (h : a ≤ b) (hs : 0 < s) : a / s ≤ b / s := by
  rw [Rat.div_def, Rat.div_def]
  exact Rat.mul_le_mul_of_nonneg_right h (Rat.le_of_lt (Rat.inv_pos.2 hs))
theorem eq_div {a b c : Rat} (hb : b ≠ 0) (h : c * b = a) : a / b = c := by rw [← h]; exact Rat.mul_div_cancel hb
theorem le_of_mul {x y s : Rat} (hs : 0 < s) (h : x * s ≤ y * s) : x ≤ y := by
  have hi := Rat.inv_pos.2 hs
  have := Rat.mul_le_mul_of_nonneg_right h (Rat.le_of_lt hi)
  have e : s * s⁻¹ = 1 := Rat.mul_inv_cancel _ (ne_of_pos hs)
  have e1 : x * s * s⁻¹ = x := by rw [Rat.mul_assoc, e]; grind
  have e2 : y * s * s⁻¹ = y := by rw [Rat.mul_assoc, e]; grind
  rw [e1, e2] at this
  exact this
theorem lt_of_mul {x y s : Rat} (hs : 0 < s) (h : x * s < y * s) : x < y := by
  have hi := Rat.inv_pos.2 hs
  have := Rat.mul_lt_mul_of_pos_right h hi
  have e : s * s⁻¹ = 1 := Rat.mul_inv_cancel _ (ne_of_pos hs)
  have e1 : x * s * s⁻¹ = x := by rw [Rat.mul_assoc, e]; grind
  have e2 : y * s * s⁻¹ = y := by rw [Rat.mul_assoc, e]; grind
  rw [e1, e2] at this
  exact this

/-- How likely each number is, for one another. -/
def pe (u d : Nat → Rat) : Nat → Rat
  | 0 => 1
  | n + 1 => pe u d n * u n / d n
/-- The first numbers together. -/
def ps (f : Nat → Rat) : Nat → Rat
  | 0 => 0
  | k + 1 => ps f k + f k

theorem pe_nn {u d : Nat → Rat} {N : Nat} (hu : ∀ n, n < N → 0 ≤ u n) (hd : ∀ n, n < N → 0 < d n) : ∀ n, n ≤ N → 0 ≤ pe u d n
  | 0, _ => by show (0 : Rat) ≤ 1; decide
  | n + 1, h => div_nn (Rat.mul_nonneg (pe_nn hu hd n (by omega)) (hu n (by omega))) (hd n (by omega))
theorem ps_nn {f : Nat → Rat} {N : Nat} (h : ∀ n, n < N → 0 ≤ f n) : ∀ k, k ≤ N → 0 ≤ ps f k
  | 0, _ => by show (0 : Rat) ≤ 0; decide
  | k + 1, hk => Rat.add_nonneg (ps_nn h k (by omega)) (h k (by omega))
theorem ps_mono {f : Nat → Rat} {N : Nat} (h : ∀ n, n < N → 0 ≤ f n) (j k : Nat) (hjk : j ≤ k) (hk : k ≤ N) : ps f j ≤ ps f k := by
  induction k with
  | zero => obtain rfl : j = 0 := by omega
            exact Rat.le_refl
  | succ k ih =>
    rcases Nat.lt_or_ge k j with h' | h'
    · obtain rfl : j = k + 1 := by omega
      exact Rat.le_refl
    · have a := ih h' (by omega)
      have b := h k (by omega)
      show ps f j ≤ ps f k + f k
      grind
theorem ps_ge {f : Nat → Rat} {N : Nat} (h0 : f 0 = 1) (h : ∀ n, n < N → 0 ≤ f n) (k : Nat) (hk : k + 1 ≤ N) : 1 ≤ ps f (k + 1) := by
  have a := ps_mono h 1 (k + 1) (by omega) hk
  have b : ps f 1 = 1 := by show (0 : Rat) + f 0 = 1; rw [h0, Rat.zero_add]
  rw [b] at a
  exact a
theorem one_pos {x : Rat} (h : 1 ≤ x) : 0 < x := by
  have : (0 : Rat) < 1 := by decide
  grind
theorem ps_div (f : Nat → Rat) (s : Rat) (k : Nat) : ps (fun j => f j / s) k = ps f k / s := by
  induction k with
  | zero => show (0 : Rat) = 0 / s; rw [Rat.div_def]; grind
  | succ k ih =>
    show ps (fun j => f j / s) k + f k / s = (ps f k + f k) / s
    rw [ih, Rat.div_def, Rat.div_def, Rat.div_def]
    grind
theorem ps_congr {f g : Nat → Rat} (k : Nat) (h : ∀ j, j < k → f j = g j) : ps f k = ps g k := by
  induction k with
  | zero => rfl
  | succ k ih => show ps f k + f k = ps g k + g k; rw [ih (fun j hj => h j (by omega)), h k (by omega)]
theorem div_self {s : Rat} (h : s ≠ 0) : s / s = 1 := by rw [Rat.div_def]; exact Rat.mul_inv_cancel _ h
theorem pe_cut {u d : Nat → Rat} {n : Nat} (hd : d n ≠ 0) (s : Rat) : pe u d n / s * u n = pe u d (n + 1) / s * d n := by
  have e : pe u d (n + 1) * d n = pe u d n * u n := Rat.div_mul_cancel hd
  rw [Rat.div_def, Rat.div_def]
  grind

/-! Erlang -/
def wt (a : Rat) (n : Nat) : Rat := pe (fun _ => a) (fun n => ((n + 1 : Nat) : Int)) n
theorem wt_zero (a : Rat) : wt a 0 = 1 := rfl
theorem wt_succ (a : Rat) (n : Nat) : wt a (n + 1) = wt a n * a / ((n + 1 : Nat) : Int) := rfl
theorem cast_pos (n : Nat) : (0 : Rat) < ((n + 1 : Nat) : Int) := by
  have : (0 : Rat) = ((0 : Int) : Rat) := rfl
  rw [this, Rat.intCast_lt_intCast]
  omega
theorem cast_nn (n : Nat) : (0 : Rat) ≤ ((n : Nat) : Int) := Rat.intCast_nonneg.2 (by omega)
theorem wt_next (a : Rat) (n : Nat) : wt a (n + 1) * ((n + 1 : Nat) : Int) = wt a n * a := by
  rw [wt_succ]
  exact Rat.div_mul_cancel (ne_of_pos (cast_pos n))
theorem wt_nn {a : Rat} (h : 0 ≤ a) (n : Nat) : 0 ≤ wt a n := pe_nn (N := n) (fun _ _ => h) (fun n _ => cast_pos n) n (Nat.le_refl _)
theorem wt_pos {a : Rat} (h : 0 < a) : ∀ n, 0 < wt a n
  | 0 => by rw [wt_zero]; decide
  | n + 1 => by rw [wt_succ]; exact div_ps (Rat.mul_pos (wt_pos h n) h) (cast_pos n)
def ws (a : Rat) (k : Nat) : Rat := ps (wt a) k
theorem ws_succ (a : Rat) (k : Nat) : ws a (k + 1) = ws a k + wt a k := rfl
theorem ws_ge {a : Rat} (h : 0 ≤ a) (k : Nat) : 1 ≤ ws a (k + 1) := ps_ge (N := k + 1) (wt_zero a) (fun n _ => wt_nn h n) k (Nat.le_refl _)
theorem ws_pos {a : Rat} (h : 0 ≤ a) (k : Nat) : 0 < ws a (k + 1) := one_pos (ws_ge h k)
theorem ws_nn {a : Rat} (h : 0 ≤ a) (k : Nat) : 0 ≤ ws a k := ps_nn (N := k) (fun n _ => wt_nn h n) k (Nat.le_refl _)
/-- Erlang's B. -/
def eb (a : Rat) (c : Nat) : Rat := wt a c / ws a (c + 1)

theorem cast_succ (n : Nat) : (((n + 1 : Nat) : Int) : Rat) = ((n : Nat) : Int) + 1 := by
  have : ((n + 1 : Nat) : Int) = (n : Int) + 1 := rfl
  rw [this, Rat.intCast_add]
  rfl
/-- No more than all servers are at work. -/
theorem busy {a : Rat} (h : 0 ≤ a) : ∀ c, a * ws a c ≤ ((c : Nat) : Int) * ws a (c + 1)
  | 0 => by
    show a * 0 ≤ (0 : Rat) * _
    have e1 : a * 0 = 0 := by grind
    have e2 : (0 : Rat) * ws a (0 + 1) = 0 := by grind
    rw [e1, e2]; exact Rat.le_refl
  | c + 1 => by
    have ih := busy h c
    have e := wt_next a c
    have hw := ws_nn h (c + 1)
    have e2 : a * ws a (c + 1) = a * ws a c + wt a c * a := by rw [ws_succ]; grind
    rw [e2, ← e, ws_succ a (c + 1), cast_succ]
    have n1 := cast_nn c
    have n2 := wt_nn h (c + 1)
    have n3 := wt_nn h c
    have n4 := ws_nn h c
    have m1 := Rat.mul_nonneg n1 n2
    have m2 := Rat.mul_nonneg n1 n3
    grind

theorem eb_mul {a : Rat} (h : 0 ≤ a) (c : Nat) : eb a c * ws a (c + 1) = wt a c := Rat.div_mul_cancel (ne_of_pos (ws_pos h c))
theorem eb_nn {a : Rat} (h : 0 ≤ a) (c : Nat) : 0 ≤ eb a c := div_nn (wt_nn h c) (ws_pos h c)
theorem eb_le {a : Rat} (h : 0 ≤ a) (c : Nat) : eb a c ≤ 1 := by
  refine le_of_mul (ws_pos h c) ?_
  rw [eb_mul h]
  have := ws_nn h c
  rw [ws_succ]
  grind

theorem eb_step (a : Rat) (c : Nat) : wt a (c + 1) * ws a (c + 1) * ((c + 1 : Nat) : Int) = wt a c * (a * ws a (c + 1)) := by
  have e := wt_next a c
  have : wt a (c + 1) * ws a (c + 1) * ((c + 1 : Nat) : Int) = (wt a (c + 1) * ((c + 1 : Nat) : Int)) * ws a (c + 1) := by grind
  rw [this, e]
  grind

theorem eb_cross {a : Rat} (h : 0 ≤ a) (c : Nat) : wt a (c + 1) * ws a (c + 1) ≤ wt a c * ws a (c + 2) := by
  refine le_of_mul (cast_pos c) ?_
  rw [eb_step a]
  have b := busy h (c + 1)
  have := Rat.mul_le_mul_of_nonneg_left b (wt_nn h c)
  grind

theorem eb_falls {a : Rat} (h : 0 ≤ a) (c : Nat) : eb a (c + 1) ≤ eb a c := by
  refine le_of_mul (ws_pos h (c + 1)) ?_
  rw [eb_mul h]
  refine le_of_mul (ws_pos h c) ?_
  have e := eb_mul h c
  have x := eb_cross h c
  have : eb a c * ws a (c + 1 + 1) * ws a (c + 1) = (eb a c * ws a (c + 1)) * ws a (c + 2) := by grind
  rw [this, e]
  exact x

theorem busy_lt {a : Rat} (h : 0 < a) (c : Nat) : a * ws a (c + 1) < ((c + 1 : Nat) : Int) * ws a (c + 2) := by
  have h0 := Rat.le_of_lt h
  have ih := busy h0 c
  have e := wt_next a c
  have e2 : a * ws a (c + 1) = a * ws a c + wt a c * a := by rw [ws_succ]; grind
  rw [e2, ← e, ws_succ a (c + 1), cast_succ]
  have n1 := cast_nn c
  have n2 := wt_pos h (c + 1)
  have n3 := wt_pos h c
  have n5 := ws_pos h0 c
  have m1 := Rat.mul_nonneg n1 (Rat.le_of_lt n2)
  grind
theorem eb_falls_lt {a : Rat} (h : 0 < a) (c : Nat) : eb a (c + 1) < eb a c := by
  have h0 := Rat.le_of_lt h
  refine lt_of_mul (ws_pos h0 (c + 1)) ?_
  rw [eb_mul h0]
  refine lt_of_mul (ws_pos h0 c) ?_
  have e := eb_mul h0 c
  have : eb a c * ws a (c + 1 + 1) * ws a (c + 1) = (eb a c * ws a (c + 1)) * ws a (c + 2) := by grind
  rw [this, e]
  refine lt_of_mul (cast_pos c) ?_
  rw [eb_step a]
  have b := busy_lt h c
  have := Rat.mul_lt_mul_of_pos_right b (wt_pos h c)
  grind

/-- Erlang's C. -/
def lastw (a : Rat) (c : Nat) : Rat := wt a c * ((c : Nat) : Int) / (((c : Nat) : Int) - a)
def ec (a : Rat) (c : Nat) : Rat := lastw a c / (ws a c + lastw a c)

theorem spare_pos {a : Rat} {c : Nat} (h : a < ((c : Nat) : Int)) : 0 < (((c : Nat) : Int) : Rat) - a := by grind
theorem lastw_nn {a : Rat} {c : Nat} (h0 : 0 ≤ a) (h : a < ((c : Nat) : Int)) : 0 ≤ lastw a c := div_nn (Rat.mul_nonneg (wt_nn h0 c) (cast_nn c)) (spare_pos h)
theorem ecs_pos {a : Rat} {c : Nat} (h0 : 0 ≤ a) (h : a < ((c : Nat) : Int)) : 0 < ws a c + lastw a c := by
  have hl := lastw_nn h0 h
  cases c with
  | zero => exact absurd h (by show ¬ a < (0 : Rat); grind)
  | succ c => have := ws_pos h0 c; grind

theorem ec_under {a : Rat} {c : Nat} (h0 : 0 ≤ a) (h : a < ((c : Nat) : Int)) : ec a c * (((c : Nat) : Int) - a + a * eb a c) = ((c : Nat) : Int) * eb a c := by
  have hs := spare_pos h
  have e1 : lastw a c * (((c : Nat) : Int) - a) = wt a c * ((c : Nat) : Int) := Rat.div_mul_cancel (ne_of_pos hs)
  have e2 : ec a c * (ws a c + lastw a c) = lastw a c := Rat.div_mul_cancel (ne_of_pos (ecs_pos h0 h))
  have e3 := eb_mul h0 c
  rw [ws_succ] at e3
  have hp := ws_pos h0 c
  rw [ws_succ] at hp
  -- multiply by all together and by the spare
  have key : ec a c * (((c : Nat) : Int) - a + a * eb a c) * (ws a c + wt a c) = ((c : Nat) : Int) * eb a c * (ws a c + wt a c) := by
    have f1 : ec a c * (((c : Nat) : Int) - a + a * eb a c) * (ws a c + wt a c) = ec a c * ((((c : Nat) : Int) - a) * (ws a c + wt a c) + a * (eb a c * (ws a c + wt a c))) := by grind
    have f2 : ((c : Nat) : Int) * eb a c * (ws a c + wt a c) = ((c : Nat) : Int) * (eb a c * (ws a c + wt a c)) := by grind
    rw [f1, f2, e3]
    have f3 : ec a c * ((((c : Nat) : Int) - a) * (ws a c + wt a c) + a * wt a c) = (((c : Nat) : Int) - a) * (ec a c * (ws a c + lastw a c)) + ec a c * (wt a c * ((c : Nat) : Int) - lastw a c * (((c : Nat) : Int) - a)) := by grind
    rw [f3, e2, e1]
    have f4 : (((c : Nat) : Int) - a) * lastw a c = lastw a c * (((c : Nat) : Int) - a) := by grind
    rw [f4, e1]
    grind
  have hn := ne_of_pos hp
  have := congrArg (· / (ws a c + wt a c)) key
  simp only [Rat.mul_div_cancel hn] at this
  exact this

theorem ec_nn {a : Rat} {c : Nat} (h0 : 0 ≤ a) (h : a < ((c : Nat) : Int)) : 0 ≤ ec a c := div_nn (lastw_nn h0 h) (ecs_pos h0 h)
theorem ec_le {a : Rat} {c : Nat} (h0 : 0 ≤ a) (h : a < ((c : Nat) : Int)) : ec a c ≤ 1 := by
  refine le_of_mul (ecs_pos h0 h) ?_
  have e2 : ec a c * (ws a c + lastw a c) = lastw a c := Rat.div_mul_cancel (ne_of_pos (ecs_pos h0 h))
  rw [e2]
  have := ws_nn h0 c
  grind
theorem ec_ge {a : Rat} {c : Nat} (h0 : 0 ≤ a) (h : a < ((c : Nat) : Int)) : eb a c ≤ ec a c := by
  have e := ec_under h0 h
  have hs := spare_pos h
  have b0 := eb_nn h0 c
  have b1 := eb_le h0 c
  have cpos : (0 : Rat) < ((c : Nat) : Int) := by grind
  refine le_of_mul cpos ?_
  have c0 := ec_nn h0 h
  have : eb a c * ((c : Nat) : Int) = ec a c * (((c : Nat) : Int) - a + a * eb a c) := by rw [e]; grind
  rw [this]
  have m1 : 0 ≤ ec a c * (a * (1 - eb a c)) := Rat.mul_nonneg c0 (Rat.mul_nonneg h0 (by grind))
  grind
end Go.Proofs.YtcelbgleajpenaaGreatDoor.Bth
/-! Kaufman and Roberts -/
namespace Go.Proofs.YtcelbgleajpenaaGreatDoor.Bth
def inn (b : Nat → Rat) (f : Nat → Rat) (n : Nat) : Nat → Rat
  | 0 => 0
  | s + 1 => inn b f n s + b (s + 1) * f (n - (s + 1))
def ul (b : Nat → Rat) : Nat → List Rat
  | 0 => [1]
  | n + 1 => ul b n ++ [inn b (fun j => (ul b n)[j]!) (n + 1) (n + 1) / ((n + 1 : Nat) : Int)]
theorem ul_length (b : Nat → Rat) : ∀ n, (ul b n).length = n + 1
  | 0 => rfl
  | n + 1 => by show (ul b n ++ [_]).length = _; rw [List.length_append, ul_length b n]; rfl
def uv (b : Nat → Rat) (n : Nat) : Rat := (ul b n)[n]!
theorem ul_get (b : Nat → Rat) (j : Nat) : ∀ n, j ≤ n → (ul b n)[j]! = uv b j
  | 0, h => by obtain rfl : j = 0 := by omega
               rfl
  | n + 1, h => by
    rcases Nat.lt_or_ge n j with h' | h'
    · obtain rfl : j = n + 1 := by omega
      rfl
    · rw [← ul_get b j n h']
      show (ul b n ++ [_])[j]! = _
      rw [List.getElem!_eq_getElem?_getD, List.getElem!_eq_getElem?_getD, List.getElem?_append_left (by rw [ul_length]; omega)]
theorem inn_congr {b f g : Nat → Rat} {n : Nat} (k : Nat) (hk : k ≤ n) (h : ∀ j, j < n → f j = g j) : inn b f n k = inn b g n k := by
  induction k with
  | zero => rfl
  | succ k ih => show inn b f n k + _ * f _ = inn b g n k + _ * g _; rw [ih (by omega), h _ (by omega)]
theorem uv_zero (b : Nat → Rat) : uv b 0 = 1 := rfl
theorem uv_succ (b : Nat → Rat) (n : Nat) : uv b (n + 1) = inn b (uv b) (n + 1) (n + 1) / ((n + 1 : Nat) : Int) := by
  show (ul b n ++ [_])[n + 1]! = _
  rw [List.getElem!_eq_getElem?_getD, List.getElem?_append_right (by rw [ul_length]; omega), ul_length, Nat.sub_self]
  show inn b (fun j => (ul b n)[j]!) (n + 1) (n + 1) / _ = _
  rw [inn_congr (n + 1) (Nat.le_refl _) (fun j hj => ul_get b j n (by omega))]
theorem inn_nn {b f : Nat → Rat} {n : Nat} (hb : ∀ s, 0 ≤ b s) (hf : ∀ j, j < n → 0 ≤ f j) : ∀ k, k ≤ n → 0 ≤ inn b f n k
  | 0, _ => by show (0 : Rat) ≤ 0; decide
  | k + 1, h => Rat.add_nonneg (inn_nn hb hf k (by omega)) (Rat.mul_nonneg (hb _) (hf _ (by omega)))
theorem uv_nn {b : Nat → Rat} (hb : ∀ s, 0 ≤ b s) (n : Nat) : 0 ≤ uv b n := by
  induction n using Nat.strongRecOn with
  | ind n ih =>
    cases n with
    | zero => rw [uv_zero]; decide
    | succ n => rw [uv_succ]; exact div_nn (inn_nn hb (fun j hj => ih j (by omega)) _ (Nat.le_refl _)) (cast_pos n)
/-- The first ones together. -/
def us (b : Nat → Rat) (i : Nat) : Rat := ps (uv b) (i + 1)
theorem us_pos {b : Nat → Rat} (hb : ∀ s, 0 ≤ b s) (i : Nat) : 0 < us b i := one_pos (ps_ge (N := i + 1) (uv_zero b) (fun n _ => uv_nn hb n) i (Nat.le_refl _))
theorem us_mono {b : Nat → Rat} (hb : ∀ s, 0 ≤ b s) {i j : Nat} (h : i ≤ j) : us b i ≤ us b j := ps_mono (N := j + 1) (fun n _ => uv_nn hb n) (i + 1) (j + 1) (by omega) (Nat.le_refl _)
/-- How likely a kind of that size goes. -/
def gone (b : Nat → Rat) (L s : Nat) : Rat := if s ≤ L then 1 - us b (L - s) / us b L else 1
theorem gone_mono {b : Nat → Rat} (hb : ∀ s, 0 ≤ b s) (L : Nat) {s t : Nat} (h : s ≤ t) : gone b L s ≤ gone b L t := by
  unfold gone
  have hp := us_pos hb L
  by_cases h1 : t ≤ L
  · rw [if_pos h1, if_pos (by omega)]
    have := div_le_div_right (us_mono hb (show L - t ≤ L - s by omega)) hp
    grind
  · rw [if_neg h1]
    by_cases h2 : s ≤ L
    · rw [if_pos h2]
      have := div_nn (Rat.le_of_lt (us_pos hb (L - s))) hp
      grind
    · rw [if_neg h2]; exact Rat.le_refl

theorem inn_one {b f : Nat → Rat} {n : Nat} (h : ∀ s, 2 ≤ s → b s = 0) : ∀ k, inn b f n (k + 1) = b 1 * f (n - 1)
  | 0 => by show (0 : Rat) + b 1 * f (n - 1) = _; rw [Rat.zero_add]
  | k + 1 => by
    show inn b f n (k + 1) + b (k + 2) * f _ = _
    rw [inn_one h k, h (k + 2) (by omega)]
    grind
theorem uv_one {b : Nat → Rat} {L : Nat} {a : Rat} (h1 : 1 ≤ L → b 1 = a) (h : ∀ s, 2 ≤ s → b s = 0) : ∀ n, n ≤ L → uv b n = wt a n
  | 0, _ => rfl
  | n + 1, hn => by
    rw [uv_succ, inn_one h, h1 (by omega), wt_succ]
    show a * uv b n / _ = _
    rw [uv_one h1 h n (by omega), Rat.mul_comm]
theorem us_one {b : Nat → Rat} {L : Nat} {a : Rat} (h1 : 1 ≤ L → b 1 = a) (h : ∀ s, 2 ≤ s → b s = 0) (i : Nat) (hi : i ≤ L) : us b i = ws a (i + 1) :=
  ps_congr (i + 1) (fun j hj => uv_one h1 h j (by omega))
theorem gone_one {b : Nat → Rat} {L : Nat} {a : Rat} (ha : 0 ≤ a) (h1 : 1 ≤ L → b 1 = a) (h : ∀ s, 2 ≤ s → b s = 0) : gone b L 1 = eb a L := by
  unfold gone
  have hp := ws_pos ha L
  cases L with
  | zero =>
    rw [if_neg (by omega)]
    unfold eb
    have : ws a (0 + 1) = 1 := by show (0 : Rat) + wt a 0 = 1; rw [wt_zero, Rat.zero_add]
    rw [this, wt_zero]
    exact (div_self (by decide)).symm
  | succ L =>
    rw [if_pos (by omega), us_one h1 h _ (by omega), us_one h1 h _ (Nat.le_refl _)]
    show 1 - ws a (L + 1) / ws a (L + 2) = wt a (L + 1) / ws a (L + 2)
    have e : ws a (L + 2) = ws a (L + 1) + wt a (L + 1) := rfl
    have d := div_self (ne_of_pos hp)
    have e2 : ws a (L + 1 + 1) = ws a (L + 2) := rfl
    rw [e2] at d
    rw [← d, Rat.div_def, Rat.div_def, Rat.div_def]
    generalize (ws a (L + 2))⁻¹ = x
    rw [e]
    grind
theorem taken_one {b : Nat → Rat} (hb : ∀ s, 0 ≤ b s) (L : Nat) : ps (fun j => uv b j / us b L) (L + 1) = 1 := by
  rw [ps_div]
  exact div_self (ne_of_pos (us_pos hb L))
end Go.Proofs.YtcelbgleajpenaaGreatDoor.Bth
/- Renewals: how long a thing lasts, who comes, what is left, and what it costs: the sums. -/
namespace Go.Proofs.YtcelbgleajpenaaGreatDoor.Rnw
open Bth

/-- How likely a thing lasts longer. -/
def sv (x : Nat → Rat) (n : Nat) : Rat := 1 - ps x (n + 1)
theorem ps_add (f g : Nat → Rat) (k : Nat) : ps (fun j => f j + g j) k = ps f k + ps g k := by
  induction k with
  | zero => show (0 : Rat) = 0 + 0; grind
  | succ k ih => show ps _ k + (f k + g k) = (ps f k + f k) + (ps g k + g k); rw [ih]; grind
theorem ps_mul (c : Rat) (f : Nat → Rat) (k : Nat) : ps (fun j => c * f j) k = c * ps f k := by
  induction k with
  | zero => show (0 : Rat) = c * 0; grind
  | succ k ih => show ps _ k + c * f k = c * (ps f k + f k); rw [ih]; grind
theorem ps_cut (f : Nat → Rat) (n k : Nat) (hn : n ≤ k) (h : ∀ j, n ≤ j → j < k → f j = 0) : ps f k = ps f n := by
  induction k with
  | zero => obtain rfl : n = 0 := by omega
            rfl
  | succ k ih =>
    rcases Nat.lt_or_ge k n with h' | h'
    · obtain rfl : n = k + 1 := by omega
      rfl
    · show ps f k + f k = _
      rw [ih h' (fun j a b => h j a (by omega)), h k h' (by omega)]
      grind
theorem ps_front (f : Nat → Rat) (k : Nat) : ps f (k + 1) = f 0 + ps (fun j => f (j + 1)) k := by
  induction k with
  | zero => show (0 : Rat) + f 0 = f 0 + 0; grind
  | succ k ih =>
    show ps f (k + 1) + f (k + 1) = f 0 + (ps (fun j => f (j + 1)) k + f (k + 1))
    rw [ih]; grind
theorem ps_rev (f : Nat → Rat) (k : Nat) : ps f k = ps (fun j => f (k - 1 - j)) k := by
  induction k with
  | zero => rfl
  | succ k ih =>
    rw [ps_front (fun j => f (k + 1 - 1 - j)) k]
    show ps f k + f k = f (k + 1 - 1 - 0) + ps (fun j => f (k + 1 - 1 - (j + 1))) k
    rw [ih, show k + 1 - 1 - 0 = k by omega, ps_congr (g := fun j => f (k + 1 - 1 - (j + 1))) k (fun j hj => by show f (k - 1 - j) = f (k + 1 - 1 - (j + 1)); rw [show k + 1 - 1 - (j + 1) = k - 1 - j by omega])]
    grind

/-! What is left -/
theorem sv_step (x : Nat → Rat) (n : Nat) : sv x (n + 1) = sv x n - x (n + 1) := by
  show 1 - (ps x (n + 1) + x (n + 1)) = 1 - ps x (n + 1) - x (n + 1)
  grind
theorem sv_first (x : Nat → Rat) (N : Nat) : ps (sv x) N = ps (fun j => x j * ((j : Nat) : Int)) N + ((N : Nat) : Int) * (1 - ps x N) := by
  induction N with
  | zero => show (0 : Rat) = 0 + (((0 : Nat) : Int) : Rat) * (1 - 0); simp; grind
  | succ N ih =>
    show ps (sv x) N + (1 - (ps x N + x N)) = (ps _ N + x N * ((N : Nat) : Int)) + (((N + 1 : Nat) : Int) : Rat) * (1 - (ps x N + x N))
    rw [ih]
    have e : (((N + 1 : Nat) : Int) : Rat) = (((N : Nat) : Int) : Rat) + 1 := by push_cast; rfl
    rw [e]; grind
theorem sv_second (x : Nat → Rat) (N : Nat) : 2 * ps (fun n => sv x n * ((n : Nat) : Int)) N = ps (fun j => x j * ((j ^ 2 : Nat) : Int)) N - ps (fun j => x j * ((j : Nat) : Int)) N + (((N : Nat) : Int) * ((N : Nat) : Int) - ((N : Nat) : Int)) * (1 - ps x N) := by
  induction N with
  | zero => show 2 * (0 : Rat) = 0 - 0 + ((((0 : Nat) : Int) : Rat) * (((0 : Nat) : Int) : Rat) - (((0 : Nat) : Int) : Rat)) * (1 - 0); simp; grind
  | succ N ih =>
    have E : ∀ (A B C : Rat), 2 * (ps (fun n => sv x n * ((n : Nat) : Int)) N) = A → 2 * (ps (fun n => sv x n * ((n : Nat) : Int)) N + B) = A + 2 * B := fun A B C h => by grind
    show 2 * (ps (fun n => sv x n * ((n : Nat) : Int)) N + (1 - (ps x N + x N)) * ((N : Nat) : Int)) = (ps (fun j => x j * ((j ^ 2 : Nat) : Int)) N + x N * ((N ^ 2 : Nat) : Int)) - (ps (fun j => x j * ((j : Nat) : Int)) N + x N * ((N : Nat) : Int)) + ((((N + 1 : Nat) : Int) : Rat) * (((N + 1 : Nat) : Int) : Rat) - (((N + 1 : Nat) : Int) : Rat)) * (1 - (ps x N + x N))
    rw [E _ _ 0 ih]
    have e : (((N + 1 : Nat) : Int) : Rat) = (((N : Nat) : Int) : Rat) + 1 := by push_cast; rfl
    have e2 : (((N ^ 2 : Nat) : Int) : Rat) = (((N : Nat) : Int) : Rat) * (((N : Nat) : Int) : Rat) := by
      rw [Nat.pow_two]; push_cast; rfl
    rw [e, e2]; grind
/-- A law of ages: none fails at 0, none behind the last. -/
structure Age (x : Nat → Rat) (g : Nat) : Prop where
  z : x 0 = 0
  nn : ∀ j, 0 ≤ x j
  sum : ps x (g + 1) = 1
  out : ∀ j, g < j → x j = 0
theorem Age.upto {x : Nat → Rat} {g : Nat} (h : Age x g) {n : Nat} (hn : g + 1 ≤ n) : ps x n = 1 := by
  rw [ps_cut x (g + 1) n hn (fun j a _ => h.out j (by omega))]; exact h.sum
theorem Age.sv_nn {x : Nat → Rat} {g : Nat} (h : Age x g) (n : Nat) : 0 ≤ sv x n := by
  rcases Nat.lt_or_ge n (g + 1) with a | a
  · have b := ps_mono (N := g + 1) (fun j _ => h.nn j) (n + 1) (g + 1) (by omega) (Nat.le_refl _)
    rw [h.sum] at b
    unfold sv
    grind
  · unfold sv; rw [h.upto (by omega)]; grind
theorem Age.sv_zero {x : Nat → Rat} {g : Nat} (h : Age x g) {n : Nat} (hn : g ≤ n) : sv x n = 0 := by
  unfold sv; rw [h.upto (by omega)]; grind
theorem Age.sv0 {x : Nat → Rat} {g : Nat} (h : Age x g) : sv x 0 = 1 := by
  show 1 - (0 + x 0) = 1
  rw [h.z]; grind
theorem Age.g1 {x : Nat → Rat} {g : Nat} (h : Age x g) : 1 ≤ g := by
  rcases Nat.lt_or_ge 0 g with a | a
  · exact a
  · obtain rfl : g = 0 := by omega
    have := h.sum
    have e : ps x (0 + 1) = 0 := by show (0 : Rat) + x 0 = 0; rw [h.z]; grind
    rw [e] at this
    exact absurd this (by decide)
theorem Age.mean {x : Nat → Rat} {g : Nat} (h : Age x g) : ps (sv x) g = ps (fun j => x j * ((j : Nat) : Int)) (g + 1) := by
  have a := sv_first x (g + 1)
  rw [h.sum] at a
  have b : ps (sv x) (g + 1) = ps (sv x) g + sv x g := rfl
  rw [h.sv_zero (Nat.le_refl _)] at b
  grind
theorem Age.there {x : Nat → Rat} {g : Nat} (h : Age x g) {n : Nat} (hn : 1 ≤ n) : 1 ≤ ps (sv x) n := by
  obtain ⟨k, rfl⟩ : ∃ k, n = k + 1 := ⟨n - 1, by omega⟩
  exact ps_ge (N := k + 1) h.sv0 (fun j _ => h.sv_nn j) k (Nat.le_refl _)
theorem Age.ne {x : Nat → Rat} {g : Nat} (h : Age x g) {n : Nat} (hn : 1 ≤ n) : ps (sv x) n ≠ 0 := ne_of_pos (one_pos (h.there hn))
theorem Age.share {x : Nat → Rat} {g : Nat} (h : Age x g) : ps (fun n => sv x n / ps (sv x) g) g = 1 := by
  rw [ps_div]
  exact div_self (h.ne h.g1)
theorem Age.share_nn {x : Nat → Rat} {g : Nat} (h : Age x g) (n : Nat) : 0 ≤ sv x n / ps (sv x) g := div_nn (h.sv_nn n) (one_pos (h.there h.g1))
/-- Twice the mean of what is left: the mean square by the mean, less one. -/
theorem Age.waits {x : Nat → Rat} {g : Nat} (h : Age x g) : ps (fun n => sv x n / ps (sv x) g * ((n : Nat) : Int)) g + ps (fun n => sv x n / ps (sv x) g * ((n : Nat) : Int)) g = ps (fun j => x j * ((j ^ 2 : Nat) : Int)) (g + 1) / ps (fun j => x j * ((j : Nat) : Int)) (g + 1) - 1 := by
  have a := sv_second x (g + 1)
  rw [h.sum] at a
  have b : ps (fun n => sv x n * ((n : Nat) : Int)) (g + 1) = ps (fun n => sv x n * ((n : Nat) : Int)) g + sv x g * ((g : Nat) : Int) := rfl
  rw [h.sv_zero (Nat.le_refl _)] at b
  have hm := h.mean
  have hne := h.ne h.g1
  rw [hm] at hne ⊢
  obtain ⟨m, e⟩ : ∃ m, ps (fun j => x j * ((j : Nat) : Int)) (g + 1) = m := ⟨_, rfl⟩
  rw [e] at hne a ⊢
  have c : ps (fun n => sv x n / m * ((n : Nat) : Int)) g = ps (fun n => sv x n * ((n : Nat) : Int)) g / m := by
    rw [← ps_div]
    exact ps_congr _ (fun j _ => by rw [Rat.div_def, Rat.div_def]; grind)
  have hi : m * m⁻¹ = 1 := Rat.mul_inv_cancel _ hne
  rw [c, Rat.div_def, Rat.div_def]
  grind

/-! What it costs -/
def cst (fa pl : Rat) (x : Nat → Rat) (n : Nat) : Rat := (fa * (1 - sv x n) + pl * sv x n) / ps (sv x) n
theorem Age.cst_out {x : Nat → Rat} {g : Nat} (h : Age x g) (fa pl : Rat) {n : Nat} (hn : g ≤ n) : cst fa pl x n = cst fa pl x g := by
  unfold cst
  rw [h.sv_zero hn, h.sv_zero (Nat.le_refl g), ps_cut (sv x) g n hn (fun j a _ => h.sv_zero a)]
/-- The first age from 1 to n that costs the least. -/
def bst (f : Nat → Rat) : Nat → Nat
  | 0 => 0
  | n + 1 => if bst f n = 0 then n + 1 else if f (n + 1) < f (bst f n) then n + 1 else bst f n
theorem bst_le (f : Nat → Rat) : ∀ n, 1 ≤ n → 1 ≤ bst f n ∧ bst f n ≤ n ∧ ∀ j, 1 ≤ j → j ≤ n → f (bst f n) ≤ f j
  | 0, h => absurd h (by decide)
  | 1, _ => by
    have e : bst f 1 = 1 := by show (if (0 : Nat) = 0 then 1 else _) = 1; rw [if_pos rfl]
    rw [e]
    refine ⟨Nat.le_refl _, Nat.le_refl _, fun j a b => ?_⟩
    obtain rfl : j = 1 := by omega
    exact Rat.le_refl
  | n + 2, _ => by
    obtain ⟨a, b, c⟩ := bst_le f (n + 1) (by omega)
    have e : bst f (n + 2) = if f (n + 2) < f (bst f (n + 1)) then n + 2 else bst f (n + 1) := by
      show (if bst f (n + 1) = 0 then _ else _) = _
      rw [if_neg (by omega)]
    rw [e]
    by_cases hl : f (n + 2) < f (bst f (n + 1))
    · rw [if_pos hl]
      refine ⟨by omega, Nat.le_refl _, fun j h1 h2 => ?_⟩
      rcases Nat.lt_or_ge j (n + 2) with h3 | h3
      · have := c j h1 (by omega)
        grind
      · obtain rfl : j = n + 2 := by omega
        exact Rat.le_refl
    · rw [if_neg hl]
      refine ⟨a, by omega, fun j h1 h2 => ?_⟩
      rcases Nat.lt_or_ge j (n + 2) with h3 | h3
      · exact c j h1 (by omega)
      · obtain rfl : j = n + 2 := by omega
        grind
theorem Age.best {x : Nat → Rat} {g : Nat} (h : Age x g) (fa pl : Rat) {n : Nat} (hn : 1 ≤ n) : cst fa pl x (bst (cst fa pl x) g) ≤ cst fa pl x n := by
  obtain ⟨_, _, c⟩ := bst_le (cst fa pl x) g h.g1
  rcases Nat.lt_or_ge n (g + 1) with a | a
  · exact c n hn (by omega)
  · rw [h.cst_out fa pl (show g ≤ n by omega)]
    exact c g h.g1 (Nat.le_refl _)

/-! Who comes -/
def ul (x : Nat → Rat) : Nat → List Rat
  | 0 => [1]
  | n + 1 => ul x n ++ [ps (fun p => (ul x n)[p]! * x (n + 1 - p)) (n + 1)]
theorem ul_len (x : Nat → Rat) : ∀ n, (ul x n).length = n + 1
  | 0 => rfl
  | n + 1 => by show (ul x n ++ _).length = _; rw [List.length_append, ul_len x n]; rfl
/-- How likely one fails at a time. -/
def u (x : Nat → Rat) (n : Nat) : Rat := (ul x n)[n]!
theorem ul_get (x : Nat → Rat) : ∀ n p, p ≤ n → (ul x n)[p]! = u x p
  | 0, p, h => by obtain rfl : p = 0 := by omega
                  rfl
  | n + 1, p, h => by
    rcases Nat.lt_or_ge p (n + 1) with a | a
    · rw [← ul_get x n p (by omega)]
      show (ul x n ++ _)[p]! = _
      rw [List.getElem!_eq_getElem?_getD, List.getElem!_eq_getElem?_getD, List.getElem?_append_left (by rw [ul_len]; omega)]
    · obtain rfl : p = n + 1 := by omega
      rfl
theorem u_zero (x : Nat → Rat) : u x 0 = 1 := rfl
theorem u_step (x : Nat → Rat) (n : Nat) : u x (n + 1) = ps (fun p => u x p * x (n + 1 - p)) (n + 1) := by
  show (ul x n ++ [_])[n + 1]! = _
  rw [List.getElem!_eq_getElem?_getD, List.getElem?_append_right (by rw [ul_len]; omega), ul_len, Nat.sub_self]
  exact ps_congr _ (fun p hp => by show (ul x n)[p]! * _ = _; rw [ul_get x n p (by omega)])
/-- How many fail up to a time. -/
def mv (x : Nat → Rat) (n : Nat) : Rat := ps (fun i => u x (i + 1)) n
def eqn (x : Nat → Rat) (t k : Nat) : Rat := ps (fun k => x (k + 1) * (1 + mv x (t - (k + 1)))) k
theorem renewal (x : Nat → Rat) : ∀ t, eqn x t t = mv x t
  | 0 => rfl
  | t + 1 => by
    have ih := renewal x t
    show ps (fun k => x (k + 1) * (1 + mv x (t + 1 - (k + 1)))) t + x (t + 1) * (1 + mv x (t + 1 - (t + 1))) = mv x t + u x (t + 1)
    have e1 : ps (fun k => x (k + 1) * (1 + mv x (t + 1 - (k + 1)))) t = eqn x t t + ps (fun k => x (k + 1) * u x (t - k)) t := by
      show _ = ps (fun k => x (k + 1) * (1 + mv x (t - (k + 1)))) t + _
      rw [← ps_add]
      refine ps_congr _ (fun k hk => ?_)
      obtain ⟨d, hd⟩ : ∃ d, t - k = d + 1 := ⟨t - k - 1, by omega⟩
      rw [show t + 1 - (k + 1) = d + 1 by omega, show t - (k + 1) = d by omega, hd]
      show x (k + 1) * (1 + (mv x d + u x (d + 1))) = _
      grind
    have e2 : u x (t + 1) = ps (fun k => x (k + 1) * u x (t - k)) t + x (t + 1) * 1 := by
      have e : ps (fun k => x (k + 1) * u x (t - k)) (t + 1) = ps (fun k => x (k + 1) * u x (t - k)) t + x (t + 1) * 1 := by
        show ps (fun k => x (k + 1) * u x (t - k)) t + x (t + 1) * u x (t - t) = _
        rw [Nat.sub_self]; rfl
      rw [u_step, ps_rev, ← e]
      refine ps_congr _ (fun k hk => ?_)
      show u x (t + 1 - 1 - k) * x (t + 1 - (t + 1 - 1 - k)) = _
      rw [show t + 1 - 1 - k = t - k by omega, show t + 1 - (t - k) = k + 1 by omega, Rat.mul_comm]
    have e3 : mv x (t + 1 - (t + 1)) = 0 := by rw [Nat.sub_self]; rfl
    rw [e1, e3, e2, ih]
    grind
end Go.Proofs.YtcelbgleajpenaaGreatDoor.Rnw
