/- Parts that work or don't, none hanging on another: the chance of what holds of a set of them. -/
import Derived.Test.YtpopcfclpemlaaaDoorM20
namespace Go.Proofs.YtpopcfclpemlaaaDoor.Rsk

/-- How likely something is: part by part, the last one first. -/
def lk (p : Nat → Rat) : Nat → (Nat → Rat) → Rat
  | 0, f => f 0
  | n + 1, f => lk p n (fun i => p n * f (i + 2 ^ n) + (1 - p n) * f i)
theorem pow_succ2 (n : Nat) : 2 ^ (n + 1) = 2 ^ n + 2 ^ n := by rw [Nat.pow_succ]; omega
theorem lk_congr {p q : Nat → Rat} : ∀ (n : Nat) {f g : Nat → Rat}, (∀ k, k < n → p k = q k) → (∀ i, i < 2 ^ n → f i = g i) → lk p n f = lk q n g
  | 0, f, g, _, h => h 0 (by decide)
  | n + 1, f, g, hp, h => lk_congr n (fun k hk => hp k (by omega)) (fun i hi => by
    have e := pow_succ2 n
    show p n * f (i + 2 ^ n) + (1 - p n) * f i = q n * g (i + 2 ^ n) + (1 - q n) * g i
    rw [hp n (by omega), h (i + 2 ^ n) (by omega), h i (by omega)])
theorem lk_comb (p : Nat → Rat) (a b : Rat) : ∀ (n : Nat) (f g : Nat → Rat), lk p n (fun i => a * f i + b * g i) = a * lk p n f + b * lk p n g
  | 0, f, g => rfl
  | n + 1, f, g => by
    show lk p n (fun i => p n * (a * f (i + 2 ^ n) + b * g (i + 2 ^ n)) + (1 - p n) * (a * f i + b * g i)) = a * lk p n _ + b * lk p n _
    rw [← lk_comb p a b n]
    exact lk_congr n (fun _ _ => rfl) (fun i _ => by grind)
/-- One part's chance is another. -/
def put (p : Nat → Rat) (k : Nat) (v : Rat) : Nat → Rat := fun i => if i = k then v else p i
theorem put_same (p : Nat → Rat) (k : Nat) (v : Rat) : put p k v k = v := if_pos rfl
theorem put_other (p : Nat → Rat) {k i : Nat} (v : Rat) (h : i ≠ k) : put p k v i = p i := if_neg h
theorem lk_top (p : Nat → Rat) (n : Nat) (v : Rat) (f : Nat → Rat) : lk (put p n v) (n + 1) f = v * lk p n (fun i => f (i + 2 ^ n)) + (1 - v) * lk p n f := by
  show lk (put p n v) n (fun i => put p n v n * f (i + 2 ^ n) + (1 - put p n v n) * f i) = _
  rw [put_same, ← lk_comb]
  exact lk_congr n (fun k hk => put_other p v (by omega)) (fun i _ => rfl)
theorem lk_put_low (p : Nat → Rat) (n k : Nat) (hk : k < n) (v : Rat) (f : Nat → Rat) : lk (put p k v) (n + 1) f = lk (put p k v) n (fun i => p n * f (i + 2 ^ n) + (1 - p n) * f i) := by
  show lk (put p k v) n (fun i => put p k v n * f (i + 2 ^ n) + (1 - put p k v n) * f i) = _
  rw [put_other p v (by omega)]
/-- The chance hangs on each part by how much it counts. -/
theorem pivot (p : Nat → Rat) (k : Nat) : ∀ (n : Nat) (f : Nat → Rat), k < n → lk p n f = lk (put p k 0) n f + p k * (lk (put p k 1) n f - lk (put p k 0) n f)
  | 0, f, h => absurd h (Nat.not_lt_zero _)
  | n + 1, f, h => by
    by_cases e : k = n
    · subst e
      rw [lk_top, lk_top]
      show lk p k (fun i => p k * f (i + 2 ^ k) + (1 - p k) * f i) = _
      rw [lk_comb]
      grind
    · rw [lk_put_low p n k (by omega), lk_put_low p n k (by omega)]
      exact pivot p k n _ (by omega)
theorem mix_le {v a b c d : Rat} (h0 : 0 ≤ v) (h1 : v ≤ 1) (ha : a ≤ c) (hb : b ≤ d) : v * a + (1 - v) * b ≤ v * c + (1 - v) * d := by
  have x := Rat.mul_le_mul_of_nonneg_left ha h0
  have y := Rat.mul_le_mul_of_nonneg_left hb (show 0 ≤ 1 - v by grind)
  grind
theorem lk_mono {p : Nat → Rat} : ∀ (n : Nat) {f g : Nat → Rat}, (∀ k, k < n → 0 ≤ p k ∧ p k ≤ 1) → (∀ i, i < 2 ^ n → f i ≤ g i) → lk p n f ≤ lk p n g
  | 0, f, g, _, h => h 0 (by decide)
  | n + 1, f, g, hp, h => lk_mono n (fun k hk => hp k (by omega)) (fun i hi => by
    have e := pow_succ2 n
    exact mix_le (hp n (by omega)).1 (hp n (by omega)).2 (h (i + 2 ^ n) (by omega)) (h i (by omega)))
theorem lk_const (p : Nat → Rat) (c : Rat) : ∀ (n : Nat), lk p n (fun _ => c) = c
  | 0 => rfl
  | n + 1 => by
    show lk p n (fun _ => p n * c + (1 - p n) * c) = c
    have e : p n * c + (1 - p n) * c = c := by grind
    rw [e]; exact lk_const p c n
/-- One part more never makes it worse. -/
def Mon (n : Nat) (f : Nat → Rat) : Prop := ∀ k i, k < n → i < 2 ^ n → i.testBit k = false → f i ≤ f (i + 2 ^ k)
theorem bit_high {i k n : Nat} (h : k < n) : (i + 2 ^ n).testBit k = i.testBit k := by
  rw [Nat.add_comm]; exact Nat.testBit_two_pow_add_gt h i
theorem bit_low {i n : Nat} (h : i < 2 ^ n) : i.testBit n = false := Nat.testBit_lt_two_pow h
theorem bit_room {i k n : Nat} (hk : k < n) (hi : i < 2 ^ n) (hb : i.testBit k = false) : i + 2 ^ k < 2 ^ n := by
  have h1 : i / 2 ^ k % 2 = 0 := by
    rw [Nat.testBit_eq_decide_div_mod_eq, decide_eq_false_iff_not] at hb
    omega
  have h2 : i % 2 ^ (k + 1) < 2 ^ k := by
    rw [Nat.mod_pow_succ, h1, Nat.mul_zero, Nat.add_zero]
    exact Nat.mod_lt _ (Nat.pow_pos (by decide))
  have h3 := Nat.div_add_mod i (2 ^ (k + 1))
  have e : 2 ^ n = 2 ^ (k + 1) * 2 ^ (n - (k + 1)) := by rw [← Nat.pow_add]; congr 1; omega
  have h4 : i / 2 ^ (k + 1) < 2 ^ (n - (k + 1)) := Nat.div_lt_of_lt_mul (by rw [← e]; exact hi)
  have h5 := Nat.mul_le_mul_left (2 ^ (k + 1)) (show i / 2 ^ (k + 1) + 1 ≤ 2 ^ (n - (k + 1)) from h4)
  rw [← e, Nat.mul_add, Nat.mul_one] at h5
  have e2 := pow_succ2 k
  omega
theorem counts_nn {p : Nat → Rat} (k : Nat) : ∀ (n : Nat) (f : Nat → Rat), k < n → (∀ j, j < n → 0 ≤ p j ∧ p j ≤ 1) → Mon n f → lk (put p k 0) n f ≤ lk (put p k 1) n f
  | 0, f, h, _, _ => absurd h (Nat.not_lt_zero _)
  | n + 1, f, h, hp, hm => by
    have e2 := pow_succ2 n
    by_cases e : k = n
    · subst e
      rw [lk_top, lk_top]
      have := lk_mono (p := p) k (f := f) (g := fun i => f (i + 2 ^ k)) (fun j hj => hp j (by omega)) (fun i hi => hm k i (by omega) (by omega) (bit_low hi))
      grind
    · rw [lk_put_low p n k (by omega), lk_put_low p n k (by omega)]
      refine counts_nn k n _ (by omega) (fun j hj => hp j (by omega)) (fun j i hj hi hb => ?_)
      have a := hm j (i + 2 ^ n) (by omega) (by omega) (by rw [bit_high hj]; exact hb)
      have b := hm j i (by omega) (by omega) hb
      rw [show i + 2 ^ n + 2 ^ j = i + 2 ^ j + 2 ^ n by omega] at a
      exact mix_le (hp n (by omega)).1 (hp n (by omega)).2 a b
theorem lk_bounds {p : Nat → Rat} {n : Nat} {f : Nat → Rat} (hp : ∀ j, j < n → 0 ≤ p j ∧ p j ≤ 1) (hf : ∀ i, i < 2 ^ n → 0 ≤ f i ∧ f i ≤ 1) : 0 ≤ lk p n f ∧ lk p n f ≤ 1 := by
  have a := lk_mono (p := p) n (f := fun _ => 0) (g := f) hp (fun i hi => (hf i hi).1)
  have b := lk_mono (p := p) n (f := f) (g := fun _ => 1) hp (fun i hi => (hf i hi).2)
  rw [lk_const] at a b
  exact ⟨a, b⟩
end Go.Proofs.YtpopcfclpemlaaaDoor.Rsk
/- Things of gates: what works by which parts; the least sets by which it does, and without which it does not. -/
namespace Go.Proofs.YtpopcfclpemlaaaDoor.Rsk

/-- Gates: how many each asks for, how many it stands on, and what. -/
structure Gs where
  L : Nat → Int
  C : Nat → Nat
  R : Nat → Nat → Int
/-- Whether what one gate stands on works: a part, or a gate ahead. -/
def hit (gs : List Bool) (s : Nat) (name : Int) : Bool := if 0 ≤ name then s.testBit name.toNat else gs[(-name - 1).toNat]!
def many (gs : List Bool) (s : Nat) (on : Nat → Int) : Nat → Nat
  | 0 => 0
  | k + 1 => many gs s on k + if hit gs s (on k) = true then 1 else 0
def gtv (l : Gs) (s : Nat) : Nat → List Bool
  | 0 => []
  | i + 1 => gtv l s i ++ [decide (l.L i ≤ (many (gtv l s i) s (l.R i) (l.C i) : Int))]
theorem gtv_len (l : Gs) (s : Nat) : ∀ i, (gtv l s i).length = i
  | 0 => rfl
  | i + 1 => by show (gtv l s i ++ [_]).length = _; rw [List.length_append, gtv_len l s i]; rfl
/-- Whether the whole works. -/
def wk (l : Gs) (N : Nat) (s : Nat) : Bool := (gtv l s N)[N - 1]!
def Sub (s t : Nat) : Prop := ∀ k, s.testBit k = true → t.testBit k = true
theorem many_le (gs : List Bool) (s : Nat) (on : Nat → Int) : ∀ k, many gs s on k ≤ k
  | 0 => Nat.le_refl _
  | k + 1 => by
    have := many_le gs s on k
    show many gs s on k + (if _ then 1 else 0) ≤ k + 1
    split <;> omega
theorem hit_mono {g h : List Bool} {s t : Nat} (hs : Sub s t) (hg : ∀ j : Nat, g[j]! = true → h[j]! = true) (name : Int) (e : hit g s name = true) : hit h t name = true := by
  unfold hit at e ⊢
  split at e
  · rename_i h0; rw [if_pos h0]; exact hs _ e
  · rename_i h0; rw [if_neg h0]; exact hg _ e
theorem many_mono {g h : List Bool} {s t : Nat} (hs : Sub s t) (hg : ∀ j : Nat, g[j]! = true → h[j]! = true) (on : Nat → Int) : ∀ k, many g s on k ≤ many h t on k
  | 0 => Nat.le_refl _
  | k + 1 => by
    have := many_mono hs hg on k
    show many g s on k + (if _ then 1 else 0) ≤ many h t on k + (if _ then 1 else 0)
    by_cases e : hit g s (on k) = true
    · rw [if_pos e, if_pos (hit_mono hs hg _ e)]; omega
    · rw [if_neg e]; split <;> omega
theorem get_app_lt {g : List Bool} {b : Bool} {j : Nat} (h : j < g.length) : (g ++ [b])[j]! = g[j]! := by
  rw [List.getElem!_eq_getElem?_getD, List.getElem!_eq_getElem?_getD, List.getElem?_append_left h]
theorem get_app_eq {g : List Bool} {b : Bool} {j : Nat} (h : j = g.length) : (g ++ [b])[j]! = b := by
  rw [List.getElem!_eq_getElem?_getD, List.getElem?_append_right (by omega), h, Nat.sub_self]; rfl
theorem get_app_gt {g : List Bool} {b : Bool} {j : Nat} (h : g.length < j) : (g ++ [b])[j]! = false := by
  rw [List.getElem!_eq_getElem?_getD, List.getElem?_eq_none (by rw [List.length_append]; show _ + 1 ≤ _; omega)]; rfl
theorem gtv_mono {s t : Nat} (l : Gs) (hs : Sub s t) : ∀ (i j : Nat), (gtv l s i)[j]! = true → (gtv l t i)[j]! = true
  | 0, j, h => h
  | i + 1, j, h => by
    have ih := gtv_mono l hs i
    have e1 := gtv_len l s i
    have e2 := gtv_len l t i
    change (gtv l s i ++ [_])[j]! = true at h
    show (gtv l t i ++ [_])[j]! = true
    rcases Nat.lt_trichotomy j i with a | a | a
    · rw [get_app_lt (by omega)] at h ⊢; exact ih j h
    · rw [get_app_eq (by omega)] at h ⊢
      have := many_mono hs ih (l.R i) (l.C i)
      have := of_decide_eq_true h
      exact decide_eq_true (by omega)
    · rw [get_app_gt (by omega)] at h; cases h
theorem wk_mono {s t : Nat} (l : Gs) (N : Nat) (hs : Sub s t) (h : wk l N s = true) : wk l N t = true := gtv_mono l hs _ _ h
/-- A number's gate is what was found when it came. -/
theorem gtv_get (l : Gs) (s : Nat) : ∀ n i, i < n → (gtv l s n)[i]! = (gtv l s (i + 1))[i]!
  | 0, i, h => absurd h (Nat.not_lt_zero _)
  | n + 1, i, h => by
    rcases Nat.lt_or_ge i n with a | a
    · rw [← gtv_get l s n i a]
      exact get_app_lt (by rw [gtv_len]; exact a)
    · obtain rfl : i = n := by omega
      rfl
theorem or_add : ∀ (n a b : Nat), a < 2 ^ n → a &&& b = 0 → a ||| b = a + b
  | 0, a, b, ha, _ => by
    obtain rfl : a = 0 := by omega
    rw [Nat.zero_or, Nat.zero_add]
  | n + 1, a, b, ha, h => by
    have e := pow_succ2 n
    have ea := Nat.div_add_mod a 2
    have eb := Nat.div_add_mod b 2
    have eo := Nat.div_add_mod (a ||| b) 2
    have h2 : a / 2 &&& b / 2 = 0 := by rw [← Nat.and_div_two, h]
    have ih := or_add n (a / 2) (b / 2) (by omega) h2
    rw [← Nat.or_div_two] at ih
    have m : a % 2 &&& b % 2 = 0 := by rw [← Nat.and_mod_two_pow (n := 1), h]
    have mo : (a ||| b) % 2 = a % 2 ||| b % 2 := Nat.or_mod_two_pow (n := 1)
    have : a % 2 ||| b % 2 = a % 2 + b % 2 := by
      rcases Nat.mod_two_eq_zero_or_one a with x | x <;> rcases Nat.mod_two_eq_zero_or_one b with y | y <;> rw [x, y] at m ⊢ <;> first | decide | exact absurd m (by decide)
    omega
theorem or_bit {i k : Nat} (hb : i.testBit k = false) : i ||| 2 ^ k = i + 2 ^ k := by
  have h : i &&& 2 ^ k = 0 := by
    apply Nat.eq_of_testBit_eq
    intro j
    rw [Nat.testBit_and, Nat.testBit_two_pow, Nat.zero_testBit]
    by_cases e : k = j
    · subst e; rw [hb]; rfl
    · rw [decide_eq_false e, Bool.and_false]
  exact or_add i i (2 ^ k) Nat.lt_two_pow_self h
theorem sub_add {i k : Nat} (hb : i.testBit k = false) : Sub i (i + 2 ^ k) := by
  intro j h
  rw [← or_bit hb, Nat.testBit_or, h]; rfl
/-- What is asked of one set, as a number. -/
def wf (l : Gs) (N : Nat) (s : Nat) : Rat := if wk l N s = true then 1 else 0
theorem wf_mon (l : Gs) (N n : Nat) : Mon n (wf l N) := fun k i _ _ hb => by
  unfold wf
  by_cases e : wk l N i = true
  · rw [if_pos e, if_pos (wk_mono l N (sub_add hb) e)]; exact Rat.le_refl
  · rw [if_neg e]; split
    · decide
    · exact Rat.le_refl
theorem wf_bd (l : Gs) (N : Nat) (i : Nat) : 0 ≤ wf l N i ∧ wf l N i ≤ 1 := by
  unfold wf
  split
  · decide
  · decide

theorem many_congr (gs : List Bool) (s : Nat) {f g : Nat → Int} : ∀ k, (∀ j, j < k → f j = g j) → many gs s f k = many gs s g k
  | 0, _ => rfl
  | k + 1, h => by
    show many gs s f k + (if _ then 1 else 0) = many gs s g k + (if _ then 1 else 0)
    rw [many_congr gs s k (fun j hj => h j (by omega)), h k (by omega)]
theorem gtv_congr {l m : Gs} (s : Nat) : ∀ n, (∀ i, i < n → l.L i = m.L i ∧ l.C i = m.C i ∧ ∀ j, j < m.C i → l.R i j = m.R i j) → gtv l s n = gtv m s n
  | 0, _ => rfl
  | n + 1, h => by
    obtain ⟨a, b, c⟩ := h n (by omega)
    show gtv l s n ++ [decide (l.L n ≤ (many (gtv l s n) s (l.R n) (l.C n) : Int))] = gtv m s n ++ [_]
    rw [gtv_congr s n (fun i hi => h i (by omega)), a, b, many_congr (gtv m s n) s (m.C n) c]
theorem wk_congr {l m : Gs} {N : Nat} (s : Nat) (h : ∀ i, i < N → l.L i = m.L i ∧ l.C i = m.C i ∧ ∀ j, j < m.C i → l.R i j = m.R i j) : wk l N s = wk m N s := by
  unfold wk; rw [gtv_congr s N h]

/-! The least sets -/
def drop1 (s k : Nat) : Nat := s - 2 ^ k
/-- A set of which it holds, and of none without one of its parts. -/
def lst1 (parts : Nat) (f : Nat → Bool) (s : Nat) : Bool := f s && (List.range parts).all (fun k => !(s.testBit k && f (drop1 s k)))
def lsts (parts : Nat) (f : Nat → Bool) (n : Nat) : List Nat := (List.range n).filter (lst1 parts f)
theorem lsts_step (parts : Nat) (f : Nat → Bool) (n : Nat) : lsts parts f (n + 1) = lsts parts f n ++ (if lst1 parts f n = true then [n] else []) := by
  unfold lsts
  rw [List.range_succ, List.filter_append]
  congr 1
  by_cases e : lst1 parts f n = true
  · rw [if_pos e, List.filter_cons_of_pos e]; rfl
  · rw [if_neg e, List.filter_cons_of_neg e]; rfl
theorem lsts_rise (parts : Nat) (f : Nat → Bool) (n : Nat) : ∀ i j, i < j → j < (lsts parts f n).length → (lsts parts f n)[i]! < (lsts parts f n)[j]! := by
  have h : (lsts parts f n).Pairwise (· < ·) := List.Pairwise.filter _ List.pairwise_lt_range
  intro i j h1 h2
  rw [List.getElem!_eq_getElem?_getD, List.getElem!_eq_getElem?_getD, List.getElem?_eq_getElem h2, List.getElem?_eq_getElem (by omega)]
  exact List.pairwise_iff_getElem.1 h i j _ _ h1
theorem lsts_mem {parts : Nat} {f : Nat → Bool} {n i : Nat} (h : i < (lsts parts f n).length) : (lsts parts f n)[i]! < n ∧ f (lsts parts f n)[i]! = true ∧ lst1 parts f (lsts parts f n)[i]! = true := by
  have hm : (lsts parts f n)[i]! ∈ lsts parts f n := by
    rw [List.getElem!_eq_getElem?_getD, List.getElem?_eq_getElem h]; exact List.getElem_mem h
  obtain ⟨a, b⟩ := List.mem_filter.1 hm
  have b' := b
  unfold lst1 at b'
  rw [Bool.and_eq_true] at b'
  exact ⟨List.mem_range.1 a, b'.1, b⟩
/-- Where it holds of something, there is a least one. -/
theorem lsts_some {parts : Nat} {f : Nat → Bool} {n : Nat} : ∀ s, s < n → f s = true → 0 < (lsts parts f n).length := by
  intro s
  induction s using Nat.strongRecOn with
  | ind s ih =>
    intro hs hf
    by_cases hl : lst1 parts f s = true
    · have : s ∈ lsts parts f n := List.mem_filter.2 ⟨List.mem_range.2 hs, hl⟩
      exact List.length_pos_of_mem this
    · unfold lst1 at hl
      rw [hf, Bool.true_and, Bool.not_eq_true, List.all_eq_false] at hl
      obtain ⟨k, _, hk⟩ := hl
      have hk' : (s.testBit k && f (drop1 s k)) = true := by
        cases h : (s.testBit k && f (drop1 s k))
        · rw [h] at hk; exact absurd rfl hk
        · rfl
      rw [Bool.and_eq_true] at hk'
      have hlt : drop1 s k < s := by
        have := Nat.ge_two_pow_of_testBit hk'.1
        have := Nat.pow_pos (n := k) (show 0 < 2 by decide)
        unfold drop1; omega
      exact ih _ hlt (by omega) hk'.2
/-- All parts but those of a set. -/
def rest (parts c : Nat) : Nat := 2 ^ parts - 1 - c
theorem rest_bit {parts c k : Nat} (hc : c < 2 ^ parts) : (rest parts c).testBit k = (decide (k < parts) && !c.testBit k) := by
  unfold rest
  rw [show 2 ^ parts - 1 - c = 2 ^ parts - (c + 1) by omega]
  exact Nat.testBit_two_pow_sub_succ hc k
theorem meets {parts : Nat} {l : Gs} {N : Nat} {p c : Nat} (hp : p < 2 ^ parts) (hc : c < 2 ^ parts) (h1 : wk l N p = true) (h2 : wk l N (rest parts c) = false) : p &&& c ≠ 0 := by
  intro h
  have : wk l N (rest parts c) = true := wk_mono l N (fun k hk => by
    rw [rest_bit hc]
    have a : k < parts := by
      rcases Nat.lt_or_ge k parts with a | a
      · exact a
      · rw [Nat.testBit_lt_two_pow (Nat.lt_of_lt_of_le hp (Nat.pow_le_pow_right (by decide) a))] at hk; cases hk
    have b : (p &&& c).testBit k = false := by rw [h]; exact Nat.zero_testBit k
    rw [Nat.testBit_and, hk, Bool.true_and] at b
    rw [b, decide_eq_true a]; rfl) h1
  rw [h2] at this; cases this
theorem some_set (parts : Nat) (l : Gs) (N : Nat) : 0 < (lsts parts (wk l N) (2 ^ parts)).length + (lsts parts (fun s => !wk l N (rest parts s)) (2 ^ parts)).length := by
  have hp := Nat.pow_pos (n := parts) (show 0 < 2 by decide)
  by_cases h : wk l N (rest parts 0) = true
  · have := lsts_some (parts := parts) (f := wk l N) (n := 2 ^ parts) (rest parts 0) (by unfold rest; omega) h
    omega
  · have := lsts_some (parts := parts) (f := fun s => !wk l N (rest parts s)) (n := 2 ^ parts) 0 hp (by rw [Bool.not_eq_true] at h; show (!wk l N (rest parts 0)) = true; rw [h]; rfl)
    omega
end Go.Proofs.YtpopcfclpemlaaaDoor.Rsk
/- Parts in a row: as likely as the gates that say so (numbers as polynomials of the one chance). -/
namespace Go.Proofs.YtpopcfclpemlaaaDoor.Rsk

def pe (q : Rat) : List Int → Rat
  | [] => 0
  | a :: t => (a : Rat) + q * pe q t
def padd : List Int → List Int → List Int
  | [], b => b
  | a :: t, [] => a :: t
  | a :: t, b :: u => (a + b) :: padd t u
def pscl (c : Int) : List Int → List Int
  | [] => []
  | a :: t => (c * a) :: pscl c t
def pmul : List Int → List Int → List Int
  | [], _ => []
  | a :: t, b => padd (pscl a b) (0 :: pmul t b)
theorem pe_add (q : Rat) : ∀ a b, pe q (padd a b) = pe q a + pe q b
  | [], b => by show pe q b = 0 + pe q b; grind
  | a :: t, [] => by show pe q (a :: t) = pe q (a :: t) + 0; grind
  | a :: t, b :: u => by
    show ((a + b : Int) : Rat) + q * pe q (padd t u) = ((a : Rat) + q * pe q t) + ((b : Rat) + q * pe q u)
    rw [pe_add q t u, show ((a + b : Int) : Rat) = (a : Rat) + (b : Rat) by push_cast; rfl]; grind
theorem pe_scl (q : Rat) (c : Int) : ∀ a, pe q (pscl c a) = (c : Rat) * pe q a
  | [] => by show (0 : Rat) = _ * 0; grind
  | a :: t => by
    show ((c * a : Int) : Rat) + q * pe q (pscl c t) = _ * ((a : Rat) + q * pe q t)
    rw [pe_scl q c t, show ((c * a : Int) : Rat) = (c : Rat) * (a : Rat) by push_cast; rfl]; grind
theorem pe_mul (q : Rat) : ∀ a b, pe q (pmul a b) = pe q a * pe q b
  | [], b => by show (0 : Rat) = 0 * _; grind
  | a :: t, b => by
    show pe q (padd (pscl a b) (0 :: pmul t b)) = ((a : Rat) + q * pe q t) * pe q b
    rw [pe_add, pe_scl]
    show _ + (((0 : Int) : Rat) + q * pe q (pmul t b)) = _
    rw [pe_mul q t b, show ((0 : Int) : Rat) = 0 by simp]; grind
def psub (a b : List Int) : List Int := padd a (pscl (-1) b)
theorem pe_sub (q : Rat) (a b : List Int) : pe q (psub a b) = pe q a - pe q b := by
  unfold psub
  rw [pe_add, pe_scl, show ((-1 : Int) : Rat) = -1 by simp]; grind
def pzero : List Int → Bool
  | [] => true
  | a :: t => decide (a = 0) && pzero t
theorem pe_zero (q : Rat) : ∀ a, pzero a = true → pe q a = 0
  | [], _ => rfl
  | a :: t, h => by
    unfold pzero at h
    rw [Bool.and_eq_true, decide_eq_true_eq] at h
    show (a : Rat) + q * pe q t = 0
    rw [h.1, pe_zero q t h.2, show ((0 : Int) : Rat) = 0 by simp]; grind
theorem pe_one (q : Rat) : pe q [1] = 1 := by
  show ((1 : Int) : Rat) + q * 0 = 1
  rw [show ((1 : Int) : Rat) = 1 by simp]; grind
theorem pe_q (q : Rat) : pe q [0, 1] = q := by
  show ((0 : Int) : Rat) + q * pe q [1] = q
  rw [pe_one, show ((0 : Int) : Rat) = 0 by simp]; grind
theorem pe_oneq (q : Rat) : pe q [1, -1] = 1 - q := by
  show ((1 : Int) : Rat) + q * (((-1 : Int) : Rat) + q * 0) = 1 - q
  rw [show ((1 : Int) : Rat) = 1 by simp, show ((-1 : Int) : Rat) = -1 by simp]; grind

def lkP : Nat → (Nat → List Int) → List Int
  | 0, f => f 0
  | n + 1, f => lkP n (fun i => padd (pmul [0, 1] (f (i + 2 ^ n))) (pmul [1, -1] (f i)))
theorem pe_lk (q : Rat) : ∀ n f, pe q (lkP n f) = lk (fun _ => q) n (fun i => pe q (f i))
  | 0, f => rfl
  | n + 1, f => by
    show pe q (lkP n _) = lk (fun _ => q) n (fun i => q * pe q (f (i + 2 ^ n)) + (1 - q) * pe q (f i))
    rw [pe_lk q n]
    exact lk_congr n (fun _ _ => rfl) (fun i _ => by show pe q (padd _ _) = _; rw [pe_add, pe_mul, pe_mul, pe_q, pe_oneq])
/-- A number times itself. -/
def pwr (a : Rat) : Nat → Rat
  | 0 => 1
  | n + 1 => pwr a n * a
def pwP (a : List Int) : Nat → List Int
  | 0 => [1]
  | n + 1 => pmul (pwP a n) a
theorem pe_pw (q : Rat) (a : List Int) : ∀ n, pe q (pwP a n) = pwr (pe q a) n
  | 0 => pe_one q
  | n + 1 => by show pe q (pmul _ _) = pwr _ n * _; rw [pe_mul, pe_pw q a n]
/-- The rows of parts, one behind the other. -/
def rwl (q f : Rat) (b : Nat) : Nat → List Rat
  | 0 => []
  | m + 1 => rwl q f b m ++ [if m < b then 1 else if m = b then 1 - f else (rwl q f b m)[m - 1]! - (rwl q f b m)[m - b - 1]! * q * f]
theorem rwl_len (q f : Rat) (b : Nat) : ∀ m, (rwl q f b m).length = m
  | 0 => rfl
  | m + 1 => by show (rwl q f b m ++ [_]).length = _; rw [List.length_append, rwl_len q f b m]; rfl
def rwv (q f : Rat) (b m : Nat) : Rat := (rwl q f b (m + 1))[m]!
theorem rwl_get (q f : Rat) (b : Nat) : ∀ n m, m < n → (rwl q f b n)[m]! = rwv q f b m
  | 0, m, h => absurd h (Nat.not_lt_zero _)
  | n + 1, m, h => by
    rcases Nat.lt_or_ge m n with a | a
    · rw [← rwl_get q f b n m a]
      show (rwl q f b n ++ [_])[m]! = _
      rw [List.getElem!_eq_getElem?_getD, List.getElem?_append_left (by rw [rwl_len]; exact a), ← List.getElem!_eq_getElem?_getD]
    · obtain rfl : m = n := by omega
      rfl
theorem rwv_step (q f : Rat) (b m : Nat) : rwv q f b m = if m < b then 1 else if m = b then 1 - f else rwv q f b (m - 1) - rwv q f b (m - b - 1) * q * f := by
  unfold rwv
  show (rwl q f b m ++ [_])[m]! = _
  rw [List.getElem!_eq_getElem?_getD, List.getElem?_append_right (by rw [rwl_len]; omega), rwl_len, Nat.sub_self]
  show (if m < b then 1 else if m = b then 1 - f else (rwl q f b m)[m - 1]! - (rwl q f b m)[m - b - 1]! * q * f) = _
  by_cases h1 : m < b
  · rw [if_pos h1, if_pos h1]
  · rw [if_neg h1, if_neg h1]
    by_cases h2 : m = b
    · rw [if_pos h2, if_pos h2]
    · rw [if_neg h2, if_neg h2, rwl_get q f b m (m - 1) (by omega), rwl_get q f b m (m - b - 1) (by omega)]; rfl
def rwP (f : List Int) (b : Nat) : Nat → List (List Int)
  | 0 => []
  | m + 1 => rwP f b m ++ [if m < b then [1] else if m = b then psub [1] f else psub (rwP f b m)[m - 1]! (pmul (pmul (rwP f b m)[m - b - 1]! [0, 1]) f)]
theorem pe_get (q : Rat) (l : List (List Int)) (i : Nat) : (l.map (pe q))[i]! = pe q l[i]! := by
  rw [List.getElem!_eq_getElem?_getD, List.getElem!_eq_getElem?_getD, List.getElem?_map]
  cases l[i]? with
  | none => rfl
  | some x => rfl
theorem pe_rw (q : Rat) (f : List Int) (b : Nat) : ∀ m, (rwP f b m).map (pe q) = rwl q (pe q f) b m
  | 0 => rfl
  | m + 1 => by
    have ih := pe_rw q f b m
    show (rwP f b m ++ [_]).map (pe q) = rwl q (pe q f) b m ++ [_]
    rw [List.map_append, ih]
    congr 1
    show [pe q _] = _
    congr 1
    by_cases h1 : m < b
    · rw [if_pos h1, if_pos h1]; exact pe_one q
    · rw [if_neg h1, if_neg h1]
      by_cases h2 : m = b
      · rw [if_pos h2, if_pos h2, pe_sub, pe_one]
      · rw [if_neg h2, if_neg h2, pe_sub, pe_mul, pe_mul, pe_q, ← ih, pe_get, pe_get]
/-- The gates that say so. -/
def rgates (n b : Nat) : Gs := ⟨fun i => if i < n + 1 - b then 1 else ((n + 1 - b : Nat) : Int), fun i => if i < n + 1 - b then b else n + 1 - b, fun i k => if i < n + 1 - b then ((i + k : Nat) : Int) else -((k + 1 : Nat) : Int)⟩
def case1 (n b : Nat) : Bool := pzero (psub (lkP n (fun s => if wk (rgates n b) (n + 1 - b + 1) s = true then [1] else [])) (rwP (pwP [1, -1] b) b (n + 1))[n]!)
theorem case_all : ∀ n, n < 6 → ∀ b, b < 4 → case1 (n + 1) (b + 1) = true := by decide +kernel
theorem rows (q : Rat) {n b : Nat} (h1 : 1 ≤ n) (h2 : n ≤ 6) (h3 : 1 ≤ b) (h4 : b ≤ 4) : lk (fun _ => q) n (wf (rgates n b) (n + 1 - b + 1)) = rwv q (pwr (1 - q) b) b n := by
  have h := case_all (n - 1) (by omega) (b - 1) (by omega)
  rw [show n - 1 + 1 = n by omega, show b - 1 + 1 = b by omega] at h
  have e := pe_zero q _ h
  rw [pe_sub, pe_lk, ← pe_get, pe_rw, pe_pw, pe_oneq] at e
  have e2 : lk (fun _ => q) n (fun i => pe q (if wk (rgates n b) (n + 1 - b + 1) i = true then [1] else [])) = lk (fun _ => q) n (wf (rgates n b) (n + 1 - b + 1)) := lk_congr n (fun _ _ => rfl) (fun i _ => by
    unfold wf
    split
    · exact pe_one q
    · rfl)
  rw [e2] at e
  show _ = (rwl q (pwr (1 - q) b) b (n + 1))[n]!
  grind
end Go.Proofs.YtpopcfclpemlaaaDoor.Rsk
