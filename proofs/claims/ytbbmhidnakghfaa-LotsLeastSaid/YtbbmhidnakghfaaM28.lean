/- Several machines: Johnson, Graham. -/
import Derived.Test.YtbbmhidnakghfaaM26
namespace Go.Proofs.Ytbbmhidnakghfaa.Shp
open Lin

section
variable (A B : Nat → Int)
/-- Two machines one after the other. -/
def fl : Int → Int → List Nat → Int
  | _, s, [] => s
  | f, s, x :: xs => fl (f + A x) (max (f + A x) s + B x) xs
theorem fl_mono : ∀ (xs : List Nat) (f s t : Int), s ≤ t → fl A B f s xs ≤ fl A B f t xs
  | [], _, _, _, h => h
  | x :: xs, f, s, t, h => fl_mono xs _ _ _ (by omega)
/-- x may go ahead of y. -/
def Jo (x y : Nat) : Prop := min (A x) (B y) ≤ min (A y) (B x)
theorem fl_swap (f s : Int) (x a : Nat) (R : List Nat) (h : Jo A B x a) : fl A B f s (x :: a :: R) ≤ fl A B f s (a :: x :: R) := by
  show fl A B (f + A x + A a) (max (f + A x + A a) (max (f + A x) s + B x) + B a) R ≤ fl A B (f + A a + A x) (max (f + A a + A x) (max (f + A a) s + B a) + B x) R
  rw [show f + A a + A x = f + A x + A a by omega]
  apply fl_mono
  unfold Jo at h
  omega
theorem fl_front (x : Nat) : ∀ (f s : Int) (P Q : List Nat), (∀ a ∈ P, Jo A B x a) → fl A B f s (x :: (P ++ Q)) ≤ fl A B f s (P ++ x :: Q)
  | f, s, [], Q, _ => Int.le_refl _
  | f, s, a :: P, Q, h => by
    have h1 := fl_front x (f + A a) (max (f + A a) s + B a) P Q (fun y hy => h y (List.mem_cons_of_mem _ hy))
    exact Int.le_trans (fl_swap A B f s x a (P ++ Q) (h a (List.mem_cons_self ..))) h1
theorem johnson : ∀ (xs ys : List Nat) (f s : Int), xs.Perm ys → xs.Pairwise (Jo A B) → fl A B f s xs ≤ fl A B f s ys
  | [], ys, f, s, h, _ => by rw [List.nil_perm.1 h]; exact Int.le_refl _
  | x :: xs, ys, f, s, h, hs => by
    have hx : x ∈ ys := h.subset (List.mem_cons_self ..)
    obtain ⟨P, Q, rfl⟩ := List.append_of_mem hx
    have hq : xs.Perm (P ++ Q) := (h.trans List.perm_middle).cons_inv
    have hs' := List.pairwise_cons.1 hs
    refine Int.le_trans ?_ (fl_front A B x f s P Q (fun a ha => hs'.1 a (hq.symm.subset (List.mem_append_left _ ha))))
    exact johnson xs (P ++ Q) _ _ hq hs'.2
theorem fl_snoc : ∀ (xs : List Nat) (f s : Int) (x : Nat), fl A B f s (xs ++ [x]) = max (f + psum A xs + A x) (fl A B f s xs) + B x
  | [], f, s, x => by show max (f + A x) s + B x = max (f + 0 + A x) s + B x; rw [Int.add_zero]
  | y :: xs, f, s, x => by
    show fl A B (f + A y) (max (f + A y) s + B y) (xs ++ [x]) = max (f + (A y + psum A xs) + A x) (fl A B (f + A y) (max (f + A y) s + B y) xs) + B x
    rw [fl_snoc xs, show f + (A y + psum A xs) = f + A y + psum A xs by omega]
end

/-- Many machines side by side: L is when each is free. -/
def am (L : Nat → Int) : Nat → Nat
  | 0 => 0
  | k + 1 => if L k < L (am L k) then k else am L k
theorem am_lt (L : Nat → Int) : ∀ m, 0 < m → am L m < m
  | m + 1, _ => by
    show (if L m < L (am L m) then m else am L m) < m + 1
    split
    · omega
    · cases m with
      | zero => show (0 : Nat) < 1; omega
      | succ m => have := am_lt L (m + 1) (by omega); omega
theorem am_le (L : Nat → Int) : ∀ m k, k < m → L (am L m) ≤ L k
  | m + 1, k, h => by
    show L (if L m < L (am L m) then m else am L m) ≤ L k
    by_cases c : k = m
    · subst c; split <;> omega
    · have := am_le L m k (by omega)
      split <;> omega
theorem am_first (L : Nat → Int) : ∀ m k, k < am L m → L (am L m) < L k
  | 0, k, h => absurd h (Nat.not_lt_zero _)
  | m + 1, k, h => by
    have e : am L (m + 1) = if L m < L (am L m) then m else am L m := rfl
    rw [e] at h ⊢
    by_cases c : L m < L (am L m)
    · rw [if_pos c] at h ⊢
      have := am_le L m k h
      omega
    · rw [if_neg c] at h ⊢
      exact am_first L m k h
def upd (L : Nat → Int) (c : Nat) (v : Int) : Nat → Int := fun i => if i = c then v else L i
theorem ssum_upd (L : Nat → Int) (c : Nat) (v : Int) : ∀ m, ssum (upd L c v) m = ssum L m + if c < m then v - L c else 0
  | 0 => by show (0 : Int) = 0 + _; rw [if_neg (by omega)]; rfl
  | m + 1 => by
    show ssum (upd L c v) m + upd L c v m = ssum L m + L m + _
    rw [ssum_upd L c v m]
    unfold upd
    by_cases h : m = c
    · subst h; rw [if_pos rfl, if_neg (by omega), if_pos (by omega)]; omega
    · rw [if_neg h]
      by_cases h2 : c < m
      · rw [if_pos h2, if_pos (by omega)]; omega
      · rw [if_neg h2, if_neg (by omega)]; omega
theorem ssum_ge {L : Nat → Int} {v : Int} : ∀ m, (∀ i, i < m → v ≤ L i) → v * m ≤ ssum L m
  | 0, _ => by show v * 0 ≤ 0; simp
  | m + 1, h => by
    have h1 := ssum_ge m (fun i hi => h i (by omega))
    have h2 := h m (by omega)
    show v * ((m + 1 : Nat) : Int) ≤ ssum L m + L m
    rw [show ((m + 1 : Nat) : Int) = (m : Int) + 1 by omega, Int.mul_add]
    omega
theorem ssum_le {L : Nat → Int} {v : Int} : ∀ m, (∀ i, i < m → L i ≤ v) → ssum L m ≤ v * m
  | 0, _ => by show 0 ≤ v * 0; simp
  | m + 1, h => by
    have h1 := ssum_le m (fun i hi => h i (by omega))
    have h2 := h m (by omega)
    show ssum L m + L m ≤ v * ((m + 1 : Nat) : Int)
    rw [show ((m + 1 : Nat) : Int) = (m : Int) + 1 by omega, Int.mul_add]
    omega

/-- A part: machine, job, from, to. -/
structure Prt where
  c : Nat
  j : Nat
  a : Int
  b : Int
section
variable (m : Nat) (l : Nat → Int)
def nxt (L : Nat → Int) (j : Nat) : Nat → Int := upd L (am L m) (L (am L m) + l j)
def loads : (Nat → Int) → List Nat → Nat → Int
  | L, [] => L
  | L, j :: R => loads (nxt m l L j) R
def prts : (Nat → Int) → List Nat → List Prt
  | _, [] => []
  | L, j :: R => ⟨am L m, j, L (am L m), L (am L m) + l j⟩ :: prts (nxt m l L j) R
/-- When all is done. -/
def endP : Int → List Prt → Int
  | e, [] => e
  | e, p :: R => endP (max e p.b) R
theorem loads_snoc : ∀ (xs : List Nat) (L : Nat → Int) (x : Nat), loads m l L (xs ++ [x]) = nxt m l (loads m l L xs) x
  | [], _, _ => rfl
  | y :: xs, L, x => loads_snoc xs (nxt m l L y) x
theorem prts_snoc : ∀ (xs : List Nat) (L : Nat → Int) (x : Nat), prts m l L (xs ++ [x]) = prts m l L xs ++ [⟨am (loads m l L xs) m, x, loads m l L xs (am (loads m l L xs) m), loads m l L xs (am (loads m l L xs) m) + l x⟩]
  | [], _, _ => rfl
  | y :: xs, L, x => by
    show _ :: prts m l (nxt m l L y) (xs ++ [x]) = _ :: _
    rw [prts_snoc xs]
    rfl
theorem endP_snoc : ∀ (ps : List Prt) (e : Int) (p : Prt), endP e (ps ++ [p]) = max (endP e ps) p.b
  | [], _, _ => rfl
  | q :: ps, e, p => endP_snoc ps (max e q.b) p
theorem endP_ge0 : ∀ (ps : List Prt) (e : Int), e ≤ endP e ps
  | [], e => Int.le_refl _
  | p :: ps, e => by have := endP_ge0 ps (max e p.b); show e ≤ endP (max e p.b) ps; omega
theorem endP_ge : ∀ (ps : List Prt) (e : Int) (p : Prt), p ∈ ps → p.b ≤ endP e ps
  | q :: ps, e, p, h => by
    show p.b ≤ endP (max e q.b) ps
    rcases List.mem_cons.1 h with c | c
    · subst c; have := endP_ge0 ps (max e p.b); omega
    · exact endP_ge ps _ p c
theorem endP_is : ∀ (ps : List Prt) (e : Int), endP e ps = e ∨ ∃ p ∈ ps, endP e ps = p.b
  | [], e => Or.inl rfl
  | q :: ps, e => by
    have e1 : endP e (q :: ps) = endP (max e q.b) ps := rfl
    rcases endP_is ps (max e q.b) with h | ⟨p, h1, h2⟩
    · by_cases c : e ≤ q.b
      · exact Or.inr ⟨q, List.mem_cons_self .., by rw [e1, h]; omega⟩
      · exact Or.inl (by rw [e1, h]; omega)
    · exact Or.inr ⟨p, List.mem_cons_of_mem _ h1, by rw [e1, h2]⟩
theorem prts_jobs : ∀ (xs : List Nat) (L : Nat → Int), (prts m l L xs).map Prt.j = xs
  | [], _ => rfl
  | x :: xs, L => by show x :: (prts m l (nxt m l L x) xs).map Prt.j = _; rw [prts_jobs xs]
theorem prts_mem : ∀ (xs : List Nat) (L : Nat → Int), 0 < m → (∀ x ∈ xs, 0 ≤ l x) → (∀ c, 0 ≤ L c) → ∀ p ∈ prts m l L xs, p.c < m ∧ p.j ∈ xs ∧ 0 ≤ p.a ∧ p.b = p.a + l p.j
  | [], _, _, _, _, p, h => absurd h (List.not_mem_nil)
  | x :: xs, L, hm, hl, hL, p, h => by
    rcases List.mem_cons.1 h with c | c
    · subst c; exact ⟨am_lt L m hm, List.mem_cons_self .., hL _, rfl⟩
    · have hx := hl x (List.mem_cons_self ..)
      have := prts_mem xs (nxt m l L x) hm (fun y hy => hl y (List.mem_cons_of_mem _ hy)) (fun c => by
        unfold nxt upd; split
        · have := hL (am L m); omega
        · exact hL c) p c
      exact ⟨this.1, List.mem_cons_of_mem _ this.2.1, this.2.2⟩
theorem loads_mono : ∀ (xs : List Nat) (L : Nat → Int), (∀ x ∈ xs, 0 ≤ l x) → ∀ c, L c ≤ loads m l L xs c
  | [], _, _, _ => Int.le_refl _
  | x :: xs, L, hl, c => by
    have hx := hl x (List.mem_cons_self ..)
    have h1 := loads_mono xs (nxt m l L x) (fun y hy => hl y (List.mem_cons_of_mem _ hy)) c
    refine Int.le_trans ?_ h1
    unfold nxt upd
    split
    · rename_i h; rw [h]; omega
    · exact Int.le_refl _
theorem prts_from : ∀ (xs : List Nat) (L : Nat → Int), (∀ x ∈ xs, 0 ≤ l x) → ∀ p ∈ prts m l L xs, L p.c ≤ p.a
  | [], _, _, p, h => absurd h (List.not_mem_nil)
  | x :: xs, L, hl, p, h => by
    rcases List.mem_cons.1 h with c | c
    · subst c; exact Int.le_refl _
    · have hx := hl x (List.mem_cons_self ..)
      refine Int.le_trans ?_ (prts_from xs (nxt m l L x) (fun y hy => hl y (List.mem_cons_of_mem _ hy)) p c)
      unfold nxt upd
      split
      · rename_i h; rw [h]; omega
      · exact Int.le_refl _
/-- No machine does two jobs at once. -/
theorem prts_apart : ∀ (xs : List Nat) (L : Nat → Int), (∀ x ∈ xs, 0 ≤ l x) → (prts m l L xs).Pairwise (fun y x => y.c = x.c → y.b ≤ x.a)
  | [], _, _ => List.Pairwise.nil
  | x :: xs, L, hl => by
    have hl' : ∀ y ∈ xs, 0 ≤ l y := fun y hy => hl y (List.mem_cons_of_mem _ hy)
    refine List.pairwise_cons.2 ⟨fun p hp he => ?_, prts_apart xs _ hl'⟩
    have h1 := prts_from m l xs (nxt m l L x) hl' p hp
    simp only at he
    rw [← he] at h1
    unfold nxt upd at h1
    rw [if_pos rfl] at h1
    exact h1
theorem loads_sum (hm : 0 < m) : ∀ (xs : List Nat) (L : Nat → Int), ssum (loads m l L xs) m = ssum L m + psum l xs
  | [], L => by show ssum L m = ssum L m + 0; omega
  | x :: xs, L => by
    show ssum (loads m l (nxt m l L x) xs) m = ssum L m + (l x + psum l xs)
    rw [loads_sum hm xs]
    unfold nxt
    rw [ssum_upd, if_pos (am_lt L m hm)]
    omega
/-- All loads are within the end. -/
theorem loads_end : ∀ (xs : List Nat) (L : Nat → Int) (e : Int), (∀ c, c < m → L c ≤ e) → ∀ c, c < m → loads m l L xs c ≤ endP e (prts m l L xs)
  | [], L, e, h, c, hc => h c hc
  | x :: xs, L, e, h, c, hc => by
    show loads m l (nxt m l L x) xs c ≤ endP (max e (L (am L m) + l x)) (prts m l (nxt m l L x) xs)
    refine loads_end xs _ _ (fun c hc => ?_) c hc
    unfold nxt upd
    split
    · omega
    · have := h c hc; omega
/-- A part's job begins when the least busy machine is free. -/
theorem prts_split : ∀ (xs : List Nat) (L : Nat → Int) (p : Prt), p ∈ prts m l L xs → ∃ U V, xs = U ++ p.j :: V ∧ p.a = loads m l L U (am (loads m l L U) m) ∧ p.b = p.a + l p.j
  | [], _, p, h => absurd h (List.not_mem_nil)
  | x :: xs, L, p, h => by
    rcases List.mem_cons.1 h with c | c
    · subst c; exact ⟨[], xs, rfl, rfl, rfl⟩
    · obtain ⟨U, V, h1, h2, h3⟩ := prts_split xs (nxt m l L x) p c
      exact ⟨x :: U, V, by rw [h1]; rfl, h2, h3⟩
def zer : Nat → Int := fun _ => 0
theorem ssum_zer : ∀ m, ssum zer m = 0
  | 0 => rfl
  | m + 1 => by show ssum zer m + 0 = 0; rw [ssum_zer m]; rfl
/-- Graham: a list is done within 2 - 1/m. -/
theorem graham {xs : List Nat} {M : Int} (hm : 0 < m) (hl : ∀ x ∈ xs, 0 ≤ l x ∧ l x ≤ M) (hM : psum l xs ≤ M * m) (h0 : 0 ≤ M) : endP 0 (prts m l zer xs) * m ≤ M * (2 * m - 1) := by
  have hmm : (0 : Int) < m := by omega
  rcases endP_is (prts m l zer xs) 0 with h | ⟨p, h1, h2⟩
  · rw [h, Int.zero_mul]; exact Int.mul_nonneg h0 (by omega)
  · obtain ⟨U, V, h3, h4, h5⟩ := prts_split m l xs zer p h1
    have h6 := ssum_ge m (fun i hi => am_le (loads m l zer U) m i hi)
    rw [← h4, loads_sum m l hm, ssum_zer] at h6
    have h7 : psum l xs = psum l U + (l p.j + psum l V) := by rw [h3, psum_append]; rfl
    have h8 := psum_nonneg l (xs := V) (fun x hx => (hl x (by rw [h3]; simp [hx])).1)
    have h9 := (hl p.j (by rw [h3]; simp)).2
    rw [h2, h5, Int.add_mul]
    have h10 : l p.j * (m : Int) - l p.j ≤ M * (m : Int) - M := by
      have h11 : 0 ≤ (M - l p.j) * ((m : Int) - 1) := Int.mul_nonneg (by omega) (by omega)
      rw [Int.sub_mul, Int.mul_sub, Int.mul_sub] at h11
      omega
    rw [Int.mul_sub, show M * (2 * (m : Int)) = 2 * (M * m) by rw [Int.mul_left_comm]]
    omega
/-- Adding weights beside loads. -/
def wts (g : Nat → Int) : (Nat → Int) → (Nat → Int) → List Nat → Nat → Int
  | _, K, [] => K
  | L, K, j :: R => wts g (nxt m l L j) (upd K (am L m) (K (am L m) + g j)) R
theorem wts_sum (g : Nat → Int) (hm : 0 < m) : ∀ (xs : List Nat) (L K : Nat → Int), ssum (wts m l g L K xs) m = ssum K m + psum g xs
  | [], L, K => by show ssum K m = ssum K m + 0; omega
  | x :: xs, L, K => by
    show ssum (wts m l g (nxt m l L x) _ xs) m = ssum K m + (g x + psum g xs)
    rw [wts_sum g hm xs, ssum_upd, if_pos (am_lt L m hm)]
    omega
/-- Where all that is placed is long, a machine without room bears weight 2. -/
theorem wts_low {E q : Int} (g : Nat → Int) (hq : q ≤ E) : ∀ (xs : List Nat) (L K : Nat → Int), (∀ x ∈ xs, 0 ≤ l x ∧ (g x = 2 ∨ (g x = 1 ∧ l x + q ≤ E))) →
    (∀ c, 2 ≤ K c ∨ (K c = 1 ∧ L c + q ≤ E) ∨ (K c = 0 ∧ L c = 0)) → ∀ c, 2 ≤ wts m l g L K xs c ∨ loads m l L xs c + q ≤ E
  | [], L, K, _, h, c => by
    show 2 ≤ K c ∨ L c + q ≤ E
    rcases h c with h | h | h <;> omega
  | x :: xs, L, K, hx, h, c => by
    refine wts_low g hq xs _ _ (fun y hy => hx y (List.mem_cons_of_mem _ hy)) (fun c => ?_) c
    unfold nxt upd
    have h0 := hx x (List.mem_cons_self ..)
    by_cases hc : c = am L m
    · subst hc
      rw [if_pos rfl, if_pos rfl]
      rcases h (am L m) with h | h | h <;> omega
    · rw [if_neg hc, if_neg hc]
      exact h c
/-- Where a machine is within the end, its weight is at most 2. -/
theorem wts_high {E q : Int} (g : Nat → Int) (hq : E < 3 * q) (hq0 : 0 ≤ q) : ∀ (xs : List Nat) (L K : Nat → Int), (∀ x ∈ xs, 0 ≤ l x ∧ (g x = 0 ∨ (g x = 1 ∧ q ≤ l x) ∨ (g x = 2 ∧ q ≤ l x ∧ E < l x + q))) →
    (∀ c, 0 ≤ L c ∧ (K c = 0 ∨ (K c = 1 ∧ q ≤ L c) ∨ (K c = 2 ∧ E < L c + q) ∨ (2 < K c ∧ E < L c))) → ∀ c, wts m l g L K xs c ≤ 2 ∨ E < loads m l L xs c
  | [], L, K, _, h, c => by
    show K c ≤ 2 ∨ E < L c
    rcases h c with ⟨_, h | h | h | h⟩ <;> omega
  | x :: xs, L, K, hx, h, c => by
    refine wts_high g hq hq0 xs _ _ (fun y hy => hx y (List.mem_cons_of_mem _ hy)) (fun c => ?_) c
    unfold nxt upd
    have h0 := hx x (List.mem_cons_self ..)
    by_cases hc : c = am L m
    · subst hc
      rw [if_pos rfl, if_pos rfl]
      have h1 := h (am L m)
      rcases h0 with ⟨h0, h2 | h2 | h2⟩ <;> rcases h1 with ⟨_, h | h | h | h⟩ <;> omega
    · rw [if_neg hc, if_neg hc]
      exact h c
/-- Graham: the longest first are done within 4/3 - 1/(3m) of any list. -/
theorem longest {xs ys : List Nat} (hm : 0 < m) (hp : xs.Perm ys) (hl : ∀ x ∈ xs, 0 ≤ l x) (hs : xs.Pairwise (fun x y => l y ≤ l x)) :
    3 * endP 0 (prts m l zer xs) * m ≤ endP 0 (prts m l zer ys) * (4 * m - 1) := by
  have hmm : (0 : Int) < m := by omega
  have hly : ∀ y ∈ ys, 0 ≤ l y := fun y hy => hl y (hp.symm.subset hy)
  obtain ⟨E, hE⟩ : ∃ E, endP 0 (prts m l zer ys) = E := ⟨_, rfl⟩
  have hE0 : 0 ≤ E := by rw [← hE]; exact endP_ge0 _ 0
  have hload : ∀ c, c < m → loads m l zer ys c ≤ E := fun c hc => by rw [← hE]; exact loads_end m l ys zer 0 (fun _ _ => Int.le_refl _) c hc
  have hall : psum l ys ≤ E * m := by
    have h1 := ssum_le m hload
    rw [loads_sum m l hm, ssum_zer] at h1
    omega
  have hallx : psum l xs ≤ E * m := by rw [psum_perm l hp]; exact hall
  rw [hE]
  rcases endP_is (prts m l zer xs) 0 with h | ⟨p, h1, h2⟩
  · rw [h, show (3 : Int) * 0 * m = 0 by simp]; exact Int.mul_nonneg hE0 (by omega)
  · obtain ⟨U, V, h3, h4, h5⟩ := prts_split m l xs zer p h1
    have hj : 0 ≤ l p.j := hl p.j (by rw [h3]; simp)
    have hjE : l p.j ≤ E := by
      have h6 : p.j ∈ (prts m l zer ys).map Prt.j := by rw [prts_jobs]; exact hp.subset (by rw [h3]; simp)
      obtain ⟨q, h7, h8⟩ := List.mem_map.1 h6
      have h9 := prts_mem m l ys zer hm hly (fun _ => Int.le_refl _) q h7
      have h10 := endP_ge _ 0 q h7
      rw [hE, h9.2.2.2, h8] at h10
      omega
    rw [h2, h5]
    by_cases c3 : 3 * l p.j ≤ E
    · have h6 := ssum_ge m (fun i hi => am_le (loads m l zer U) m i hi)
      rw [← h4, loads_sum m l hm, ssum_zer] at h6
      have h7 : psum l xs = psum l U + (l p.j + psum l V) := by rw [h3, psum_append]; rfl
      have h8 := psum_nonneg l (xs := V) (fun x hx => hl x (by rw [h3]; simp [hx]))
      have h11 : 0 ≤ (E - 3 * l p.j) * ((m : Int) - 1) := Int.mul_nonneg (by omega) (by omega)
      rw [Int.sub_mul, Int.mul_sub, Int.mul_sub, Int.mul_assoc] at h11
      rw [Int.mul_add, Int.add_mul, Int.mul_assoc, Int.mul_assoc, Int.mul_sub, show E * (4 * (m : Int)) = 4 * (E * m) by rw [Int.mul_left_comm]]
      omega
    · by_cases cb : p.a + l p.j ≤ E
      · have h11 : 0 ≤ (E - (p.a + l p.j)) * (m : Int) := Int.mul_nonneg (by omega) (by omega)
        have h12 : 0 ≤ E * ((m : Int) - 1) := Int.mul_nonneg hE0 (by omega)
        rw [Int.sub_mul] at h11
        rw [Int.mul_sub] at h12
        rw [Int.mul_assoc, Int.mul_sub, show E * (4 * (m : Int)) = 4 * (E * m) by rw [Int.mul_left_comm]]
        omega
      · exfalso
        obtain ⟨q, hq⟩ : ∃ q, l p.j = q := ⟨_, rfl⟩
        rw [hq] at c3 cb hjE hj
        have hge : ∀ x ∈ U, q ≤ l x := fun x hx => by
          rw [h3] at hs
          have := (List.pairwise_append.1 hs).2.2 x hx p.j (List.mem_cons_self ..)
          omega
        -- the weights
        obtain ⟨g, hg⟩ : ∃ g : Nat → Int, g = fun x => if x ∈ U ∨ x = p.j then (if E < l x + q then 2 else 1) else 0 := ⟨_, rfl⟩
        have gU : ∀ x, (x ∈ U ∨ x = p.j) → g x = if E < l x + q then 2 else 1 := fun x hx => by rw [hg]; simp only [if_pos hx]
        have gV : ∀ x, ¬ (x ∈ U ∨ x = p.j) → g x = 0 := fun x hx => by rw [hg]; simp only [if_neg hx]
        have low := wts_low m l g hjE U zer zer (fun x hx => by
          refine ⟨hl x (by rw [h3]; simp [hx]), ?_⟩
          rw [gU x (Or.inl hx)]
          split
          · exact Or.inl rfl
          · exact Or.inr ⟨rfl, by omega⟩) (fun c => Or.inr (Or.inr ⟨rfl, rfl⟩))
        have high := wts_high m l (E := E) (q := q) g (by omega) hj ys zer zer (fun x hx => by
          refine ⟨hly x hx, ?_⟩
          by_cases c : x ∈ U ∨ x = p.j
          · have hqx : q ≤ l x := by
              rcases c with c | c
              · exact hge x c
              · rw [c, hq]; exact Int.le_refl _
            rw [gU x c]
            split
            · exact Or.inr (Or.inr ⟨rfl, hqx, by omega⟩)
            · exact Or.inr (Or.inl ⟨rfl, hqx⟩)
          · exact Or.inl (gV x c)) (fun c => ⟨Int.le_refl _, Or.inl rfl⟩)
        have s1 : (2 : Int) * m ≤ ssum (wts m l g zer zer U) m := ssum_ge m (fun c hc => by
          rcases low c with h | h
          · exact h
          · have := am_le (loads m l zer U) m c hc
            rw [← h4] at this
            omega)
        have s2 : ssum (wts m l g zer zer ys) m ≤ (2 : Int) * m := ssum_le m (fun c hc => by
          rcases high c with h | h
          · exact h
          · have := hload c hc; omega)
        rw [wts_sum m l g hm, ssum_zer] at s1 s2
        rw [← psum_perm g hp, h3, psum_append] at s2
        have s3 : psum g (p.j :: V) = g p.j + psum g V := rfl
        have s4 : g p.j = 1 ∨ g p.j = 2 := by rw [gU p.j (Or.inr rfl)]; split <;> simp
        have s5 : 0 ≤ psum g V := psum_nonneg g (fun x hx => by
          rw [hg]; simp only
          split
          · split <;> omega
          · omega)
        omega
end
end Go.Proofs.Ytbbmhidnakghfaa.Shp
