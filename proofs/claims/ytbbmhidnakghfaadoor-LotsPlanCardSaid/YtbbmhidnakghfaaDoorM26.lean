/- One machine: what an order of tasks costs; Smith, Jackson, Moore and Hodgson, Lawler. -/
namespace Go.Proofs.YtbbmhidnakghfaaDoor.Lin

/-- Rows of numbers below n, each once. -/
theorem pigeon : ∀ (n : Nat) (xs : List Nat), xs.Nodup → (∀ x ∈ xs, x < n) → xs.length ≤ n
  | 0, xs, _, h => by
    cases xs with
    | nil => exact Nat.le_refl _
    | cons x xs => exact absurd (h x (List.mem_cons_self ..)) (Nat.not_lt_zero _)
  | n + 1, xs, hd, h => by
    by_cases c : n ∈ xs
    · have h1 := pigeon n (xs.erase n) (hd.erase n) (fun x hx => by
        have h2 := h x (List.mem_of_mem_erase hx)
        have h3 : x ≠ n := fun e => by subst e; exact (hd.not_mem_erase) hx
        omega)
      rw [List.length_erase_of_mem c] at h1
      omega
    · have := pigeon n xs hd (fun x hx => by
        have h2 := h x hx
        have h3 : x ≠ n := fun e => by subst e; exact c hx
        omega)
      omega
theorem perm_range {n : Nat} {xs : List Nat} (hd : xs.Nodup) (h : ∀ x ∈ xs, x < n) (hl : xs.length = n) : xs.Perm (List.range n) := by
  rw [List.perm_ext_iff_of_nodup hd List.nodup_range]
  intro a
  rw [List.mem_range]
  refine ⟨h a, fun ha => ?_⟩
  by_cases c : a ∈ xs
  · exact c
  · have := pigeon n (a :: xs) (List.nodup_cons.2 ⟨c, hd⟩) (fun x hx => by
      rcases List.mem_cons.1 hx with e | e
      · rw [e]; exact ha
      · exact h x e)
    simp at this
    omega

variable (p w d : Nat → Int)

def psum : List Nat → Int
  | [] => 0
  | x :: xs => p x + psum xs
theorem psum_append : ∀ xs ys, psum p (xs ++ ys) = psum p xs + psum p ys
  | [], ys => by show psum p ys = 0 + _; omega
  | x :: xs, ys => by show p x + psum p (xs ++ ys) = p x + psum p xs + _; rw [psum_append xs ys]; omega
theorem psum_perm {xs ys : List Nat} (h : xs.Perm ys) : psum p xs = psum p ys := by
  induction h with
  | nil => rfl
  | cons x _ ih => show p x + _ = p x + _; rw [ih]
  | swap x y l => show p y + (p x + _) = p x + (p y + _); omega
  | trans _ _ h1 h2 => rw [h1, h2]
theorem psum_nonneg {xs : List Nat} (h : ∀ x ∈ xs, 0 ≤ p x) : 0 ≤ psum p xs := by
  induction xs with
  | nil => exact Int.le_refl _
  | cons x xs ih =>
    have h1 := h x (List.mem_cons_self ..)
    have h2 := ih (fun y hy => h y (List.mem_cons_of_mem _ hy))
    show 0 ≤ p x + psum p xs
    omega

/-- The tasks with their ends. -/
def ends : Int → List Nat → List (Nat × Int)
  | _, [] => []
  | t, x :: xs => (x, t + p x) :: ends (t + p x) xs
def endOf : Int → List Nat → Nat → Int
  | _, [], _ => 0
  | t, x :: xs, i => if i = x then t + p x else endOf (t + p x) xs i
theorem map_end : ∀ (t : Int) (xs : List Nat), xs.Nodup → xs.map (fun x => (x, endOf p t xs x)) = ends p t xs
  | _, [], _ => rfl
  | t, x :: xs, h => by
    have hx := List.nodup_cons.1 h
    rw [List.map_cons]
    show (x, if x = x then t + p x else _) :: _ = (x, t + p x) :: ends p (t + p x) xs
    rw [if_pos rfl, ← map_end (t + p x) xs hx.2]
    congr 1
    refine List.map_congr_left fun y hy => ?_
    have hne : y ≠ x := fun e => by subst e; exact hx.1 hy
    show (y, if y = x then _ else _) = _
    rw [if_neg hne]
theorem endOf_append : ∀ (t : Int) (xs ys : List Nat) (x : Nat), x ∉ xs → endOf p t (xs ++ x :: ys) x = t + psum p xs + p x
  | t, [], ys, x, _ => by show (if x = x then t + p x else _) = t + 0 + p x; rw [if_pos rfl]; omega
  | t, z :: xs, ys, x, h => by
    have hz : x ≠ z := fun e => h (by rw [e]; exact List.mem_cons_self ..)
    show (if x = z then _ else endOf p (t + p z) (xs ++ x :: ys) x) = t + (p z + psum p xs) + p x
    rw [if_neg hz, endOf_append (t + p z) xs ys x (fun hx => h (List.mem_cons_of_mem _ hx))]
    omega

/-- Sums and bounds over numbers, and over tasks with ends. -/
def ssum (g : Nat → Int) : Nat → Int
  | 0 => 0
  | k + 1 => ssum g k + g k
def lsum {α : Type} (g : α → Int) : List α → Int
  | [] => 0
  | x :: xs => g x + lsum g xs
theorem lsum_append {α : Type} (g : α → Int) : ∀ xs ys, lsum g (xs ++ ys) = lsum g xs + lsum g ys
  | [], ys => by show lsum g ys = 0 + _; omega
  | x :: xs, ys => by show g x + lsum g (xs ++ ys) = g x + lsum g xs + _; rw [lsum_append g xs ys]; omega
theorem lsum_perm {α : Type} (g : α → Int) {xs ys : List α} (h : xs.Perm ys) : lsum g xs = lsum g ys := by
  induction h with
  | nil => rfl
  | cons x _ ih => show g x + _ = g x + _; rw [ih]
  | swap x y l => show g y + (g x + _) = g x + (g y + _); omega
  | trans _ _ h1 h2 => rw [h1, h2]
theorem lsum_map {α β : Type} (g : β → Int) (f : α → β) : ∀ xs : List α, lsum g (xs.map f) = lsum (fun x => g (f x)) xs
  | [] => rfl
  | x :: xs => by show g (f x) + lsum g (xs.map f) = g (f x) + _; rw [lsum_map g f xs]
theorem ssum_range (g : Nat → Int) : ∀ n, lsum g (List.range n) = ssum g n
  | 0 => rfl
  | n + 1 => by
    rw [List.range_succ, lsum_append, ssum_range g n]
    show ssum g n + (g n + 0) = ssum g n + g n
    omega
theorem pairs_perm {n : Nat} {xs : List Nat} (hp : xs.Perm (List.range n)) (t : Int) : ((List.range n).map fun i => (i, endOf p t xs i)).Perm (ends p t xs) := by
  have hd : xs.Nodup := hp.nodup_iff.2 List.nodup_range
  rw [← map_end p t xs hd]
  exact (hp.symm).map _
theorem ssum_ends {n : Nat} {xs : List Nat} (hp : xs.Perm (List.range n)) (g : Nat → Int → Int) : ssum (fun i => g i (endOf p 0 xs i)) n = lsum (fun x => g x.1 x.2) (ends p 0 xs) := by
  rw [← lsum_perm _ (pairs_perm p hp 0), lsum_map, ssum_range]

/-- Smith. -/
theorem cost_swap (t : Int) (x a : Nat) (R : List Nat) (h : p x * w a ≤ p a * w x) :
    lsum (fun x => w x.1 * x.2) (ends p t (x :: a :: R)) ≤ lsum (fun x => w x.1 * x.2) (ends p t (a :: x :: R)) := by
  show w x * (t + p x) + (w a * (t + p x + p a) + lsum _ (ends p (t + p x + p a) R)) ≤ w a * (t + p a) + (w x * (t + p a + p x) + lsum _ (ends p (t + p a + p x) R))
  rw [show t + p a + p x = t + p x + p a by omega]
  simp only [Int.mul_add]
  rw [Int.mul_comm (p x), Int.mul_comm (p a)] at h
  omega
theorem cost_front (x : Nat) : ∀ (t : Int) (A B : List Nat), (∀ a ∈ A, p x * w a ≤ p a * w x) → lsum (fun x => w x.1 * x.2) (ends p t (x :: (A ++ B))) ≤ lsum (fun x => w x.1 * x.2) (ends p t (A ++ x :: B))
  | t, [], B, _ => Int.le_refl _
  | t, a :: A, B, h => by
    have h1 := cost_front x (t + p a) A B (fun y hy => h y (List.mem_cons_of_mem _ hy))
    have h2 := cost_swap p w t x a (A ++ B) (h a (List.mem_cons_self ..))
    refine Int.le_trans h2 ?_
    show w a * (t + p a) + _ ≤ w a * (t + p a) + _
    exact Int.add_le_add_left h1 _
theorem smith : ∀ (xs ys : List Nat) (t : Int), xs.Perm ys → xs.Pairwise (fun x y => p x * w y ≤ p y * w x) → lsum (fun x => w x.1 * x.2) (ends p t xs) ≤ lsum (fun x => w x.1 * x.2) (ends p t ys)
  | [], ys, t, h, _ => by rw [List.nil_perm.1 h]; exact Int.le_refl _
  | x :: xs, ys, t, h, hs => by
    have hx : x ∈ ys := h.subset (List.mem_cons_self ..)
    obtain ⟨A, B, rfl⟩ := List.append_of_mem hx
    have hq : xs.Perm (A ++ B) := (h.trans List.perm_middle).cons_inv
    have hs' := List.pairwise_cons.1 hs
    refine Int.le_trans ?_ (cost_front p w x t A B (fun a ha => hs'.1 a (hq.symm.subset (List.mem_append_left _ ha))))
    show w x * (t + p x) + _ ≤ w x * (t + p x) + _
    exact Int.add_le_add_left (smith xs (A ++ B) (t + p x) hq hs'.2) _

/-- All cost at most M. -/
def AllC (c : Nat → Int → Int) (M : Int) (l : List (Nat × Int)) : Prop := ∀ x ∈ l, c x.1 x.2 ≤ M
theorem allC_cons {c : Nat → Int → Int} {M t : Int} {x : Nat} {xs : List Nat} : AllC c M (ends p t (x :: xs)) ↔ c x (t + p x) ≤ M ∧ AllC c M (ends p (t + p x) xs) := by
  constructor
  · intro h
    exact ⟨h (x, t + p x) (List.mem_cons_self ..), fun y hy => h y (List.mem_cons_of_mem _ hy)⟩
  · intro h y hy
    rcases List.mem_cons.1 hy with e | e
    · rw [e]; exact h.1
    · exact h.2 y e
theorem allC_nil {c : Nat → Int → Int} {M t : Int} : AllC c M (ends p t []) := fun _ hx => absurd hx (List.not_mem_nil)
theorem allC_append {c : Nat → Int → Int} {M : Int} : ∀ (t : Int) (xs ys : List Nat), AllC c M (ends p t (xs ++ ys)) ↔ AllC c M (ends p t xs) ∧ AllC c M (ends p (t + psum p xs) ys)
  | t, [], ys => by
    rw [show t + psum p [] = t by show t + 0 = t; omega]
    exact ⟨fun h => ⟨allC_nil p, h⟩, fun h => h.2⟩
  | t, x :: xs, ys => by
    rw [List.cons_append, allC_cons, allC_cons, allC_append (t + p x) xs ys, show t + psum p (x :: xs) = t + p x + psum p xs by show t + (p x + psum p xs) = _; omega, and_assoc]
theorem allC_sub {c : Nat → Int → Int} {M : Int} (hc : ∀ x s t, s ≤ t → c x s ≤ c x t) {F U : List Nat} (h : F.Sublist U) : (∀ x ∈ U, 0 ≤ p x) → ∀ s t, s ≤ t → AllC c M (ends p t U) → AllC c M (ends p s F) := by
  induction h with
  | slnil => intro _ s t _ _; exact allC_nil p
  | cons a _ ih =>
    intro hp s t hst h
    have h1 := (allC_cons p).1 h
    have h2 := hp a (List.mem_cons_self ..)
    exact ih (fun x hx => hp x (List.mem_cons_of_mem _ hx)) s (t + p a) (by omega) h1.2
  | cons_cons a _ ih =>
    intro hp s t hst h
    have h1 := (allC_cons p).1 h
    refine (allC_cons p).2 ⟨Int.le_trans (hc a _ _ (by omega)) h1.1, ih (fun x hx => hp x (List.mem_cons_of_mem _ hx)) (s + p a) (t + p a) (by omega) h1.2⟩

/-- Jackson. -/
def lat (x : Nat) (t : Int) : Int := t - d x
theorem lat_mono : ∀ x s t, s ≤ t → lat d x s ≤ lat d x t := fun x s t h => by unfold lat; omega
theorem late_front (x : Nat) {M : Int} : ∀ (t : Int) (A B : List Nat), (∀ a ∈ A, d x ≤ d a) → (∀ a ∈ A, 0 ≤ p a) → 0 ≤ p x → AllC (lat d) M (ends p t (A ++ x :: B)) → AllC (lat d) M (ends p t (x :: (A ++ B)))
  | t, [], B, _, _, _, h => h
  | t, a :: A, B, h, hp, hx, hM => by
    have h0 := (allC_cons p).1 hM
    have h1 := late_front x (t + p a) A B (fun y hy => h y (List.mem_cons_of_mem _ hy)) (fun y hy => hp y (List.mem_cons_of_mem _ hy)) hx h0.2
    have h2 := (allC_cons p).1 h1
    have ha := h a (List.mem_cons_self ..)
    have hpa := hp a (List.mem_cons_self ..)
    have h3 := h2.1
    have h4 := h0.1
    unfold lat at h3 h4
    refine (allC_cons p).2 ⟨by unfold lat; omega, ?_⟩
    rw [List.cons_append]
    refine (allC_cons p).2 ⟨by unfold lat; omega, ?_⟩
    rw [show t + p x + p a = t + p a + p x by omega]
    exact h2.2
theorem jackson {M : Int} : ∀ (xs ys : List Nat) (t : Int), xs.Perm ys → (∀ x ∈ ys, 0 ≤ p x) → xs.Pairwise (fun x y => d x ≤ d y) → AllC (lat d) M (ends p t ys) → AllC (lat d) M (ends p t xs)
  | [], ys, t, h, _, _, _ => allC_nil p
  | x :: xs, ys, t, h, hp, hs, hM => by
    have hx : x ∈ ys := h.subset (List.mem_cons_self ..)
    obtain ⟨A, B, rfl⟩ := List.append_of_mem hx
    have hq : xs.Perm (A ++ B) := (h.trans List.perm_middle).cons_inv
    have hs' := List.pairwise_cons.1 hs
    have h1 := late_front p d x t A B (fun a ha => hs'.1 a (hq.symm.subset (List.mem_append_left _ ha))) (fun a ha => hp a (List.mem_append_left _ ha)) (hp x (by simp)) hM
    have h2 := (allC_cons p).1 h1
    refine (allC_cons p).2 ⟨h2.1, jackson xs (A ++ B) (t + p x) hq (fun y hy => hp y ?_) hs'.2 h2.2⟩
    rcases List.mem_append.1 hy with e | e
    · exact List.mem_append_left _ e
    · exact List.mem_append_right _ (List.mem_cons_of_mem _ e)

/-- Moore and Hodgson. -/
def OnT (xs : List Nat) : Prop := AllC (lat d) 0 (ends p 0 xs)
theorem onT_sub {F U : List Nat} (h : F.Sublist U) (hp : ∀ x ∈ U, 0 ≤ p x) (hU : OnT p d U) : OnT p d F := allC_sub p (lat_mono d) h hp 0 0 (Int.le_refl _) hU
theorem onT_snoc {xs : List Nat} {x : Nat} : OnT p d (xs ++ [x]) ↔ OnT p d xs ∧ psum p xs + p x ≤ d x := by
  unfold OnT
  rw [allC_append, allC_cons]
  constructor
  · rintro ⟨h1, h2, _⟩
    unfold lat at h2
    exact ⟨h1, by omega⟩
  · rintro ⟨h1, h2⟩
    exact ⟨h1, by unfold lat; omega, allC_nil p⟩
theorem onT_sum {D : Int} {xs : List Nat} (h : OnT p d xs) (hne : xs ≠ []) (hD : ∀ x ∈ xs, d x ≤ D) : psum p xs ≤ D := by
  rcases List.eq_nil_or_concat xs with e | ⟨ys, y, e⟩
  · exact absurd e hne
  · have h1 : xs = ys ++ [y] := by simpa using e
    rw [h1] at h ⊢
    have h2 := ((onT_snoc p d).1 h).2
    have h3 := hD y (by rw [h1]; simp)
    rw [psum_append]
    show psum p ys + (p y + 0) ≤ D
    omega
theorem grown {M : Int} {G B : List Nat} (h : G.Sublist B) : G.length < B.length → (∀ b ∈ B, p b ≤ M) → ∃ G', G'.Sublist B ∧ G'.length = G.length + 1 ∧ psum p G' ≤ psum p G + M := by
  induction h with
  | slnil => intro h; exact absurd h (Nat.lt_irrefl _)
  | @cons G B b hs ih =>
    intro _ hM
    have := hM b (List.mem_cons_self ..)
    exact ⟨b :: G, hs.cons_cons b, rfl, by show p b + psum p G ≤ _; omega⟩
  | @cons_cons G B b hs ih =>
    intro hl hM
    obtain ⟨G', h1, h2, h3⟩ := ih (by simpa using hl) (fun x hx => hM x (List.mem_cons_of_mem _ hx))
    exact ⟨b :: G', h1.cons_cons b, by simp [h2], by show p b + psum p G' ≤ p b + psum p G + M; omega⟩
theorem trade {y : Nat} : ∀ (A B G : List Nat), G.Sublist (A ++ y :: B) → G.length < (A ++ y :: B).length → (∀ u ∈ A ++ y :: B, p u ≤ p y) → ∃ G', G'.Sublist (A ++ B) ∧ G'.length = G.length ∧ psum p G' ≤ psum p G
  | [], B, G, h, hl, hm => by
    rw [List.nil_append] at h hl hm ⊢
    cases h with
    | cons _ h' => exact ⟨G, h', rfl, Int.le_refl _⟩
    | @cons_cons G1 _ _ h' =>
      obtain ⟨G', h1, h2, h3⟩ := grown p (M := p y) h' (by simpa using hl) (fun b hb => hm b (List.mem_cons_of_mem _ hb))
      exact ⟨G', h1, by simp [h2], by show _ ≤ p y + psum p G1; omega⟩
  | u :: A, B, G, h, hl, hm => by
    rw [List.cons_append] at h hl hm ⊢
    cases h with
    | cons _ h' =>
      rcases Nat.lt_or_ge G.length (A ++ y :: B).length with c | c
      · obtain ⟨G', h1, h2, h3⟩ := trade A B G h' c (fun x hx => hm x (List.mem_cons_of_mem _ hx))
        exact ⟨G', h1.cons u, h2, h3⟩
      · have e := h'.eq_of_length_le c
        subst e
        refine ⟨u :: (A ++ B), List.Sublist.refl _, by simp; omega, ?_⟩
        have hu := hm u (List.mem_cons_self ..)
        show p u + psum p (A ++ B) ≤ psum p (A ++ y :: B)
        rw [psum_append, psum_append]
        show p u + (psum p A + psum p B) ≤ psum p A + (p y + psum p B)
        omega
    | @cons_cons G1 _ _ h' =>
      obtain ⟨G', h1, h2, h3⟩ := trade A B G1 h' (by simpa using hl) (fun x hx => hm x (List.mem_cons_of_mem _ hx))
      exact ⟨u :: G', h1.cons_cons u, by simp [h2], by show p u + psum p G' ≤ p u + psum p G1; omega⟩
/-- What the row so far, and what is to come, can hold. -/
structure Moo (q on rest out : List Nat) : Prop where
  all : q.Perm (on ++ rest ++ out)
  ont : OnT p d on
  best : ∀ F, F.Sublist q → OnT p d F → ∃ F', F'.Sublist (on ++ rest) ∧ OnT p d F' ∧ F.length ≤ F'.length
theorem moo_start (q : List Nat) : Moo p d q [] q [] := ⟨by simp, allC_nil p, fun F h1 h2 => ⟨F, by simpa using h1, h2, Nat.le_refl _⟩⟩
theorem moo_on {q on rest out : List Nat} {x : Nat} (h : Moo p d q on (x :: rest) out) (hx : psum p on + p x ≤ d x) : Moo p d q (on ++ [x]) rest out := by
  obtain ⟨h1, h2, h3⟩ := h
  refine ⟨by simpa using h1, (onT_snoc p d).2 ⟨h2, hx⟩, fun F k1 k2 => ?_⟩
  obtain ⟨F', l1, l2, l3⟩ := h3 F k1 k2
  exact ⟨F', by simpa using l1, l2, l3⟩
theorem moo_off {q on rest out A B : List Nat} {x y : Nat} (h : Moo p d q on (x :: rest) out) (hx : ¬ psum p on + p x ≤ d x) (e : on ++ [x] = A ++ y :: B) (hm : ∀ u ∈ on ++ [x], p u ≤ p y) (hd : ∀ u ∈ on, d u ≤ d x) (hp : ∀ u ∈ on ++ x :: rest, 0 ≤ p u) : Moo p d q (A ++ B) rest (out ++ [y]) := by
  obtain ⟨h1, h2, h3⟩ := h
  have hAB : OnT p d (A ++ B) := by
    rcases List.eq_nil_or_concat B with c | ⟨B', z, c⟩
    · subst c
      have e2 := List.append_inj' e rfl
      rw [List.append_nil, ← e2.1]; exact h2
    · have c' : B = B' ++ [z] := by simpa using c
      subst c'
      have e2 : on = A ++ y :: B' ∧ [x] = [z] := List.append_inj' (by rw [e]; simp) rfl
      obtain ⟨e3, e4⟩ := e2
      obtain rfl : x = z := by simpa using e4
      rw [← List.append_assoc]
      refine (onT_snoc p d).2 ⟨onT_sub p d (U := on) (by rw [e3]; exact (List.Sublist.refl A).append (List.sublist_cons_self y B')) (fun u hu => hp u (List.mem_append_left _ hu)) h2, ?_⟩
      have k1 := onT_sum p d h2 (by rw [e3]; simp) hd
      have k2 := hm x (by simp)
      rw [e3, psum_append] at k1
      rw [psum_append]
      have k3 : psum p (y :: B') = p y + psum p B' := rfl
      omega
  refine ⟨?_, hAB, fun F k1 k2 => ?_⟩
  · refine h1.trans ?_
    have e5 : on ++ x :: rest ++ out = (A ++ y :: B) ++ (rest ++ out) := by rw [← e]; simp
    rw [e5]
    have : (A ++ y :: B ++ (rest ++ out)).Perm (y :: (A ++ B ++ (rest ++ out))) := by
      simp only [List.append_assoc, List.cons_append]
      exact List.perm_middle
    refine this.trans ?_
    have e6 : (A ++ B) ++ rest ++ (out ++ [y]) = (A ++ B ++ (rest ++ out)) ++ [y] := by simp
    rw [e6]
    exact (List.perm_append_singleton y _).symm
  · obtain ⟨F', l1, l2, l3⟩ := h3 F k1 k2
    have e7 : on ++ x :: rest = (A ++ y :: B) ++ rest := by rw [← e]; simp
    rw [e7] at l1
    obtain ⟨G, R, rfl, g1, g2⟩ := List.sublist_append_iff.1 l1
    have l4 := (allC_append p 0 G R).1 l2
    have hne : G.length < (A ++ y :: B).length := by
      rcases Nat.lt_or_ge G.length (A ++ y :: B).length with c | c
      · exact c
      · have e8 := g1.eq_of_length_le c
        have l5 : OnT p d (on ++ [x]) := by rw [e, ← e8]; exact l4.1
        exact absurd ((onT_snoc p d).1 l5).2 hx
    obtain ⟨G', t1, t2, t3⟩ := trade p A B G g1 hne (by rw [← e]; exact hm)
    refine ⟨G' ++ R, t1.append g2, ?_, ?_⟩
    · unfold OnT
      rw [allC_append]
      refine ⟨onT_sub p d t1 (fun u hu => hp u ?_) hAB, allC_sub p (lat_mono d) (List.Sublist.refl R) (fun u hu => hp u ?_) _ (0 + psum p G) (by omega) l4.2⟩
      · rw [e7]
        rcases List.mem_append.1 hu with c | c
        · exact List.mem_append_left _ (List.mem_append_left _ c)
        · exact List.mem_append_left _ (List.mem_append_right _ (List.mem_cons_of_mem _ c))
      · exact List.mem_append_right _ (List.mem_cons_of_mem _ (g2.subset hu))
    · rw [List.length_append] at l3 ⊢
      omega
/-- Those on time of an order, and how many are late. -/
def onL : Int → List Nat → List Nat
  | _, [] => []
  | t, x :: xs => if t + p x ≤ d x then x :: onL (t + p x) xs else onL (t + p x) xs
def isLate (x : Nat × Int) : Int := if d x.1 < x.2 then 1 else 0
theorem onL_sub : ∀ (t : Int) (xs : List Nat), (onL p d t xs).Sublist xs
  | _, [] => List.Sublist.refl _
  | t, x :: xs => by
    unfold onL
    split
    · exact (onL_sub (t + p x) xs).cons_cons x
    · exact (onL_sub (t + p x) xs).cons x
theorem onL_len : ∀ (t : Int) (xs : List Nat), ((onL p d t xs).length : Int) + lsum (isLate d) (ends p t xs) = xs.length
  | _, [] => rfl
  | t, x :: xs => by
    have ih := onL_len (t + p x) xs
    show ((if t + p x ≤ d x then x :: onL p d (t + p x) xs else onL p d (t + p x) xs).length : Int) + ((if d x < t + p x then 1 else 0) + lsum (isLate d) (ends p (t + p x) xs)) = _
    by_cases c : t + p x ≤ d x
    · rw [if_pos c, if_neg (by omega)]
      simp only [List.length_cons]
      omega
    · rw [if_neg c, if_pos (by omega)]
      simp only [List.length_cons]
      omega
theorem onL_ont : ∀ (xs : List Nat) (s t : Int), s ≤ t → (∀ x ∈ xs, 0 ≤ p x) → AllC (lat d) 0 (ends p s (onL p d t xs))
  | [], _, _, _, _ => allC_nil p
  | x :: xs, s, t, hst, hp => by
    have hx := hp x (List.mem_cons_self ..)
    unfold onL
    by_cases c : t + p x ≤ d x
    · rw [if_pos c]
      exact (allC_cons p).2 ⟨by unfold lat; omega, onL_ont xs (s + p x) (t + p x) (by omega) (fun y hy => hp y (List.mem_cons_of_mem _ hy))⟩
    · rw [if_neg c]
      exact onL_ont xs s (t + p x) (by omega) (fun y hy => hp y (List.mem_cons_of_mem _ hy))
theorem late_le : ∀ (t : Int) (xs : List Nat), lsum (isLate d) (ends p t xs) ≤ xs.length
  | _, [] => Int.le_refl _
  | t, x :: xs => by
    have ih := late_le (t + p x) xs
    show (if d x < t + p x then (1 : Int) else 0) + lsum (isLate d) (ends p (t + p x) xs) ≤ _
    simp only [List.length_cons]
    split <;> omega
theorem late_on : ∀ (xs ys : List Nat) (t : Int), AllC (lat d) 0 (ends p t xs) → lsum (isLate d) (ends p t (xs ++ ys)) ≤ ys.length
  | [], ys, t, _ => late_le p d t ys
  | x :: xs, ys, t, h => by
    have h1 := (allC_cons p).1 h
    have h2 := h1.1
    unfold lat at h2
    have ih := late_on xs ys (t + p x) h1.2
    show (if d x < t + p x then (1 : Int) else 0) + lsum (isLate d) (ends p (t + p x) (xs ++ ys)) ≤ _
    rw [if_neg (by omega)]
    omega
theorem moore {q on out s : List Nat} (h : Moo p d q on [] out) (hq : q.Pairwise (fun x y => d x ≤ d y)) (hs : q.Perm s) (hp : ∀ x ∈ s, 0 ≤ p x) : lsum (isLate d) (ends p 0 (on ++ out)) ≤ lsum (isLate d) (ends p 0 s) := by
  have h1 := late_on p d on out 0 h.ont
  obtain ⟨F, f1, f2⟩ := List.exists_perm_sublist (onL_sub p d 0 s) hs.symm
  have f3 : OnT p d F := jackson p d F _ 0 f1 (fun x hx => hp x ((onL_sub p d 0 s).subset hx)) (hq.sublist f2) (onL_ont p d s 0 0 (Int.le_refl _) hp)
  obtain ⟨F', g1, g2, g3⟩ := h.best F f2 f3
  rw [List.append_nil] at g1
  have g4 := g1.length_le
  have g5 := f1.length_eq
  have g6 := onL_len p d 0 s
  have g7 := h.all.length_eq
  have g8 := hs.length_eq
  simp only [List.length_append, List.length_nil] at g7
  omega

/-- Lawler: of any order that is kept, the last of those that are not placed. -/
theorem last_of (u : Nat → Bool) : ∀ s : List Nat, (∃ z ∈ s, u z = true) → ∃ s1 z s2, s = s1 ++ z :: s2 ∧ u z = true ∧ ∀ k ∈ s2, u k = false
  | [], h => by obtain ⟨z, hz, _⟩ := h; exact absurd hz List.not_mem_nil
  | x :: s, h => by
    by_cases c : ∃ z ∈ s, u z = true
    · obtain ⟨s1, z, s2, e, h1, h2⟩ := last_of u s c
      exact ⟨x :: s1, z, s2, by rw [e]; rfl, h1, h2⟩
    · have h3 : ∀ k ∈ s, u k = false := fun k hk => by
        cases hu : u k with
        | false => rfl
        | true => exact absurd ⟨k, hk, hu⟩ c
      obtain ⟨z, hz, hu⟩ := h
      rcases List.mem_cons.1 hz with e | e
      · subst e; exact ⟨[], z, s, rfl, hu, h3⟩
      · rw [h3 z e] at hu; cases hu
theorem lawler {c : Nat → Int → Int} {M : Int} (hc : ∀ x s t, s ≤ t → c x s ≤ c x t) (u : Nat → Bool) (s : List Nat) (hp : ∀ x ∈ s, 0 ≤ p x) (hM : AllC c M (ends p 0 s)) (h : ∃ z ∈ s, u z = true) :
    ∃ s1 z s2, s = s1 ++ z :: s2 ∧ u z = true ∧ (∀ k ∈ s2, u k = false) ∧ c z (psum p (s.filter u)) ≤ M := by
  obtain ⟨s1, z, s2, e, h1, h2⟩ := last_of u s h
  refine ⟨s1, z, s2, e, h1, h2, ?_⟩
  have hf : s.filter u = s1.filter u ++ [z] := by
    rw [e, List.filter_append, List.filter_cons_of_pos h1]
    congr 2
    exact List.filter_eq_nil_iff.2 fun k hk => by rw [h2 k hk]; decide
  have h3 : AllC c M (ends p 0 (s.filter u)) := allC_sub p hc List.filter_sublist hp 0 0 (Int.le_refl _) hM
  rw [hf] at h3
  have h4 := ((allC_append p 0 _ _).1 h3).2
  have h5 := ((allC_cons p).1 h4).1
  rw [hf, psum_append]
  show c z (psum p (s1.filter u) + (p z + 0)) ≤ M
  rw [show psum p (s1.filter u) + (p z + 0) = 0 + psum p (s1.filter u) + p z by omega]
  exact h5
end Go.Proofs.YtbbmhidnakghfaaDoor.Lin
