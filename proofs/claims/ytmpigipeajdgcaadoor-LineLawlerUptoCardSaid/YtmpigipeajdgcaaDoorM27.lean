/- Lawler: from the end on, of those that nothing must be behind the one that costs the least. -/
import Derived.Test.YtmpigipeajdgcaaDoorM26
namespace Go.Proofs.YtmpigipeajdgcaaDoor.Lin

/-- How often k stands in a row. -/
def cnt (r : Nat → Int) (k : Nat) : Nat → Int
  | 0 => 0
  | j + 1 => cnt r k j + (if r j = (k : Int) then 1 else 0)
theorem cnt_bd (r : Nat → Int) (k : Nat) : ∀ j, 0 ≤ cnt r k j ∧ cnt r k j ≤ j
  | 0 => by show (0 : Int) ≤ 0 ∧ (0 : Int) ≤ ((0 : Nat) : Int); omega
  | j + 1 => by
    have ih := cnt_bd r k j
    show 0 ≤ cnt r k j + (if r j = (k : Int) then (1 : Int) else 0) ∧ cnt r k j + (if r j = (k : Int) then (1 : Int) else 0) ≤ _
    split <;> omega
theorem cnt_pos {r : Nat → Int} {k : Nat} : ∀ {j i : Nat}, i < j → r i = (k : Int) → 0 < cnt r k j
  | j + 1, i, hi, h => by
    have hb := cnt_bd r k j
    show 0 < cnt r k j + (if r j = (k : Int) then (1 : Int) else 0)
    rcases Nat.lt_or_ge i j with c | c
    · have := cnt_pos c h
      split <;> omega
    · rw [show i = j by omega] at h
      rw [if_pos h]; omega
theorem cnt_none {r : Nat → Int} {k : Nat} : ∀ {j : Nat}, (∀ i, i < j → r i ≠ (k : Int)) → cnt r k j = 0
  | 0, _ => rfl
  | j + 1, h => by
    show cnt r k j + (if r j = (k : Int) then (1 : Int) else 0) = 0
    rw [cnt_none (fun i hi => h i (by omega)), if_neg (h j (by omega))]
    rfl
/-- A sum over those that are not placed. -/
def usum (g : Nat → Int) (P : Nat → Bool) : Nat → Int
  | 0 => 0
  | m + 1 => usum g P m + (if P m then 0 else g m)
def upT (P : Nat → Bool) (b : Nat) : Nat → Bool := fun i => if i = b then true else P i
theorem usum_bd {g : Nat → Int} {B : Int} (P : Nat → Bool) : ∀ m, (∀ i, i < m → 0 ≤ g i ∧ g i ≤ B) → 0 ≤ B → 0 ≤ usum g P m ∧ usum g P m ≤ B * m
  | 0, _, _ => by show (0 : Int) ≤ 0 ∧ (0 : Int) ≤ B * ((0 : Nat) : Int); simp
  | m + 1, h, hB => by
    have ih := usum_bd P m (fun i hi => h i (by omega)) hB
    have hg := h m (by omega)
    have e : B * ((m + 1 : Nat) : Int) = B * (m : Int) + B := by rw [show ((m + 1 : Nat) : Int) = (m : Int) + 1 by omega, Int.mul_add, Int.mul_one]
    rw [e]
    show 0 ≤ usum g P m + (if P m then 0 else g m) ∧ usum g P m + (if P m then 0 else g m) ≤ _
    split <;> omega
theorem usum_congr {g : Nat → Int} {P P' : Nat → Bool} : ∀ m, (∀ i, i < m → P i = P' i) → usum g P m = usum g P' m
  | 0, _ => rfl
  | m + 1, h => by
    show usum g P m + _ = usum g P' m + _
    rw [usum_congr m (fun i hi => h i (by omega)), h m (by omega)]
theorem usum_upd {g : Nat → Int} {P : Nat → Bool} {b : Nat} (hb : P b = false) : ∀ m, b < m → usum g (upT P b) m = usum g P m - g b
  | m + 1, h => by
    show usum g (upT P b) m + (if upT P b m then 0 else g m) = usum g P m + (if P m then 0 else g m) - g b
    rcases Nat.lt_or_ge b m with c | c
    · have e : upT P b m = P m := by unfold upT; rw [if_neg (by omega)]
      rw [usum_upd hb m c, e]
      omega
    · obtain rfl : b = m := by omega
      have e : upT P b b = true := by unfold upT; rw [if_pos rfl]
      rw [e, hb, usum_congr (P' := P) b (fun i hi => by unfold upT; rw [if_neg (by omega)])]
      simp
theorem usum_zero {g : Nat → Int} {P : Nat → Bool} : ∀ {m : Nat}, (∀ i, i < m → 0 ≤ g i) → usum g P m = 0 → ∀ i, i < m → P i = false → g i = 0
  | m + 1, hg, h, i, hi, hP => by
    have h' : usum g P m + (if P m then 0 else g m) = 0 := h
    have h1 : 0 ≤ usum g P m := by
      have : ∀ k, k ≤ m → 0 ≤ usum g P k := fun k => by
        induction k with
        | zero => intro _; exact Int.le_refl _
        | succ k ih =>
          intro hk
          have := ih (by omega)
          have h2 := hg k (by omega)
          show 0 ≤ usum g P k + (if P k then 0 else g k)
          split <;> omega
      exact this m (Nat.le_refl _)
    have h2 := hg m (by omega)
    rcases Nat.lt_or_ge i m with c | c
    · exact usum_zero (fun i hi => hg i (by omega)) (by split at h' <;> omega) i c hP
    · obtain rfl : i = m := by omega
      rw [if_neg (by rw [hP]; decide)] at h'
      omega
theorem usum_none {g : Nat → Int} {P : Nat → Bool} : ∀ {m : Nat}, (∀ i, i < m → P i = false → g i = 0) → usum g P m = 0
  | 0, _ => rfl
  | m + 1, h => by
    show usum g P m + (if P m then 0 else g m) = 0
    rw [usum_none (fun i hi => h i (by omega))]
    cases hP : P m with
    | true => rfl
    | false => rw [if_neg (by decide), h m (by omega) hP]; rfl
theorem usum_filter {p : Nat → Int} {P : Nat → Bool} : ∀ n, psum p ((List.range n).filter (fun i => !P i)) = usum p P n
  | 0 => rfl
  | n + 1 => by
    rw [List.range_succ, List.filter_append, psum_append, usum_filter n]
    show usum p P n + _ = usum p P n + _
    cases h : P n with
    | true => simp [h, psum]
    | false => simp [h, psum]

/-- Of those that are free the one that costs the least, of like ones the last. -/
def ck (fr : Nat → Bool) (cs : Nat → Int) : Nat → Nat × Bool
  | 0 => (0, false)
  | k + 1 => if fr k && (!(ck fr cs k).2 || decide (cs k ≤ cs (ck fr cs k).1)) then (k, true) else ck fr cs k
theorem ck_true {fr : Nat → Bool} {cs : Nat → Int} : ∀ {k : Nat}, (ck fr cs k).2 = true → (ck fr cs k).1 < k ∧ fr (ck fr cs k).1 = true ∧ ∀ i, i < k → fr i = true → cs (ck fr cs k).1 ≤ cs i
  | k + 1, h => by
    by_cases c : (fr k && (!(ck fr cs k).2 || decide (cs k ≤ cs (ck fr cs k).1))) = true
    · have e : ck fr cs (k + 1) = (k, true) := by show (if _ then _ else _) = _; rw [if_pos c]
      rw [e]
      rw [Bool.and_eq_true] at c
      refine ⟨Nat.lt_succ_self _, c.1, fun i hi hf => ?_⟩
      show cs k ≤ cs i
      rcases Nat.lt_or_ge i k with c2 | c2
      · cases h2 : (ck fr cs k).2 with
        | false => exact absurd hf (by rw [ck_false h2 i c2]; decide)
        | true =>
          have ih := ck_true h2
          have c3 := c.2
          rw [h2] at c3
          simp at c3
          exact Int.le_trans c3 (ih.2.2 i c2 hf)
      · rw [show i = k by omega]; exact Int.le_refl _
    · have e : ck fr cs (k + 1) = ck fr cs k := by show (if _ then _ else _) = _; rw [if_neg c]
      rw [e] at h ⊢
      have ih := ck_true h
      refine ⟨by omega, ih.2.1, fun i hi hf => ?_⟩
      rcases Nat.lt_or_ge i k with c2 | c2
      · exact ih.2.2 i c2 hf
      · rw [show i = k by omega] at hf ⊢
        rw [hf, h] at c
        simp at c
        omega
where
  ck_false {fr : Nat → Bool} {cs : Nat → Int} : ∀ {k : Nat}, (ck fr cs k).2 = false → ∀ i, i < k → fr i = false
    | k + 1, h, i, hi => by
      by_cases c : (fr k && (!(ck fr cs k).2 || decide (cs k ≤ cs (ck fr cs k).1))) = true
      · have e : ck fr cs (k + 1) = (k, true) := by show (if _ then _ else _) = _; rw [if_pos c]
        rw [e] at h; cases h
      · have e : ck fr cs (k + 1) = ck fr cs k := by show (if _ then _ else _) = _; rw [if_neg c]
        rw [e] at h
        rcases Nat.lt_or_ge i k with c2 | c2
        · exact ck_false h i c2
        · rw [show i = k by omega]
          rw [h] at c
          simpa using c

structure Lw where
  n : Nat
  R : Nat → Nat → Int
  ln : Nat → Nat
  p : Nat → Int
  w : Nat → Int
  d : Nat → Int
structure LS where
  P : Nat → Bool
  suf : List Nat
  gr : Int
def Lw.bh (A : Lw) (P : Nat → Bool) (k : Nat) : Int := usum (fun i => cnt (A.R i) k (A.ln i)) P A.n
def Lw.E (A : Lw) (P : Nat → Bool) : Int := usum A.p P A.n
def Lw.fr (A : Lw) (P : Nat → Bool) (k : Nat) : Bool := !P k && decide (A.bh P k = 0)
def Lw.c (A : Lw) (x : Nat) (t : Int) : Int := A.w x * max 0 (t - A.d x)
def Lw.best (A : Lw) (P : Nat → Bool) : Nat × Bool := ck (A.fr P) (fun i => A.c i (A.E P)) A.n
def Lw.next (A : Lw) (s : LS) : Option LS := if (A.best s.P).2 then some ⟨upT s.P (A.best s.P).1, (A.best s.P).1 :: s.suf, max s.gr (A.c (A.best s.P).1 (A.E s.P))⟩ else none
def Lw.lst (A : Lw) : Nat → Option LS
  | 0 => some ⟨fun _ => false, [], 0⟩
  | k + 1 => (A.lst k).bind A.next
theorem Lw.lst_none (A : Lw) {k : Nat} (h : A.lst k = none) : ∀ m, k ≤ m → A.lst m = none
  | 0, hm => by have e : k = 0 := Nat.le_zero.1 hm; rw [e] at h; exact h
  | m + 1, hm => by
    rcases Nat.lt_or_ge k (m + 1) with c | c
    · show (A.lst m).bind A.next = none
      rw [A.lst_none h m (by omega)]; rfl
    · obtain rfl : k = m + 1 := by omega
      exact h
/-- Each stands behind those that must be ahead of it. -/
def Lw.kept (A : Lw) : List Nat → Prop
  | [] => True
  | x :: xs => (∀ i j, i < A.n → j < A.ln i → A.R i j = (x : Int) → i ∈ xs) ∧ A.kept xs
theorem Lw.kept_app (A : Lw) : ∀ {s1 : List Nat} {z : Nat} {s2 : List Nat}, A.kept (s1 ++ z :: s2) → ∀ i j, i < A.n → j < A.ln i → A.R i j = (z : Int) → i ∈ s2
  | [], _, _, h => h.1
  | _ :: s1, _, _, h => A.kept_app (s1 := s1) h.2
structure Lw.Ok (A : Lw) : Prop where
  p0 : ∀ i, i < A.n → 0 ≤ A.p i
  w0 : ∀ i, 0 ≤ A.w i
theorem Lw.c_mono (A : Lw) (h : ∀ i, 0 ≤ A.w i) : ∀ x s t, s ≤ t → A.c x s ≤ A.c x t := fun x s t hst => Int.mul_le_mul_of_nonneg_left (by omega) (h x)
structure Lw.Inv (A : Lw) (k : Nat) (s : LS) : Prop where
  len : s.suf.length = k
  nd : s.suf.Nodup
  lt : ∀ x ∈ s.suf, x < A.n
  pl : ∀ i, s.P i = true ↔ i ∈ s.suf
  kp : A.kept s.suf
  g0 : 0 ≤ s.gr
  e : A.E s.P + psum A.p s.suf = A.E (fun _ => false)
  gr : ∀ M, 0 ≤ M → (s.gr ≤ M ↔ AllC A.c M (ends A.p (A.E s.P) s.suf))
theorem Lw.best_ok (A : Lw) {P : Nat → Bool} (h : (A.best P).2 = true) : (A.best P).1 < A.n ∧ P (A.best P).1 = false ∧ A.bh P (A.best P).1 = 0 ∧ ∀ i, i < A.n → A.fr P i = true → A.c (A.best P).1 (A.E P) ≤ A.c i (A.E P) := by
  have h1 := ck_true h
  have h2 : A.fr P (A.best P).1 = true := h1.2.1
  unfold Lw.fr at h2
  rw [Bool.and_eq_true] at h2
  exact ⟨h1.1, by simpa using h2.1, of_decide_eq_true h2.2, h1.2.2⟩
theorem Lw.inv (A : Lw) : ∀ {k : Nat} {s : LS}, A.lst k = some s → A.Inv k s
  | 0, s, h => by
    obtain rfl : s = ⟨fun _ => false, [], 0⟩ := (Option.some.inj h).symm
    exact ⟨rfl, List.nodup_nil, fun x hx => absurd hx List.not_mem_nil, fun i => by simp, trivial, Int.le_refl _, by show A.E (fun _ => false) + (0 : Int) = A.E (fun _ => false); omega, fun M hM => ⟨fun _ => allC_nil A.p, fun _ => hM⟩⟩
  | k + 1, s', h => by
    have h' : (A.lst k).bind A.next = some s' := h
    cases hs : A.lst k with
    | none => rw [hs] at h'; cases h'
    | some s =>
      rw [hs] at h'
      have h2 : A.next s = some s' := h'
      have I := A.inv hs
      unfold Lw.next at h2
      cases hb : (A.best s.P).2 with
      | false => rw [hb] at h2; cases h2
      | true =>
        rw [hb] at h2
        obtain rfl := (Option.some.inj h2).symm
        obtain ⟨b1, b2, b3, b4⟩ := A.best_ok hb
        obtain ⟨x, hx⟩ : ∃ x, (A.best s.P).1 = x := ⟨_, rfl⟩
        rw [hx] at b1 b2 b3 b4 ⊢
        have hns : x ∉ s.suf := fun hm => by rw [(I.pl x).2 hm] at b2; cases b2
        have hE : A.E (upT s.P x) = A.E s.P - A.p x := usum_upd b2 A.n b1
        refine ⟨by simp [I.len], List.nodup_cons.2 ⟨hns, I.nd⟩, fun y hy => ?_, fun i => ?_, ⟨fun i j hi hj hr => ?_, I.kp⟩, ?_, ?_, fun M hM => ?_⟩
        · rcases List.mem_cons.1 hy with c | c
          · rw [c]; exact b1
          · exact I.lt y c
        · show upT s.P x i = true ↔ _
          unfold upT
          by_cases c : i = x
          · rw [if_pos c]; simp [c]
          · rw [if_neg c, I.pl i, List.mem_cons]; simp [c]
        · cases hp : s.P i with
          | true => exact (I.pl i).1 hp
          | false =>
            have hz := usum_zero (g := fun i => cnt (A.R i) x (A.ln i)) (fun i _ => (cnt_bd _ _ _).1) b3 i hi hp
            have := cnt_pos hj hr
            omega
        · show 0 ≤ max s.gr _
          have := I.g0
          omega
        · show A.E (upT s.P x) + (A.p x + psum A.p s.suf) = _
          have := I.e
          rw [hE]; omega
        · show max s.gr (A.c x (A.E s.P)) ≤ M ↔ AllC A.c M (ends A.p (A.E (upT s.P x)) (x :: s.suf))
          rw [allC_cons, hE, show A.E s.P - A.p x + A.p x = A.E s.P by omega, ← I.gr M hM]
          omega
/-- No order that is kept costs less. -/
theorem Lw.least (A : Lw) (O : A.Ok) {M : Int} (hM : 0 ≤ M) {o : List Nat} (ho : o.Perm (List.range A.n)) (hk : A.kept o) (hA : AllC A.c M (ends A.p 0 o)) : ∀ {k : Nat} {s : LS}, A.lst k = some s → s.gr ≤ M
  | 0, s, h => by
    obtain rfl : s = ⟨fun _ => false, [], 0⟩ := (Option.some.inj h).symm
    exact hM
  | k + 1, s', h => by
    have h' : (A.lst k).bind A.next = some s' := h
    cases hs : A.lst k with
    | none => rw [hs] at h'; cases h'
    | some s =>
      rw [hs] at h'
      have h2 : A.next s = some s' := h'
      have ih := A.least O hM ho hk hA hs
      unfold Lw.next at h2
      cases hb : (A.best s.P).2 with
      | false => rw [hb] at h2; cases h2
      | true =>
        rw [hb] at h2
        obtain rfl := (Option.some.inj h2).symm
        obtain ⟨b1, b2, b3, b4⟩ := A.best_ok hb
        have hp0 : ∀ x ∈ o, 0 ≤ A.p x := fun x hx => O.p0 x (List.mem_range.1 (ho.subset hx))
        obtain ⟨s1, z, s2, e, u1, u2, u3⟩ := lawler A.p (A.c_mono O.w0) (fun i => !s.P i) o hp0 hA ⟨(A.best s.P).1, ho.symm.subset (List.mem_range.2 b1), by simp [b2]⟩
        have hsum : psum A.p (o.filter fun i => !s.P i) = A.E s.P := by
          rw [psum_perm A.p (ho.filter _)]
          exact usum_filter A.n
        rw [hsum] at u3
        have hz : z < A.n := List.mem_range.1 (ho.subset (by rw [e]; simp))
        have hzf : A.fr s.P z = true := by
          unfold Lw.fr
          rw [Bool.and_eq_true]
          refine ⟨u1, decide_eq_true ?_⟩
          refine usum_none fun i hi hP => cnt_none fun j hj hr => ?_
          have h3 := A.kept_app (by rw [← e]; exact hk) i j hi hj hr
          have := u2 i h3
          rw [hP] at this; cases this
        have := b4 z hz hzf
        show max s.gr _ ≤ M
        omega
/-- The whole row. -/
theorem Lw.whole (A : Lw) {s : LS} (h : A.lst A.n = some s) : s.suf.Perm (List.range A.n) ∧ A.kept s.suf ∧ 0 ≤ s.gr ∧ ∀ M, 0 ≤ M → (s.gr ≤ M ↔ AllC A.c M (ends A.p 0 s.suf)) := by
  have I := A.inv h
  have hp := perm_range I.nd I.lt I.len
  refine ⟨hp, I.kp, I.g0, fun M hM => ?_⟩
  have e : A.E s.P = 0 := usum_none fun i hi hP => by
    have := (I.pl i).2 (hp.symm.subset (List.mem_range.2 hi))
    rw [hP] at this; cases this
  rw [I.gr M hM, e]
end Go.Proofs.YtmpigipeajdgcaaDoor.Lin
