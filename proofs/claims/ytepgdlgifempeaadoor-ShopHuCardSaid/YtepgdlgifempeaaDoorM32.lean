/- Hu: a queue by levels, round by round. -/
import Derived.Test.YtepgdlgifempeaaDoorM29
namespace Go.Proofs.YtepgdlgifempeaaDoor.Hux
open Lin

/-- How many tasks there are from one on, at most so many. -/
def lvl (nx : Nat → Int) : Nat → Int → Nat
  | 0, _ => 0
  | f + 1, x => if x < 0 then 0 else 1 + lvl nx f (nx x.toNat)
theorem lvl_le (nx : Nat → Int) : ∀ f x, lvl nx f x ≤ f
  | 0, _ => Nat.le_refl _
  | f + 1, x => by
    show (if x < 0 then 0 else 1 + lvl nx f (nx x.toNat)) ≤ f + 1
    have := lvl_le nx f (nx x.toNat)
    split <;> omega
theorem lvl_neg (nx : Nat → Int) {x : Int} (h : x < 0) : ∀ f, lvl nx f x = 0
  | 0 => rfl
  | _ + 1 => if_pos h
theorem lvl_pos (nx : Nat → Int) {x : Int} (h : 0 ≤ x) (f : Nat) : lvl nx (f + 1) x = 1 + lvl nx f (nx x.toNat) := if_neg (by omega)
theorem lvl_more (nx : Nat → Int) : ∀ f x, lvl nx f x < f → lvl nx (f + 1) x = lvl nx f x
  | 0, _, h => absurd h (Nat.not_lt_zero _)
  | f + 1, x, h => by
    by_cases c : x < 0
    · rw [lvl_neg nx c, lvl_neg nx c]
    · have h0 : 0 ≤ x := by omega
      rw [lvl_pos nx (x := x) h0 f] at h
      rw [lvl_pos nx (x := x) h0 (f + 1), lvl_pos nx (x := x) h0 f, lvl_more nx f _ (by omega)]
/-- Levels of a forest of n tasks. -/
def lv (nx : Nat → Int) (n : Nat) (i : Nat) : Nat := lvl nx (n + 1) (i : Int)
theorem lv_step {nx : Nat → Int} {n i : Nat} (h : lv nx n i ≤ n) : (nx i < 0 → lv nx n i = 1) ∧ (0 ≤ nx i → lv nx n i = lv nx n (nx i).toNat + 1) := by
  unfold lv at *
  rw [lvl_pos nx (by omega) n, Int.toNat_natCast] at h
  constructor
  · intro hn
    rw [lvl_pos nx (by omega) n, Int.toNat_natCast, lvl_neg nx hn]
  · intro hn
    have e : (((nx i).toNat : Nat) : Int) = nx i := by omega
    rw [lvl_pos nx (by omega) n, Int.toNat_natCast, e, lvl_more nx n (nx i) (by omega)]
    omega
theorem lv_pos (nx : Nat → Int) (n i : Nat) : 1 ≤ lv nx n i := by
  unfold lv
  rw [lvl_pos nx (by omega) n]
  omega

/-- Whether none in the queue must be ahead. -/
def rdy (nx : Nat → Int) (Q : List Nat) (i : Nat) : Bool := Q.all (fun k => nx k != (i : Int))
theorem rdy_true {nx : Nat → Int} {Q : List Nat} {i : Nat} : rdy nx Q i = true ↔ ∀ k ∈ Q, nx k ≠ (i : Int) := by
  unfold rdy
  rw [List.all_eq_true]
  simp
def ps (p : Nat → Bool) (m : Nat) (s : List Nat × List Nat) (i : Nat) : List Nat × List Nat := if p i = true ∧ s.1.length < m then (s.1 ++ [i], s.2) else (s.1, s.2 ++ [i])
def pt (p : Nat → Bool) (m : Nat) (Q : List Nat) : List Nat × List Nat := Q.foldl (ps p m) ([], [])
theorem pt_snoc (p : Nat → Bool) (m : Nat) (Q : List Nat) (i : Nat) : pt p m (Q ++ [i]) = ps p m (pt p m Q) i := by unfold pt; rw [List.foldl_append]; rfl
/-- The first so many that are ready, and the rest. -/
structure Pd (p : Nat → Bool) (m : Nat) (Q C R : List Nat) : Prop where
  c : C = (Q.filter p).take m
  perm : (C ++ R).Perm Q
  sub : R.Sublist Q
  rest : ∀ i ∈ R, p i = true → C.length = m ∧ ∃ A B, Q = A ++ i :: B ∧ ∀ k ∈ C, k ∈ A
theorem pt_is (p : Nat → Bool) (m : Nat) : ∀ (Q : List Nat), Pd p m Q (pt p m Q).1 (pt p m Q).2 := by
  intro Q
  obtain ⟨k, hk⟩ : ∃ k, Q.length = k := ⟨_, rfl⟩
  induction k generalizing Q with
  | zero =>
    have : Q = [] := List.eq_nil_of_length_eq_zero hk
    subst this
    exact ⟨by simp [pt], by simp [pt], by simp [pt], fun i hi => by simp [pt] at hi⟩
  | succ k ih =>
    rcases List.eq_nil_or_concat Q with e | ⟨Q', i, e⟩
    · subst e; simp at hk
    · have e : Q = Q' ++ [i] := by simpa using e
      subst e
      have h := ih Q' (by simpa using hk)
      rw [pt_snoc]
      obtain ⟨C, R, hCR⟩ : ∃ C R, pt p m Q' = (C, R) := ⟨_, _, rfl⟩
      rw [hCR] at h ⊢
      simp only at h
      unfold ps
      simp only
      by_cases c : p i = true ∧ C.length < m
      · rw [if_pos c]
        have hlen : (Q'.filter p).length ≤ m ∧ C = Q'.filter p := by
          have h1 := h.c
          have h2 : C.length = min m (Q'.filter p).length := by rw [h1, List.length_take]
          have h3 : (Q'.filter p).length ≤ m := by omega
          exact ⟨h3, by rw [h1, List.take_of_length_le h3]⟩
        refine ⟨?_, ?_, h.sub.trans (List.sublist_append_left _ _), fun x hx hp => ?_⟩
        · simp only
          rw [List.filter_append, show [i].filter p = [i] by simp [c.1], ← hlen.2, List.take_of_length_le (by simp; omega)]
        · simp only
          have : (C ++ [i] ++ R).Perm (C ++ R ++ [i]) := by
            rw [List.append_assoc, List.append_assoc]
            exact (List.perm_append_comm).append_left C
          exact this.trans (h.perm.append_right [i])
        · have := (h.rest x hx hp).1; omega
      · rw [if_neg c]
        refine ⟨?_, ?_, h.sub.append (List.Sublist.refl _), fun x hx hp => ?_⟩
        · simp only
          rw [List.filter_append]
          by_cases cp : p i = true
          · have hm : ¬ C.length < m := fun h' => c ⟨cp, h'⟩
            have h1 := h.c
            have h2 : C.length = min m (Q'.filter p).length := by rw [h1, List.length_take]
            rw [List.take_append_of_le_length (by omega)]
            exact h1
          · rw [show [i].filter p = [] by simp [cp], List.append_nil]
            exact h.c
        · simp only
          rw [← List.append_assoc]
          exact h.perm.append_right [i]
        · simp only at hx ⊢
          rcases List.mem_append.1 hx with hx | hx
          · obtain ⟨h1, A, B, h2, h3⟩ := h.rest x hx hp
            exact ⟨h1, A, B ++ [i], by rw [h2]; simp, h3⟩
          · have hxi : x = i := by simpa using hx
            subst hxi
            have hm : ¬ C.length < m := fun h' => c ⟨hp, h'⟩
            have h2 : C.length ≤ m := by rw [h.c, List.length_take]; omega
            exact ⟨by omega, Q', [], rfl, fun k hk => h.perm.subset (List.mem_append_left _ hk)⟩
/-- How far Hu is: at time t the queue is Q, and what is done is done at T. -/
structure Rd (n m : Nat) (nx : Nat → Int) (lev : Nat → Nat) (t : Nat) (Q : List Nat) (T : Nat → Nat) : Prop where
  nd : Q.Nodup
  lt : ∀ i ∈ Q, i < n
  so : Q.Pairwise (fun x y => lev y ≤ lev x)
  up : ∀ k ∈ Q, 0 ≤ nx k → (nx k).toNat ∈ Q
  dn : ∀ i, i < n → i ∉ Q → T i < t ∧ (0 ≤ nx i → (nx i).toNat ∈ Q ∨ T i < T (nx i).toNat)
  few : ∀ s, s < t → cn (fun i => decide (i ∉ Q) && T i == s) n ≤ m
  gr : ∀ i s, i < n → s < t → (i ∈ Q ∨ s < T i) → (∀ k, k < n → nx k = (i : Int) → k ∉ Q ∧ T k < s) → cn (fun k => decide (k ∉ Q) && T k == s) n = m ∧ ∀ k, k < n → k ∉ Q → T k = s → lev i ≤ lev k
def now' (T : Nat → Nat) (C : List Nat) (t : Nat) : Nat → Nat := fun i => if i ∈ C then t else T i
theorem cn_mem {n : Nat} {C : List Nat} (hd : C.Nodup) (h : ∀ i ∈ C, i < n) : cn (fun i => decide (i ∈ C)) n = C.length := by
  unfold cn
  apply Nat.le_antisymm
  · exact sub_len _ _ (List.nodup_range.filter _) (fun x hx => by simpa using (List.mem_filter.1 hx).2)
  · exact sub_len _ _ hd (fun x hx => List.mem_filter.2 ⟨List.mem_range.2 (h x hx), by simpa using hx⟩)
section
variable {n m : Nat} {nx : Nat → Int} {lev : Nat → Nat} {t : Nat} {Q C R : List Nat} {T : Nat → Nat}
theorem Rd.next (h : Rd n m nx lev t Q T) (hp : Pd (rdy nx Q) m Q C R) : Rd n m nx lev (t + 1) R (now' T C t) := by
  have hCR := hp.perm
  have hcd : (C ++ R).Nodup := hCR.nodup_iff.2 h.nd
  have hdis : ∀ i, i ∈ C → i ∉ R := fun i h1 h2 => by
    have := (List.nodup_append.1 hcd).2.2 i h1 i h2
    exact this rfl
  have hC : ∀ i ∈ C, i ∈ Q := fun i hi => hCR.subset (List.mem_append_left _ hi)
  have hR : ∀ i ∈ R, i ∈ Q := fun i hi => hCR.subset (List.mem_append_right _ hi)
  have hQ : ∀ i ∈ Q, i ∈ C ∨ i ∈ R := fun i hi => List.mem_append.1 (hCR.symm.subset hi)
  have hrd : ∀ i ∈ C, ∀ k ∈ Q, nx k ≠ (i : Int) := fun i hi => by
    rw [hp.c] at hi
    exact rdy_true.1 (List.mem_filter.1 (List.mem_of_mem_take hi)).2
  have hTC : ∀ i, i ∈ C → now' T C t i = t := fun i hi => if_pos hi
  have hTN : ∀ i, i ∉ C → now' T C t i = T i := fun i hi => if_neg hi
  have hnC : ∀ i, i < n → i ∉ Q → i ∉ C := fun i _ hq hc => hq (hC i hc)
  have eqs : ∀ s, s < t → cn (fun i => decide (i ∉ R) && now' T C t i == s) n = cn (fun i => decide (i ∉ Q) && T i == s) n := fun s hs => cn_congr (fun i hi => by
    by_cases c1 : i ∈ C
    · rw [hTC i c1]
      have : i ∈ Q := hC i c1
      have h2 : (t == s) = false := by rw [beq_eq_false_iff_ne]; omega
      simp [this, h2]
    · rw [hTN i c1]
      by_cases c2 : i ∈ R
      · simp [c2, hR i c2]
      · have : i ∉ Q := fun hq => (hQ i hq).elim c1 c2
        simp [c2, this])
  have eqt : cn (fun i => decide (i ∉ R) && now' T C t i == t) n = C.length := by
    rw [← cn_mem (n := n) (List.nodup_append.1 hcd).1 (fun i hi => h.lt i (hC i hi))]
    refine cn_congr (fun i hi => ?_)
    by_cases c1 : i ∈ C
    · rw [hTC i c1]; simp [hdis i c1, c1]
    · rw [hTN i c1]
      by_cases c2 : i ∈ R
      · simp [c1, c2]
      · have h3 : i ∉ Q := fun hq => (hQ i hq).elim c1 c2
        have h4 := (h.dn i hi h3).1
        have h5 : (T i == t) = false := by rw [beq_eq_false_iff_ne]; omega
        simp [c1, h5]
  have hCm : C.length ≤ m := by rw [hp.c, List.length_take]; omega
  refine ⟨h.nd.sublist hp.sub, fun i hi => h.lt i (hR i hi), h.so.sublist hp.sub, fun k hk hn => ?_, fun i hi hiR => ?_, fun s hs => ?_, fun i s hi hs hc hpr => ?_⟩
  · rcases hQ _ (h.up k (hR k hk) hn) with c | c
    · exact absurd (by omega) (hrd _ c k (hR k hk))
    · exact c
  · by_cases c1 : i ∈ C
    · rw [hTC i c1]
      refine ⟨by omega, fun hn => Or.inl ?_⟩
      rcases hQ _ (h.up i (hC i c1) hn) with c | c
      · exact absurd (by omega) (hrd _ c i (hC i c1))
      · exact c
    · have h3 : i ∉ Q := fun hq => (hQ i hq).elim c1 hiR
      have h4 := h.dn i hi h3
      rw [hTN i c1]
      refine ⟨by omega, fun hn => ?_⟩
      rcases h4.2 hn with c | c
      · rcases hQ _ c with c' | c'
        · exact Or.inr (by rw [hTC _ c']; exact h4.1)
        · exact Or.inl c'
      · by_cases c5 : (nx i).toNat ∈ C
        · exact Or.inr (by rw [hTC _ c5]; exact h4.1)
        · exact Or.inr (by rw [hTN _ c5]; exact c)
  · rcases Nat.lt_or_ge s t with c | c
    · rw [eqs s c]; exact h.few s c
    · rw [show s = t by omega, eqt]; exact hCm
  · rcases Nat.lt_or_ge s t with c | c
    · rw [eqs s c]
      have hpr' : ∀ k, k < n → nx k = (i : Int) → k ∉ Q ∧ T k < s := fun k hk e => by
        obtain ⟨h1, h2⟩ := hpr k hk e
        by_cases c1 : k ∈ C
        · rw [hTC k c1] at h2; omega
        · rw [hTN k c1] at h2
          exact ⟨fun hq => (hQ k hq).elim c1 h1, h2⟩
      have hc' : i ∈ Q ∨ s < T i := by
        rcases hc with c1 | c1
        · exact Or.inl (hR i c1)
        · by_cases c2 : i ∈ C
          · exact Or.inl (hC i c2)
          · rw [hTN i c2] at c1; exact Or.inr c1
      obtain ⟨g1, g2⟩ := h.gr i s hi c hc' hpr'
      refine ⟨g1, fun k hk hkR hT => ?_⟩
      by_cases c1 : k ∈ C
      · rw [hTC k c1] at hT; omega
      · rw [hTN k c1] at hT
        exact g2 k hk (fun hq => (hQ k hq).elim c1 hkR) hT
    · obtain rfl : s = t := by omega
      rw [eqt]
      have hiR : i ∈ R := by
        rcases hc with c1 | c1
        · exact c1
        · by_cases c2 : i ∈ C
          · rw [hTC i c2] at c1; omega
          · rw [hTN i c2] at c1
            by_cases c3 : i ∈ Q
            · exact (hQ i c3).elim (fun h => absurd h c2) id
            · have := (h.dn i hi c3).1; omega
      have hri : rdy nx Q i = true := rdy_true.2 (fun k hk e => by
        obtain ⟨h1, h2⟩ := hpr k (h.lt k hk) e
        rcases hQ k hk with c1 | c1
        · rw [hTC k c1] at h2; omega
        · exact h1 c1)
      obtain ⟨g1, A, B, g2, g3⟩ := hp.rest i hiR hri
      refine ⟨g1, fun k hk hkR hT => ?_⟩
      have hkC : k ∈ C := by
        by_cases c1 : k ∈ C
        · exact c1
        · rw [hTN k c1] at hT
          have hkQ : k ∉ Q := fun hq => (hQ k hq).elim c1 hkR
          have := (h.dn k hk hkQ).1; omega
      have hso := h.so
      rw [g2] at hso
      exact (List.pairwise_append.1 hso).2.2 k (g3 k hkC) i (List.mem_cons_self ..)
/-- Something is done at each time. -/
theorem Rd.some (h : Rd n m nx lev t Q T) (hl : ∀ i, i < n → 0 ≤ nx i → lev i = lev (nx i).toNat + 1) (hm : 0 < m) (hq : Q ≠ []) (hp : Pd (rdy nx Q) m Q C R) : R.length < Q.length := by
  cases Q with
  | nil => exact absurd rfl hq
  | cons q Q' =>
    have hr : rdy nx (q :: Q') q = true := rdy_true.2 (fun k hk e => by
      have h1 := hl k (h.lt k hk) (by omega)
      rw [show (nx k).toNat = q by omega] at h1
      rcases List.mem_cons.1 hk with c | c
      · rw [c] at h1; omega
      · have := (List.pairwise_cons.1 h.so).1 k c; omega)
    have hc : 0 < C.length := by
      rw [hp.c, List.length_take]
      have : 0 < ((q :: Q').filter (rdy nx (q :: Q'))).length := List.length_pos_of_mem (List.mem_filter.2 ⟨List.mem_cons_self .., hr⟩)
      omega
    have := hp.perm.length_eq
    rw [List.length_append] at this
    omega
/-- At the end. -/
theorem Rd.plan (h : Rd n m nx lev t [] T) (hm : 0 < m) (hn : ∀ i, i < n → nx i < (n : Int)) (hl : ∀ i, i < n → (nx i < 0 → lev i = 1) ∧ (0 ≤ nx i → lev i = lev (nx i).toNat + 1)) : Plan n m nx lev T := by
  have hd : ∀ i, i < n → T i < t := fun i hi => (h.dn i hi List.not_mem_nil).1
  have eqs : ∀ s, cn (fun k => decide (k ∉ ([] : List Nat)) && T k == s) n = cn (fun k => T k == s) n := fun s => cn_congr (fun i _ => by simp)
  refine ⟨hm, fun i hi h0 => ?_, fun i hi h0 => (hl i hi).1 h0, fun s => ?_, fun i s hi hs hpr => ?_⟩
  · have := (h.dn i hi List.not_mem_nil).2 h0
    rcases this with c | c
    · exact absurd c List.not_mem_nil
    · exact ⟨by have := hn i hi; omega, (hl i hi).2 h0, c⟩
  · rcases Nat.lt_or_ge s t with c | c
    · rw [← eqs s]; exact h.few s c
    · rw [cn_zero (fun i hi => by have := hd i hi; rw [beq_eq_false_iff_ne]; omega)]; exact Nat.zero_le _
  · have := h.gr i s hi (by have := hd i hi; omega) (Or.inr hs) (fun k hk e => ⟨List.not_mem_nil, hpr k hk e⟩)
    rw [eqs s] at this
    exact ⟨this.1, fun k hk e => this.2 k hk List.not_mem_nil e⟩
theorem Rd.start (hd : Q.Nodup) (hp : ∀ i, i ∈ Q ↔ i < n) (hs : Q.Pairwise (fun x y => lev y ≤ lev x)) (hn : ∀ i, i < n → nx i < (n : Int)) : Rd n m nx lev 0 Q T :=
  ⟨hd, fun i hi => (hp i).1 hi, hs, fun k hk h0 => (hp _).2 (by have := hn k ((hp k).1 hk); omega), fun i hi hq => absurd ((hp i).2 hi) hq, fun s hs => absurd hs (Nat.not_lt_zero _), fun i s _ hs => absurd hs (Nat.not_lt_zero _)⟩
/-- How many of a queue must be ahead of one. -/
def ahd (nx : Nat → Int) (Q : List Nat) (i : Nat) : Nat := (Q.filter (fun k => nx k == (i : Int))).length
theorem ahd_zero {nx : Nat → Int} {Q : List Nat} {i : Nat} : (ahd nx Q i = 0) ↔ rdy nx Q i = true := by
  rw [rdy_true]
  unfold ahd
  rw [List.length_eq_zero_iff, List.filter_eq_nil_iff]
  simp
theorem ahd_cons (nx : Nat → Int) (k : Nat) (Q : List Nat) (i : Nat) : ahd nx (k :: Q) i = (if nx k = (i : Int) then 1 else 0) + ahd nx Q i := by
  unfold ahd
  rw [List.filter_cons]
  by_cases c : nx k = (i : Int)
  · simp [c]; omega
  · simp [c]
theorem ahd_append (nx : Nat → Int) (A B : List Nat) (i : Nat) : ahd nx (A ++ B) i = ahd nx A i + ahd nx B i := by unfold ahd; rw [List.filter_append, List.length_append]
theorem ahd_perm {nx : Nat → Int} {A B : List Nat} (h : A.Perm B) (i : Nat) : ahd nx A i = ahd nx B i := (h.filter _).length_eq
end
end Go.Proofs.YtepgdlgifempeaaDoor.Hux
