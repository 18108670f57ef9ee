/- Ends of jobs; serving whoever has the least left. -/
import Derived.Test.YtfebbjbobogkcaaM12
namespace Go.Proofs.Ytfebbjbobogkcaa.Sim

/-- The end of a job, by pieces. -/
def endN (j : Nat) : List Pc → Nat
  | [] => 0
  | p :: ps => max (if p.1 = j then p.2.2 else 0) (endN j ps)
theorem endN_append (j : Nat) : ∀ ps qs, endN j (ps ++ qs) = max (endN j ps) (endN j qs)
  | [], qs => by show endN j qs = max 0 _; omega
  | p :: ps, qs => by
    show max _ (endN j (ps ++ qs)) = max (max _ (endN j ps)) _
    rw [endN_append]; omega
theorem endN_one (j : Nat) (p : Pc) : endN j [p] = if p.1 = j then p.2.2 else 0 := by
  show max _ 0 = _; omega
theorem endN_joinP {ps : List Pc} {i j t : Nat} : endN i (joinP ps (j, t, t + 1)) = if i = j then max (endN i ps) (t + 1) else endN i ps := by
  rcases snoc_cases ps with rfl | ⟨qs, l, rfl⟩
  · rw [joinP_nil, endN_one]
    show (if j = i then t + 1 else 0) = if i = j then max 0 (t + 1) else 0
    by_cases h : i = j
    · rw [if_pos h, if_pos h.symm]; omega
    · rw [if_neg h, if_neg (fun e => h e.symm)]
  · rw [joinP_last]
    by_cases c : l.1 = j ∧ l.2.2 = t
    · rw [if_pos c, endN_append, endN_append, endN_one, endN_one]
      show max _ (if l.1 = i then t + 1 else 0) = _
      by_cases h : i = j
      · rw [if_pos h, if_pos (by rw [c.1, h]), if_pos (by rw [c.1, h])]; omega
      · rw [if_neg h, if_neg (by rw [c.1]; exact fun e => h e.symm), if_neg (by rw [c.1]; exact fun e => h e.symm)]
    · rw [if_neg c, endN_append _ (qs ++ [l]), endN_one]
      show max _ (if j = i then t + 1 else 0) = _
      by_cases h : i = j
      · rw [if_pos h, if_pos h.symm]
      · rw [if_neg h, if_neg (fun e => h e.symm)]; omega

theorem lf_next (q : Q) (t i : Nat) : (sim q (t + 1)).lf i ≤ (sim q t).lf i := by
  cases e : choice q (sim q t) t with
  | none => rw [(sim_none e).1]; exact Nat.le_refl _
  | some j =>
    rw [(sim_some e).1]
    by_cases h : i = j
    · subst h; rw [upd_at]; omega
    · rw [upd_off _ _ h]; exact Nat.le_refl _
theorem lf_mono (q : Q) (i : Nat) {u : Nat} : ∀ {t : Nat}, u ≤ t → (sim q t).lf i ≤ (sim q u).lf i
  | 0, h => by rw [show u = 0 by omega]; exact Nat.le_refl _
  | t + 1, h => by
    rcases Nat.lt_or_ge u (t + 1) with c | c
    · exact Nat.le_trans (lf_next q t i) (lf_mono q i (by omega))
    · rw [show u = t + 1 by omega]; exact Nat.le_refl _

theorem ends_inv (q : Q) (i : Nat) : ∀ t, endN i (sim q t).ps ≤ t ∧ (∀ u, endN i (sim q t).ps ≤ u → u ≤ t → (sim q u).lf i = (sim q t).lf i) ∧ (∀ u, u < endN i (sim q t).ps → (sim q t).lf i < (sim q u).lf i)
  | 0 => ⟨Nat.le_refl _, fun u _ h => by rw [show u = 0 by omega], fun u h => absurd h (Nat.not_lt_zero _)⟩
  | t + 1 => by
    obtain ⟨h1, h2, h3⟩ := ends_inv q i t
    cases e : choice q (sim q t) t with
    | none =>
      rw [(sim_none e).2.1]
      have hl := (sim_none e).1
      refine ⟨by omega, fun u a b => ?_, fun u a => by rw [hl]; exact h3 u a⟩
      rcases Nat.lt_or_ge u (t + 1) with c | c
      · rw [h2 u a (by omega), hl]
      · rw [show u = t + 1 by omega]
    | some j =>
      rw [(sim_some e).2.1, endN_joinP]
      have hl := (sim_some e).1
      have ⟨hp, _⟩ := left_pos e
      by_cases h : i = j
      · subst h
        rw [if_pos rfl]
        refine ⟨by omega, fun u a b => by rw [show u = t + 1 by omega], fun u a => ?_⟩
        have := lf_mono q i (show u ≤ t by omega)
        rw [hl, upd_at]
        omega
      · rw [if_neg h]
        have hl' : (sim q (t + 1)).lf i = (sim q t).lf i := by rw [hl, upd_off _ _ h]
        refine ⟨by omega, fun u a b => ?_, fun u a => by rw [hl']; exact h3 u a⟩
        rcases Nat.lt_or_ge u (t + 1) with c | c
        · rw [h2 u a (by omega), hl']
        · rw [show u = t + 1 by omega]

theorem ends_spec {q : Q} {t i : Nat} (hd : Done q t) (hi : i < q.N) (u : Nat) (hu : u ≤ t) : 0 < (sim q u).lf i ↔ u < endN i (sim q t).ps := by
  obtain ⟨h1, h2, h3⟩ := ends_inv q i t
  have h0 := hd i hi
  constructor
  · intro h
    rcases Nat.lt_or_ge u (endN i (sim q t).ps) with c | c
    · exact c
    · have := h2 u c hu; omega
  · intro h
    have := h3 u h; omega
theorem ends_come {q : Q} {t i : Nat} (hd : Done q t) (hi : i < q.N) (hs : 0 < q.S i) : q.A i < endN i (sim q t).ps := by
  have h0 := hd i hi
  rcases Nat.lt_or_ge t (q.A i) with c | c
  · have := fresh (q := q) t i (by omega); omega
  · refine (ends_spec hd hi (q.A i) c).1 ?_
    rw [fresh (q.A i) i (Nat.le_refl _)]; exact hs

theorem nsum_const_below (e : Nat) : ∀ t, e ≤ t → nsum (fun u => if u < e then 1 else 0) t = e := by
  have h : ∀ t, nsum (fun u => if u < e then 1 else 0) t = min t e := fun t => by
    induction t with
    | zero => show 0 = _; omega
    | succ t ih =>
      show nsum _ t + (if t < e then 1 else 0) = _
      rw [ih]
      split <;> omega
  intro t ht
  rw [h]; omega

/-- How many have something left. -/
def cntLeft (q : Q) (u : Nat) : Nat := nsum (fun i => if 0 < (sim q u).lf i then 1 else 0) q.N
theorem sum_ends {q : Q} {t : Nat} (hd : Done q t) : nsum (fun i => endN i (sim q t).ps) q.N = nsum (cntLeft q) t := by
  have h1 : nsum (fun i => endN i (sim q t).ps) q.N = nsum (fun i => nsum (fun u => if 0 < (sim q u).lf i then 1 else 0) t) q.N := nsum_congr fun i hi => by
    rw [← nsum_const_below (endN i (sim q t).ps) t (ends_inv q i t).1]
    refine nsum_congr fun u hu => ?_
    have := ends_spec hd hi u (by omega)
    by_cases c : u < endN i (sim q t).ps
    · rw [if_pos c, if_pos (this.2 c)]
    · rw [if_neg c, if_neg (fun h => c (this.1 h))]
  rw [h1, nsum_swap]
  rfl

/-- What is there, each job up to c. -/
def DD (q : Q) (t c : Nat) : Nat := nsum (fun i => if q.A i ≤ t then min ((sim q t).lf i) c else 0) q.N
def DE (q : Q) (t c : Nat) : Nat := nsum (fun i => if q.A i ≤ t then min ((sim q (t + 1)).lf i) c else 0) q.N

theorem dd_next (q : Q) (t c : Nat) : DD q (t + 1) c = DE q t c + nsum (fun i => if q.A i = t + 1 then min (q.S i) c else 0) q.N := by
  unfold DD DE
  rw [← nsum_add]
  refine nsum_congr fun i _ => ?_
  by_cases h1 : q.A i ≤ t
  · rw [if_pos h1, if_pos (by omega), if_neg (by omega)]; omega
  · rw [if_neg h1]
    by_cases h2 : q.A i = t + 1
    · rw [if_pos h2, if_pos (by omega), fresh (t + 1) i (by omega)]; omega
    · rw [if_neg h2, if_neg (by omega)]
theorem de_none {q : Q} {t : Nat} (e : choice q (sim q t) t = none) (c : Nat) : DE q t c = 0 ∧ DD q t c = 0 := by
  have h := none_left e
  constructor
  · unfold DE
    refine nsum_zero fun i hi => ?_
    split
    · next ha => rw [(sim_none e).1, h i hi ha]; omega
    · rfl
  · unfold DD
    refine nsum_zero fun i hi => ?_
    split
    · next ha => rw [h i hi ha]; omega
    · rfl
theorem de_some {q : Q} {t j : Nat} (e : choice q (sim q t) t = some j) (c : Nat) : DE q t c + (if (sim q t).lf j ≤ c then 1 else 0) = DD q t c := by
  have ⟨hp, hj⟩ := left_pos e
  have ha := come e
  have := nsum_one (f := fun i => if q.A i ≤ t then min ((sim q (t + 1)).lf i) c else 0) (g := fun i => if q.A i ≤ t then min ((sim q t).lf i) c else 0) hj (fun i _ he => by
    show (if _ then _ else _) = _
    rw [(sim_some e).1, upd_off _ _ he])
  simp only [ha, if_true] at this
  rw [(sim_some e).1, upd_at] at this
  unfold DE DD
  rw [(sim_some e).1]
  split <;> omega

theorem best_least {q : Q} (hr : q.r = 6) {t j : Nat} (e : choice q (sim q t) t = some j) : ∀ i, i < q.N → q.A i ≤ t → 0 < (sim q t).lf i → (sim q t).lf j ≤ (sim q t).lf i := by
  intro i hi ha hl
  rw [choice_best (fun _ _ h => absurd h (by omega))] at e
  rcases bst_spec q (sim q t).lf t q.N with ⟨e', _⟩ | ⟨k, e', B⟩
  · rw [e] at e'; cases e'
  · rw [e] at e'
    obtain rfl := Option.some.inj e'
    have := (B.2.2.2 i hi ha hl).1
    unfold key at this
    simp [hr] at this
    exact this

theorem srpt {s p : Q} (hr : s.r = 6) (hN : s.N = p.N) (hA : ∀ i, i < s.N → s.A i = p.A i) (hS : ∀ i, i < s.N → s.S i = p.S i) : ∀ t c, DD s t c ≤ DD p t c
  | 0, c => by
    unfold DD
    rw [← hN]
    refine nsum_le fun i hi => ?_
    rw [hA i hi]
    show (if p.A i ≤ 0 then min (s.S i) c else 0) ≤ if p.A i ≤ 0 then min (p.S i) c else 0
    rw [hS i hi]
    exact Nat.le_refl _
  | t + 1, c => by
    have ih := srpt hr hN hA hS t
    rw [dd_next, dd_next]
    have harr : nsum (fun i => if s.A i = t + 1 then min (s.S i) c else 0) s.N = nsum (fun i => if p.A i = t + 1 then min (p.S i) c else 0) p.N := by
      rw [← hN]
      exact nsum_congr fun i hi => by rw [hA i hi, hS i hi]
    rw [harr]
    refine Nat.add_le_add_right ?_ _
    cases es : choice s (sim s t) t with
    | none => rw [(de_none es c).1]; omega
    | some j =>
      have ⟨hsp, hsj⟩ := left_pos es
      have hsa := come es
      cases ep : choice p (sim p t) t with
      | none =>
        exfalso
        have h1 := ih 1
        rw [(de_none ep 1).2] at h1
        have h2 := nsum_ge (f := fun i => if s.A i ≤ t then min ((sim s t).lf i) 1 else 0) hsj
        simp only [hsa, if_true] at h2
        unfold DD at h1
        omega
      | some k =>
        have ⟨hpp, hpk⟩ := left_pos ep
        have hpa := come ep
        have d1 := de_some es c
        have d2 := de_some ep c
        have i1 := ih c
        have i2 := ih (c + 1)
        by_cases hm : (sim s t).lf j ≤ c
        · rw [if_pos hm] at d1
          split at d2 <;> omega
        · rw [if_neg hm] at d1
          by_cases hl : (sim p t).lf k ≤ c
          · rw [if_pos hl] at d2
            have hb := best_least hr es
            have e1 : ∀ c', c' ≤ c + 1 → DD s t c' = c' * nsum (fun i => if s.A i ≤ t ∧ 0 < (sim s t).lf i then 1 else 0) s.N := fun c' hc' => by
              unfold DD
              rw [← nsum_mul]
              refine nsum_congr fun i hi => ?_
              by_cases h1 : s.A i ≤ t
              · by_cases h2 : 0 < (sim s t).lf i
                · have := hb i hi h1 h2
                  rw [if_pos h1, if_pos ⟨h1, h2⟩]; omega
                · rw [if_pos h1, if_neg (fun h => h2 h.2)]; omega
              · rw [if_neg h1, if_neg (fun h => h1 h.1)]; omega
            have e2 : DD p t (c + 1) = DD p t c + nsum (fun i => if p.A i ≤ t ∧ c < (sim p t).lf i then 1 else 0) p.N := by
              unfold DD
              rw [← nsum_add]
              refine nsum_congr fun i _ => ?_
              by_cases h1 : p.A i ≤ t
              · by_cases h2 : c < (sim p t).lf i
                · rw [if_pos h1, if_pos h1, if_pos ⟨h1, h2⟩]; omega
                · rw [if_pos h1, if_pos h1, if_neg (fun h => h2 h.2)]; omega
              · rw [if_neg h1, if_neg h1, if_neg (fun h => h1 h.1)]
            have e3 : c * nsum (fun i => if p.A i ≤ t ∧ c < (sim p t).lf i then 1 else 0) p.N + (sim p t).lf k ≤ DD p t c := by
              rw [← nsum_mul]
              have h1 := nsum_one (f := fun i => if i = k then (sim p t).lf k else c * (if p.A i ≤ t ∧ c < (sim p t).lf i then 1 else 0)) (g := fun i => c * (if p.A i ≤ t ∧ c < (sim p t).lf i then 1 else 0)) hpk (fun i _ he => by simp [he])
              have h2 : nsum (fun i => if i = k then (sim p t).lf k else c * (if p.A i ≤ t ∧ c < (sim p t).lf i then 1 else 0)) p.N ≤ DD p t c := by
                unfold DD
                refine nsum_le fun i _ => ?_
                by_cases h3 : i = k
                · subst h3
                  rw [if_pos rfl, if_pos hpa]; omega
                · rw [if_neg h3]
                  by_cases h4 : p.A i ≤ t ∧ c < (sim p t).lf i
                  · rw [if_pos h4, if_pos h4.1]; omega
                  · rw [if_neg h4]; omega
              have h5 : ¬ (p.A k ≤ t ∧ c < (sim p t).lf k) := fun h => by omega
              simp only [h5, if_false, Nat.mul_zero, if_true] at h1
              omega
            rw [e1 c (by omega)] at i1 d1
            rw [e1 (c + 1) (by omega), e2] at i2
            obtain ⟨ns, hns⟩ : ∃ x, nsum (fun i => if s.A i ≤ t ∧ 0 < (sim s t).lf i then 1 else 0) s.N = x := ⟨_, rfl⟩
            obtain ⟨g, hg⟩ : ∃ x, nsum (fun i => if p.A i ≤ t ∧ c < (sim p t).lf i then 1 else 0) p.N = x := ⟨_, rfl⟩
            rw [hns] at i1 i2 d1
            rw [hg] at i2 e3
            rw [Nat.succ_mul] at i2
            rcases Nat.lt_or_ge g ns with hlt | hge
            · omega
            · have := Nat.mul_le_mul_left c hge
              omega
          · rw [if_neg hl] at d2; omega

theorem left_le {s p : Q} (hr : s.r = 6) (hN : s.N = p.N) (hA : ∀ i, i < s.N → s.A i = p.A i) (hS : ∀ i, i < s.N → s.S i = p.S i) (t : Nat) : cntLeft s t ≤ cntLeft p t := by
  have split1 : ∀ q : Q, cntLeft q t = DD q t 1 + nsum (fun i => if q.A i ≤ t then 0 else min (q.S i) 1) q.N := fun q => by
    unfold cntLeft DD
    rw [← nsum_add]
    refine nsum_congr fun i _ => ?_
    by_cases h : q.A i ≤ t
    · rw [if_pos h, if_pos h]; split <;> omega
    · rw [if_neg h, if_neg h, fresh t i (by omega)]; split <;> omega
  rw [split1, split1]
  have h1 := srpt hr hN hA hS t 1
  have h2 : nsum (fun i => if s.A i ≤ t then 0 else min (s.S i) 1) s.N = nsum (fun i => if p.A i ≤ t then 0 else min (p.S i) 1) p.N := by
    rw [← hN]
    exact nsum_congr fun i hi => by rw [hA i hi, hS i hi]
  omega

/-- Serving whoever has the least left makes the sum of all ends the least. -/
theorem shortest_least {s p : Q} (hr : s.r = 6) (hN : s.N = p.N) (hA : ∀ i, i < s.N → s.A i = p.A i) (hS : ∀ i, i < s.N → s.S i = p.S i) {t u : Nat} (ht : Done s t) (hu : Done p u) :
    nsum (fun i => endN i (sim s t).ps) s.N ≤ nsum (fun i => endN i (sim p u).ps) p.N := by
  have hT : ∀ {q : Q} {a : Nat} (d : Nat), Done q a → Done q (a + d) := fun {q a} d h i hi => by rw [(done_on h d).2]; exact h i hi
  have h1 : Done s (t + u) := hT u ht
  have h2 : Done p (t + u) := by rw [Nat.add_comm]; exact hT t hu
  rw [done_same ht h1, done_same hu h2, sum_ends h1, sum_ends h2]
  exact nsum_le fun x _ => left_le hr hN hA hS x

/-- Ends are not beyond the last one's coming and all sizes. -/
theorem busy_fit {q : Q} {M : Nat} (hM : ∀ i, i < q.N → q.A i ≤ M) : ∀ t, cntLeft q t = 0 ∨ t + nsum (sim q t).lf q.N ≤ M + nsum q.S q.N
  | 0 => Or.inr (by show 0 + nsum q.S q.N ≤ _; omega)
  | t + 1 => by
    have hz : ∀ u, cntLeft q u = 0 → ∀ i, i < q.N → (sim q u).lf i = 0 := fun u h i hi => by
      have := nsum_eq_zero h i hi
      by_cases c : 0 < (sim q u).lf i
      · simp only [c, if_true] at this; omega
      · omega
    rcases busy_fit hM t with h | h
    · left
      have hz' := hz t h
      refine nsum_zero fun i hi => ?_
      have := lf_next q t i
      have := hz' i hi
      rw [if_neg (by omega)]
    · cases e : choice q (sim q t) t with
      | some j =>
        right
        have ⟨h1, h2⟩ := left_pos e
        have := nsum_one (f := upd (sim q t).lf j ((sim q t).lf j - 1)) (g := (sim q t).lf) h2 (fun i _ he => upd_off _ _ he)
        rw [upd_at] at this
        rw [(sim_some e).1]
        omega
      | none =>
        by_cases c : t < M
        · right
          have := cnt_lf q (t + 1)
          omega
        · left
          refine nsum_zero fun i hi => ?_
          have h1 := hM i hi
          rw [(sim_none e).1, none_left e i hi (by omega)]
          rfl
theorem ends_le {q : Q} {M t i : Nat} (hM : ∀ i, i < q.N → q.A i ≤ M) (hd : Done q t) (hi : i < q.N) : endN i (sim q t).ps ≤ M + nsum q.S q.N := by
  obtain ⟨h1, h2, h3⟩ := ends_inv q i t
  rcases Nat.eq_zero_or_pos (endN i (sim q t).ps) with c | c
  · omega
  · have hl := (ends_spec hd hi (endN i (sim q t).ps - 1) (by omega)).2 (by omega)
    rcases busy_fit hM (endN i (sim q t).ps - 1) with h | h
    · have := nsum_eq_zero h i hi
      simp only [hl, if_true] at this
      omega
    · have := nsum_ge (f := (sim q (endN i (sim q t).ps - 1)).lf) hi
      omega
end Go.Proofs.Ytfebbjbobogkcaa.Sim
