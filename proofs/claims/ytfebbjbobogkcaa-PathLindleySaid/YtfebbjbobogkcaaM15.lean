/- First come, first served: LINDLEY. -/
import Derived.Test.YtfebbjbobogkcaaM12
namespace Go.Proofs.Ytfebbjbobogkcaa.Sim

/-- When each begins, by one server. -/
def bg (q : Q) : Nat → Nat
  | 0 => q.A 0
  | k + 1 => max (q.A (k + 1)) (bg q k + q.S k)
/-- When the first k are done. -/
def tk (q : Q) : Nat → Nat
  | 0 => 0
  | k + 1 => bg q k + q.S k
theorem bg_tk (q : Q) : ∀ k, bg q k = max (q.A k) (tk q k)
  | 0 => by show q.A 0 = max _ 0; omega
  | _ + 1 => rfl
def lps (q : Q) (k : Nat) : List Pc := (List.range k).map fun i => (i, bg q i, bg q i + q.S i)
theorem lps_succ (q : Q) (k : Nat) : lps q (k + 1) = lps q k ++ [(k, bg q k, bg q k + q.S k)] := by
  unfold lps; rw [List.range_succ, List.map_append]; rfl
theorem lps_join (q : Q) (k : Nat) : joinP (lps q k) (k, bg q k, bg q k + q.S k) = lps q (k + 1) := by
  cases k with
  | zero => rfl
  | succ k =>
    rw [lps_succ q (k + 1)]
    conv => lhs; rw [lps_succ q k]
    rw [joinP_last, if_neg (fun h => by have := h.1; simp at this), lps_succ q k]

theorem first_run {q : Q} (hr : q.r = 1) (hA : ∀ i j, i ≤ j → j < q.N → q.A i ≤ q.A j) (hS : ∀ i, i < q.N → 0 < q.S i) : ∀ k, k ≤ q.N →
    (∀ i, i < k → (sim q (tk q k)).lf i = 0 ∧ q.A i ≤ tk q k) ∧ (∀ i, k ≤ i → (sim q (tk q k)).lf i = q.S i) ∧ (sim q (tk q k)).ps = lps q k ∧ (∀ j, (sim q (tk q k)).on = some j → (sim q (tk q k)).lf j = 0)
  | 0, _ => ⟨fun i h => absurd h (Nat.not_lt_zero _), fun i _ => rfl, rfl, fun j h => (by cases h)⟩
  | k + 1, hk => by
    obtain ⟨h1, h2, h3, h4⟩ := first_run hr hA hS k (by omega)
    have hkN : k < q.N := by omega
    have hb := bg_tk q k
    -- at the time at which it begins
    have atb : (∀ i, i < k → (sim q (bg q k)).lf i = 0) ∧ (∀ i, k ≤ i → (sim q (bg q k)).lf i = q.S i) ∧ (sim q (bg q k)).ps = lps q k ∧ (∀ j, (sim q (bg q k)).on = some j → q.r ≤ 4 → (sim q (bg q k)).lf j = 0) := by
      rcases Nat.lt_or_ge (tk q k) (q.A k) with c | c
      · obtain ⟨d, hd⟩ := Nat.le.dest (Nat.le_of_lt c)
        have e : bg q k = tk q k + d := by omega
        have hlo : ∀ i, i < q.N → q.A i < q.A k → i < k := fun i hi h => by
          rcases Nat.lt_or_ge i k with x | x
          · exact x
          · have := hA k i x hi; omega
        have := sim_idle (q := q) (t := tk q k) (fun i hi ha => (h1 i (hlo i hi (by omega))).1) (fun j hj _ => h4 j hj) d (by omega) (fun i hi ha => (h1 i (hlo i hi (by omega))).2)
        rw [e, this]
        exact ⟨fun i hi => (h1 i hi).1, h2, h3, fun j hj => (by cases hj)⟩
      · have e : bg q k = tk q k := by omega
        rw [e]
        exact ⟨fun i hi => (h1 i hi).1, h2, h3, fun j hj _ => h4 j hj⟩
    obtain ⟨b1, b2, b3, b4⟩ := atb
    have hch : choice q (sim q (bg q k)) (bg q k) = some k := by
      rw [choice_best b4]
      refine bst_of ⟨hkN, by omega, by rw [b2 k (Nat.le_refl _)]; exact hS k hkN, fun i hi _ hl => ?_⟩
      have hik : k ≤ i := by
        rcases Nat.lt_or_ge i k with x | x
        · have := b1 i x; omega
        · exact x
      unfold key
      rw [if_pos hr, if_pos hr]
      exact ⟨by omega, fun _ => hik⟩
    have hs := sim_serve (q := q) hch (q.S k) (by rw [b2 k (Nat.le_refl _)]; exact Nat.le_refl _) (hS k hkN) (Or.inl (by omega))
    show (∀ i, i < k + 1 → (sim q (bg q k + q.S k)).lf i = 0 ∧ q.A i ≤ bg q k + q.S k) ∧ (∀ i, k + 1 ≤ i → (sim q (bg q k + q.S k)).lf i = q.S i) ∧ (sim q (bg q k + q.S k)).ps = lps q (k + 1) ∧ (∀ j, (sim q (bg q k + q.S k)).on = some j → (sim q (bg q k + q.S k)).lf j = 0)
    rw [hs]
    refine ⟨fun i hi => ⟨?_, ?_⟩, fun i hi => ?_, ?_, fun j hj => ?_⟩
    · show upd _ _ _ _ = 0
      by_cases c : i = k
      · subst c; rw [upd_at, b2 i (Nat.le_refl _)]; omega
      · rw [upd_off _ _ c]; exact b1 i (by omega)
    · rcases Nat.lt_or_ge i k with x | x
      · have := (h1 i x).2; omega
      · rw [show i = k by omega]; omega
    · show upd _ _ _ _ = _
      rw [upd_off _ _ (by omega)]; exact b2 i (by omega)
    · show joinP _ _ = _
      rw [b3]; exact lps_join q k
    · obtain rfl := Option.some.inj hj
      show upd _ _ _ _ = 0
      rw [upd_at, b2 k (Nat.le_refl _)]; omega

theorem first_ps {q : Q} (hr : q.r = 1) (hA : ∀ i j, i ≤ j → j < q.N → q.A i ≤ q.A j) (hS : ∀ i, i < q.N → 0 < q.S i) {t : Nat} (hd : Done q t) : (sim q t).ps = lps q q.N := by
  obtain ⟨h1, h2, h3, h4⟩ := first_run hr hA hS q.N (Nat.le_refl _)
  rw [← h3]
  exact done_same hd fun i hi => (h1 i hi).1
end Go.Proofs.Ytfebbjbobogkcaa.Sim
