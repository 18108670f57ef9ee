/- LITTLE's law: the maths. -/
import Derived.Test.YtfebbjbobogkcaaP14
namespace Go.Proofs.Ytfebbjbobogkcaa
open Go.RowKit Go.Sort Sim

theorem isum_congr {f g : Nat → Int} : ∀ {n : Nat}, (∀ i, i < n → f i = g i) → isum f n = isum g n
  | 0, _ => rfl
  | n + 1, h => by
    show isum f n + f n = isum g n + g n
    rw [isum_congr (fun i hi => h i (by omega)), h n (by omega)]
theorem isum_zero {f : Nat → Int} : ∀ {n : Nat}, (∀ i, i < n → f i = 0) → isum f n = 0
  | 0, _ => rfl
  | n + 1, h => by
    show isum f n + f n = 0
    rw [isum_zero (fun i hi => h i (by omega)), h n (by omega)]; rfl
theorem isum_plus {f g : Nat → Int} : ∀ {n : Nat}, isum (fun i => f i + g i) n = isum f n + isum g n
  | 0 => rfl
  | n + 1 => by
    show isum (fun i => f i + g i) n + (f n + g n) = isum f n + f n + (isum g n + g n)
    rw [isum_plus]; omega
theorem isum_swap {f : Nat → Nat → Int} {m : Nat} : ∀ {n : Nat}, isum (fun i => isum (f i) m) n = isum (fun k => isum (fun i => f i k) n) m
  | 0 => (isum_zero (fun _ _ => rfl)).symm
  | n + 1 => by
    show isum (fun i => isum (f i) m) n + isum (f n) m = isum (fun k => isum (fun i => f i k) n + f n k) m
    rw [isum_plus, isum_swap]
theorem isum_only {f : Nat → Int} {j : Nat} : ∀ {n : Nat}, j < n → (∀ i, i < n → i ≠ j → f i = 0) → isum f n = f j
  | n + 1, hj, h => by
    show isum f n + f n = f j
    rcases Nat.lt_or_ge j n with c | c
    · rw [isum_only c (fun i hi he => h i (by omega) he), h n (by omega) (by omega)]; omega
    · obtain rfl : j = n := by omega
      rw [isum_zero (fun i hi => h i (by omega) (by omega))]; omega

/-- The next time behind number i, of the first k. -/
def nxf (T : Nat → Int) (i : Nat) : Nat → Int
  | 0 => -1
  | k + 1 => if T i < T k ∧ (nxf T i k < 0 ∨ T k < nxf T i k) then T k else nxf T i k
/-- Is it the first one at its time, as far as looked? -/
def fsf (T : Nat → Int) (i : Nat) : Nat → Bool
  | 0 => true
  | k + 1 => fsf T i k && decide (i ≤ k ∨ T k ≠ T i)

theorem nxf_spec {T : Nat → Int} (hT : ∀ k, 0 ≤ T k) (i : Nat) : ∀ m, (nxf T i m = -1 ∧ ∀ k, k < m → T k ≤ T i) ∨ (∃ k, k < m ∧ nxf T i m = T k ∧ T i < T k ∧ ∀ l, l < m → T i < T l → T k ≤ T l)
  | 0 => Or.inl ⟨rfl, fun k h => absurd h (Nat.not_lt_zero _)⟩
  | m + 1 => by
    rcases nxf_spec hT i m with ⟨h1, h2⟩ | ⟨k, hk, h1, h2, h3⟩
    · by_cases c : T i < T m
      · refine Or.inr ⟨m, by omega, ?_, c, fun l hl ht => ?_⟩
        · show (if _ then _ else _) = _
          rw [if_pos ⟨c, Or.inl (by omega)⟩]
        · rcases Nat.lt_or_ge l m with x | x
          · have := h2 l x; omega
          · rw [show l = m by omega]; omega
      · refine Or.inl ⟨?_, fun k hk => ?_⟩
        · show (if _ then _ else _) = _
          rw [if_neg (fun h => c h.1), h1]
        · rcases Nat.lt_or_ge k m with x | x
          · exact h2 k x
          · rw [show k = m by omega]; omega
    · by_cases c : T i < T m ∧ T m < T k
      · refine Or.inr ⟨m, by omega, ?_, c.1, fun l hl ht => ?_⟩
        · show (if _ then _ else _) = _
          rw [if_pos ⟨c.1, Or.inr (by omega)⟩]
        · rcases Nat.lt_or_ge l m with x | x
          · have := h3 l x ht; omega
          · rw [show l = m by omega]; omega
      · refine Or.inr ⟨k, by omega, ?_, h2, fun l hl ht => ?_⟩
        · show (if _ then _ else _) = _
          have := hT k
          rw [if_neg (fun h => h.2.elim (fun x => by omega) (fun x => c ⟨h.1, by omega⟩)), h1]
        · rcases Nat.lt_or_ge l m with x | x
          · exact h3 l x ht
          · have e : l = m := by omega
            rw [e] at ht ⊢
            rcases Int.lt_or_le (T m) (T k) with y | y
            · exact absurd ⟨ht, y⟩ c
            · exact y
theorem fsf_spec {T : Nat → Int} {i : Nat} : ∀ {m : Nat}, fsf T i m = true ↔ ∀ k, k < m → k < i → T k ≠ T i
  | 0 => ⟨fun _ k h => absurd h (Nat.not_lt_zero _), fun _ => rfl⟩
  | m + 1 => by
    show (fsf T i m && decide (i ≤ m ∨ T m ≠ T i)) = true ↔ _
    rw [Bool.and_eq_true, fsf_spec, decide_eq_true_iff]
    constructor
    · rintro ⟨h1, h2⟩ k hk hki
      rcases Nat.lt_or_ge k m with x | x
      · exact h1 k x hki
      · have e : k = m := by omega
        rw [e]
        rcases h2 with y | y
        · omega
        · exact y
    · intro h
      refine ⟨fun k hk hki => h k (by omega) hki, ?_⟩
      by_cases c : i ≤ m
      · exact Or.inl c
      · exact Or.inr (h m (by omega) (by omega))

/-- From a time to the next one. -/
def stepv (T : Nat → Int) (M i : Nat) : Int := if 0 ≤ nxf T i M ∧ fsf T i M = true then nxf T i M - T i else 0

theorem first_at {T : Nat → Int} {M : Nat} {a : Int} (h : ∃ i, i < M ∧ T i = a) : ∃ i, i < M ∧ T i = a ∧ ∀ k, k < i → T k ≠ a := by
  obtain ⟨i, hi, ha⟩ := h
  induction i using Nat.strongRecOn with
  | ind i ih =>
    by_cases c : ∃ k, k < i ∧ T k = a
    · obtain ⟨k, hk, hka⟩ := c
      exact ih k hk (by omega) hka
    · exact ⟨i, hi, ha, fun k hk e => c ⟨k, hk, e⟩⟩

theorem steps_sum {T : Nat → Int} (hT : ∀ k, 0 ≤ T k) {M : Nat} : ∀ (d : Nat) (a b : Int), (b - a).toNat = d → a ≤ b → (∃ i, i < M ∧ T i = a) → (∃ i, i < M ∧ T i = b) → isum (fun i => if a ≤ T i ∧ T i < b then stepv T M i else 0) M = b - a := by
  intro d
  induction d using Nat.strongRecOn with
  | ind d ih =>
    intro a b hd hab ha hb
    rcases Int.lt_or_le a b with hlt | hge
    · obtain ⟨i0, hi0, e0, hf0⟩ := first_at ha
      obtain ⟨jb, hjb, ejb⟩ := hb
      rcases nxf_spec hT i0 M with ⟨_, h2⟩ | ⟨k, hk, h1, h2, h3⟩
      · have := h2 jb hjb; omega
      · have hcb : T k ≤ b := by have := h3 jb hjb (by omega); omega
        have hac : a < T k := by omega
        have hrec := ih (b - T k).toNat (by omega) (T k) b rfl hcb ⟨k, hk, rfl⟩ ⟨jb, hjb, ejb⟩
        have hsplit : isum (fun i => if a ≤ T i ∧ T i < b then stepv T M i else 0) M = isum (fun i => if a ≤ T i ∧ T i < T k then stepv T M i else 0) M + isum (fun i => if T k ≤ T i ∧ T i < b then stepv T M i else 0) M := by
          rw [← isum_plus]
          refine isum_congr fun i _ => ?_
          by_cases c1 : a ≤ T i ∧ T i < T k
          · rw [if_pos c1, if_pos ⟨c1.1, by omega⟩, if_neg (by omega)]; omega
          · rw [if_neg c1]
            by_cases c2 : T k ≤ T i ∧ T i < b
            · rw [if_pos c2, if_pos ⟨by omega, c2.2⟩]; omega
            · rw [if_neg c2, if_neg (by omega)]; rfl
        have hone : isum (fun i => if a ≤ T i ∧ T i < T k then stepv T M i else 0) M = T k - a := by
          rw [isum_only hi0 (fun i hi hne => ?_)]
          · rw [if_pos ⟨by omega, by omega⟩]
            unfold stepv
            rw [if_pos ⟨by rw [h1]; exact hT k, fsf_spec.2 (fun l hl hli => by rw [e0]; exact hf0 l hli)⟩, h1, e0]
          · by_cases c : a ≤ T i ∧ T i < T k
            · rw [if_pos c]
              have hia : T i = a := by
                rcases Int.lt_or_le a (T i) with x | x
                · have := h3 i hi (by omega); omega
                · omega
              unfold stepv
              rw [if_neg]
              intro h
              have hfs := fsf_spec.1 h.2
              rcases Nat.lt_or_ge i i0 with x | x
              · exact hf0 i x hia
              · exact hfs i0 hi0 (by omega) (by rw [e0, hia])
            · rw [if_neg c]
        rw [hsplit, hone, hrec]; omega
    · obtain rfl : a = b := by omega
      rw [isum_zero (fun i _ => by rw [if_neg (by omega)])]; omega

/-- LITTLE: all stays together are the number present, summed over time. -/
theorem little {T A E : Nat → Int} (hT : ∀ k, 0 ≤ T k) {M n : Nat} (hAE : ∀ k, k < n → A k ≤ E k ∧ (∃ i, i < M ∧ T i = A k) ∧ ∃ i, i < M ∧ T i = E k) :
    isum (fun i => isum (fun k => if A k ≤ T i ∧ T i < E k then stepv T M i else 0) n) M = isum (fun k => E k - A k) n := by
  rw [isum_swap]
  exact isum_congr fun k hk => steps_sum hT _ _ _ rfl (hAE k hk).1 (hAE k hk).2.1 (hAE k hk).2.2
end Go.Proofs.Ytfebbjbobogkcaa
