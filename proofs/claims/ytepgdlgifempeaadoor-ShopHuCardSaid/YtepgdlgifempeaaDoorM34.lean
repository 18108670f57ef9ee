/- Hu as the document does it: the best of those that may, machine by machine. -/
import Derived.Test.YtepgdlgifempeaaDoorM32
namespace Go.Proofs.YtepgdlgifempeaaDoor.Hux
open Lin

/-- One that is looked at. -/
def sb (D : Nat → Int) (lev : Nat → Nat) (s : Int) (i : Nat) : Int := if D i < 0 ∧ (s < 0 ∨ lev s.toNat < lev i) then (i : Int) else s
def bst (D : Nat → Int) (lev : Nat → Nat) (l : List Nat) : Int := l.foldl (sb D lev) (-1)
theorem bst_snoc (D : Nat → Int) (lev : Nat → Nat) (l : List Nat) (i : Nat) : bst D lev (l ++ [i]) = sb D lev (bst D lev l) i := by unfold bst; rw [List.foldl_append]; rfl
def Lv (lev : Nat → Nat) (x y : Nat) : Prop := lev y < lev x ∨ (lev y = lev x ∧ x < y)
theorem bst_is (D : Nat → Int) (lev : Nat → Nat) : ∀ (k : Nat) (l : List Nat), l.length = k → l.Pairwise (fun a b => a < b) → (bst D lev l = -1 ∧ ∀ y ∈ l, ¬ D y < 0) ∨ ∃ x : Nat, bst D lev l = (x : Int) ∧ x ∈ l ∧ D x < 0 ∧ ∀ y ∈ l, D y < 0 → y ≠ x → Lv lev x y := by
  intro k
  induction k with
  | zero =>
    intro l hl _
    have : l = [] := List.eq_nil_of_length_eq_zero hl
    subst this
    exact Or.inl ⟨rfl, fun y hy => absurd hy List.not_mem_nil⟩
  | succ k ih =>
    intro l hl hp
    rcases List.eq_nil_or_concat l with e | ⟨l', i, e⟩
    · subst e; simp at hl
    · have e : l = l' ++ [i] := by simpa using e
      subst e
      have hlt : ∀ y ∈ l', y < i := fun y hy => (List.pairwise_append.1 hp).2.2 y hy i (List.mem_cons_self ..)
      have h := ih l' (by simpa using hl) (List.pairwise_append.1 hp).1
      rw [bst_snoc]
      unfold sb
      by_cases c : D i < 0
      · rcases h with ⟨h1, h2⟩ | ⟨x, h1, h2, h3, h4⟩
        · rw [h1, if_pos ⟨c, Or.inl (by omega)⟩]
          refine Or.inr ⟨i, rfl, List.mem_append_right _ (List.mem_cons_self ..), c, fun y hy hD hne => ?_⟩
          rcases List.mem_append.1 hy with hy | hy
          · exact absurd hD (h2 y hy)
          · exact absurd (by simpa using hy) hne
        · rw [h1]
          by_cases cl : lev x < lev i
          · rw [if_pos ⟨c, Or.inr (by rw [Int.toNat_natCast]; exact cl)⟩]
            refine Or.inr ⟨i, rfl, List.mem_append_right _ (List.mem_cons_self ..), c, fun y hy hD hne => ?_⟩
            rcases List.mem_append.1 hy with hy | hy
            · by_cases cx : y = x
              · rw [cx]; exact Or.inl cl
              · rcases h4 y hy hD cx with q | q
                · exact Or.inl (by omega)
                · exact Or.inl (by omega)
            · exact absurd (by simpa using hy) hne
          · rw [if_neg (fun h => h.2.elim (by omega) (by rw [Int.toNat_natCast]; exact cl))]
            refine Or.inr ⟨x, rfl, List.mem_append_left _ h2, h3, fun y hy hD hne => ?_⟩
            rcases List.mem_append.1 hy with hy | hy
            · exact h4 y hy hD hne
            · have hyi : y = i := by simpa using hy
              have := hlt x h2
              rw [hyi]
              rcases Nat.lt_or_ge (lev i) (lev x) with q | q
              · exact Or.inl q
              · exact Or.inr ⟨by omega, this⟩
      · rw [if_neg (fun h => c h.1)]
        rcases h with ⟨h1, h2⟩ | ⟨x, h1, h2, h3, h4⟩
        · refine Or.inl ⟨h1, fun y hy => ?_⟩
          rcases List.mem_append.1 hy with hy | hy
          · exact h2 y hy
          · rw [show y = i by simpa using hy]; exact c
        · refine Or.inr ⟨x, h1, List.mem_append_left _ h2, h3, fun y hy hD hne => ?_⟩
          rcases List.mem_append.1 hy with hy | hy
          · exact h4 y hy hD hne
          · rw [show y = i by simpa using hy] at hD; exact absurd hD c
/-- When each is done, not done: below 0; the first j of V are done now. -/
def dj (Q : List Nat) (T : Nat → Nat) (V : List Nat) (t j : Nat) : Nat → Int := fun i => if i ∈ V.take j then (t : Int) else if i ∈ Q then -1 else (T i : Int)
def dn (Q : List Nat) (T : Nat → Nat) : Nat → Int := fun i => if i ∈ Q then -1 else (T i : Int)
theorem dj_zero (Q : List Nat) (T : Nat → Nat) (V : List Nat) (t : Nat) : dj Q T V t 0 = dn Q T := by
  funext i; unfold dj dn; rw [List.take_zero, if_neg List.not_mem_nil]
theorem dn_neg {Q : List Nat} {T : Nat → Nat} {i : Nat} : dn Q T i < 0 ↔ i ∈ Q := by
  unfold dn
  by_cases c : i ∈ Q
  · rw [if_pos c]; exact ⟨fun _ => c, fun _ => by omega⟩
  · rw [if_neg c]; exact ⟨fun h => by omega, fun h => absurd h c⟩
theorem lv_irr {lev : Nat → Nat} {x : Nat} (h : Lv lev x x) : False := by rcases h with h | h <;> omega
theorem lv_asym {lev : Nat → Nat} {x y : Nat} (h : Lv lev x y) (h' : Lv lev y x) : False := by rcases h with h | h <;> rcases h' with h' | h' <;> omega
section
variable {Q V may : List Nat} {T lev : Nat → Nat} {t j : Nat}
theorem dj_some {x : Nat} (h : V[j]? = some x) (i : Nat) : (if i = x then (t : Int) else dj Q T V t j i) = dj Q T V t (j + 1) i := by
  have e : V.take (j + 1) = V.take j ++ [x] := by rw [List.take_add_one, h]; rfl
  unfold dj
  rw [e]
  by_cases c : i = x
  · rw [if_pos c, if_pos (by rw [c]; simp)]
  · rw [if_neg c]
    by_cases c2 : i ∈ V.take j
    · rw [if_pos c2, if_pos (List.mem_append_left _ c2)]
    · rw [if_neg c2, if_neg (fun h => (List.mem_append.1 h).elim c2 (fun h => c (by simpa using h)))]
theorem dj_none (h : V[j]? = none) : dj Q T V t (j + 1) = dj Q T V t j := by
  have hl := List.getElem?_eq_none_iff.1 h
  unfold dj
  rw [List.take_of_length_le (by omega), List.take_of_length_le (by omega)]
theorem dj_drop (hV : V.Pairwise (Lv lev)) (hVQ : ∀ i ∈ V, i ∈ Q) {i : Nat} (hi : i ∈ V) : dj Q T V t j i < 0 ↔ i ∈ V.drop j := by
  have hp := hV
  rw [← List.take_append_drop j V] at hp
  have hd := (List.pairwise_append.1 hp).2.2
  unfold dj
  by_cases c : i ∈ V.take j
  · rw [if_pos c]
    exact ⟨fun h => by omega, fun h => (lv_irr (hd i c i h)).elim⟩
  · rw [if_neg c, if_pos (hVQ i hi)]
    refine ⟨fun _ => ?_, fun _ => by omega⟩
    rw [← List.take_append_drop j V] at hi
    exact (List.mem_append.1 hi).elim (fun h => absurd h c) id
theorem pick_some (hV : V.Pairwise (Lv lev)) (hm : may.Pairwise (fun a b => a < b)) (hmem : ∀ i, i ∈ may ↔ i ∈ V) (hVQ : ∀ i ∈ V, i ∈ Q) {x : Nat} (h : V[j]? = some x) : bst (dj Q T V t j) lev may = (x : Int) := by
  obtain ⟨hj, hx⟩ := List.getElem?_eq_some_iff.1 h
  have hdr : V.drop j = x :: V.drop (j + 1) := by rw [← hx]; exact List.drop_eq_getElem_cons hj
  have hxV : x ∈ V := by rw [← hx]; exact List.getElem_mem _
  have hxd : dj Q T V t j x < 0 := (dj_drop hV hVQ hxV).2 (by rw [hdr]; exact List.mem_cons_self ..)
  have hps : (x :: V.drop (j + 1)).Pairwise (Lv lev) := by rw [← hdr]; exact hV.sublist (List.drop_sublist j V)
  rcases bst_is (dj Q T V t j) lev _ may rfl hm with ⟨_, h2⟩ | ⟨y, h1, h2, h3, h4⟩
  · exact absurd hxd (h2 x ((hmem x).2 hxV))
  · rw [h1]
    by_cases c : x = y
    · rw [c]
    · have hyd := (dj_drop hV hVQ ((hmem y).1 h2)).1 h3
      rw [hdr] at hyd
      rcases List.mem_cons.1 hyd with e | e
      · exact absurd e.symm c
      · exact (lv_asym (h4 x ((hmem x).2 hxV) hxd c) ((List.pairwise_cons.1 hps).1 y e)).elim
theorem pick_none (hV : V.Pairwise (Lv lev)) (hm : may.Pairwise (fun a b => a < b)) (hmem : ∀ i, i ∈ may ↔ i ∈ V) (hVQ : ∀ i ∈ V, i ∈ Q) (h : V[j]? = none) : bst (dj Q T V t j) lev may = -1 := by
  have hl := List.getElem?_eq_none_iff.1 h
  rcases bst_is (dj Q T V t j) lev _ may rfl hm with ⟨h1, _⟩ | ⟨y, h1, h2, h3, h4⟩
  · exact h1
  · have hyd := (dj_drop hV hVQ ((hmem y).1 h2)).1 h3
    rw [List.drop_eq_nil_of_le hl] at hyd
    exact absurd hyd List.not_mem_nil
end
theorem dj_end {Q C R : List Nat} {T : Nat → Nat} {t m : Nat} {p : Nat → Bool} (hd : Q.Nodup) (hp : Pd p m Q C R) (i : Nat) : dj Q T (Q.filter p) t m i = dn R (now' T C t) i := by
  have hcd : (C ++ R).Nodup := hp.perm.nodup_iff.2 hd
  unfold dj dn now'
  rw [← hp.c]
  by_cases c : i ∈ C
  · rw [if_pos c, if_neg (fun h => (List.nodup_append.1 hcd).2.2 i c i h rfl), if_pos c]
  · rw [if_neg c]
    by_cases c2 : i ∈ Q
    · rw [if_pos c2, if_pos ((List.mem_append.1 (hp.perm.symm.subset c2)).elim (fun h => absurd h c) id)]
    · rw [if_neg c2, if_neg (fun h => c2 (hp.perm.subset (List.mem_append_right _ h))), if_neg c]
/-- Those that may, so far. -/
def mayL (nx : Nat → Int) (Q : List Nat) (i : Nat) : List Nat := (List.range i).filter (fun k => decide (k ∈ Q) && rdy nx Q k)
theorem mayL_succ (nx : Nat → Int) (Q : List Nat) (i : Nat) : mayL nx Q (i + 1) = mayL nx Q i ++ (if i ∈ Q ∧ rdy nx Q i = true then [i] else []) := by
  unfold mayL
  rw [List.range_succ, List.filter_append]
  congr 1
  by_cases c : i ∈ Q ∧ rdy nx Q i = true
  · rw [if_pos c]; simp [c.1, c.2]
  · rw [if_neg c]
    by_cases c1 : i ∈ Q
    · have : rdy nx Q i = false := by cases h : rdy nx Q i with
        | false => rfl
        | true => exact absurd ⟨c1, h⟩ c
      simp [this]
    · simp [c1]
theorem mayL_lt (nx : Nat → Int) (Q : List Nat) (i : Nat) : (mayL nx Q i).Pairwise (fun a b => a < b) := List.pairwise_lt_range.filter _
theorem mayL_len (nx : Nat → Int) (Q : List Nat) (i : Nat) : (mayL nx Q i).length ≤ i := by
  have := List.length_filter_le (fun k => decide (k ∈ Q) && rdy nx Q k) (List.range i)
  rw [List.length_range] at this
  exact this
theorem mayL_mem {nx : Nat → Int} {Q : List Nat} {n : Nat} (hQ : ∀ i ∈ Q, i < n) (i : Nat) : i ∈ mayL nx Q n ↔ i ∈ Q.filter (rdy nx Q) := by
  unfold mayL
  rw [List.mem_filter, List.mem_filter, List.mem_range]
  simp only [Bool.and_eq_true, decide_eq_true_eq]
  exact ⟨fun h => h.2, fun h => ⟨hQ i h.1, h⟩⟩
/-- Whether one may, as far as looked. -/
def okk (nx : Nat → Int) (Q : List Nat) (i k : Nat) : Bool := (List.range k).all (fun q => decide (nx q ≠ (i : Int)) || decide (q ∉ Q))
theorem okk_succ (nx : Nat → Int) (Q : List Nat) (i k : Nat) : okk nx Q i (k + 1) = (okk nx Q i k && (decide (nx k ≠ (i : Int)) || decide (k ∉ Q))) := by
  unfold okk; rw [List.range_succ, List.all_append]; simp
theorem okk_all {nx : Nat → Int} {Q : List Nat} {n : Nat} (hQ : ∀ i ∈ Q, i < n) (i : Nat) : okk nx Q i n = rdy nx Q i := by
  rw [Bool.eq_iff_iff, rdy_true]
  unfold okk
  rw [List.all_eq_true]
  constructor
  · intro h k hk e
    have := h k (List.mem_range.2 (hQ k hk))
    simp [e, hk] at this
  · intro h k _
    by_cases c : k ∈ Q
    · simp [h k c]
    · simp [c]
def lft (Q : List Nat) (i : Nat) : Bool := (List.range i).any (fun k => decide (k ∈ Q))
theorem lft_in {Q : List Nat} {i : Nat} (h : i ∈ Q) : lft Q (i + 1) = true := by
  unfold lft; rw [List.any_eq_true]; exact ⟨i, List.mem_range.2 (by omega), by simpa using h⟩
theorem lft_out {Q : List Nat} {i : Nat} (h : i ∉ Q) : lft Q (i + 1) = lft Q i := by
  unfold lft; rw [List.range_succ, List.any_append]; simp [h]
theorem lft_all {Q : List Nat} {n : Nat} (hQ : ∀ i ∈ Q, i < n) : lft Q n = true ↔ Q ≠ [] := by
  unfold lft
  rw [List.any_eq_true]
  constructor
  · rintro ⟨k, _, h⟩ e
    rw [e] at h
    simp at h
  · intro h
    obtain ⟨k, hk⟩ := List.exists_mem_of_ne_nil Q h
    exact ⟨k, List.mem_range.2 (hQ k hk), by simpa using hk⟩
/-- A row by levels. -/
theorem row_ex (lev : Nat → Nat) (n : Nat) : ∃ Q : List Nat, Q.Perm (List.range n) ∧ Q.Pairwise (Lv lev) := by
  let le : Nat → Nat → Bool := fun x y => decide (lev y < lev x ∨ (lev y = lev x ∧ x ≤ y))
  have h1 : ((List.range n).mergeSort le).Pairwise (fun a b => le a b = true) := List.pairwise_mergeSort (fun a b c h h' => by
    have h := of_decide_eq_true h
    have h' := of_decide_eq_true h'
    apply decide_eq_true
    omega) (fun a b => by
    rw [Bool.or_eq_true]
    by_cases c : lev b < lev a ∨ (lev b = lev a ∧ a ≤ b)
    · exact Or.inl (decide_eq_true c)
    · exact Or.inr (decide_eq_true (by omega))) _
  have h2 := List.mergeSort_perm (List.range n) le
  refine ⟨_, h2, ?_⟩
  have h3 : ((List.range n).mergeSort le).Nodup := h2.nodup_iff.2 List.nodup_range
  refine (h1.and h3).imp ?_
  intro a b h
  have h' := of_decide_eq_true h.1
  have := h.2
  unfold Lv
  omega
end Go.Proofs.YtepgdlgifempeaaDoor.Hux
