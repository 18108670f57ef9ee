/- The law of Moore and Hodgson: its walk. -/
import Derived.Test.YtmpigipeajdgcaaDoorL30
namespace Go.Proofs.YtmpigipeajdgcaaDoor
open Go.RowKit Go.Sort Stb

theorem LRow.moore {w : World} {n : Nat} {f : Nat → T3} {e : Ending} {w' : World} (h : LRow w n f (fun L => ∃ g, Re 0 n id g ∧ Sr (ltc (fun i k => jcmp (f i) (f k))) g 0 n ∧ L = mrow f ((List.range n).map g)) e w') : LRow w n f (fun L => ∃ q : List Nat, q.Perm (List.range n) ∧ q.Pairwise (Lo (ltc (fun i k => jcmp (f i) (f k)))) ∧ L = mrow f q) e w' := by
  obtain ⟨hb, hp⟩ := h
  refine ⟨hb, ?_⟩
  rcases hp with h | ⟨h1, va, rc, L, he, hi, hpm, g, hre, hsr, hL⟩
  · exact Or.inl h
  · have hp := rl_perm (goodR_re hre)
    rw [rl_nI] at hp
    exact Or.inr ⟨h1, va, rc, L, he, hi, hpm, (List.range n).map g, hp, pair_map fun p q hpq hq => hsr p q (Nat.zero_le _) hpq hq, hL⟩

set_option maxHeartbeats 8000000 in
set_option maxRecDepth 100000 in
set_option linter.unusedSimpArgs false in
theorem sorted_moore (a : Option Addr) (n c : Nat) (f : Nat → T3) (w : World) (het : ErrTy w) (ha : TRow w a n c f) (hn : n ≤ 100) (va : Option Addr) (rn rc : Nat) (ve : Value)
    (hx : (tcode n f ≠ 0 ∧ va = none ∧ rn = 0 ∧ rc = 0 ∧ ve = .iface 24 (.int .i64 (tcode n f))) ∨ (tcode n f = 0 ∧ ve = .nilIface ∧ rn = n ∧ ∃ L, IRow w va n rc (lI L) ∧ L.Perm (List.range n) ∧ ∃ q : List Nat, q.Perm (List.range n) ∧ q.Pairwise (Lo (ltc (fun i k => jcmp (f i) (f k)))) ∧ L = mrow f q)) :
    Calls Tryd.prog 25 #[.slice a n c, .slice va rn rc, ve, .func (.func 30) #[] #[]] w fun e w' => e = .returned (.bool true) ∧ Below w.heap.size w w' := by
  have HE := hide het
  have C1 := hide (tasks_any a n c f w ha (by omega))
  have HX := hide hx
  clear het ha hx
  go_enter Tryd.func25, Tryd.ntmps25
  go_wp2_with fail
  refine (unhide C1).mono ?_
  rintro e w1 ⟨aj, cj, rfl, htj, hb1⟩
  have HB1 := hide hb1
  have HTJ := hide htj
  have C2 := hide (rcheck_any aj n cj f w1 htj)
  have q3 := htj.1
  have q4 := htj.2.1
  clear hb1 htj C1
  go_wp2_with fail
  refine (unhide C2).mono ?_
  rintro e w2 ⟨rfl, hb2⟩
  have HB2 := hide (below_step (unhide HB1) hb2)
  have HTJ2 := hide ((unhide HTJ).below hb2)
  clear hb2 C2
  rcases unhide HX with ⟨h1, rfl, rfl, rfl, rfl⟩ | ⟨h1, rfl, rfl, L, hL, hLp, hLs⟩
  · obtain ⟨k, hk⟩ : ∃ k, tcode n f = k := ⟨_, rfl⟩
    rw [hk] at h1 ⊢
    have C3 := hide (ints_bad k h1 w2 ((unhide HE).below (unhide HB2)))
    have q1 : (k == 0) = false := by simpa using h1
    clear hk HX
    go_wp2_with fail
    refine (unhide C3).mono ?_
    rintro e w3 ⟨rfl, hb3⟩
    have HB3 := hide (below_step (unhide HB2) hb3)
    clear hb3 C3
    go_wp2
    go_ret
    exact ⟨rfl, unhide HB3⟩
  · have C3 := hide (rmoore_any aj rn cj f w2 (unhide HTJ2) (goodT_of h1))
    have HL := hide hL
    have HLP := hide hLp
    have HLS := hide hLs
    have HT := hide h1
    rw [h1]
    clear hL hLp hLs h1 HX
    go_wp2_with fail
    refine (unhide C3).mono ?_
    rintro e w3 ⟨v, L', q', rfl, hO', hq', hs', hL', hb3⟩
    obtain ⟨q, hq, hqs, hLq⟩ := unhide HLS
    have hqq : q = q' := sorted_unique q q' (hq.trans hq'.symm) hqs hs' (fun x hx y hy h1 => lo_asym (n := rn) wo_j (List.mem_range.1 (hq.subset hx)) (List.mem_range.1 (hq.subset hy)) h1)
    have heq : L = L' := by rw [hLq, hL', hqq]
    have hp' : L'.Perm (List.range rn) := by rw [← heq]; exact unhide HLP
    have hlen : L'.length = rn := by have := hp'.length_eq; simpa using this
    clear hq' hL' hq hqs hLq hqq
    obtain ⟨a', c', rfl, hir⟩ := hO'.irow
    rw [hlen, ← heq] at hir
    rw [hlen]
    have HB3 := hide (below_step (unhide HB2) hb3)
    have C4 := hide (ints_good va a' rn rc c' (lI L) w3 ((unhide HL).below (unhide HB3)) hir)
    have q5 := hir.1
    have q6 := hir.2.1
    clear hb3 C3 hO' hp' hs' hlen heq hir
    go_wp2_with fail
    refine (unhide C4).mono ?_
    rintro e w4 ⟨rfl, hb4⟩
    have HB4 := hide (below_step (unhide HB3) hb4)
    clear hb4 C4
    go_wp2
    go_ret
    exact ⟨rfl, unhide HB4⟩

set_option maxHeartbeats 8000000 in
set_option maxRecDepth 100000 in
set_option linter.unusedSimpArgs false in
theorem lineMoore_any (a : Option Addr) (n c : Nat) (f : Nat → T3) (w : World) (het : ErrTy w) (ha : TRow w a n c f) :
    Calls Tryd.prog 8 #[.slice a n c] w fun e w' => e = .returned (.bool true) ∧ Below w.heap.size w w' := by
  have b1 := ha.1
  have b2 := ha.2.1
  by_cases h1 : 100 < n
  · have e1 : (100 : Int) < (n : Int) := by omega
    clear ha
    go_enter Tryd.func8, Tryd.ntmps8
    go_wp2
    go_ret
    exact ⟨rfl, Below.refl _ _⟩
  have e1 : ¬ (100 : Int) < (n : Int) := by omega
  have HA := hide ha
  have HE := hide het
  have C1 : Hid (Calls Tryd.prog 29 #[.slice a n c] w (LRow w n f (fun L => ∃ q : List Nat, q.Perm (List.range n) ∧ q.Pairwise (Lo (ltc (fun i k => jcmp (f i) (f k)))) ∧ L = mrow f q))) := (moore_any a n c f w ha).mono fun _ _ h => h.moore
  clear ha het
  go_enter Tryd.func8, Tryd.ntmps8
  go_wp2_with fail
  refine (unhide C1).mono ?_
  rintro e w1 ⟨hb1, hp⟩
  have HB1 := hide hb1
  rcases hp with ⟨ht, rfl⟩ | ⟨ht, va, rc, L, rfl, hR, hpm, hP⟩
  · have C2 := hide (sorted_moore a n c f w1 ((unhide HE).below hb1) ((unhide HA).below hb1) (by omega) none 0 0 _ (Or.inl ⟨ht, rfl, rfl, rfl, rfl⟩))
    generalize tcode n f = k at C2 ⊢
    clear hb1 C1 ht
    go_wp2_with fail
    refine (unhide C2).mono ?_
    rintro e w2 ⟨rfl, hb2⟩
    have HB2 := hide (below_step (unhide HB1) hb2)
    clear hb2 C2
    go_wp2
    go_ret
    exact ⟨rfl, unhide HB2⟩
  · have C2 := hide (sorted_moore a n c f w1 ((unhide HE).below hb1) ((unhide HA).below hb1) (by omega) va n rc .nilIface (Or.inr ⟨ht, rfl, rfl, L, hR, hpm, hP⟩))
    have q5 := hR.1
    have q6 := hR.2.1
    clear hb1 C1 ht hR hpm hP
    go_wp2_with fail
    refine (unhide C2).mono ?_
    rintro e w2 ⟨rfl, hb2⟩
    have HB2 := hide (below_step (unhide HB1) hb2)
    clear hb2 C2
    go_wp2
    go_ret
    exact ⟨rfl, unhide HB2⟩

end Go.Proofs.YtmpigipeajdgcaaDoor
