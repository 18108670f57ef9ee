/- The document's rows of Smith and Jackson; the laws' walks. -/
import Derived.Test.YtmpigipeajdgcaaDoorL26
namespace Go.Proofs.YtmpigipeajdgcaaDoor
open Go.RowKit Go.Sort Stb

theorem irow_congr {w : World} {a : Option Addr} {n c : Nat} {f g : Nat → Int} (h : IRow w a n c f) (e : ∀ j, j < n → f j = g j) : IRow w a n c g := by
  obtain ⟨h1, h2, h3⟩ := h
  refine ⟨h1, h2, fun hn => ?_⟩
  obtain ⟨b, o, ea, hlt, hc⟩ := h3 hn
  exact ⟨b, o, ea, hlt, fun j hj => by rw [← e j hj]; exact hc j hj⟩
theorem ArrPost.lrow {w : World} {n : Nat} {f : Nat → T3} {cmp : T3 → T3 → Int} {e : Ending} {w' : World} (h : ArrPost w n f cmp e w') : LRow w n f (fun L => L.Pairwise (Lo (ltc (fun i k => cmp (f i) (f k))))) e w' := by
  obtain ⟨hb, hp⟩ := h
  refine ⟨hb, ?_⟩
  rcases hp with h | ⟨h1, G, g', hG, he, hO, hre, hsr⟩
  · exact Or.inl h
  · have h60 := (goodT_of h1).few
    have hp := rl_perm (goodR_re hre)
    rw [rl_nI] at hp
    refine Or.inr ⟨h1, _, n, (List.range n).map g', he, irow_congr (OwnI.irow (lf := nI g') hO (by omega)) (fun j hj => ?_), hp, pair_map fun p q hpq hq => hsr p q (Nat.zero_le _) hpq hq⟩
    unfold nI lI
    simp [hj]

set_option maxHeartbeats 8000000 in
set_option maxRecDepth 100000 in
set_option linter.unusedSimpArgs false in
theorem rsmith1_any (pl : Nat) (a : Option Addr) (n c : Nat) (f : Nat → T3) (wb W : World) (i k : Nat) (hi : i < n) (hk : k < n) (ha : TRow wb a n c f) (hT : GoodT n f) (h2 : wb.cell? ⟨pl, 0, none⟩ = some (.slice a n c)) (hpl : pl < wb.heap.size) (hW : Below wb.heap.size wb W) :
    Calls Tryd.prog 40 #[.int .i64 (i : Int), .int .i64 (k : Int), .pointer (some ⟨pl, 0, none⟩)] W fun e w' => e = .returned (.bool (ltc (fun i k => scmp (f i) (f k)) k i)) ∧ Below W.heap.size W w' := by
  obtain ⟨b, o, rfl, hbl, hc⟩ := ha.2.2 (by omega)
  have ⟨i1, i2, i3⟩ := hc i hi
  have ⟨j1, j2, j3⟩ := hc k hk
  have pi := hT.p i hi
  have pk := hT.p k hk
  have wi := hT.w i hi
  have wk := hT.w k hk
  have hn60 := hT.few
  rw [← hW.cell (p := ⟨b, o + i * 3, none⟩) hbl] at i1
  rw [← hW.cell (p := ⟨b, o + i * 3 + 1, none⟩) hbl] at i2
  rw [← hW.cell (p := ⟨b, o + i * 3 + 2, none⟩) hbl] at i3
  rw [← hW.cell (p := ⟨b, o + k * 3, none⟩) hbl] at j1
  rw [← hW.cell (p := ⟨b, o + k * 3 + 1, none⟩) hbl] at j2
  rw [← hW.cell (p := ⟨b, o + k * 3 + 2, none⟩) hbl] at j3
  have c0 : W.cell? ⟨pl, 0, none⟩ = some (.slice (some ⟨b, o, none⟩) n c) := by rw [hW.cell (p := ⟨pl, 0, none⟩) hpl]; exact h2
  obtain ⟨⟨x, y, z⟩, hfi⟩ : ∃ t, f i = t := ⟨_, rfl⟩
  obtain ⟨⟨x', y', z'⟩, hfk⟩ : ∃ t, f k = t := ⟨_, rfl⟩
  rw [hfi] at i1 i2 i3 pi wi
  rw [hfk] at j1 j2 j3 pk wk
  simp only at i1 i2 i3 j1 j2 j3 pi pk wi wk
  have e1 : (i : Int) < (n : Int) := by omega
  have e2 : (k : Int) < (n : Int) := by omega
  have e3 : (0 : Int) ≤ (i : Int) := by omega
  have e4 : (0 : Int) ≤ (k : Int) := by omega
  have hV : ltc (fun i k => scmp (f i) (f k)) k i = decide (scmp (x', y', z') (x, y, z) < 0) := by unfold ltc; show decide (scmp (f k) (f i) < 0) = _; rw [hfi, hfk]
  rw [hV]
  clear hc hT ha h2 hpl hW hbl hi hk hfi hfk hV
  by_cases x0 : x = 0
  · have hV : decide (scmp (x', y', z') (x, y, z) < 0) = false := by
      refine decide_eq_false ?_
      unfold scmp
      rw [if_pos (Or.inr x0), cmpI_lt]
      simp only
      omega
    rw [hV]
    subst x0
    clear hV
    by_cases x1 : x' = 0
    · subst x1
      go_enter Tryd.func40, Tryd.ntmps40
      go_wp2
      go_ret
      exact ⟨rfl, Below.refl _ _⟩
    · have q1 : (x' == 0) = false := by simpa using x1
      go_enter Tryd.func40, Tryd.ntmps40
      go_wp2
      go_ret
      exact ⟨rfl, Below.refl _ _⟩
  · have q0 : (x == 0) = false := by simpa using x0
    by_cases x1 : x' = 0
    · have hV : decide (scmp (x', y', z') (x, y, z) < 0) = true := by
        refine decide_eq_true ?_
        unfold scmp
        rw [if_pos (Or.inl x1), cmpI_lt]
        simp only
        omega
      rw [hV]
      have q2 : (0 : Int) < x := by omega
      subst x1
      clear hV
      go_enter Tryd.func40, Tryd.ntmps40
      go_wp2
      go_ret
      exact ⟨rfl, Below.refl _ _⟩
    · have q1 : (x' == 0) = false := by simpa using x1
      have hV : decide (scmp (x', y', z') (x, y, z) < 0) = decide (y * x' < y' * x) := by
        rw [decide_eq_decide]
        unfold scmp
        rw [if_neg (fun h => h.elim x1 x0), cmpI_lt]
      rw [hV]
      have m1 : y' * x ≤ 10000 * 1000000000 := Int.le_trans (Int.mul_le_mul_of_nonneg_right wk.2 pi.1) (Int.mul_le_mul_of_nonneg_left pi.2 (by decide))
      have m2 : y * x' ≤ 10000 * 1000000000 := Int.le_trans (Int.mul_le_mul_of_nonneg_right wi.2 pk.1) (Int.mul_le_mul_of_nonneg_left pk.2 (by decide))
      have m3 : 0 ≤ y' * x := Int.mul_nonneg wk.1 pi.1
      have m4 : 0 ≤ y * x' := Int.mul_nonneg wi.1 pk.1
      obtain ⟨s1, hs1⟩ : ∃ s, y' * x = s := ⟨_, rfl⟩
      obtain ⟨s2, hs2⟩ : ∃ s, y * x' = s := ⟨_, rfl⟩
      have f1 : IntKind.i64.wrap (y' * x) = s1 := by rw [hs1, IntKind.wrap_i64]; omega
      have f2 : IntKind.i64.wrap (y * x') = s2 := by rw [hs2, IntKind.wrap_i64]; omega
      rw [hs1, hs2]
      clear hV m1 m2 m3 m4 hs1 hs2
      go_enter Tryd.func40, Tryd.ntmps40
      go_wp2_with fail
      go_quiet (fail)
      go_wp2
      go_ret
      exact ⟨rfl, below_drewN _ _⟩
set_option maxHeartbeats 8000000 in
set_option maxRecDepth 100000 in
set_option linter.unusedSimpArgs false in
theorem rsmith_any (a : Option Addr) (n c : Nat) (f : Nat → T3) (w : World) (ha : TRow w a n c f) (hT : GoodT n f) :
    Calls Tryd.prog 26 #[.slice a n c] w fun e w' => ∃ (v : Value) (L : List Nat), e = .returned v ∧ OwnN w' w.heap.size v L ∧ L.Perm (List.range n) ∧ L.Pairwise (Lo (ltc (fun i k => scmp (f i) (f k)))) ∧ Below w.heap.size w w' := by
  obtain ⟨wb, hwb⟩ : ∃ W, w.alloc (.cells #[.slice a n c] 30) = W := ⟨_, rfl⟩
  have b1 : Below w.heap.size w wb := by rw [← hwb]; exact alloc_below _ _
  have sz : wb.heap.size = w.heap.size + 1 := by rw [← hwb, alloc_size]
  obtain ⟨pl, hpl⟩ : ∃ p, w.heap.size = p := ⟨_, rfl⟩
  have cb : wb.cell? ⟨pl, 0, none⟩ = some (.slice a n c) := by rw [← hwb, ← hpl]; simp only [World.cell?, heap_alloc_new]; rfl
  have hab := ha.below b1
  have HC := hide (insert_smith n pl (ltc (fun i k => scmp (f i) (f k))) (wo_s hT) hT.few wb (fun i k W hi hk hW => rsmith1_any pl a n c f wb W i k hi hk hab hT cb (by omega) hW))
  have HB := hide b1
  have HSZ : Hid (w.heap.size ≤ wb.heap.size) := by show w.heap.size ≤ wb.heap.size; omega
  have h1 := ha.1
  have h2 := ha.2.1
  have HPL := hide hpl
  clear ha hT hab b1 sz
  go_enter Tryd.func26, Tryd.ntmps26
  go_wp2_with fail
  refine (unhide HC).mono ?_
  rintro e w2 ⟨hb2, v, L, rfl, hO, hp, hs⟩
  have HO : Hid (OwnN w2 w.heap.size v L) := by
    refine ⟨hO.1, ?_⟩
    rcases hO.2 with h | ⟨g, cap, cur, hv, hg, h⟩
    · exact Or.inl h
    · exact Or.inr ⟨g, cap, cur, hv, Nat.le_trans (unhide HSZ) hg, h⟩
  have HP := hide hp
  have HS := hide hs
  have HB2 := hide (below_step (unhide HB) hb2)
  clear hO hp hs hb2 HC
  go_wp2
  go_ret
  exact ⟨v, L, rfl, unhide HO, unhide HP, unhide HS, unhide HB2⟩

set_option maxHeartbeats 8000000 in
set_option maxRecDepth 100000 in
set_option linter.unusedSimpArgs false in
theorem rjackson1_any (pl : Nat) (a : Option Addr) (n c : Nat) (f : Nat → T3) (wb W : World) (i k : Nat) (hi : i < n) (hk : k < n) (ha : TRow wb a n c f) (hT : GoodT n f) (h2 : wb.cell? ⟨pl, 0, none⟩ = some (.slice a n c)) (hpl : pl < wb.heap.size) (hW : Below wb.heap.size wb W) :
    Calls Tryd.prog 42 #[.int .i64 (i : Int), .int .i64 (k : Int), .pointer (some ⟨pl, 0, none⟩)] W fun e w' => e = .returned (.bool (ltc (fun i k => jcmp (f i) (f k)) k i)) ∧ Below W.heap.size W w' := by
  obtain ⟨b, o, rfl, hbl, hc⟩ := ha.2.2 (by omega)
  have ⟨i1, i2, i3⟩ := hc i hi
  have ⟨j1, j2, j3⟩ := hc k hk
  have pi := hT.p i hi
  have pk := hT.p k hk
  have wi := hT.w i hi
  have wk := hT.w k hk
  have hn60 := hT.few
  rw [← hW.cell (p := ⟨b, o + i * 3, none⟩) hbl] at i1
  rw [← hW.cell (p := ⟨b, o + i * 3 + 1, none⟩) hbl] at i2
  rw [← hW.cell (p := ⟨b, o + i * 3 + 2, none⟩) hbl] at i3
  rw [← hW.cell (p := ⟨b, o + k * 3, none⟩) hbl] at j1
  rw [← hW.cell (p := ⟨b, o + k * 3 + 1, none⟩) hbl] at j2
  rw [← hW.cell (p := ⟨b, o + k * 3 + 2, none⟩) hbl] at j3
  have c0 : W.cell? ⟨pl, 0, none⟩ = some (.slice (some ⟨b, o, none⟩) n c) := by rw [hW.cell (p := ⟨pl, 0, none⟩) hpl]; exact h2
  obtain ⟨⟨x, y, z⟩, hfi⟩ : ∃ t, f i = t := ⟨_, rfl⟩
  obtain ⟨⟨x', y', z'⟩, hfk⟩ : ∃ t, f k = t := ⟨_, rfl⟩
  rw [hfi] at i1 i2 i3 pi wi
  rw [hfk] at j1 j2 j3 pk wk
  simp only at i1 i2 i3 j1 j2 j3 pi pk wi wk
  have e1 : (i : Int) < (n : Int) := by omega
  have e2 : (k : Int) < (n : Int) := by omega
  have e3 : (0 : Int) ≤ (i : Int) := by omega
  have e4 : (0 : Int) ≤ (k : Int) := by omega
  have hV : ltc (fun i k => jcmp (f i) (f k)) k i = decide (jcmp (x', y', z') (x, y, z) < 0) := by unfold ltc; show decide (jcmp (f k) (f i) < 0) = _; rw [hfi, hfk]
  rw [hV]
  clear hc hT ha h2 hpl hW hbl hi hk hfi hfk hV
  have hV : decide (jcmp (x', y', z') (x, y, z) < 0) = decide (z' < z) := by rw [decide_eq_decide]; exact cmpI_lt
  rw [hV]
  clear hV
  go_enter Tryd.func42, Tryd.ntmps42
  go_wp2_with fail
  go_quiet (fail)
  go_wp2
  go_ret
  exact ⟨rfl, below_drewN _ _⟩
set_option maxHeartbeats 8000000 in
set_option maxRecDepth 100000 in
set_option linter.unusedSimpArgs false in
theorem rjackson_any (a : Option Addr) (n c : Nat) (f : Nat → T3) (w : World) (ha : TRow w a n c f) (hT : GoodT n f) :
    Calls Tryd.prog 28 #[.slice a n c] w fun e w' => ∃ (v : Value) (L : List Nat), e = .returned v ∧ OwnN w' w.heap.size v L ∧ L.Perm (List.range n) ∧ L.Pairwise (Lo (ltc (fun i k => jcmp (f i) (f k)))) ∧ Below w.heap.size w w' := by
  obtain ⟨wb, hwb⟩ : ∃ W, w.alloc (.cells #[.slice a n c] 30) = W := ⟨_, rfl⟩
  have b1 : Below w.heap.size w wb := by rw [← hwb]; exact alloc_below _ _
  have sz : wb.heap.size = w.heap.size + 1 := by rw [← hwb, alloc_size]
  obtain ⟨pl, hpl⟩ : ∃ p, w.heap.size = p := ⟨_, rfl⟩
  have cb : wb.cell? ⟨pl, 0, none⟩ = some (.slice a n c) := by rw [← hwb, ← hpl]; simp only [World.cell?, heap_alloc_new]; rfl
  have hab := ha.below b1
  have HC := hide (insert_jackson n pl (ltc (fun i k => jcmp (f i) (f k))) (wo_j) hT.few wb (fun i k W hi hk hW => rjackson1_any pl a n c f wb W i k hi hk hab hT cb (by omega) hW))
  have HB := hide b1
  have HSZ : Hid (w.heap.size ≤ wb.heap.size) := by show w.heap.size ≤ wb.heap.size; omega
  have h1 := ha.1
  have h2 := ha.2.1
  have HPL := hide hpl
  clear ha hT hab b1 sz
  go_enter Tryd.func28, Tryd.ntmps28
  go_wp2_with fail
  refine (unhide HC).mono ?_
  rintro e w2 ⟨hb2, v, L, rfl, hO, hp, hs⟩
  have HO : Hid (OwnN w2 w.heap.size v L) := by
    refine ⟨hO.1, ?_⟩
    rcases hO.2 with h | ⟨g, cap, cur, hv, hg, h⟩
    · exact Or.inl h
    · exact Or.inr ⟨g, cap, cur, hv, Nat.le_trans (unhide HSZ) hg, h⟩
  have HP := hide hp
  have HS := hide hs
  have HB2 := hide (below_step (unhide HB) hb2)
  clear hO hp hs hb2 HC
  go_wp2
  go_ret
  exact ⟨v, L, rfl, unhide HO, unhide HP, unhide HS, unhide HB2⟩

set_option maxHeartbeats 8000000 in
set_option maxRecDepth 100000 in
set_option linter.unusedSimpArgs false in
theorem sorted_smith (a : Option Addr) (n c : Nat) (f : Nat → T3) (w : World) (het : ErrTy w) (ha : TRow w a n c f) (hn : n ≤ 100) (va : Option Addr) (rn rc : Nat) (ve : Value)
    (hx : (tcode n f ≠ 0 ∧ va = none ∧ rn = 0 ∧ rc = 0 ∧ ve = .iface 24 (.int .i64 (tcode n f))) ∨ (tcode n f = 0 ∧ ve = .nilIface ∧ rn = n ∧ ∃ L, IRow w va n rc (lI L) ∧ L.Perm (List.range n) ∧ L.Pairwise (Lo (ltc (fun i k => scmp (f i) (f k)))))) :
    Calls Tryd.prog 25 #[.slice a n c, .slice va rn rc, ve, .func (.func 26) #[] #[]] w fun e w' => e = .returned (.bool true) ∧ Below w.heap.size w w' := by
  have HE := hide het
  have C1 := hide (tasks_any a n c f w ha (by omega))
  have HX := hide hx
  clear het ha hx
  go_enter Tryd.func25, Tryd.ntmps25
  go_wp2_with fail
  refine (unhide C1).mono ?_
  rintro e w1 ⟨aj, cj, rfl, htj, hb1⟩
  have HB1 := hide hb1
  have HTJ := hide htj
  have C2 := hide (rcheck_any aj n cj f w1 htj)
  have q3 := htj.1
  have q4 := htj.2.1
  clear hb1 htj C1
  go_wp2_with fail
  refine (unhide C2).mono ?_
  rintro e w2 ⟨rfl, hb2⟩
  have HB2 := hide (below_step (unhide HB1) hb2)
  have HTJ2 := hide ((unhide HTJ).below hb2)
  clear hb2 C2
  rcases unhide HX with ⟨h1, rfl, rfl, rfl, rfl⟩ | ⟨h1, rfl, rfl, L, hL, hLp, hLs⟩
  · obtain ⟨k, hk⟩ : ∃ k, tcode n f = k := ⟨_, rfl⟩
    rw [hk] at h1 ⊢
    have C3 := hide (ints_bad k h1 w2 ((unhide HE).below (unhide HB2)))
    have q1 : (k == 0) = false := by simpa using h1
    clear hk HX
    go_wp2_with fail
    refine (unhide C3).mono ?_
    rintro e w3 ⟨rfl, hb3⟩
    have HB3 := hide (below_step (unhide HB2) hb3)
    clear hb3 C3
    go_wp2
    go_ret
    exact ⟨rfl, unhide HB3⟩
  · have C3 := hide (rsmith_any aj rn cj f w2 (unhide HTJ2) (goodT_of h1))
    have HL := hide hL
    have HLP := hide hLp
    have HLS := hide hLs
    have HT := hide h1
    rw [h1]
    clear hL hLp hLs h1 HX
    go_wp2_with fail
    refine (unhide C3).mono ?_
    rintro e w3 ⟨v, L', rfl, hO', hp', hs', hb3⟩
    have hlen : L'.length = rn := by have := hp'.length_eq; simpa using this
    have heq : L = L' := sorted_unique L L' ((unhide HLP).trans hp'.symm) (unhide HLS) hs' (fun x hx y hy h1 => lo_asym (n := rn) (wo_s (goodT_of (unhide HT))) (List.mem_range.1 ((unhide HLP).subset hx)) (List.mem_range.1 ((unhide HLP).subset hy)) h1)
    obtain ⟨a', c', rfl, hir⟩ := hO'.irow
    rw [hlen, ← heq] at hir
    rw [hlen]
    have HB3 := hide (below_step (unhide HB2) hb3)
    have C4 := hide (ints_good va a' rn rc c' (lI L) w3 ((unhide HL).below (unhide HB3)) hir)
    have q5 := hir.1
    have q6 := hir.2.1
    clear hb3 C3 hO' hp' hs' hlen heq hir
    go_wp2_with fail
    refine (unhide C4).mono ?_
    rintro e w4 ⟨rfl, hb4⟩
    have HB4 := hide (below_step (unhide HB3) hb4)
    clear hb4 C4
    go_wp2
    go_ret
    exact ⟨rfl, unhide HB4⟩

set_option maxHeartbeats 8000000 in
set_option maxRecDepth 100000 in
set_option linter.unusedSimpArgs false in
theorem sorted_jackson (a : Option Addr) (n c : Nat) (f : Nat → T3) (w : World) (het : ErrTy w) (ha : TRow w a n c f) (hn : n ≤ 100) (va : Option Addr) (rn rc : Nat) (ve : Value)
    (hx : (tcode n f ≠ 0 ∧ va = none ∧ rn = 0 ∧ rc = 0 ∧ ve = .iface 24 (.int .i64 (tcode n f))) ∨ (tcode n f = 0 ∧ ve = .nilIface ∧ rn = n ∧ ∃ L, IRow w va n rc (lI L) ∧ L.Perm (List.range n) ∧ L.Pairwise (Lo (ltc (fun i k => jcmp (f i) (f k)))))) :
    Calls Tryd.prog 25 #[.slice a n c, .slice va rn rc, ve, .func (.func 28) #[] #[]] w fun e w' => e = .returned (.bool true) ∧ Below w.heap.size w w' := by
  have HE := hide het
  have C1 := hide (tasks_any a n c f w ha (by omega))
  have HX := hide hx
  clear het ha hx
  go_enter Tryd.func25, Tryd.ntmps25
  go_wp2_with fail
  refine (unhide C1).mono ?_
  rintro e w1 ⟨aj, cj, rfl, htj, hb1⟩
  have HB1 := hide hb1
  have HTJ := hide htj
  have C2 := hide (rcheck_any aj n cj f w1 htj)
  have q3 := htj.1
  have q4 := htj.2.1
  clear hb1 htj C1
  go_wp2_with fail
  refine (unhide C2).mono ?_
  rintro e w2 ⟨rfl, hb2⟩
  have HB2 := hide (below_step (unhide HB1) hb2)
  have HTJ2 := hide ((unhide HTJ).below hb2)
  clear hb2 C2
  rcases unhide HX with ⟨h1, rfl, rfl, rfl, rfl⟩ | ⟨h1, rfl, rfl, L, hL, hLp, hLs⟩
  · obtain ⟨k, hk⟩ : ∃ k, tcode n f = k := ⟨_, rfl⟩
    rw [hk] at h1 ⊢
    have C3 := hide (ints_bad k h1 w2 ((unhide HE).below (unhide HB2)))
    have q1 : (k == 0) = false := by simpa using h1
    clear hk HX
    go_wp2_with fail
    refine (unhide C3).mono ?_
    rintro e w3 ⟨rfl, hb3⟩
    have HB3 := hide (below_step (unhide HB2) hb3)
    clear hb3 C3
    go_wp2
    go_ret
    exact ⟨rfl, unhide HB3⟩
  · have C3 := hide (rjackson_any aj rn cj f w2 (unhide HTJ2) (goodT_of h1))
    have HL := hide hL
    have HLP := hide hLp
    have HLS := hide hLs
    have HT := hide h1
    rw [h1]
    clear hL hLp hLs h1 HX
    go_wp2_with fail
    refine (unhide C3).mono ?_
    rintro e w3 ⟨v, L', rfl, hO', hp', hs', hb3⟩
    have hlen : L'.length = rn := by have := hp'.length_eq; simpa using this
    have heq : L = L' := sorted_unique L L' ((unhide HLP).trans hp'.symm) (unhide HLS) hs' (fun x hx y hy h1 => lo_asym (n := rn) (wo_j) (List.mem_range.1 ((unhide HLP).subset hx)) (List.mem_range.1 ((unhide HLP).subset hy)) h1)
    obtain ⟨a', c', rfl, hir⟩ := hO'.irow
    rw [hlen, ← heq] at hir
    rw [hlen]
    have HB3 := hide (below_step (unhide HB2) hb3)
    have C4 := hide (ints_good va a' rn rc c' (lI L) w3 ((unhide HL).below (unhide HB3)) hir)
    have q5 := hir.1
    have q6 := hir.2.1
    clear hb3 C3 hO' hp' hs' hlen heq hir
    go_wp2_with fail
    refine (unhide C4).mono ?_
    rintro e w4 ⟨rfl, hb4⟩
    have HB4 := hide (below_step (unhide HB3) hb4)
    clear hb4 C4
    go_wp2
    go_ret
    exact ⟨rfl, unhide HB4⟩

set_option maxHeartbeats 8000000 in
set_option maxRecDepth 100000 in
set_option linter.unusedSimpArgs false in
theorem lineSmith_any (a : Option Addr) (n c : Nat) (f : Nat → T3) (w : World) (het : ErrTy w) (ha : TRow w a n c f) :
    Calls Tryd.prog 6 #[.slice a n c] w fun e w' => e = .returned (.bool true) ∧ Below w.heap.size w w' := by
  have b1 := ha.1
  have b2 := ha.2.1
  by_cases h1 : 100 < n
  · have e1 : (100 : Int) < (n : Int) := by omega
    clear ha
    go_enter Tryd.func6, Tryd.ntmps6
    go_wp2
    go_ret
    exact ⟨rfl, Below.refl _ _⟩
  have e1 : ¬ (100 : Int) < (n : Int) := by omega
  have HA := hide ha
  have HE := hide het
  have C1 : Hid (Calls Tryd.prog 24 #[.slice a n c] w (LRow w n f (fun L => L.Pairwise (Lo (ltc (fun i k => scmp (f i) (f k))))))) := (smith_any a n c f w ha).mono fun _ _ h => h.lrow
  clear ha het
  go_enter Tryd.func6, Tryd.ntmps6
  go_wp2_with fail
  refine (unhide C1).mono ?_
  rintro e w1 ⟨hb1, hp⟩
  have HB1 := hide hb1
  rcases hp with ⟨ht, rfl⟩ | ⟨ht, va, rc, L, rfl, hR, hpm, hP⟩
  · have C2 := hide (sorted_smith a n c f w1 ((unhide HE).below hb1) ((unhide HA).below hb1) (by omega) none 0 0 _ (Or.inl ⟨ht, rfl, rfl, rfl, rfl⟩))
    generalize tcode n f = k at C2 ⊢
    clear hb1 C1 ht
    go_wp2_with fail
    refine (unhide C2).mono ?_
    rintro e w2 ⟨rfl, hb2⟩
    have HB2 := hide (below_step (unhide HB1) hb2)
    clear hb2 C2
    go_wp2
    go_ret
    exact ⟨rfl, unhide HB2⟩
  · have C2 := hide (sorted_smith a n c f w1 ((unhide HE).below hb1) ((unhide HA).below hb1) (by omega) va n rc .nilIface (Or.inr ⟨ht, rfl, rfl, L, hR, hpm, hP⟩))
    have q5 := hR.1
    have q6 := hR.2.1
    clear hb1 C1 ht hR hpm hP
    go_wp2_with fail
    refine (unhide C2).mono ?_
    rintro e w2 ⟨rfl, hb2⟩
    have HB2 := hide (below_step (unhide HB1) hb2)
    clear hb2 C2
    go_wp2
    go_ret
    exact ⟨rfl, unhide HB2⟩

set_option maxHeartbeats 8000000 in
set_option maxRecDepth 100000 in
set_option linter.unusedSimpArgs false in
theorem lineJackson_any (a : Option Addr) (n c : Nat) (f : Nat → T3) (w : World) (het : ErrTy w) (ha : TRow w a n c f) :
    Calls Tryd.prog 7 #[.slice a n c] w fun e w' => e = .returned (.bool true) ∧ Below w.heap.size w w' := by
  have b1 := ha.1
  have b2 := ha.2.1
  by_cases h1 : 100 < n
  · have e1 : (100 : Int) < (n : Int) := by omega
    clear ha
    go_enter Tryd.func7, Tryd.ntmps7
    go_wp2
    go_ret
    exact ⟨rfl, Below.refl _ _⟩
  have e1 : ¬ (100 : Int) < (n : Int) := by omega
  have HA := hide ha
  have HE := hide het
  have C1 : Hid (Calls Tryd.prog 27 #[.slice a n c] w (LRow w n f (fun L => L.Pairwise (Lo (ltc (fun i k => jcmp (f i) (f k))))))) := (jackson_any a n c f w ha).mono fun _ _ h => h.lrow
  clear ha het
  go_enter Tryd.func7, Tryd.ntmps7
  go_wp2_with fail
  refine (unhide C1).mono ?_
  rintro e w1 ⟨hb1, hp⟩
  have HB1 := hide hb1
  rcases hp with ⟨ht, rfl⟩ | ⟨ht, va, rc, L, rfl, hR, hpm, hP⟩
  · have C2 := hide (sorted_jackson a n c f w1 ((unhide HE).below hb1) ((unhide HA).below hb1) (by omega) none 0 0 _ (Or.inl ⟨ht, rfl, rfl, rfl, rfl⟩))
    generalize tcode n f = k at C2 ⊢
    clear hb1 C1 ht
    go_wp2_with fail
    refine (unhide C2).mono ?_
    rintro e w2 ⟨rfl, hb2⟩
    have HB2 := hide (below_step (unhide HB1) hb2)
    clear hb2 C2
    go_wp2
    go_ret
    exact ⟨rfl, unhide HB2⟩
  · have C2 := hide (sorted_jackson a n c f w1 ((unhide HE).below hb1) ((unhide HA).below hb1) (by omega) va n rc .nilIface (Or.inr ⟨ht, rfl, rfl, L, hR, hpm, hP⟩))
    have q5 := hR.1
    have q6 := hR.2.1
    clear hb1 C1 ht hR hpm hP
    go_wp2_with fail
    refine (unhide C2).mono ?_
    rintro e w2 ⟨rfl, hb2⟩
    have HB2 := hide (below_step (unhide HB1) hb2)
    clear hb2 C2
    go_wp2
    go_ret
    exact ⟨rfl, unhide HB2⟩

end Go.Proofs.YtmpigipeajdgcaaDoor
