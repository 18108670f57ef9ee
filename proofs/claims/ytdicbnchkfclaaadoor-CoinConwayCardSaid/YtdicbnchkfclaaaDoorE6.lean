/- coin.Times: what it needs. -/
import Derived.Test.YtdicbnchkfclaaaDoorE5
import Derived.Test.YtdicbnchkfclaaaDoorA18
namespace Go.Proofs.YtdicbnchkfclaaaDoor
open Go.RowKit Go.Sort Go.Shelf

theorem wpHold_listed {P : Program} {md : Region.Mode} {ops : Array Oper} {Q : Exit → Act → World → Prop} {C : World → Prop} {m n : Nat} {L L' : Array Bool} {a : Act} {w : World} (hn : m = n) (h : L = L') (H : wpHold P md ops Q C n L' a w) : wpHold P md ops Q C m L a w := by subst hn; subst h; exact H
theorem wpHold_name {P : Program} {md : Region.Mode} {ops : Array Oper} {Q : Exit → Act → World → Prop} {C : World → Prop} {n : Nat} {L : Array Bool} {a : Act} {w : World} (H : ∀ a0, a0 = a → wpHold P md ops Q C n L a0 w) : wpHold P md ops Q C n L a w := H a rfl

/-- Two calls, one behind the other, and one that makes memory, at any time. -/
theorem two_one_any {P : Program} {ops : Array Oper} {Q : Exit → Act → World → Prop} {C : World → Prop} {md : Region.Mode} (mk : Nat → Bool → Array Bool) (i1 i2 ia m : Nat) (I : Nat → Bool → Act → World → Prop)
    (hr : ∀ c l, c ≤ 2 → (Region.ready md ops (mk c l)).all (fun i => (i == i1 && c == 0) || (i == i2 && c == 1) || (i == ia && !l) || (c == 2 && l)) = true)
    (hne : ∀ c l, c ≤ 2 → (c == 2 && l) = false → (Region.ready md ops (mk c l)).isEmpty = false)
    (h1 : ∀ l, (mk 0 l).setIfInBounds i1 true = mk 1 l) (h2 : ∀ l, (mk 1 l).setIfInBounds i2 true = mk 2 l) (ha : ∀ c, (mk c false).setIfInBounds ia true = mk c true)
    (s1 : ∀ l a w, I 0 l a w → wpOp P ops Q i1 (fun a' w' => C w' ∧ I 1 l a' w') a w)
    (s2 : ∀ l a w, I 1 l a w → wpOp P ops Q i2 (fun a' w' => C w' ∧ I 2 l a' w') a w)
    (sa : ∀ c a w, I c false a w → wpOp P ops Q ia (fun a' w' => C w' ∧ I c true a' w') a w)
    (fin : ∀ a w, I 2 true a w → wpHold P md ops Q C m (mk 2 true) a w) :
    ∀ n c l, c ≤ 2 → (2 - c) + (1 - l.toNat) = n → ∀ a w, I c l a w → wpHold P md ops Q C (n + m) (mk c l) a w := by
  intro n
  induction n with
  | zero =>
    intro c l hc hn a w h
    obtain rfl : c = 2 := by omega
    cases l <;> simp at hn
    rw [Nat.zero_add]
    exact fin a w h
  | succ n ih =>
    intro c l hc hn a w h
    have hall := hr c l hc
    have hend : (c == 2 && l) = false := by
      cases l <;> simp at hn ⊢
      omega
    have hnn := hne c l hc hend
    rw [Nat.succ_add]
    refine ⟨fun e => (by rw [e] at hnn; cases hnn), fun i hi => ?_⟩
    have hk := List.all_eq_true.1 hall i hi
    rw [hend] at hk
    simp only [Bool.or_eq_true, Bool.and_eq_true, beq_iff_eq, Bool.not_eq_true', Bool.or_false] at hk
    rcases hk with (⟨rfl, rfl⟩ | ⟨rfl, rfl⟩) | ⟨rfl, rfl⟩
    · exact wpOp_mono (fun a' w' h' => ⟨h'.1, by rw [h1]; exact ih 1 l (by omega) (by omega) a' w' h'.2⟩) (s1 l a w h)
    · exact wpOp_mono (fun a' w' h' => ⟨h'.1, by rw [h2]; exact ih 2 l (by omega) (by omega) a' w' h'.2⟩) (s2 l a w h)
    · exact wpOp_mono (fun a' w' h' => ⟨h'.1, by rw [ha]; exact ih c true hc (by simp at hn ⊢; omega) a' w' h'.2⟩) (sa c a w h)

theorem make_ratios (k : Int) (h0 : 0 ≤ k) (h1 : k ≤ 1099511627776) (w : World) :
    (Instr.makeSlice 23 (.int .i64 k) (.int .i64 k)).run Tryd.prog w = .ok (.slice (some ⟨w.heap.size, 0, none⟩) k.toNat k.toNat) (w.alloc (.cells (tcells (List.replicate k.toNat zTri)).toArray 36)) := by
  obtain ⟨i, hi, hz0, hz1, hz2⟩ := info_parts Tryd.infoR
  have e : madeCells (Value.agg zR).cells (k.toNat * i.size) = (tcells (List.replicate k.toNat zTri)).toArray := by
    rw [hz1, zcells]
    have hzc : (Value.agg zR).cells = zR := by simp [Value.cells, zR]
    rw [hzc]
    generalize k.toNat * 3 = n
    apply Array.ext
    · simp [madeCells]
    · intro j h1 h2
      simp [madeCells, zR]
  rw [run_make w 23 36 i (.agg zR) Tryd.underlying23 hi hz0 .i64 .i64 k k h0 (Int.le_refl _) (by rw [hz2]; omega) (by omega), e]

/-- Two fractions one behind the other, and a box. -/
structure TwoJ (q1 q2 : Rat) (w0 : World) (c : Nat) (l : Bool) (w : World) (s1 s2 s3 : Value) : Prop where
  bl : Below w0.heap.size w0 w
  r1 : 1 ≤ c → RatIs w s1 q1
  r2 : 2 ≤ c → RatIs w s2 q2
  al : l = true → ∃ b, s3 = .pointer (some ⟨b, 0, none⟩) ∧ BoxIs w b zTri 0 ∧ w0.heap.size ≤ b

/-- Rows that are only read. -/
structure RowsAt (wr : World) (G Lt N : Nat) (gs : List Nat) (R : List (List Int)) : Prop where
  top : wr.heap[G]? = some (.cells (slots gs Lt N).toArray 60)
  row : ∀ i, i < gs.length → wr.heap[gs[i]!]? = some (.cells (ints R[i]!).toArray 3) ∧ (R[i]!).length = Lt

theorem RowsAt.keep {wr w' : World} {G Lt N : Nat} {gs : List Nat} {R : List (List Int)} (h : RowsAt wr G Lt N gs R) (hb : Below wr.heap.size wr w') : RowsAt w' G Lt N gs R :=
  ⟨by rw [hb.block _ (Array.getElem?_eq_some_iff.1 h.top).1]; exact h.top, fun i hi => ⟨by rw [hb.block _ (Array.getElem?_eq_some_iff.1 (h.row i hi).1).1]; exact (h.row i hi).1, (h.row i hi).2⟩⟩

theorem block_ne {wr : World} {b g : Nat} {cs cs' : Array Value} {T T' : TypeId} {fr fr' : Nat × Nat} (h : wr.heap[b]? = some (.cells cs T fr)) (h' : wr.heap[g]? = some (.cells cs' T' fr')) (hT : T ≠ T') : b ≠ g := by
  intro e
  subst e
  rw [h] at h'
  injection h' with h2
  injection h2 with _ h3
  exact hT h3

theorem RowsAt.far {wr : World} {G Lt N g : Nat} {gs : List Nat} {R : List (List Int)} {cs : Array Value} (h : RowsAt wr G Lt N gs R) (hg : wr.heap[g]? = some (.cells cs 36)) (i0 i1 i2 : Nat) (x0 x1 x2 : Value) :
    RowsAt (((wr.setCell ⟨g, i0, none⟩ x0).setCell ⟨g, i1, none⟩ x1).setCell ⟨g, i2, none⟩ x2) G Lt N gs R := by
  have k : ∀ b, b ≠ g → (((wr.setCell ⟨g, i0, none⟩ x0).setCell ⟨g, i1, none⟩ x1).setCell ⟨g, i2, none⟩ x2).heap[b]? = wr.heap[b]? := fun b hb => by
    rw [Below.heap_setCell _ _ _ _ hb, Below.heap_setCell _ _ _ _ hb, Below.heap_setCell _ _ _ _ hb]
  exact ⟨by rw [k _ (block_ne h.top hg (by decide))]; exact h.top, fun i hi => ⟨by rw [k _ (block_ne (h.row i hi).1 hg (by decide))]; exact (h.row i hi).1, (h.row i hi).2⟩⟩

theorem RowsAt.slot {wr : World} {G Lt N : Nat} {gs : List Nat} {R : List (List Int)} (h : RowsAt wr G Lt N gs R) {i : Nat} (hi : i < gs.length) : wr.cell? ⟨G, i, none⟩ = some (.slice (some ⟨gs[i]!, 0, none⟩) Lt Lt) := by
  simp only [World.cell?, h.top]
  have := slots_get (Lt := Lt) (N := N) hi
  simpa using this
theorem RowsAt.cell {wr : World} {G Lt N : Nat} {gs : List Nat} {R : List (List Int)} (h : RowsAt wr G Lt N gs R) {i j : Nat} (hi : i < gs.length) (hj : j < Lt) : wr.cell? ⟨gs[i]!, j, none⟩ = some (.int .i64 (R[i]!)[j]!) := by
  obtain ⟨h1, h2⟩ := h.row i hi
  simp only [World.cell?, h1]
  have := ints_get (xs := R[i]!) (j := j) (by omega)
  simpa using this

theorem BoxIs.rowed {w : World} {b g : Nat} {t : Tri} {q : Rat} {us : List Tri} (h : BoxIs w b t q) (hg : w.heap[g]? = some (.cells (tcells us).toArray 36)) (hne : b ≠ g) (i0 i1 i2 : Nat) (x0 x1 x2 : Value) :
    BoxIs (((w.setCell ⟨g, i0, none⟩ x0).setCell ⟨g, i1, none⟩ x1).setCell ⟨g, i2, none⟩ x2) b t q :=
  ⟨by rw [Below.heap_setCell _ _ _ _ hne, Below.heap_setCell _ _ _ _ hne, Below.heap_setCell _ _ _ _ hne]; exact h.1, h.2.rowed hg _ _ _ _ _ _⟩

/-- What is saved where so many letters stand. -/
def savedL (g : Nat → Int) (p : Nat → Rat) (M k : Nat) : List Rat := (List.range (M + 1)).map (fun j => if j ≤ k then Kmp.cw g p j else 0)
theorem savedL_length (g : Nat → Int) (p : Nat → Rat) (M k : Nat) : (savedL g p M k).length = M + 1 := by simp [savedL]
theorem savedL_get {g : Nat → Int} {p : Nat → Rat} {M k j : Nat} (hj : j ≤ M) (hk : j ≤ k) : (savedL g p M k)[j]! = Kmp.cw g p j := by
  have : j < (savedL g p M k).length := by rw [savedL_length]; omega
  rw [List.getElem!_eq_getElem?_getD, List.getElem?_eq_getElem this]
  simp [savedL, hk]
theorem savedL_zero (g : Nat → Int) (p : Nat → Rat) (M : Nat) : List.replicate (M + 1) (0 : Rat) = savedL g p M 0 := by
  apply List.ext_getElem
  · rw [savedL_length, List.length_replicate]
  · intro j h1 h2
    simp only [savedL, List.getElem_replicate, List.getElem_map, List.getElem_range]
    split
    · rename_i h
      obtain rfl : j = 0 := by omega
      rfl
    · rfl
theorem savedL_set (g : Nat → Int) (p : Nat → Rat) {M k : Nat} : (savedL g p M k).set (k + 1) (Kmp.cw g p (k + 1)) = savedL g p M (k + 1) := by
  apply List.ext_getElem
  · rw [List.length_set, savedL_length, savedL_length]
  · intro j h1 h2
    rw [List.getElem_set]
    simp only [savedL, List.getElem_map, List.getElem_range]
    by_cases e : k + 1 = j
    · subst e
      rw [if_pos rfl, if_pos (Nat.le_refl _)]
    · rw [if_neg e]
      by_cases h : j ≤ k
      · rw [if_pos h, if_pos (by omega)]
      · rw [if_neg h, if_neg (by omega)]

/-- What is left where the first l letters are taken off. -/
def partv (g : Nat → Int) (p : Nat → Rat) (x : Nat → Nat) (k l : Nat) : Rat := Kmp.cw g p k + ((1 : Int) : Rat) - Kmp.rsum (fun l => if x l ≤ k then p l * Kmp.cw g p (x l) else 0) l
theorem partv_zero (g : Nat → Int) (p : Nat → Rat) (x : Nat → Nat) (k : Nat) : Kmp.cw g p k + ((1 : Int) : Rat) = partv g p x k 0 := by
  show _ = _ - (0 : Rat)
  grind
theorem partv_yes {g : Nat → Int} {p : Nat → Rat} {x : Nat → Nat} {k l : Nat} (h : x l ≤ k) : partv g p x k (l + 1) = partv g p x k l - p l * Kmp.cw g p (x l) := by
  show _ - (Kmp.rsum _ l + (if x l ≤ k then _ else _)) = (_ - Kmp.rsum _ l) - _
  rw [if_pos h]
  grind
theorem partv_no {g : Nat → Int} {p : Nat → Rat} {x : Nat → Nat} {k l : Nat} (h : ¬ x l ≤ k) : partv g p x k (l + 1) = partv g p x k l := by
  show _ - (Kmp.rsum _ l + (if x l ≤ k then _ else _)) = _ - Kmp.rsum _ l
  rw [if_neg h]
  grind

theorem cw_RS {g : Nat → Int} {qs : List Rat} {M k : Nat} (hq : ∀ j, j < qs.length → RS qs[j]! 1) (hg : GoodW qs M g) (hk : k ≤ M) : RS (Kmp.cw g (pOf qs) k) 200 := by
  have h := lead_RS (g := g) (M := k) hq hg k hk
  rw [Kmp.lead_self] at h
  have := hg.1.2
  exact h.mono (by omega)
theorem partv_RS {g : Nat → Int} {qs : List Rat} {M k : Nat} {x : Nat → Nat} (hq : ∀ j, j < qs.length → RS qs[j]! 1) (hg : GoodW qs M g) (hk : k < M) : ∀ l, l ≤ qs.length → RS (partv g (pOf qs) x k l) (l * 203 + 203)
  | 0, _ => by
    rw [← partv_zero]
    exact (RS.add (cw_RS hq hg (Nat.le_of_lt hk)) onei_RS).mono (by omega)
  | l + 1, h => by
    have ih := partv_RS (x := x) hq hg hk l (by omega)
    by_cases e : x l ≤ k
    · rw [partv_yes e]
      exact (RS.sub' ih (RS.mul (hq l (by omega)) (cw_RS hq hg (by omega)))).mono (by omega)
    · rw [partv_no e]
      exact ih.mono (by omega)

set_option maxHeartbeats 8000000 in
set_option maxRecDepth 100000 in
set_option linter.unusedSimpArgs false in
theorem times_err (v : Value) (qs : List Rat) (a : Option Addr) (M c : Nat) (g : Nat → Int) (w : World) (hL : LawIs w v qs) (ha : IRow w a M c g) (hq : ∀ j, j < qs.length → RS qs[j]! 1) (hl : qs.length ≤ 10) (hno : ¬ (chk qs = 0 ∧ GoodW qs M g)) :
    Calls Tryd.prog 31 #[v, .slice a M c] w fun e w' => ∃ k, e = .returned (.tuple #[zAgg, .iface 68 (.int .i64 k)]) ∧ Below w.heap.size w w' := by
  obtain ⟨hb0, hx0, _, _⟩ := wordsBox_parts w #[.slice a M c]
  have HC := hide (ck1 v qs a M c g w hL ha hq hl)
  have HB_0 := hide hb0
  have HX_b4_0 := hide hx0
  have HLAW := hide hL
  have HQ := hide hq
  have hWE : (w.alloc (.cells #[.bool false, .slice none 0 0, .slice none 0 0] 36)).alloc (.cells #[.slice a M c] 60) = wordsBox w #[.slice a M c] := rfl
  obtain ⟨W0, hW0⟩ : ∃ W, wordsBox w #[.slice a M c] = W := ⟨_, rfl⟩
  rw [hW0] at HC HB_0 HX_b4_0 hWE
  have HWE := hide hWE
  clear hWE hW0 hb0 hx0 hL hq
  go_enter Tryd.func31, Tryd.ntmps31
  go_wp2_with fail
  rw [unhide HWE]
  clear HWE
  obtain ⟨b4, hb4⟩ : ∃ b, w.heap.size = b := ⟨_, rfl⟩
  have HG_b4 : Hid (w.heap.size ≤ b4) := by rw [hb4]; exact Nat.le_refl _
  rw [hb4] at HX_b4_0 HC ⊢
  clear hb4
  refine (unhide HC).mono ?_
  rintro e w_1 ⟨k, rfl, hk, hbx⟩
  clear HC
  have HX_b4_1 := hide ((unhide HX_b4_0).keep hbx)
  have hk0 : k ≠ 0 := fun h => hno (hk.1 h)
  rw [show errV k = .iface 68 (.int .i64 k) from if_neg hk0]
  have ⟨l0, l1, l2⟩ := (unhide HX_b4_1).free
  have ⟨y0, y1, y2⟩ := (unhide HX_b4_1).cells _ (Below.refl _ _)
  have FIN := hide ((unhide HX_b4_1).set (t' := zTri) (q' := 0) (rat_zero _))
  have FB := hide ((((below_step (unhide HB_0) hbx).setCell (p := ⟨b4, 0, none⟩) (unhide HG_b4) (.bool zTri.s)).setCell (p := ⟨b4, 1, none⟩) (unhide HG_b4) (.slice zTri.a1 zTri.n1 zTri.c1)).setCell (p := ⟨b4, 2, none⟩) (unhide HG_b4) (.slice zTri.a2 zTri.n2 zTri.c2))
  simp only [zTri] at FIN FB y0 y1 y2
  have ⟨x0, x1, x2⟩ := (unhide FIN).cells _ (Below.refl _ _)
  (try dsimp only at x0 x1 x2)
  clear hk hbx HX_b4_0 HX_b4_1 HB_0 HLAW HQ FIN
  go_wp2
  exact bodyPost_ret (v := .tuple #[zAgg, .iface 68 (.int .i64 k)]) (by simp [results, Tryd.results31, go_sem, x0, x1, x2, zAgg]) rfl ⟨k, rfl, unhide FB⟩

end Go.Proofs.YtdicbnchkfclaaaDoor
