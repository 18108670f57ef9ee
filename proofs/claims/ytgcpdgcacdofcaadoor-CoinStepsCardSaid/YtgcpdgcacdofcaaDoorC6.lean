/- The program's steps: row by row out of shorter ones. -/
import Derived.Test.YtgcpdgcacdofcaaDoorC5
namespace Go.Proofs.YtgcpdgcacdofcaaDoor
open Go.RowKit Go.Sort

/-- The next row, letter by letter. -/
theorem stands_next {g : Nat → Int} {M k s : Nat} {l x : Int} (hk : 0 < k) (hkM : k ≤ M) (hs : Kmp.Top (fun n => Kmp.Bd g n k) (k - 1) s) (hx : StandsAt g M s l x) : ∃ y : Nat, x = (y : Int) ∧ Kmp.Top (fun j => Kmp.Ds g j k l) k y := by
  obtain ⟨y, rfl, ht⟩ := hx
  have h1 := hs.2.1
  rw [show min M (s + 1) = s + 1 by omega] at ht
  exact ⟨y, rfl, Kmp.top_short hk hs ht⟩
theorem stands_off {g : Nat → Int} {M k s : Nat} {l x : Int} (hk : 0 < k) (hkM : k < M) (hs : Kmp.Top (fun n => Kmp.Bd g n k) (k - 1) s) (hx : StandsAt g M s l x) (hl : g k ≠ l) : StandsAt g M k l x := by
  obtain ⟨y, e, ht⟩ := stands_next hk (by omega) hs hx
  refine ⟨y, e, ?_⟩
  rw [show min M (k + 1) = k + 1 by omega]
  exact Kmp.top_off hl ht
theorem stands_on {g : Nat → Int} {M k : Nat} (hkM : k < M) : StandsAt g M k (g k) ((k : Int) + 1) := by
  refine ⟨k + 1, by omega, ?_⟩
  rw [show min M (k + 1) = k + 1 by omega]
  exact Kmp.top_on
theorem stands_last {g : Nat → Int} {M s : Nat} {l x : Int} (hM : 0 < M) (hs : Kmp.Top (fun n => Kmp.Bd g n M) (M - 1) s) (hx : StandsAt g M s l x) : StandsAt g M M l x := by
  obtain ⟨y, e, ht⟩ := stands_next hM (Nat.le_refl _) hs hx
  refine ⟨y, e, ?_⟩
  rw [show min M (M + 1) = M by omega]
  exact ht
theorem shorter_next {g : Nat → Int} {M k s : Nat} {x : Int} (hk : 0 < k) (hkM : k < M) (hs : Kmp.Top (fun n => Kmp.Bd g n k) (k - 1) s) (hx : StandsAt g M s (g k) x) : ∃ y : Nat, x = (y : Int) ∧ Kmp.Top (fun n => Kmp.Bd g n (k + 1)) (k + 1 - 1) y := by
  obtain ⟨y, e, ht⟩ := stands_next hk (by omega) hs hx
  exact ⟨y, e, Kmp.top_next ht⟩
theorem stands_first {g : Nat → Int} {M : Nat} (hM : 0 < M) {Lt l : Nat} (hl : l < Lt) {j : Nat} (hj : g 0 = (j : Int)) (hjL : j < Lt) : StandsAt g M 0 (l : Int) (((List.replicate Lt (0 : Int)).set j 1)[l]!) := by
  by_cases e : j = l
  · subst e
    have e1 : ((List.replicate Lt (0 : Int)).set j 1)[j]! = 1 := by simp [hjL]
    rw [e1, ← hj]
    exact stands_on hM
  · have e1 : ((List.replicate Lt (0 : Int)).set j 1)[l]! = 0 := by simp [e, hl]
    rw [e1]
    refine ⟨0, rfl, ?_⟩
    rw [show min M (0 + 1) = 0 + 1 by omega]
    exact Kmp.top_zero (by omega)

theorem StepsAt.lay {w wr : World} {G Lt N k : Nat} {gs : List Nat} {R : List (List Int)} (h : StepsAt w wr G Lt N gs R) (hk : gs.length = k) (hn : k < N) (hL : Lt ≤ 1099511627776) :
    ∃ g1 W1, (Instr.makeSlice 22 (.int .i64 (Lt : Int)) (.int .i64 (Lt : Int))).run Tryd.prog wr = .ok (.slice (some ⟨g1, 0, none⟩) Lt Lt) W1 ∧ W1.cell? ⟨G, k, none⟩ = some (.slice none 0 0) ∧ W1.frozen? ⟨G, k, none⟩ = false ∧
      StepsAt w (W1.setCell ⟨G, k, none⟩ (.slice (some ⟨g1, 0, none⟩) Lt Lt)) G Lt N (gs ++ [g1]) (R ++ [List.replicate Lt 0]) := by
  subst hk
  have kk := h.keep (alloc_below wr (.cells (ints (List.replicate Lt 0)).toArray 3))
  refine ⟨_, _, make_ints Lt hL wr, ?_, kk.free _, h.add hn⟩
  simp only [World.cell?, kk.top]
  have e : (slots gs Lt N)[gs.length]? = some (.slice none 0 0) := by
    unfold slots
    obtain ⟨m, hm⟩ : ∃ m, N - gs.length = m + 1 := ⟨N - gs.length - 1, by omega⟩
    rw [List.getElem?_append_right (by simp), List.length_map, Nat.sub_self, hm, List.replicate_succ]
    rfl
  simpa using e

structure LoopAt (w wr : World) (G Lt M k s : Nat) (g : Nat → Int) (gs : List Nat) (R : List (List Int)) : Prop where
  at_ : StepsAt w wr G Lt (M + 1) gs R
  len : gs.length = k
  pos : 0 < k
  short : k ≤ M → Kmp.Top (fun n => Kmp.Bd g n k) (k - 1) s
  rows : ∀ i l, i < k → l < Lt → StandsAt g M i (l : Int) ((R[i]!)[l]!)

theorem drew_below (w : World) : Below w.heap.size w w.drew := (Below.refl _ _).drew

theorem set_last {α : Type} (R : List α) (z x : α) (k : Nat) (hk : R.length = k) : (R ++ [z]).set k x = R ++ [x] := by
  subst hk
  rw [List.set_append_right _ _ (Nat.le_refl _), Nat.sub_self]
  rfl
theorem at_last {α : Type} [Inhabited α] (R : List α) (z : α) (k : Nat) (hk : R.length = k) : (R ++ [z])[k]! = z := by subst hk; simp
theorem at_first {α : Type} [Inhabited α] (R : List α) (z : α) (s : Nat) (hs : s < R.length) : (R ++ [z])[s]! = R[s]! := by simp [hs, List.getElem?_append_left hs]

theorem set_at {α : Type} [Inhabited α] (l : List α) (j : Nat) (x : α) (h : j < l.length) : (l.set j x)[j]! = x := by simp [h]
theorem set_off {α : Type} [Inhabited α] (l : List α) (j k : Nat) (x : α) (h : j ≠ k) : (l.set j x)[k]! = l[k]! := by simp [h]

/-- A round: a row is laid, and filled by the shorter one's. -/
theorem LoopAt.lay {w wr : World} {G Lt M k s : Nat} {g : Nat → Int} {gs : List Nat} {R : List (List Int)} (h : LoopAt w wr G Lt M k s g gs R) (hk : k ≤ M) (hL : Lt ≤ 1099511627776) :
    ∃ g1 W1, (Instr.makeSlice 22 (.int .i64 (Lt : Int)) (.int .i64 (Lt : Int))).run Tryd.prog wr = .ok (.slice (some ⟨g1, 0, none⟩) Lt Lt) W1 ∧ W1.cell? ⟨G, k, none⟩ = some (.slice none 0 0) ∧ W1.frozen? ⟨G, k, none⟩ = false ∧
      ∃ W2, W1.setCell ⟨G, k, none⟩ (.slice (some ⟨g1, 0, none⟩) Lt Lt) = W2 ∧ W2.cell? ⟨G, k, none⟩ = some (.slice (some ⟨g1, 0, none⟩) Lt Lt) ∧ W2.cell? ⟨G, s, none⟩ = some (.slice (some ⟨gs[s]!, 0, none⟩) Lt Lt) ∧
      ∃ W3, (Builtin.copy_ #[22, 22] 3 #[.slice (some ⟨g1, 0, none⟩) Lt Lt, .slice (some ⟨gs[s]!, 0, none⟩) Lt Lt]).run Tryd.prog W2.drew = .ok (.int .i64 (Lt : Int)) W3 ∧ StepsAt w W3 G Lt (M + 1) (gs ++ [g1]) (R ++ [R[s]!]) := by
  have hs := (h.short hk).2.1
  have hp := h.pos
  have hl := h.at_.len
  obtain ⟨g1, W1, mk, cN, fN, S1⟩ := h.at_.lay h.len (by omega) hL
  have hgl : (gs ++ [g1]).length = k + 1 := by rw [List.length_append, h.len]; rfl
  have q1 : (gs ++ [g1])[k]! = g1 := at_last _ _ _ h.len
  have q2 : (gs ++ [g1])[s]! = gs[s]! := at_first _ _ _ (by rw [h.len]; omega)
  have c1 := S1.slot (i := k) (by omega)
  have c2 := S1.slot (i := s) (by omega)
  rw [q1] at c1
  rw [q2] at c2
  obtain ⟨W3, cp, S3⟩ := (S1.keep (drew_below _)).copied (i := k) (s := s) (by omega) (by omega)
  rw [q1, q2] at cp
  rw [at_first _ _ _ (show s < R.length by rw [hl, h.len]; omega), set_last _ _ _ _ (by rw [hl, h.len])] at S3
  exact ⟨g1, W1, mk, cN, fN, _, rfl, c1, c2, W3, cp, S3⟩

/-- The last row. -/
theorem LoopAt.last {w W3 : World} {G Lt M s g1 : Nat} {g : Nat → Int} {gs : List Nat} {R : List (List Int)} (hlen : gs.length = M) (hM : 0 < M) (hrl : R.length = gs.length) (hs : Kmp.Top (fun n => Kmp.Bd g n M) (M - 1) s) (hrows : ∀ i l, i < M → l < Lt → StandsAt g M i (l : Int) ((R[i]!)[l]!)) (h3 : StepsAt w W3 G Lt (M + 1) (gs ++ [g1]) (R ++ [R[s]!])) :
    LoopAt w W3 G Lt M (M + 1) s g (gs ++ [g1]) (R ++ [R[s]!]) := by
  have := hs.2.1
  refine ⟨h3, by rw [List.length_append, hlen]; rfl, by omega, fun h => by omega, fun i l hi hl => ?_⟩
  rcases Nat.lt_or_ge i M with h' | h'
  · rw [at_first _ _ _ (by omega)]; exact hrows i l h' hl
  · obtain rfl : i = M := by omega
    rw [at_last _ _ _ (by omega)]
    exact stands_last hM hs (hrows s l (by omega) hl)

/-- A row in the middle. -/
theorem LoopAt.next {w W3 : World} {G Lt M k s g1 j y : Nat} {g : Nat → Int} {gs : List Nat} {R : List (List Int)} (hlen : gs.length = k) (hk : 0 < k) (hkM : k < M) (hrl : R.length = gs.length) (hs : Kmp.Top (fun n => Kmp.Bd g n k) (k - 1) s) (hrows : ∀ i l, i < k → l < Lt → StandsAt g M i (l : Int) ((R[i]!)[l]!))
    (hj : g k = (j : Int)) (hjL : j < Lt) (hy : (R[s]!)[j]! = (y : Int)) (h3 : StepsAt w W3 G Lt (M + 1) (gs ++ [g1]) (R ++ [R[s]!])) :
    LoopAt w (W3.setCell ⟨g1, j, none⟩ (.int .i64 ((k : Int) + 1))) G Lt M (k + 1) y g (gs ++ [g1]) (R ++ [(R[s]!).set j ((k : Int) + 1)]) := by
  have h1 := hs.2.1
  have hgl : (gs ++ [g1]).length = k + 1 := by rw [List.length_append, hlen]; rfl
  have S := h3.set (i := k) (j := j) (by omega) ((k : Int) + 1)
  rw [at_last _ _ _ hlen, at_last _ _ _ (by omega), set_last _ _ _ _ (by omega)] at S
  have hxs := hrows s j (by omega) hjL
  rw [← hj] at hxs
  obtain ⟨y', e', ht⟩ := shorter_next hk hkM hs hxs
  obtain rfl : y' = y := by omega
  refine ⟨S, hgl, by omega, fun _ => ht, fun i l hi hl => ?_⟩
  rcases Nat.lt_or_ge i k with h' | h'
  · rw [at_first _ _ _ (by omega)]; exact hrows i l h' hl
  · obtain rfl : i = k := by omega
    rw [at_last _ _ _ (by omega)]
    have hlr : (R[s]!).length = Lt := by
      have := (h3.row s (by omega)).2
      rwa [at_first _ _ _ (by omega)] at this
    by_cases e : j = l
    · subst e
      have e2 : ((R[s]!).set j ((i : Int) + 1))[j]! = (i : Int) + 1 := set_at _ _ _ (by omega)
      rw [e2, ← hj]
      exact stands_on hkM
    · have e2 : ((R[s]!).set j ((i : Int) + 1))[l]! = (R[s]!)[l]! := set_off _ _ _ _ e
      rw [e2]
      exact stands_off hk hkM hs (hrows s l (by omega) hl) (by omega)

theorem LoopAt.keep {w wr w' : World} {G Lt M k s : Nat} {g : Nat → Int} {gs : List Nat} {R : List (List Int)} (h : LoopAt w wr G Lt M k s g gs R) (hb : Below wr.heap.size wr w') : LoopAt w w' G Lt M k s g gs R :=
  ⟨h.at_.keep hb, h.len, h.pos, h.short, h.rows⟩

theorem LoopAt.first {w W : World} {G Lt M g1 j : Nat} {g : Nat → Int} (hM : 1 ≤ M) (hj : g 0 = (j : Int)) (hjL : j < Lt) (h : StepsAt w W G Lt (M + 1) ([] ++ [g1]) (([] ++ [List.replicate Lt (0 : Int)] : List (List Int)).set 0 ((([] ++ [List.replicate Lt (0 : Int)] : List (List Int))[0]!).set j 1))) : LoopAt w W G Lt M 1 0 g [g1] [(List.replicate Lt 0).set j 1] := by
  refine ⟨h, rfl, Nat.one_pos, fun _ => Kmp.top_first g, fun i l hi hl => ?_⟩
  obtain rfl : i = 0 := by omega
  exact stands_first hM hl hj hjL

set_option maxHeartbeats 4000000 in
set_option maxRecDepth 100000 in
theorem steps_any (a : Option Addr) (c M Lt : Nat) (g : Nat → Int) (w : World) (ha : IRow w a M c g) (hM : 1 ≤ M) (hM2 : M ≤ 20) (hL1 : 1 ≤ Lt) (hL2 : Lt ≤ 101) (hg : ∀ i, i < M → 0 ≤ g i ∧ g i < (Lt : Int)) :
    Calls Tryd.prog 8 #[.int .i64 (Lt : Int), .slice a M c] w fun e w' => ∃ v R, e = .returned v ∧ RowsF w' v (M + 1) Lt R ∧ (∀ n k, n ≤ M → k < Lt → StandsAt g M n (k : Int) (R n k)) ∧ Below w.heap.size w w' := by
  have HA := hide ha
  have HG := hide hg
  obtain ⟨h1, h2, h3⟩ := ha
  obtain ⟨b, o, rfl, hbl, hc⟩ := h3 (by omega)
  obtain ⟨j0, hj0⟩ : ∃ j : Nat, g 0 = (j : Int) := ⟨(g 0).toNat, by have := hg 0 (by omega); omega⟩
  have hj0L : j0 < Lt := by have := hg 0 (by omega); omega
  have mk1 := make_slots (M + 1) Lt (by omega) w
  have eM : ((M + 1 : Nat) : Int) = (M : Int) + 1 := by omega
  rw [eM] at mk1
  have S0 := StepsAt.start w Lt (M + 1)
  obtain ⟨W0, hW0⟩ : ∃ W, w.alloc (.cells (slots [] Lt (M + 1)).toArray 22) = W := ⟨_, rfl⟩
  obtain ⟨G, hG⟩ : ∃ G, w.heap.size = G := ⟨_, rfl⟩
  rw [hW0] at mk1 S0
  rw [hG] at mk1
  have S0' : StepsAt w W0 G Lt (M + 1) [] [] := by rw [← hG]; exact S0
  obtain ⟨g1, W1, mk2, cN, fN, S1⟩ := S0'.lay (k := 0) rfl (by omega) (by omega)
  obtain ⟨W2, hW2⟩ : ∃ W, W1.setCell ⟨G, 0, none⟩ (.slice (some ⟨g1, 0, none⟩) Lt Lt) = W := ⟨_, rfl⟩
  rw [hW2] at S1
  have d0 : W2.cell? ⟨G, 0, none⟩ = some (.slice (some ⟨g1, 0, none⟩) Lt Lt) := S1.slot (i := 0) (by simp)
  have d1 := S1.cell (i := 0) (j := j0) (by simp) hj0L
  have d2 := S1.freeRow (i := 0) (by simp) j0
  have S2 := S1.set (i := 0) (j := j0) (by simp) 1
  have d3 : W2.cell? ⟨b, o, none⟩ = some (.int .i64 (j0 : Int)) := by
    rw [S1.bl.cell (p := ⟨b, o, none⟩) hbl]
    have := hc 0 (by omega)
    rw [hj0] at this
    exact this
  have e1 : ([] ++ [g1] : List Nat)[0]! = g1 := rfl
  rw [e1] at d1 d2 S2
  obtain ⟨x0, d1⟩ : ∃ x, W2.cell? ⟨g1, j0, none⟩ = some x := ⟨_, d1⟩
  have HC := hide hc
  have HS2 := hide S2
  have HBL := hide hbl
  have hjI : (j0 : Int) < (Lt : Int) := by omega
  have HJ0 := hide hj0
  clear h3 hc hg S0 S0' S1 S2 eM hW0 hG e1 hj0 hbl
  go_enter Tryd.func8, Tryd.ntmps8
  go_wp2_with fail
  clear mk1 mk2 cN fN hW2
  go_region
  have L0 := (LoopAt.first hM (unhide HJ0) hj0L (unhide HS2)).keep (drew_below _)
  have HL0 := hide L0
  clear d0 d1 d2 d3 HS2 L0 hjI
  go_wp2_with fail
  go_loopw [6, 7] (fun vs vk wr => ∃ (k s : Nat) (gs : List Nat) (R : List (List Int)), vk = .int .i64 (k : Int) ∧ vs = .int .i64 (s : Int) ∧ k ≤ M + 1 ∧ LoopAt w wr G Lt M k s g gs R) (fun _ vk _ => M + 1 - (intOf vk).toNat)
  case atStart => exact ⟨1, 0, _, _, rfl, rfl, by omega, unhide HL0⟩
  case round =>
    clear HL0
    obtain ⟨k, s, gs, R, rfl, rfl, hk, T⟩ := hrel
    by_cases hkM : k ≤ M
    · have hs := T.short hkM
      have hs1 := hs.2.1
      have hp := T.pos
      have hgl := T.len
      have hrl := T.at_.len
      have hrows := T.rows
      obtain ⟨g2, W1', mk, cN', fN', W2', hW2', c1, c2, W3, cp, S3⟩ := T.lay hkM (by omega)
      obtain ⟨gS, hgS⟩ : ∃ x, gs[s]! = x := ⟨_, rfl⟩
      rw [hgS] at c2 cp
      have HT := hide T
      have HS := hide hs
      have HROWS := hide hrows
      have HGL := hide hgl
      have HRL := hide hrl
      have i1 : (k : Int) ≤ (M : Int) := by omega
      have i2 : (s : Int) < (M : Int) + 1 := by omega
      have i3 : (k : Int) < (M : Int) + 1 := by omega
      by_cases hkl : k < M
      · obtain ⟨j, hj⟩ : ∃ j : Nat, g k = (j : Int) := ⟨(g k).toNat, by have := unhide HG k hkl; omega⟩
        have hjL : j < Lt := by have := unhide HG k hkl; omega
        obtain ⟨y, hy, _⟩ := hrows s j (by omega) hjL
        have FIN := LoopAt.next hgl hp hkl hrl hs hrows hj hjL hy S3
        have q1 : (gs ++ [g2])[k]! = g2 := at_last _ _ _ hgl
        have q2 : (gs ++ [g2])[s]! = gS := by rw [at_first _ _ _ (by omega)]; exact hgS
        have gl2 : (gs ++ [g2]).length = k + 1 := by rw [List.length_append, hgl]; rfl
        have e1 := S3.slot (i := k) (by omega)
        have e2 := S3.slot (i := s) (by omega)
        have e3 := S3.cell (i := s) (j := j) (by omega) hjL
        have e4 := S3.cell (i := k) (j := j) (by omega) hjL
        have e5 := S3.freeRow (i := k) (by omega) j
        rw [q1] at e1 e4 e5
        rw [q2] at e2 e3
        rw [at_first _ _ _ (by omega), hy] at e3
        obtain ⟨x4, e4⟩ : ∃ x, W3.cell? ⟨g2, j, none⟩ = some x := ⟨_, e4⟩
        have e6 : W3.cell? ⟨b, o + k, none⟩ = some (.int .i64 (j : Int)) := by
          rw [S3.bl.cell (p := ⟨b, o + k, none⟩) (unhide HBL), ← hj]
          exact unhide HC k hkl
        have i4 : (k : Int) < (M : Int) := by omega
        have i5 : (j : Int) < (Lt : Int) := by omega
        have HFIN := hide FIN
        clear T hs hrows hgl hrl S3 hgS FIN q1 q2 gl2 hy hj
        go_wp2_with fail
        clear mk cN' fN' hW2'
        go_region
        clear cp c1 c2
        go_wp2_with fail
        go_region
        go_wp2_with fail
        go_region
        go_wp2_with fail
        exact ⟨⟨k + 1, y, _, _, by go_num, rfl, by omega, ((unhide HFIN).keep (drew_below _)).keep (drew_below _)⟩, by simp [intOf]; omega⟩
      · obtain rfl : k = M := by omega
        have FIN := hide (LoopAt.last hgl (by omega) hrl hs hrows S3)
        have i4 : ¬ (k : Int) < (k : Int) := by omega
        clear T hs hrows hgl hrl S3 hgS
        go_wp2_with fail
        clear mk cN' fN' hW2'
        go_region
        clear cp c1 c2
        go_wp2_with fail
        exact ⟨⟨k + 1, s, _, _, by go_num, rfl, by omega, unhide FIN⟩, by simp [intOf]⟩
    · obtain rfl : k = M + 1 := by omega
      have hl' : ¬ ((M + 1 : Nat) : Int) ≤ (M : Int) := by omega
      have HT := hide T
      clear T
      go_wp2_with fail
      exact bodyPost_ret (v := .slice (some ⟨G, 0, none⟩) (M + 1) (M + 1)) (by simp [results, Tryd.results8, go_sem]) rfl ⟨_, rfl, _, (unhide HT).at_.rows (unhide HT).len (by omega) (by omega), fun n k hn hk => (unhide HT).rows n k (by omega) hk, (unhide HT).at_.bl⟩
end Go.Proofs.YtgcpdgcacdofcaaDoor
