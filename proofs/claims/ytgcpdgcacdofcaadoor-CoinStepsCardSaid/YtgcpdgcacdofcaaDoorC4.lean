/- The document's Steps: of each beginning, and each letter behind it, how much stands. -/
import Derived.Test.YtgcpdgcacdofcaaDoorC3
namespace Go.Proofs.YtgcpdgcacdofcaaDoor
open Go.RowKit

/-- What stands behind n letters of the word and k. -/
def StandsAt (g : Nat → Int) (M n : Nat) (k x : Int) : Prop := ∃ y : Nat, x = (y : Int) ∧ Kmp.Top (fun j => Kmp.Ds g j n k) (min M (n + 1)) y

def textOf (g : Nat → Int) (n : Nat) (k : Int) : List Int := (List.range n).map g ++ [k]
theorem textOf_length (g : Nat → Int) (n : Nat) (k : Int) : (textOf g n k).length = n + 1 := by simp [textOf]
theorem textOf_lt {g : Nat → Int} {n : Nat} {k : Int} {i : Nat} (h : i < n) : (textOf g n k)[i]! = g i := by simp [textOf, List.getElem?_append_left, h]
theorem textOf_at {g : Nat → Int} {n : Nat} {k : Int} : (textOf g n k)[n]! = k := by simp [textOf]

theorem standsAt_short {g : Nat → Int} {M n x : Nat} {k : Int} (hn : n < M) (h : Kmp.Top (EndsIn (n + 1) (fun j => (textOf g n k)[j]!) g) (min M (n + 1)) x) : StandsAt g M n k (x : Int) := by
  refine ⟨x, rfl, h.congr fun j hj => ?_⟩
  rw [Kmp.ds_text (fun i => (textOf g n k)[i]!) (fun i hi => textOf_lt hi) textOf_at (by omega)]
  rfl

theorem standsAt_whole {g : Nat → Int} {M x : Nat} {k : Int} (h : Kmp.Top (EndsIn M (fun j => (textOf g M k)[1 + j]!) g) (min M M) x) : StandsAt g M M k (x : Int) := by
  have e : min M (M + 1) = min M M := by omega
  refine ⟨x, rfl, ?_⟩
  rw [e]
  refine h.congr fun j hj => ?_
  rw [Kmp.ds_text (fun i => (textOf g M k)[i]!) (fun i hi => textOf_lt hi) textOf_at (by omega)]
  unfold EndsIn
  constructor
  · intro hh i hi
    have := hh i hi
    rw [show M + 1 - j + i = 1 + (M - j + i) by omega]
    exact this
  · intro hh i hi
    have := hh i hi
    rw [show M + 1 - j + i = 1 + (M - j + i) by omega] at this
    exact this

theorem word_cells {w : World} {b o M c : Nat} {g : Nat → Int} (h : IRow w (some ⟨b, o, none⟩) M c g) {n : Nat} (hn : n ≤ M) (h0 : 0 < M) : ∀ j u, (ints ((List.range n).map g))[j]? = some u → w.cell? ((⟨b, o, none⟩ : Addr).add j) = some u := by
  intro j u hu
  obtain ⟨h1, h2, h3⟩ := h
  obtain ⟨b', o', e, hlt, hc⟩ := h3 h0
  obtain ⟨rfl, rfl, _⟩ := by simpa using e
  have hj : j < n := by
    have := (List.getElem?_eq_some_iff.1 hu).1
    simpa [ints] using this
  have hcj := hc j (by omega)
  simp [ints, hj] at hu
  rw [← hu]
  unfold Addr.add
  by_cases hj0 : j = 0
  · subst hj0; simpa using hcj
  · simpa [hj0] using hcj

theorem new_one (w : World) (x : Int) (T : TypeId) : ∀ j u, (ints [x])[j]? = some u → (w.alloc (.cells #[.int .i64 x] T)).cell? ((⟨w.heap.size, 0, none⟩ : Addr).add j) = some u := by
  intro j u hu
  have hj : j < 1 := by
    have := (List.getElem?_eq_some_iff.1 hu).1
    simpa [ints] using this
  obtain rfl : j = 0 := by omega
  simp [ints] at hu
  subst hu
  simp [Addr.add]

theorem one_val {y : Value} (h : y.oneCell' = true) : ∀ u ∈ [y], u.oneCell' = true := by
  intro u hu
  rw [List.mem_singleton.1 hu]
  exact h

theorem new_val (w : World) (y : Value) (T : TypeId) : ∀ j u, ([y] : List Value)[j]? = some u → (w.alloc (.cells #[y] T)).cell? ((⟨w.heap.size, 0, none⟩ : Addr).add j) = some u := by
  intro j u hu
  have hj : j < 1 := by simpa using (List.getElem?_eq_some_iff.1 hu).1
  obtain rfl : j = 0 := by omega
  simp at hu
  subst hu
  simp [Addr.add]

theorem text_prep {wr w1 : World} {v1 : Value} {n : Nat} {g : Nat → Int} {k : Int} (own2 : w1.ownsRow wr.heap.size 3 1 v1 (0 + n) ([] ++ ints ((List.range n).map g))) (grow1 : (wr.alloc (.cells #[] 3)).grownBy w1 (some wr.heap.size)) :
    (w1.alloc (.cells #[.int .i64 k] 3)).ownsRow wr.heap.size 3 1 v1 n (ints ((List.range n).map g)) ∧ Below wr.heap.size wr (w1.alloc (.cells #[.int .i64 k] 3)) ∧ wr.heap.size ≤ (w1.alloc (.cells #[.int .i64 k] 3)).heap.size := by
  have b1 : Below wr.heap.size wr w1 := (alloc_below wr _).grown grow1 (by rw [alloc_size]; omega) (fun k hk => by injection hk with hk; omega)
  have b2 := below_step b1 (alloc_below w1 (.cells #[.int .i64 k] 3))
  refine ⟨?_, b2, b2.size⟩
  rw [Nat.zero_add, List.nil_append] at own2
  exact owns_below own2 (alloc_below _ _)

theorem text_made {wr w1 w3 : World} {v1 : Value} {n g2 cap2 : Nat} {g : Nat → Int} {k : Int} (own2 : w1.ownsRow wr.heap.size 3 1 v1 n (ints ((List.range n).map g))) (b1 : Below wr.heap.size wr w1) (grow2 : w1.grownBy w3 v1.ownBlock)
    (own3 : w3.ownsRow wr.heap.size 3 1 (.slice (some ⟨g2, 0, none⟩) (n + 1) cap2) (n + 1) (ints ((List.range n).map g) ++ ints [k])) :
    IRow w3 (some ⟨g2, 0, none⟩) (n + 1) cap2 (fun j => (textOf g n k)[j]!) ∧ Below wr.heap.size wr w3 := by
  refine ⟨?_, b1.grown grow2 b1.size (fun k hk => (own2.lt k hk).1)⟩
  have e : ints ((List.range n).map g) ++ ints [k] = ints (textOf g n k) := by rw [← ints_append]; rfl
  have el : n + 1 = (textOf g n k).length := (textOf_length g n k).symm
  rw [e, el] at own3
  obtain ⟨a, c, ev, hr, _⟩ := irow_of_owns own3
  injection ev with e1 e2 e3
  rw [← e1, ← e3, ← el] at hr
  exact hr

theorem row_pushed {W0 wr w4 w5 : World} {u : Value} {xs : List Int} {x : Int} {g5 cap5 : Nat} (b0 : Below W0.heap.size W0 wr) (b4 : Below wr.heap.size wr w4) (own : wr.ownsRow W0.heap.size 3 1 u xs.length (ints xs))
    (grow : (w4.alloc (.cells #[.int .i64 x] 3)).grownBy w5 u.ownBlock) (own5 : w5.ownsRow W0.heap.size 3 1 (.slice (some ⟨g5, 0, none⟩) (xs.length + 1) cap5) (xs.length + 1) (ints xs ++ ints [x])) :
    w5.ownsRow W0.heap.size 3 1 (.slice (some ⟨g5, 0, none⟩) (xs.length + 1) cap5) (xs ++ [x]).length (ints (xs ++ [x])) ∧ Below W0.heap.size W0 w5 := by
  have b5 : Below W0.heap.size W0 (w4.alloc (.cells #[.int .i64 x] 3)) := below_step (below_step b0 b4) (alloc_below _ _)
  refine ⟨by rw [List.length_append, ints_append]; exact own5, b5.grown grow b5.size (fun k hk => (own.lt k hk).1)⟩

theorem stands_pushed {g : Nat → Int} {M n : Nat} {xs : List Int} {x : Int} (h : ∀ j, j < xs.length → StandsAt g M n (j : Int) xs[j]!) (hx : StandsAt g M n (xs.length : Int) x) : ∀ j, j < xs.length + 1 → StandsAt g M n (j : Int) (xs ++ [x])[j]! := by
  intro j hj
  rcases Nat.lt_or_ge j xs.length with h' | h'
  · have e : (xs ++ [x])[j]! = xs[j]! := by simp [h', List.getElem?_append_left h']
    rw [e]; exact h j h'
  · obtain rfl : j = xs.length := by omega
    have e : (xs ++ [x])[xs.length]! = x := by simp
    rw [e]; exact hx

theorem rows_pushed {g : Nat → Int} {M n L : Nat} {ys : List (Value × List Int)} {y : Value} {xs : List Int} (hl : ys.length = n) (h : ∀ i k, i < n → k < L → StandsAt g M i (k : Int) ((ys[i]!).2[k]!)) (hx : ∀ j, j < L → StandsAt g M n (j : Int) xs[j]!) :
    ∀ i k, i < n + 1 → k < L → StandsAt g M i (k : Int) (((ys ++ [(y, xs)])[i]!).2[k]!) := by
  intro i k hi hk
  subst hl
  rcases Nat.lt_or_ge i ys.length with h' | h'
  · have e : (ys ++ [(y, xs)])[i]! = ys[i]! := by simp [h', List.getElem?_append_left h']
    rw [e]; exact h i k h' hk
  · obtain rfl : i = ys.length := by omega
    have e : (ys ++ [(y, xs)])[ys.length]! = (y, xs) := by simp
    rw [e]; exact hx k hk

set_option maxHeartbeats 4000000 in
set_option maxRecDepth 100000 in
theorem refSteps_any (a : Option Addr) (c M Lt : Nat) (g : Nat → Int) (w : World) (ha : IRow w a M c g) (hM : 1 ≤ M) (hM2 : M ≤ 20) (hL1 : 1 ≤ Lt) (hL2 : Lt ≤ 100) :
    Calls Tryd.prog 6 #[.int .i64 (Lt : Int), .slice a M c] w fun e w' => ∃ v R, e = .returned v ∧ RowsF w' v (M + 1) Lt R ∧ (∀ n k, n ≤ M → k < Lt → StandsAt g M n (k : Int) (R n k)) ∧ Below w.heap.size w w' := by
  have HA := hide ha
  obtain ⟨h1, h2, h3⟩ := ha
  obtain ⟨b, o, rfl, hbl, hc⟩ := h3 (by omega)
  obtain ⟨ti, hi, hz0, hz1, hz2⟩ := info_parts Tryd.infoI
  obtain ⟨si, hsi, sz0, sz1, sz2⟩ := info_parts Tryd.infoIs
  have HI := hide hi
  have HZ := hide hz0
  have HSI := hide hsi
  have HSZ := hide sz0
  clear h3 hc hi hz0 hsi sz0
  go_enter Tryd.func6, Tryd.ntmps6
  go_wp2_with fail
  go_loopw [5, 6] (fun vo vn wr => ∃ (n : Nat) (ys : List (Value × List Int)), vn = .int .i64 n ∧ n ≤ M + 1 ∧ ys.length = n ∧ OwnRows wr w.heap.size vo Lt ys ∧ Below w.heap.size w wr ∧ (∀ i k, i < n → k < Lt → StandsAt g M i (k : Int) ((ys[i]!).2[k]!))) (fun _ vn _ => M + 1 - (intOf vn).toNat)
  case atStart => exact ⟨0, [], rfl, Nat.zero_le _, rfl, ⟨World.ownsRow_nil _ _ _ _, fun i hi => absurd hi (Nat.not_lt_zero _)⟩, Below.refl _ _, fun i k hi => absurd hi (Nat.not_lt_zero _)⟩
  case round =>
    obtain ⟨n, ys, rfl, hn, hys, T, bl, hst⟩ := hrel
    have HT := hide T
    have HB := hide bl
    have HST := hide hst
    have HYS := hide hys
    clear T bl hst hys
    by_cases hlt : n ≤ M
    · have hlt' : (n : Int) ≤ (M : Int) := by omega
      go_wp2_with fail
      obtain ⟨W0, hW0⟩ : ∃ W, W = wr := ⟨_, rfl⟩
      rw [← hW0]
      rw [← hW0] at HT HB
      clear hW0
      go_loopw [7, 18] (fun vr vk wi => ∃ (k : Nat) (xs : List Int), vk = .int .i64 k ∧ k ≤ Lt ∧ xs.length = k ∧ wi.ownsRow W0.heap.size 3 1 vr xs.length (ints xs) ∧ Below W0.heap.size W0 wi ∧ (∀ j, j < k → StandsAt g M n (j : Int) xs[j]!)) (fun _ vk _ => Lt - (intOf vk).toNat)
      case atStart => exact ⟨0, [], rfl, Nat.zero_le _, rfl, World.ownsRow_nil _ _ _ _, Below.refl _ _, fun i hi => absurd hi (Nat.not_lt_zero _)⟩
      case round =>
        obtain ⟨k, xs, rfl, hk, hxs, hown, blk, hsk⟩ := hrel
        by_cases hkl : k < Lt
        · have hkl' : (k : Int) < (Lt : Int) := by omega
          have hB0 : Below w.heap.size w wr := below_step (unhide HB) blk
          have own1 : (wr.alloc (.cells #[] 3)).ownsRow wr.heap.size 3 1 (.slice (some ⟨wr.heap.size, 0, none⟩) 0 0) 0 [] := World.ownsRow_made wr #[] 0 (Nat.le_refl _) (by unfold maxLen; decide) rfl
          have hB1 : Below w.heap.size w (wr.alloc (.cells #[] 3)) := below_step hB0 (alloc_below _ _)
          have hnews := word_cells ((unhide HA).below hB1) (n := n) hlt (by omega)
          have hnl : (ints ((List.range n).map g)).length = n * 1 := by simp [ints]
          have h63 : 0 + n ≤ maxLen := by unfold maxLen; omega
          have hby1 : (0 + n) * 8 ≤ 140737488355328 := by omega
          have hbs1 : wr.heap.size ≤ (wr.alloc (.cells #[] 3)).heap.size := by rw [alloc_size]; omega
          have HOWN := hide hown
          have HBLK := hide blk
          have HSK := hide hsk
          have HXS := hide hxs
          have HOWN1 := hide own1
          have HNEWS := hide hnews
          have HNL := hide hnl
          have H63 := hide h63
          have HBY1 := hide hby1
          have HBS1 := hide hbs1
          have HB1 := hide hB1
          have hnc : (n : Int) ≤ (c : Int) := by omega
          have hc0 : c ≠ 0 := by omega
          clear hown blk hsk hxs own1 hnews hnl h63 hby1 hbs1 hB0 hB1
          have hB63 : n + 1 ≤ maxLen := by unfold maxLen; omega
          have hB8 : (n + 1) * 8 ≤ 140737488355328 := by omega
          have HB63 := hide hB63
          have HB8 := hide hB8
          clear hB63 hB8
          by_cases hnM : n = M
          · have hnM' : ((n : Int) == (M : Int)) = true := by rw [beq_iff_eq]; omega
            have HNM := hide hnM
            clear hnM
            go_wp2_with (first
              | (at_builtin; refine wpList_append_own _ rfl _ _ _ rfl wr.heap.size 3 ti (.int .i64 0) 1 8 Tryd.underlying22 (unhide HI) (unhide HZ) hz1 hz2 rfl (by decide) _ 0 [] rfl (unhide HOWN1) ⟨b, o, none⟩ n c (ints ((List.range n).map g)) rfl (unhide HNL) (unhide HNEWS) (ints_one _) (unhide H63) (unhide HBY1) (unhide HBS1) ?_; intro v1 w1 own2 grow1 hnil1; have PREP := hide (text_prep (k := (k : Int)) own2 grow1); clear own2 grow1 hnil1)
              | (at_builtin; refine wpList_append_lies _ rfl _ _ _ rfl wr.heap.size 3 ti (.int .i64 0) 1 8 Tryd.underlying22 (unhide HI) (unhide HZ) hz1 hz2 rfl (by decide) _ n (ints ((List.range n).map g)) rfl (unhide PREP).1 ⟨w1.heap.size, 0, none⟩ 1 1 (ints [(k : Int)]) rfl rfl (new_one w1 _ _) (ints_one _) (by decide) (unhide HB63) (unhide HB8) (unhide PREP).2.2 (w1.heap.size + 1) (alloc_size _ _) ?_; intro g2 cap2 w3 own3 grow2 hat2 hlt2; have MADE := hide (text_made (unhide PREP).1 (unhide PREP).2.1 grow2 own3); have hcp : cap2 ≠ 1 := (by have := (unhide MADE).1.1; have := unhide HNM; omega); clear own3 grow2 hat2 hlt2 PREP))
            refine (stands_any _ _ _ _ _ _ _ _ w3 (by have := (unhide MADE).1.suffix 1 (by have := unhide HNM; omega); rw [Nat.zero_add, Nat.add_sub_cancel] at this; exact this) ((unhide HA).below (below_step (below_step (unhide HB) (unhide HBLK)) (unhide MADE).2))).mono ?_
            rintro e w4 ⟨x, rfl, htop, kk, hw4⟩
            have hsa : StandsAt g M n (xs.length : Int) (x : Int) := by have e := unhide HNM; subst e; rw [unhide HXS]; exact standsAt_whole htop
            have b4 : Below wr.heap.size wr w4 := below_step (unhide MADE).2 (by rw [hw4]; exact below_drewN _ _)
            have O4 : (w4.alloc (.cells #[.int .i64 (x : Int)] 3)).ownsRow W0.heap.size 3 1 u7 xs.length (ints xs) := owns_below (owns_below (unhide HOWN) b4) (alloc_below _ _)
            have q63 : xs.length + 1 ≤ maxLen := by have := unhide HXS; unfold maxLen; omega
            have q8 : (xs.length + 1) * 8 ≤ 140737488355328 := by have := unhide HXS; omega
            have qb : W0.heap.size ≤ (w4.alloc (.cells #[.int .i64 (x : Int)] 3)).heap.size := (below_step (below_step (unhide HBLK) b4) (alloc_below _ _)).size
            have HO4 := hide O4
            have Q63 := hide q63
            have Q8 := hide q8
            have QB := hide qb
            have HB4 := hide b4
            have HSA := hide hsa
            clear O4 q63 q8 qb b4 hsa htop hw4 MADE
            go_wp2_with (at_builtin; go_loud (refine wpList_append_lies _ rfl _ _ _ rfl W0.heap.size 3 ti (.int .i64 0) 1 8 Tryd.underlying22 (unhide HI) (unhide HZ) hz1 hz2 rfl (by decide) _ xs.length (ints xs) rfl (unhide HO4) ⟨w4.heap.size, 0, none⟩ 1 1 (ints [(x : Int)]) rfl rfl (new_one w4 _ _) (ints_one _) (by decide) (unhide Q63) (unhide Q8) (unhide QB) (w4.heap.size + 1) (alloc_size _ _) ?_; intro g5 cap5 w5 own5 grow5 hat5 hlt5; have PUSH := hide (row_pushed (unhide HBLK) (unhide HB4) (unhide HOWN) grow5 own5); clear own5 grow5 hat5 hlt5))
            exact ⟨⟨k + 1, xs ++ [(x : Int)], by go_num, hkl, by rw [List.length_append, unhide HXS]; rfl, (unhide PUSH).1, (unhide PUSH).2, by have := stands_pushed (by rw [unhide HXS]; exact unhide HSK) (unhide HSA); rw [unhide HXS] at this; exact this⟩, by simp [intOf]; omega⟩
          · have hnM' : ((n : Int) == (M : Int)) = false := by rw [beq_eq_false_iff_ne]; omega
            go_wp2_with (first
              | (at_builtin; refine wpList_append_own _ rfl _ _ _ rfl wr.heap.size 3 ti (.int .i64 0) 1 8 Tryd.underlying22 (unhide HI) (unhide HZ) hz1 hz2 rfl (by decide) _ 0 [] rfl (unhide HOWN1) ⟨b, o, none⟩ n c (ints ((List.range n).map g)) rfl (unhide HNL) (unhide HNEWS) (ints_one _) (unhide H63) (unhide HBY1) (unhide HBS1) ?_; intro v1 w1 own2 grow1 hnil1; have PREP := hide (text_prep (k := (k : Int)) own2 grow1); clear own2 grow1 hnil1)
              | (at_builtin; refine wpList_append_lies _ rfl _ _ _ rfl wr.heap.size 3 ti (.int .i64 0) 1 8 Tryd.underlying22 (unhide HI) (unhide HZ) hz1 hz2 rfl (by decide) _ n (ints ((List.range n).map g)) rfl (unhide PREP).1 ⟨w1.heap.size, 0, none⟩ 1 1 (ints [(k : Int)]) rfl rfl (new_one w1 _ _) (ints_one _) (by decide) (unhide HB63) (unhide HB8) (unhide PREP).2.2 (w1.heap.size + 1) (alloc_size _ _) ?_; intro g2 cap2 w3 own3 grow2 hat2 hlt2; have MADE := hide (text_made (unhide PREP).1 (unhide PREP).2.1 grow2 own3); clear own3 grow2 hat2 hlt2 PREP))
            refine (stands_any _ _ _ _ _ _ _ _ w3 ((unhide MADE).1) ((unhide HA).below (below_step (below_step (unhide HB) (unhide HBLK)) (unhide MADE).2))).mono ?_
            rintro e w4 ⟨x, rfl, htop, kk, hw4⟩
            have hsa : StandsAt g M n (xs.length : Int) (x : Int) := by rw [unhide HXS]; exact standsAt_short (by omega) htop
            have b4 : Below wr.heap.size wr w4 := below_step (unhide MADE).2 (by rw [hw4]; exact below_drewN _ _)
            have O4 : (w4.alloc (.cells #[.int .i64 (x : Int)] 3)).ownsRow W0.heap.size 3 1 u7 xs.length (ints xs) := owns_below (owns_below (unhide HOWN) b4) (alloc_below _ _)
            have q63 : xs.length + 1 ≤ maxLen := by have := unhide HXS; unfold maxLen; omega
            have q8 : (xs.length + 1) * 8 ≤ 140737488355328 := by have := unhide HXS; omega
            have qb : W0.heap.size ≤ (w4.alloc (.cells #[.int .i64 (x : Int)] 3)).heap.size := (below_step (below_step (unhide HBLK) b4) (alloc_below _ _)).size
            have HO4 := hide O4
            have Q63 := hide q63
            have Q8 := hide q8
            have QB := hide qb
            have HB4 := hide b4
            have HSA := hide hsa
            clear O4 q63 q8 qb b4 hsa htop hw4 MADE
            go_wp2_with (at_builtin; go_loud (refine wpList_append_lies _ rfl _ _ _ rfl W0.heap.size 3 ti (.int .i64 0) 1 8 Tryd.underlying22 (unhide HI) (unhide HZ) hz1 hz2 rfl (by decide) _ xs.length (ints xs) rfl (unhide HO4) ⟨w4.heap.size, 0, none⟩ 1 1 (ints [(x : Int)]) rfl rfl (new_one w4 _ _) (ints_one _) (by decide) (unhide Q63) (unhide Q8) (unhide QB) (w4.heap.size + 1) (alloc_size _ _) ?_; intro g5 cap5 w5 own5 grow5 hat5 hlt5; have PUSH := hide (row_pushed (unhide HBLK) (unhide HB4) (unhide HOWN) grow5 own5); clear own5 grow5 hat5 hlt5))
            exact ⟨⟨k + 1, xs ++ [(x : Int)], by go_num, hkl, by rw [List.length_append, unhide HXS]; rfl, (unhide PUSH).1, (unhide PUSH).2, by have := stands_pushed (by rw [unhide HXS]; exact unhide HSK) (unhide HSA); rw [unhide HXS] at this; exact this⟩, by simp [intOf]; omega⟩
        · obtain rfl : k = Lt := by omega
          have hkl' : ¬ (k : Int) < (k : Int) := by omega
          have hB0 : Below w.heap.size w wr := below_step (unhide HB) blk
          obtain ⟨a7, c7, e7, -, -⟩ := irow_of_owns hown
          subst e7
          have T1 := ((unhide HT).below blk).below (alloc_below wr (.cells #[.slice a7 xs.length c7] 22))
          have q63 : ys.length + 1 ≤ maxLen := by have := unhide HYS; unfold maxLen; omega
          have q24 : (ys.length + 1) * 24 ≤ 140737488355328 := by have := unhide HYS; omega
          have hb1 : Below w.heap.size w (wr.alloc (.cells #[.slice a7 xs.length c7] 22)) := below_step hB0 (alloc_below _ _)
          have hy : (wr.alloc (.cells #[.slice a7 xs.length c7] 22)).ownsRow w.heap.size 3 1 (.slice a7 xs.length c7) xs.length (ints xs) := owns_below (owns_base hown (unhide HB).size) (alloc_below _ _)
          have one7 : (Value.slice a7 xs.length c7).oneCell' = true := rfl
          have HTOP := hide T1.top
          have HT1 := hide T1
          have Q63 := hide q63
          have Q24 := hide q24
          have HB1 := hide hb1
          have HY := hide hy
          have HSK := hide hsk
          have HXS := hide hxs
          have ONE7 := hide one7
          clear T1 q63 q24 hb1 hy hsk hxs hown blk hB0 HT one7
          go_wp2_with (at_builtin; go_loud (refine wpList_append_lies _ rfl _ _ _ rfl w.heap.size 22 si (.slice none 0 0) 1 24 Tryd.underlying24 (unhide HSI) (unhide HSZ) sz1 sz2 rfl (by decide) u5 ys.length (ys.map (·.1)) rfl (unhide HTOP) ⟨wr.heap.size, 0, none⟩ 1 1 [.slice a7 xs.length c7] rfl rfl (new_val wr _ _) (one_val (unhide ONE7)) (by decide) (unhide Q63) (unhide Q24) (unhide HB1).size (wr.heap.size + 1) (alloc_size _ _) ?_; intro g5 cap5 w5 own5 grow5 hat5 hlt5; have PUSH := hide ((unhide HT1).push (unhide HY) (unhide HXS) own5 grow5); have BEL := hide ((unhide HB1).grown grow5 (unhide HB1).size (fun k hk => ((unhide HT1).top.lt k hk).1)); clear own5 grow5 hat5 hlt5))
          exact ⟨⟨n + 1, _, by go_num, by omega, by rw [List.length_append, unhide HYS]; rfl, unhide PUSH, unhide BEL, rows_pushed (unhide HYS) (unhide HST) (unhide HSK)⟩, by simp [intOf]; omega⟩
    · obtain rfl : n = M + 1 := by omega
      have hl' : ¬ ((M + 1 : Nat) : Int) ≤ (M : Int) := by omega
      go_wp2_with fail
      exact bodyPost_ret (v := u5) (by simp [results, Tryd.results6, go_sem]) rfl ⟨_, rfl, _, by have := (unhide HT).rows; rw [unhide HYS] at this; exact this, fun n k hn hk => unhide HST n k (by omega) hk, unhide HB⟩
end Go.Proofs.YtgcpdgcacdofcaaDoor
