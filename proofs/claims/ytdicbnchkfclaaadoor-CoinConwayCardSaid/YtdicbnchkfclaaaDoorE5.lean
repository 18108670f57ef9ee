/- coin.First. -/
import Derived.Test.YtdicbnchkfclaaaDoorE4
namespace Go.Proofs.YtdicbnchkfclaaaDoor
open Go.RowKit Go.Sort Go.Shelf

/-- How much further a word leads itself than another one. -/
def dl (v w : Nat → Int) (p : Nat → Rat) (B A : Nat) : Rat := Kmp.lead v v p B (min B B) - Kmp.lead v w p B (min B A)

theorem word_of {qs : List Rat} {M : Nat} {g : Nat → Int} (hck : chk qs = 0) (hg : GoodW qs M g) : Kmp.Word g (pOf qs) qs.length M := by
  unfold chk at hck
  split at hck
  · exact absurd hck (by decide)
  · split at hck
    · exact absurd hck (by decide)
    · rename_i hneg
      split at hck
      · rename_i hs
        have ge : ∀ l, l < qs.length → 0 ≤ (qs[l]!).num := fun l hl => by
          rcases Int.lt_or_le (qs[l]!).num 0 with h | h
          · exact absurd ⟨l, hl, h⟩ hneg
          · exact h
        refine ⟨?_, fun l hl => Rat.num_nonneg.1 (ge l hl), fun i hi => (hg.2 i hi).1, fun i hi => by have := hg.2 i hi; omega, fun i hi => ?_⟩
        · rw [← hs]
          have : ∀ n, Kmp.rsum (pOf qs) n = qsum qs n := fun n => by
            induction n with
            | zero => rfl
            | succ n ih => show Kmp.rsum (pOf qs) n + _ = qsum qs n + _; rw [ih]; rfl
          exact this _
        · obtain ⟨h1, h2, h3⟩ := hg.2 i hi
          have h4 := ge (g i).toNat (by omega)
          have h5 : 0 < (qs[(g i).toNat]!).num := by omega
          show 0 < qs[(g i).toNat]!
          rw [Rat.lt_iff]
          show 0 * ((qs[(g i).toNat]!).den : Int) < (qs[(g i).toNat]!).num * ((1 : Nat) : Int)
          omega
      · exact absurd hck (by decide)

theorem dl_pos {qs : List Rat} {M N : Nat} {g f : Nat → Int} (hck : chk qs = 0) (hg : GoodW qs M g) (hno : ¬ StIn M N g f) : 0 < dl g f (pOf qs) M N := by
  have h := Kmp.lead_lt (v := g) (w := f) (A := N) (word_of hck hg) hg.1.1 (fun hMN hov => hno ⟨0, by omega, fun i hi => by
    have := hov i hi
    rw [Nat.sub_self, Nat.zero_add] at this
    rw [Nat.zero_add]
    exact this.symm⟩)
  unfold dl
  rw [Nat.min_self]
  grind

theorem dl_RS {g f : Nat → Int} {qs : List Rat} {M N : Nat} (hq : ∀ j, j < qs.length → RS qs[j]! 1) (hg : GoodW qs M g) (hf : GoodW qs N f) : RS (dl g f (pOf qs) M N) 400 := by
  have h1 := lead_RS (g := g) (M := M) hq hg (min M M) (by omega)
  have h2 := lead_RS (g := g) (M := M) hq hf (min M N) (by omega)
  have := hg.1.2
  have := hf.1.2
  exact (RS.sub' h1 h2).mono (by omega)

theorem num_of_pos {q : Rat} (h : 0 < q) : q.num ≠ 0 := fun e => by
  rw [Rat.lt_iff] at h
  have : (0 : Int) * (q.den : Int) < q.num * ((1 : Nat) : Int) := h
  omega

set_option maxHeartbeats 8000000 in
set_option maxRecDepth 100000 in
set_option linter.unusedSimpArgs false in
theorem first_err (v : Value) (qs : List Rat) (a a' : Option Addr) (M c N c' : Nat) (g f : Nat → Int) (w : World) (hL : LawIs w v qs) (ha : IRow w a M c g) (hb' : IRow w a' N c' f) (hq : ∀ j, j < qs.length → RS qs[j]! 1) (hl : qs.length ≤ 10) (hno : ¬ (chk qs = 0 ∧ GoodW qs M g ∧ GoodW qs N f)) :
    Calls Tryd.prog 32 #[v, .slice a M c, .slice a' N c'] w fun e w' => ∃ k, e = .returned (.tuple #[zAgg, .iface 68 (.int .i64 k)]) ∧ Below w.heap.size w w' := by
  obtain ⟨hb0, hx0, _, _⟩ := wordsBox_parts w #[.slice a M c, .slice a' N c']
  have HC := hide (ck2 v qs a a' M c N c' g f w hL ha hb' hq hl)
  have HB_0 := hide hb0
  have HX_b6_0 := hide hx0
  have HLAW := hide hL
  have HQ := hide hq
  have hWE : (w.alloc (.cells #[.bool false, .slice none 0 0, .slice none 0 0] 36)).alloc (.cells #[.slice a M c, .slice a' N c'] 60) = wordsBox w #[.slice a M c, .slice a' N c'] := rfl
  obtain ⟨W0, hW0⟩ : ∃ W, wordsBox w #[.slice a M c, .slice a' N c'] = W := ⟨_, rfl⟩
  rw [hW0] at HC HB_0 HX_b6_0 hWE
  have HWE := hide hWE
  clear hWE hW0 hb0 hx0 hL hq
  go_enter Tryd.func32, Tryd.ntmps32
  go_wp2_with fail
  rw [unhide HWE]
  clear HWE
  obtain ⟨b6, hb6⟩ : ∃ b, w.heap.size = b := ⟨_, rfl⟩
  have HG_b6 : Hid (w.heap.size ≤ b6) := by rw [hb6]; exact Nat.le_refl _
  rw [hb6] at HX_b6_0 HC ⊢
  clear hb6
  refine (unhide HC).mono ?_
  rintro e w_1 ⟨k, rfl, hk, hbx⟩
  clear HC
  have HX_b6_1 := hide ((unhide HX_b6_0).keep hbx)
  have hk0 : k ≠ 0 := fun h => hno (hk.1 h)
  rw [show errV k = .iface 68 (.int .i64 k) from if_neg hk0]
  have ⟨l0, l1, l2⟩ := (unhide HX_b6_1).free
  have ⟨y0, y1, y2⟩ := (unhide HX_b6_1).cells _ (Below.refl _ _)
  have FIN := hide ((unhide HX_b6_1).set (t' := zTri) (q' := 0) (rat_zero _))
  have FB := hide ((((below_step (unhide HB_0) hbx).setCell (p := ⟨b6, 0, none⟩) (unhide HG_b6) (.bool zTri.s)).setCell (p := ⟨b6, 1, none⟩) (unhide HG_b6) (.slice zTri.a1 zTri.n1 zTri.c1)).setCell (p := ⟨b6, 2, none⟩) (unhide HG_b6) (.slice zTri.a2 zTri.n2 zTri.c2))
  simp only [zTri] at FIN FB y0 y1 y2
  have ⟨x0, x1, x2⟩ := (unhide FIN).cells _ (Below.refl _ _)
  (try dsimp only at x0 x1 x2)
  clear hk hbx HX_b6_0 HX_b6_1 HB_0 HLAW HQ FIN
  go_wp2
  exact bodyPost_ret (v := .tuple #[zAgg, .iface 68 (.int .i64 k)]) (by simp [results, Tryd.results32, go_sem, x0, x1, x2, zAgg]) rfl ⟨k, rfl, unhide FB⟩

set_option maxHeartbeats 8000000 in
set_option maxRecDepth 100000 in
set_option linter.unusedSimpArgs false in
theorem first_stands (v : Value) (qs : List Rat) (a a' : Option Addr) (M c N c' : Nat) (g f : Nat → Int) (w : World) (hL : LawIs w v qs) (ha : IRow w a M c g) (hb' : IRow w a' N c' f) (hq : ∀ j, j < qs.length → RS qs[j]! 1) (hl : qs.length ≤ 10) (hck : chk qs = 0) (hg : GoodW qs M g) (hf : GoodW qs N f) (hst : StIn M N g f ∨ StIn N M f g) :
    Calls Tryd.prog 32 #[v, .slice a M c, .slice a' N c'] w fun e w' => ∃ k, e = .returned (.tuple #[zAgg, .iface 68 (.int .i64 k)]) ∧ Below w.heap.size w w' := by
  have HR1 := hide ha
  have HR2 := hide hb'
  have HST1 : Hid (∀ W, Below w.heap.size w W → Calls Tryd.prog 63 #[.slice a M c, .slice a' N c'] W fun e w' => ∃ r : Bool, e = .returned (.bool r) ∧ (r = true ↔ StIn M N g f) ∧ Below W.heap.size W w') := fun W hW => standsIn_any a a' M c N c' g f W (ha.below hW) (hb'.below hW) hg.1.1 hg.1.2 hf.1.1 hf.1.2
  have HST2 : Hid (∀ W, Below w.heap.size w W → Calls Tryd.prog 63 #[.slice a' N c', .slice a M c] W fun e w' => ∃ r : Bool, e = .returned (.bool r) ∧ (r = true ↔ StIn N M f g) ∧ Below W.heap.size W w') := fun W hW => standsIn_any a' a N c' M c f g W (hb'.below hW) (ha.below hW) hf.1.1 hf.1.2 hg.1.1 hg.1.2
  obtain ⟨hb0, hx0, _, _⟩ := wordsBox_parts w #[.slice a M c, .slice a' N c']
  have HC := hide (ck2 v qs a a' M c N c' g f w hL ha hb' hq hl)
  have HB_0 := hide hb0
  have HX_b6_0 := hide hx0
  have HLAW := hide hL
  have HQ := hide hq
  have hWE : (w.alloc (.cells #[.bool false, .slice none 0 0, .slice none 0 0] 36)).alloc (.cells #[.slice a M c, .slice a' N c'] 60) = wordsBox w #[.slice a M c, .slice a' N c'] := rfl
  obtain ⟨W0, hW0⟩ : ∃ W, wordsBox w #[.slice a M c, .slice a' N c'] = W := ⟨_, rfl⟩
  rw [hW0] at HC HB_0 HX_b6_0 hWE
  have HWE := hide hWE
  clear hWE hW0 hb0 hx0 hL hq
  go_enter Tryd.func32, Tryd.ntmps32
  go_wp2_with fail
  rw [unhide HWE]
  clear HWE
  obtain ⟨b6, hb6⟩ : ∃ b, w.heap.size = b := ⟨_, rfl⟩
  have HG_b6 : Hid (w.heap.size ≤ b6) := by rw [hb6]; exact Nat.le_refl _
  rw [hb6] at HX_b6_0 HC ⊢
  clear hb6
  refine (unhide HC).mono ?_
  rintro e w_1 ⟨k, rfl, hk, hbx⟩
  clear HC
  obtain rfl : k = 0 := hk.2 ⟨hck, hg, hf⟩
  simp only [show errV 0 = Value.nilIface from rfl]
  have HX_b6_1 := hide ((unhide HX_b6_0).keep hbx)
  have HB_1 := hide (below_step (unhide HB_0) hbx)
  clear hk hbx HX_b6_0 HB_0 ha hb'
  go_wp2_with fail
  refine (unhide HST1 _ (unhide HB_1)).mono ?_
  rintro e w_11 ⟨r, rfl, hr, hbx⟩
  have HB_12 := hide (below_step (unhide HB_1) hbx)
  have HX_b6_12 := hide ((unhide HX_b6_1).keep hbx)
  clear HB_1 HX_b6_1
  clear hbx
  cases r with
  | true =>
    clear hr hst
    have ⟨l0, l1, l2⟩ := (unhide HX_b6_12).free
    have ⟨y0, y1, y2⟩ := (unhide HX_b6_12).cells _ (Below.refl _ _)
    have FIN := hide ((unhide HX_b6_12).set (t' := zTri) (q' := 0) (rat_zero _))
    have FB := hide ((((unhide HB_12).setCell (p := ⟨b6, 0, none⟩) (unhide HG_b6) (.bool zTri.s)).setCell (p := ⟨b6, 1, none⟩) (unhide HG_b6) (.slice zTri.a1 zTri.n1 zTri.c1)).setCell (p := ⟨b6, 2, none⟩) (unhide HG_b6) (.slice zTri.a2 zTri.n2 zTri.c2))
    simp only [zTri] at FIN FB y0 y1 y2
    have ⟨x0, x1, x2⟩ := (unhide FIN).cells _ (Below.refl _ _)
    (try dsimp only at x0 x1 x2)
    clear FIN
    go_wp2
    exact bodyPost_ret (v := .tuple #[zAgg, .iface 68 (.int .i64 1)]) (by simp [results, Tryd.results32, go_sem, x0, x1, x2, zAgg]) rfl ⟨1, rfl, unhide FB⟩
  | false =>
    have hs2 : StIn N M f g := hst.resolve_left (fun h => absurd (hr.2 h) (by decide))
    clear hr hst
    go_wp2_with fail
    refine (unhide HST2 _ (unhide HB_12)).mono ?_
    rintro e w_31 ⟨r, rfl, hr, hbx⟩
    have HB_32 := hide (below_step (unhide HB_12) hbx)
    have HX_b6_32 := hide ((unhide HX_b6_12).keep hbx)
    clear HB_12 HX_b6_12
    clear hbx
    obtain rfl : r = true := hr.2 hs2
    clear hr hs2
    have ⟨l0, l1, l2⟩ := (unhide HX_b6_32).free
    have ⟨y0, y1, y2⟩ := (unhide HX_b6_32).cells _ (Below.refl _ _)
    have FIN := hide ((unhide HX_b6_32).set (t' := zTri) (q' := 0) (rat_zero _))
    have FB := hide ((((unhide HB_32).setCell (p := ⟨b6, 0, none⟩) (unhide HG_b6) (.bool zTri.s)).setCell (p := ⟨b6, 1, none⟩) (unhide HG_b6) (.slice zTri.a1 zTri.n1 zTri.c1)).setCell (p := ⟨b6, 2, none⟩) (unhide HG_b6) (.slice zTri.a2 zTri.n2 zTri.c2))
    simp only [zTri] at FIN FB y0 y1 y2
    have ⟨x0, x1, x2⟩ := (unhide FIN).cells _ (Below.refl _ _)
    (try dsimp only at x0 x1 x2)
    clear FIN
    go_wp2
    exact bodyPost_ret (v := .tuple #[zAgg, .iface 68 (.int .i64 1)]) (by simp [results, Tryd.results32, go_sem, x0, x1, x2, zAgg]) rfl ⟨1, rfl, unhide FB⟩

set_option maxHeartbeats 8000000 in
set_option maxRecDepth 100000 in
set_option linter.unusedSimpArgs false in
theorem first_ok (v : Value) (qs : List Rat) (a a' : Option Addr) (M c N c' : Nat) (g f : Nat → Int) (w : World) (hL : LawIs w v qs) (ha : IRow w a M c g) (hb' : IRow w a' N c' f) (hq : ∀ j, j < qs.length → RS qs[j]! 1) (hl : qs.length ≤ 10) (hck : chk qs = 0) (hg : GoodW qs M g) (hf : GoodW qs N f) (hn1 : ¬ StIn M N g f) (hn2 : ¬ StIn N M f g) :
    Calls Tryd.prog 32 #[v, .slice a M c, .slice a' N c'] w fun e w' => ∃ v, e = .returned (.tuple #[v, .nilIface]) ∧ RatIs w' v (dl f g (pOf qs) N M / (dl f g (pOf qs) N M + dl g f (pOf qs) M N)) ∧ Below w.heap.size w w' := by
  have HR1 := hide ha
  have HR2 := hide hb'
  have HST1 : Hid (∀ W, Below w.heap.size w W → Calls Tryd.prog 63 #[.slice a M c, .slice a' N c'] W fun e w' => ∃ r : Bool, e = .returned (.bool r) ∧ (r = true ↔ StIn M N g f) ∧ Below W.heap.size W w') := fun W hW => standsIn_any a a' M c N c' g f W (ha.below hW) (hb'.below hW) hg.1.1 hg.1.2 hf.1.1 hf.1.2
  have HST2 : Hid (∀ W, Below w.heap.size w W → Calls Tryd.prog 63 #[.slice a' N c', .slice a M c] W fun e w' => ∃ r : Bool, e = .returned (.bool r) ∧ (r = true ↔ StIn N M f g) ∧ Below W.heap.size W w') := fun W hW => standsIn_any a' a N c' M c f g W (hb'.below hW) (ha.below hW) hf.1.1 hf.1.2 hg.1.1 hg.1.2
  have HL22 : Hid (∀ W, Below w.heap.size w W → Calls Tryd.prog 60 #[v, .slice a' N c', .slice a' N c'] W fun e w' => ∃ v, e = .returned v ∧ RatIs w' v (Kmp.lead f f (pOf qs) N (min N N)) ∧ Below W.heap.size W w') := fun W hW => lead_any v qs a' a' N c' N c' f f W (hL.below hW) ((unhide HR2).below hW) ((unhide HR2).below hW) hq hf hf
  have HL21 : Hid (∀ W, Below w.heap.size w W → Calls Tryd.prog 60 #[v, .slice a' N c', .slice a M c] W fun e w' => ∃ v, e = .returned v ∧ RatIs w' v (Kmp.lead f g (pOf qs) N (min N M)) ∧ Below W.heap.size W w') := fun W hW => lead_any v qs a' a N c' M c f g W (hL.below hW) ((unhide HR2).below hW) ((unhide HR1).below hW) hq hf hg
  have HL11 : Hid (∀ W, Below w.heap.size w W → Calls Tryd.prog 60 #[v, .slice a M c, .slice a M c] W fun e w' => ∃ v, e = .returned v ∧ RatIs w' v (Kmp.lead g g (pOf qs) M (min M M)) ∧ Below W.heap.size W w') := fun W hW => lead_any v qs a a M c M c g g W (hL.below hW) ((unhide HR1).below hW) ((unhide HR1).below hW) hq hg hg
  have HL12 : Hid (∀ W, Below w.heap.size w W → Calls Tryd.prog 60 #[v, .slice a M c, .slice a' N c'] W fun e w' => ∃ v, e = .returned v ∧ RatIs w' v (Kmp.lead g f (pOf qs) M (min M N)) ∧ Below W.heap.size W w') := fun W hW => lead_any v qs a a' M c N c' g f W (hL.below hW) ((unhide HR1).below hW) ((unhide HR2).below hW) hq hg hf
  have KKe : KK = 1099511627776 := rfl
  have RL22 := hide ((lead_RS (g := f) (M := N) hq hf (min N N) (by omega)).mono (show min N N * 16 + 1 ≤ 2000 by have := hf.1.2; omega))
  have RL21 := hide ((lead_RS (g := f) (M := N) hq hg (min N M) (by omega)).mono (show min N M * 16 + 1 ≤ 2000 by have := hf.1.2; omega))
  have RL11 := hide ((lead_RS (g := g) (M := M) hq hg (min M M) (by omega)).mono (show min M M * 16 + 1 ≤ 2000 by have := hg.1.2; omega))
  have RL12 := hide ((lead_RS (g := g) (M := M) hq hf (min M N) (by omega)).mono (show min M N * 16 + 1 ≤ 2000 by have := hg.1.2; omega))
  have RD1 := hide ((dl_RS hq hf hg).mono (show 400 ≤ 2000 by omega))
  have RD2 := hide ((dl_RS hq hg hf).mono (show 400 ≤ 2000 by omega))
  have RD3 := hide ((RS.add (dl_RS hq hf hg) (dl_RS hq hg hf)).mono (show 400 + 400 + 1 ≤ 2000 by omega))
  have HNZ : Hid ((dl f g (pOf qs) N M + dl g f (pOf qs) M N).num ≠ 0) := num_of_pos (by have h1 := dl_pos hck hf hn2; have h2 := dl_pos hck hg hn1; grind)
  have HSUB : Hid (∀ W v v' q q', RatIs W v q → RatIs W v' q' → RS q 2000 → RS q' 2000 → Calls Tryd.prog 12 #[v, v'] W fun e w' => ∃ v, e = .returned v ∧ RatIs w' v (q - q') ∧ Below W.heap.size W w') := fun W v v' q q' h h' r r' => subR_any v v' q q' W h h' 2000 r r' (by rw [KKe]; omega)
  have HADD : Hid (∀ W v v' q q', RatIs W v q → RatIs W v' q' → RS q 2000 → RS q' 2000 → Calls Tryd.prog 15 #[v, v'] W fun e w' => ∃ v, e = .returned v ∧ RatIs w' v (q + q') ∧ Below W.heap.size W w') := fun W v v' q q' h h' r r' => addR_any v v' q q' W h h' 2000 r r' (by rw [KKe]; omega)
  have HDIV : Hid (∀ W v v' q q', RatIs W v q → RatIs W v' q' → RS q 2000 → RS q' 2000 → q'.num ≠ 0 → Calls Tryd.prog 64 #[v, v'] W fun e w' => ∃ v, e = .returned (.tuple #[v, .nilIface]) ∧ RatIs w' v (q / q') ∧ Below W.heap.size W w') := fun W v v' q q' h h' r r' z => divR_any v v' q q' W h h' 2000 r r' (by rw [KKe]; omega) z
  obtain ⟨hb0, hx0, _, _⟩ := wordsBox_parts w #[.slice a M c, .slice a' N c']
  have HC := hide (ck2 v qs a a' M c N c' g f w hL ha hb' hq hl)
  have HB_0 := hide hb0
  have HX_b6_0 := hide hx0
  have HLAW := hide hL
  have HQ := hide hq
  have hWE : (w.alloc (.cells #[.bool false, .slice none 0 0, .slice none 0 0] 36)).alloc (.cells #[.slice a M c, .slice a' N c'] 60) = wordsBox w #[.slice a M c, .slice a' N c'] := rfl
  obtain ⟨W0, hW0⟩ : ∃ W, wordsBox w #[.slice a M c, .slice a' N c'] = W := ⟨_, rfl⟩
  rw [hW0] at HC HB_0 HX_b6_0 hWE
  have HWE := hide hWE
  clear hWE hW0 hb0 hx0 hL hq
  go_enter Tryd.func32, Tryd.ntmps32
  go_wp2_with fail
  rw [unhide HWE]
  clear HWE
  obtain ⟨b6, hb6⟩ : ∃ b, w.heap.size = b := ⟨_, rfl⟩
  have HG_b6 : Hid (w.heap.size ≤ b6) := by rw [hb6]; exact Nat.le_refl _
  rw [hb6] at HX_b6_0 HC ⊢
  clear hb6
  refine (unhide HC).mono ?_
  rintro e w_1 ⟨k, rfl, hk, hbx⟩
  clear HC
  obtain rfl : k = 0 := hk.2 ⟨hck, hg, hf⟩
  simp only [show errV 0 = Value.nilIface from rfl]
  have HX_b6_1 := hide ((unhide HX_b6_0).keep hbx)
  have HB_1 := hide (below_step (unhide HB_0) hbx)
  clear hk hbx HX_b6_0 HB_0 ha hb'
  go_wp2_with fail
  refine (unhide HST1 _ (unhide HB_1)).mono ?_
  rintro e w_11 ⟨r, rfl, hr, hbx⟩
  have HB_12 := hide (below_step (unhide HB_1) hbx)
  have HX_b6_12 := hide ((unhide HX_b6_1).keep hbx)
  clear HB_1 HX_b6_1
  clear hbx
  obtain rfl : r = false := by
    cases r with
    | true => exact absurd (hr.1 rfl) hn1
    | false => rfl
  clear hr
  go_wp2_with fail
  refine (unhide HST2 _ (unhide HB_12)).mono ?_
  rintro e w_13 ⟨r, rfl, hr, hbx⟩
  have HB_14 := hide (below_step (unhide HB_12) hbx)
  have HX_b6_14 := hide ((unhide HX_b6_12).keep hbx)
  clear HB_12 HX_b6_12
  clear hbx
  obtain rfl : r = false := by
    cases r with
    | true => exact absurd (hr.1 rfl) hn2
    | false => rfl
  clear hr hn1 hn2 HST1 HST2
  go_wp2_with fail
  refine (unhide HL22 _ (unhide HB_14)).mono ?_
  rintro e w_15 ⟨v1, rfl, hv1, hbx⟩
  have HB_16 := hide (below_step (unhide HB_14) hbx)
  have HX_b6_16 := hide ((unhide HX_b6_14).keep hbx)
  clear HB_14 HX_b6_14
  clear hbx
  have Hv1_0 := hide hv1
  clear hv1
  go_wp2_with fail
  refine (unhide HL21 _ (unhide HB_16)).mono ?_
  rintro e w_17 ⟨v2, rfl, hv2, hbx⟩
  have HB_18 := hide (below_step (unhide HB_16) hbx)
  have HX_b6_18 := hide ((unhide HX_b6_16).keep hbx)
  have Hv1_18 := hide ((unhide Hv1_0).below hbx)
  clear HB_16 HX_b6_16 Hv1_0
  clear hbx
  have Hv2_0 := hide hv2
  clear hv2
  go_wp2_with fail
  refine (unhide HSUB _ _ _ _ _ (unhide Hv1_18) (unhide Hv2_0) (unhide RL22) (unhide RL21)).mono ?_
  rintro e w_19 ⟨v9, rfl, hv9, hbx⟩
  obtain ⟨t9, rfl, hr_19⟩ := tri_of hv9
  simp only [Tri.val]
  have HL_b6_b9 := hide (Nat.lt_of_lt_of_le (unhide HX_b6_18).lt hbx.size)
  have HG_b9 := hide (below_step (unhide HB_18) hbx).size
  have hb_19 := below_step hbx (alloc_below w_19 (.cells #[.bool t9.s, .slice t9.a1 t9.n1 t9.c1, .slice t9.a2 t9.n2 t9.c2] 36))
  have HB_20 := hide (below_step (unhide HB_18) hb_19)
  have HX_b6_20 := hide ((unhide HX_b6_18).keep hb_19)
  have Hv1_20 := hide ((unhide Hv1_18).below hb_19)
  have Hv2_20 := hide ((unhide Hv2_0).below hb_19)
  clear HB_18 HX_b6_18 Hv1_18 Hv2_0
  have HX_b9_19 := hide (BoxIs.new hr_19)
  obtain ⟨Wb9, hW_19⟩ : ∃ W, w_19.alloc (.cells #[.bool t9.s, .slice t9.a1 t9.n1 t9.c1, .slice t9.a2 t9.n2 t9.c2] 36) = W := ⟨_, rfl⟩
  obtain ⟨b9, hc_19⟩ : ∃ b, w_19.heap.size = b := ⟨_, rfl⟩
  rw [hW_19] at HB_20 HX_b6_20 Hv1_20 Hv2_20 HX_b9_19
  rw [hc_19] at HX_b9_19 HL_b6_b9 HG_b9
  clear hv9 hr_19 hbx hb_19
  go_wp2_with fail
  clear hW_19 hc_19
  refine (unhide HL11 _ (unhide HB_20)).mono ?_
  rintro e w_21 ⟨v3, rfl, hv3, hbx⟩
  have HB_22 := hide (below_step (unhide HB_20) hbx)
  have HX_b6_22 := hide ((unhide HX_b6_20).keep hbx)
  have HX_b9_22 := hide ((unhide HX_b9_19).keep hbx)
  clear HB_20 HX_b6_20 HX_b9_19
  clear hbx
  have Hv3_0 := hide hv3
  clear hv3
  go_wp2_with fail
  refine (unhide HL12 _ (unhide HB_22)).mono ?_
  rintro e w_23 ⟨v4, rfl, hv4, hbx⟩
  have HB_24 := hide (below_step (unhide HB_22) hbx)
  have HX_b6_24 := hide ((unhide HX_b6_22).keep hbx)
  have HX_b9_24 := hide ((unhide HX_b9_22).keep hbx)
  have Hv3_24 := hide ((unhide Hv3_0).below hbx)
  clear HB_22 HX_b6_22 HX_b9_22 Hv3_0
  clear hbx
  have Hv4_0 := hide hv4
  clear hv4
  go_wp2_with fail
  refine (unhide HSUB _ _ _ _ _ (unhide Hv3_24) (unhide Hv4_0) (unhide RL11) (unhide RL12)).mono ?_
  rintro e w_25 ⟨v10, rfl, hv10, hbx⟩
  obtain ⟨t10, rfl, hr_25⟩ := tri_of hv10
  simp only [Tri.val]
  have HL_b6_b10 := hide (Nat.lt_of_lt_of_le (unhide HX_b6_24).lt hbx.size)
  have HL_b9_b10 := hide (Nat.lt_of_lt_of_le (unhide HX_b9_24).lt hbx.size)
  have HG_b10 := hide (below_step (unhide HB_24) hbx).size
  have hb_25 := below_step hbx (alloc_below w_25 (.cells #[.bool t10.s, .slice t10.a1 t10.n1 t10.c1, .slice t10.a2 t10.n2 t10.c2] 36))
  have HB_26 := hide (below_step (unhide HB_24) hb_25)
  have HX_b6_26 := hide ((unhide HX_b6_24).keep hb_25)
  have HX_b9_26 := hide ((unhide HX_b9_24).keep hb_25)
  have Hv3_26 := hide ((unhide Hv3_24).below hb_25)
  have Hv4_26 := hide ((unhide Hv4_0).below hb_25)
  clear HB_24 HX_b6_24 HX_b9_24 Hv3_24 Hv4_0
  have HX_b10_25 := hide (BoxIs.new hr_25)
  obtain ⟨Wb10, hW_25⟩ : ∃ W, w_25.alloc (.cells #[.bool t10.s, .slice t10.a1 t10.n1 t10.c1, .slice t10.a2 t10.n2 t10.c2] 36) = W := ⟨_, rfl⟩
  obtain ⟨b10, hc_25⟩ : ∃ b, w_25.heap.size = b := ⟨_, rfl⟩
  rw [hW_25] at HB_26 HX_b6_26 HX_b9_26 Hv3_26 Hv4_26 HX_b10_25
  rw [hc_25] at HX_b10_25 HL_b6_b10 HL_b9_b10 HG_b10
  clear hv10 hr_25 hbx hb_25
  go_wp2_with fail
  clear hW_25 hc_25
  have HCC : Hid (∀ W, Below Wb10.heap.size Wb10 W → (fun w' : World => (w'.cell? ⟨b9, 0, none⟩ = some (.bool t9.s) ∧ w'.cell? ⟨b9, 1, none⟩ = some (.slice t9.a1 t9.n1 t9.c1) ∧ w'.cell? ⟨b9, 2, none⟩ = some (.slice t9.a2 t9.n2 t9.c2)) ∧ w'.cell? ⟨b10, 0, none⟩ = some (.bool t10.s) ∧ w'.cell? ⟨b10, 1, none⟩ = some (.slice t10.a1 t10.n1 t10.c1) ∧ w'.cell? ⟨b10, 2, none⟩ = some (.slice t10.a2 t10.n2 t10.c2)) W) := fun W hW => ⟨(unhide HX_b9_26).cells W hW, (unhide HX_b10_25).cells W hW⟩
  have HQ9 : Hid (RatIs Wb10 t9.val (dl f g (pOf qs) N M)) := (unhide HX_b9_26).2
  have HQ10 : Hid (RatIs Wb10 t10.val (dl g f (pOf qs) M N)) := (unhide HX_b10_25).2
  refine wp_region_hold (fun w' : World => (w'.cell? ⟨b9, 0, none⟩ = some (.bool t9.s) ∧ w'.cell? ⟨b9, 1, none⟩ = some (.slice t9.a1 t9.n1 t9.c1) ∧ w'.cell? ⟨b9, 2, none⟩ = some (.slice t9.a2 t9.n2 t9.c2)) ∧ w'.cell? ⟨b10, 0, none⟩ = some (.bool t10.s) ∧ w'.cell? ⟨b10, 1, none⟩ = some (.slice t10.a1 t10.n1 t10.c1) ∧ w'.cell? ⟨b10, 2, none⟩ = some (.slice t10.a2 t10.n2 t10.c2)) (by kernel_rfl) ?_
  have bd0 : Below Wb10.heap.size Wb10 Wb10.drew := (Below.refl _ _).drew
  have hC0 : (fun w' : World => (w'.cell? ⟨b9, 0, none⟩ = some (.bool t9.s) ∧ w'.cell? ⟨b9, 1, none⟩ = some (.slice t9.a1 t9.n1 t9.c1) ∧ w'.cell? ⟨b9, 2, none⟩ = some (.slice t9.a2 t9.n2 t9.c2)) ∧ w'.cell? ⟨b10, 0, none⟩ = some (.bool t10.s) ∧ w'.cell? ⟨b10, 1, none⟩ = some (.slice t10.a1 t10.n1 t10.c1) ∧ w'.cell? ⟨b10, 2, none⟩ = some (.slice t10.a2 t10.n2 t10.c2)) Wb10.drew := unhide HCC _ bd0
  refine wpHold_take (i := 0) (v := ?_) rfl (by kernel_rfl) (by kernel_rfl) (by kernel_rfl) (fun _ _ _ h => h) (Or.inl ⟨by rfl, ?_⟩) hC0 ?_
  rotate_left
  · intro w hSw; (try dsimp only at hSw); obtain ⟨⟨z0, z1, z2⟩, z3, z4, z5⟩ := hSw; go_simp; (try with_reducible rfl)
  (try simp only [List.getElem_toArray, List.getElem_cons_succ, List.getElem_cons_zero])
  (try simp only [Act.put, List.setIfInBounds_toArray, List.set_cons_zero, List.set_cons_succ])
  refine wpHold_take (i := 1) (v := ?_) rfl (by kernel_rfl) (by kernel_rfl) (by kernel_rfl) (fun _ _ _ h => h) (Or.inl ⟨by rfl, ?_⟩) hC0 ?_
  rotate_left
  · intro w hSw; (try dsimp only at hSw); obtain ⟨⟨z0, z1, z2⟩, z3, z4, z5⟩ := hSw; go_simp; (try with_reducible rfl)
  (try simp only [List.getElem_toArray, List.getElem_cons_succ, List.getElem_cons_zero])
  (try simp only [Act.put, List.setIfInBounds_toArray, List.set_cons_zero, List.set_cons_succ])
  refine wpHold_take (i := 2) (v := ?_) rfl (by kernel_rfl) (by kernel_rfl) (by kernel_rfl) (fun _ _ _ h => h) (Or.inl ⟨by rfl, ?_⟩) hC0 ?_
  rotate_left
  · intro w hSw; (try dsimp only at hSw); obtain ⟨⟨z0, z1, z2⟩, z3, z4, z5⟩ := hSw; go_simp; (try with_reducible rfl)
  (try simp only [List.getElem_toArray, List.getElem_cons_succ, List.getElem_cons_zero])
  (try simp only [Act.put, List.setIfInBounds_toArray, List.set_cons_zero, List.set_cons_succ])
  refine wpHold_one (k := 3) (by kernel_rfl) rfl (fun K hK => ?_)
  (try simp only [List.getElem_toArray, List.getElem_cons_succ, List.getElem_cons_zero])
  go_simp
  refine (unhide HADD _ _ _ _ _ ((unhide HQ9).below bd0) ((unhide HQ10).below bd0) (unhide RD1) (unhide RD2)).mono ?_
  rintro e xw_1 ⟨xv_1, rfl, hv_1, hb_1⟩
  have cc_1 := below_step bd0 hb_1
  have hC_1 : (fun w' : World => (w'.cell? ⟨b9, 0, none⟩ = some (.bool t9.s) ∧ w'.cell? ⟨b9, 1, none⟩ = some (.slice t9.a1 t9.n1 t9.c1) ∧ w'.cell? ⟨b9, 2, none⟩ = some (.slice t9.a2 t9.n2 t9.c2)) ∧ w'.cell? ⟨b10, 0, none⟩ = some (.bool t10.s) ∧ w'.cell? ⟨b10, 1, none⟩ = some (.slice t10.a1 t10.n1 t10.c1) ∧ w'.cell? ⟨b10, 2, none⟩ = some (.slice t10.a2 t10.n2 t10.c2)) xw_1 := unhide HCC _ cc_1
  refine hK.out _ _ hC_1 ?_
  clear hK K
  (try simp only [Act.put, List.setIfInBounds_toArray, List.set_cons_zero, List.set_cons_succ])
  refine wpHold_one (k := 4) (by kernel_rfl) rfl (fun K hK => ?_)
  (try simp only [List.getElem_toArray, List.getElem_cons_succ, List.getElem_cons_zero])
  go_simp
  refine (unhide HDIV _ _ _ _ _ ((unhide HQ9).below cc_1) hv_1 (unhide RD1) (unhide RD3) (unhide HNZ)).mono ?_
  rintro e xw_2 ⟨xv_2, rfl, hv_2, hb_2⟩
  have cc_2 := below_step cc_1 hb_2
  have hC_2 : (fun w' : World => (w'.cell? ⟨b9, 0, none⟩ = some (.bool t9.s) ∧ w'.cell? ⟨b9, 1, none⟩ = some (.slice t9.a1 t9.n1 t9.c1) ∧ w'.cell? ⟨b9, 2, none⟩ = some (.slice t9.a2 t9.n2 t9.c2)) ∧ w'.cell? ⟨b10, 0, none⟩ = some (.bool t10.s) ∧ w'.cell? ⟨b10, 1, none⟩ = some (.slice t10.a1 t10.n1 t10.c1) ∧ w'.cell? ⟨b10, 2, none⟩ = some (.slice t10.a2 t10.n2 t10.c2)) xw_2 := unhide HCC _ cc_2
  refine hK.out _ _ hC_2 ?_
  clear hK K
  (try simp only [Act.put, List.setIfInBounds_toArray, List.set_cons_zero, List.set_cons_succ])
  refine wpHold_take (i := 5) (v := ?_) rfl (by kernel_rfl) (by kernel_rfl) (by kernel_rfl) (fun _ _ _ h => h) (Or.inl ⟨by rfl, ?_⟩) hC_2 ?_
  rotate_left
  · intro w hSw; clear hSw; go_simp; (try with_reducible rfl)
  (try simp only [List.getElem_toArray, List.getElem_cons_succ, List.getElem_cons_zero])
  (try simp only [Act.put, List.setIfInBounds_toArray, List.set_cons_zero, List.set_cons_succ])
  refine wpHold_take (i := 6) (v := ?_) rfl (by kernel_rfl) (by kernel_rfl) (by kernel_rfl) (fun _ _ _ h => h) (Or.inl ⟨by rfl, ?_⟩) hC_2 ?_
  rotate_left
  · intro w hSw; clear hSw; go_simp; (try with_reducible rfl)
  (try simp only [List.getElem_toArray, List.getElem_cons_succ, List.getElem_cons_zero])
  (try simp only [Act.put, List.setIfInBounds_toArray, List.set_cons_zero, List.set_cons_succ])
  obtain ⟨ta, rfl, ra⟩ := tri_of hv_2
  simp only [Tri.val]
  have X6 := (unhide HX_b6_26).keep cc_2
  have ⟨l0, l1, l2⟩ := X6.free
  have ⟨k0, k1, k2⟩ := X6.cells _ (Below.refl _ _)
  have HZ6 := hide (X6.set ra)
  have HZB := hide ((((below_step (unhide HB_26) cc_2).setCell (p := ⟨b6, 0, none⟩) (unhide HG_b6) (.bool ta.s)).setCell (p := ⟨b6, 1, none⟩) (unhide HG_b6) (.slice ta.a1 ta.n1 ta.c1)).setCell (p := ⟨b6, 2, none⟩) (unhide HG_b6) (.slice ta.a2 ta.n2 ta.c2))
  have hZ9 := ((unhide HX_b9_26).keep cc_2).other X6 (Nat.ne_of_gt (unhide HL_b6_b9)) (.bool ta.s) (.slice ta.a1 ta.n1 ta.c1) (.slice ta.a2 ta.n2 ta.c2)
  have hZ10 := ((unhide HX_b10_25).keep cc_2).other X6 (Nat.ne_of_gt (unhide HL_b6_b10)) (.bool ta.s) (.slice ta.a1 ta.n1 ta.c1) (.slice ta.a2 ta.n2 ta.c2)
  obtain ⟨Wz, hWz⟩ : ∃ W, ((xw_2.setCell ⟨b6, 0, none⟩ (.bool ta.s)).setCell ⟨b6, 1, none⟩ (.slice ta.a1 ta.n1 ta.c1)).setCell ⟨b6, 2, none⟩ (.slice ta.a2 ta.n2 ta.c2) = W := ⟨_, rfl⟩
  rw [hWz] at HZ6 HZB hZ9 hZ10
  have hCz : (fun w' : World => (w'.cell? ⟨b9, 0, none⟩ = some (.bool t9.s) ∧ w'.cell? ⟨b9, 1, none⟩ = some (.slice t9.a1 t9.n1 t9.c1) ∧ w'.cell? ⟨b9, 2, none⟩ = some (.slice t9.a2 t9.n2 t9.c2)) ∧ w'.cell? ⟨b10, 0, none⟩ = some (.bool t10.s) ∧ w'.cell? ⟨b10, 1, none⟩ = some (.slice t10.a1 t10.n1 t10.c1) ∧ w'.cell? ⟨b10, 2, none⟩ = some (.slice t10.a2 t10.n2 t10.c2)) Wz := ⟨hZ9.cells _ (Below.refl _ _), hZ10.cells _ (Below.refl _ _)⟩
  have ⟨x0, x1, x2⟩ := (unhide HZ6).cells _ (Below.refl _ _)
  clear X6 ra hZ9 hZ10 HCC
  refine wpHold_one (k := 7) (by kernel_rfl) rfl (fun K hK => ?_)
  (try simp only [List.getElem_toArray, List.getElem_cons_succ, List.getElem_cons_zero])
  go_simp
  refine hK.out _ _ hCz ?_
  clear hK K
  (try simp only [Act.put, List.setIfInBounds_toArray, List.set_cons_zero, List.set_cons_succ])
  refine wpHold_one (k := 8) (by kernel_rfl) rfl (fun K hK => ?_)
  (try simp only [List.getElem_toArray, List.getElem_cons_succ, List.getElem_cons_zero])
  go_simp
  refine hK.out _ _ hCz ?_
  clear hK K
  (try simp only [Act.put, List.setIfInBounds_toArray, List.set_cons_zero, List.set_cons_succ])
  refine wpHold_done (by kernel_rfl) ?_ _
  clear l0 l1 l2 k0 k1 k2 hWz hCz
  go_wp2
  exact bodyPost_ret (v := .tuple #[.agg #[.bool ta.s, .slice ta.a1 ta.n1 ta.c1, .slice ta.a2 ta.n2 ta.c2], .nilIface]) (by simp [results, Tryd.results32, go_sem, x0, x1, x2]) rfl ⟨_, rfl, (unhide HZ6).2, unhide HZB⟩

end Go.Proofs.YtdicbnchkfclaaaDoor
