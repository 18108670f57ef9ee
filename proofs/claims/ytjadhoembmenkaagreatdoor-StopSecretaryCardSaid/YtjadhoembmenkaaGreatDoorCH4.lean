/- StopSecretary: the program's and the document's Secretary, and the walk. -/
import Derived.Test.YtjadhoembmenkaaGreatDoorCH3
import Derived.Test.YtjadhoembmenkaaGreatDoorBG
namespace Go.Proofs.YtjadhoembmenkaaGreatDoor
open Go.RowKit Go.Sort Go.Shelf

/-- The sign of a comparison. -/
def cmpv (a b : Rat) : Int := Wd.sg (a.num * b.den) (b.num * a.den)
theorem cmpv_le {a b : Rat} (h : a ≤ b) : -1 ≤ cmpv a b ∧ cmpv a b ≤ 0 := by
  have h' := Rat.le_iff a b |>.1 h
  unfold cmpv Wd.sg
  by_cases e : a.num * b.den < b.num * a.den
  · rw [if_pos e]; exact ⟨by decide, by decide⟩
  · rw [if_neg e, if_pos (by omega)]; exact ⟨by decide, by decide⟩
theorem cmpR_all (va vb : Value) (qa qb : Rat) (w : World) (ha : RatIs w va qa) (hb : RatIs w vb qb) (j : Nat) (ra : RS qa j) (rb : RS qb j) (hj : j ≤ KK) :
    Calls Tryz.prog 42 #[va, vb] w fun e w' => e = .returned (.int .i64 (cmpv qa qb)) ∧ Below w.heap.size w w' :=
  cmpR_any va vb qa qb w ha hb (sm_of ra.1 hj) (sm_of rb.1 hj) (sm_of ra.2 hj) (sm_of rb.2 hj)
theorem cmpv_gt {a b : Rat} (h : b < a) : cmpv a b = 1 := by
  have h' := Rat.lt_iff b a |>.1 h
  unfold cmpv Wd.sg
  rw [if_neg (by omega), if_neg (by omega)]
/-- The first of the greatest among the first i. -/
def Fst (n i b : Nat) : Prop := b < i ∧ (∀ r, r < i → Stp.sec n r ≤ Stp.sec n b) ∧ ∀ r, r < b → Stp.sec n r < Stp.sec n b
theorem Fst.first (n : Nat) : Fst n (0 + 1) 0 := by
  refine ⟨by omega, fun r hr => ?_, fun r hr => absurd hr (Nat.not_lt_zero r)⟩
  have e : r = 0 := by omega
  rw [e]
  exact Rat.le_refl
theorem Fst.one {n i b c : Nat} (h : Fst n i b) (g : Fst n i c) : b = c := by
  rcases Nat.lt_trichotomy b c with e | e | e
  · exact absurd (h.2.1 c g.1) (Rat.not_le.2 (g.2.2 b e))
  · exact e
  · exact absurd (g.2.1 b h.1) (Rat.not_le.2 (h.2.2 c e))
theorem Fst.more {n i b : Nat} (h : Fst n i b) (hlt : Stp.sec n b < Stp.sec n i) : Fst n (i + 1) i := by
  refine ⟨by omega, fun r hr => ?_, fun r hr => ?_⟩
  · by_cases e : r = i
    · rw [e]; exact Rat.le_refl
    · exact Rat.le_trans (h.2.1 r (by omega)) (Rat.le_of_lt hlt)
  · have := h.2.1 r hr
    grind
theorem Fst.less {n i b : Nat} (h : Fst n i b) (hlt : ¬ Stp.sec n b < Stp.sec n i) : Fst n (i + 1) b := by
  refine ⟨by have := h.1; omega, fun r hr => ?_, h.2.2⟩
  by_cases e : r = i
  · rw [e]; exact Rat.not_lt.1 hlt
  · exact h.2.1 r (by omega)
def SecInv (n i b : Nat) (L : Rat) : Prop := (i = 0 ∧ b = 0 ∧ L = 0) ∨ (L = Stp.sec n b ∧ Fst n i b)
theorem SecInv.RS {n i b : Nat} {L : Rat} (h : SecInv n i b L) (hn : 1 ≤ n) (hn1 : n ≤ 100) (hi : i ≤ n) : Go.Proofs.YtjadhoembmenkaaGreatDoor.RS L 300 := by
  rcases h with ⟨_, _, rfl⟩ | ⟨rfl, h1⟩
  · exact RS.zero.mono (by omega)
  · exact sec_RS hn hn1 (by have := h1.1; omega)
theorem SecInv.more {n i b : Nat} {L : Rat} (h : SecInv n i b L) (hlt : L < Stp.sec n i) : SecInv n (i + 1) i (Stp.sec n i) := by
  rcases h with ⟨rfl, _⟩ | ⟨rfl, h⟩
  · exact Or.inr ⟨rfl, Fst.first n⟩
  · exact Or.inr ⟨rfl, h.more hlt⟩
theorem SecInv.less {n i b : Nat} {L : Rat} (h : SecInv n i b L) (hn : 1 ≤ n) (hlt : ¬ L < Stp.sec n i) : SecInv n (i + 1) b L := by
  rcases h with ⟨rfl, rfl, rfl⟩ | ⟨rfl, h⟩
  · exact absurd (sec_pos hn) hlt
  · exact Or.inr ⟨rfl, h.less hlt⟩

set_option maxHeartbeats 16000000 in
set_option maxRecDepth 100000 in
set_option linter.unusedSimpArgs false in
theorem Secretary_any (n : Nat) (hn : 1 ≤ n) (hn1 : n ≤ 100) (w : World) : Calls Tryz.prog 18 #[.int .i64 (n : Int)] w fun e w' => ∃ (b : Nat) (v : Value), e = .returned (.tuple #[.int .i64 (b : Int), v, .nilIface]) ∧ Fst n n b ∧ RatIs w' v (Stp.sec n b) ∧ Below w.heap.size w w' := by
  have KKe : KK = 1099511627776 := rfl
  have b0 := alloc_below w (.cells #[.bool false, .slice none 0 0, .slice none 0 0] 29)
  obtain ⟨W0, hW0⟩ : ∃ W, w.alloc (.cells #[.bool false, .slice none 0 0, .slice none 0 0] 29) = W := ⟨_, rfl⟩
  obtain ⟨R, hR⟩ : ∃ R, w.heap.size = R := ⟨_, rfl⟩
  have HB0 : Hid (Below (w.alloc (.cells #[.bool false, .slice none 0 0, .slice none 0 0] 29)).heap.size (w.alloc (.cells #[.bool false, .slice none 0 0, .slice none 0 0] 29)) W0) := by show Below _ _ _; rw [hW0]; exact Below.refl _ _
  have HW0 := hide hW0
  have HRR := hide hR
  go_enter Tryz.func18, Tryz.ntmps18
  go_wp2_with fail
  clear hW0 hR b0
  refine (mayCome_any n hn hn1 W0).mono ?_
  rintro e w1 ⟨rfl, hb1⟩
  have hB1 : Below (w.alloc (.cells #[.bool false, .slice none 0 0, .slice none 0 0] 29)).heap.size (w.alloc (.cells #[.bool false, .slice none 0 0, .slice none 0 0] 29)) w1 := below_step (unhide HB0) hb1
  have HS0 := hide (BoxAt.start (t := zTri) hB1 (rat_zero _))
  rw [unhide HRR] at HS0
  obtain ⟨G, hG⟩ : ∃ G, w1.heap.size = G := ⟨_, rfl⟩
  rw [hG] at HS0
  obtain ⟨W2, hW2⟩ : ∃ W, w1.alloc (.cells #[.bool false, .slice none 0 0, .slice none 0 0] 29) = W := ⟨_, rfl⟩
  have HS1 : Hid (BoxAt w W2 R G 0 zTri) := by rw [← hW2]; exact unhide HS0
  have bc := box_cell (unhide HS1).all
  have y0 : W2.cell? ⟨G, 0, none⟩ = some (.bool false) := bc.1
  have y1 : W2.cell? ⟨G, 1, none⟩ = some (.slice none 0 0) := bc.2.1
  have y2 : W2.cell? ⟨G, 2, none⟩ = some (.slice none 0 0) := bc.2.2.1
  have l0 := bc.2.2.2.1
  have l1 := bc.2.2.2.2.1
  have l2 := bc.2.2.2.2.2
  have FSET := (unhide HS1).set (t' := zTri) (q' := 0) (rat_zero _)
  obtain ⟨W3, hW3⟩ : ∃ W, ((W2.setCell ⟨G, 0, none⟩ (.bool false)).setCell ⟨G, 1, none⟩ (.slice none 0 0)).setCell ⟨G, 2, none⟩ (.slice none 0 0) = W := ⟨_, rfl⟩
  have HS2 : Hid (BoxAt w W3 R G 0 zTri) := by rw [← hW3]; exact FSET
  clear HS0 HS1 hB1 hb1 HB0 HW0 HRR bc FSET
  go_wp2_with fail
  clear hG hW2 hW3 y0 y1 y2 l0 l1 l2
  go_loopw [5, 16] (fun vb vi wr => ∃ (i b : Nat) (L : Rat) (tg : Tri), vb = .int .i64 (b : Int) ∧ vi = .int .i64 (i : Int) ∧ i ≤ n ∧ SecInv n i b L ∧ BoxAt w wr R G L tg) (fun _ vi _ => n - (intOf vi).toNat)
  case atStart => exact ⟨0, 0, 0, zTri, rfl, rfl, Nat.zero_le _, Or.inl ⟨rfl, rfl, rfl⟩, unhide HS2⟩
  case round =>
    obtain ⟨i, b, L, tg, rfl, rfl, hi, hS, T⟩ := hrel
    clear HS2
    have HT := hide T
    have HS := hide hS
    have HRL := hide (hS.RS hn hn1 hi)
    by_cases hlt : i < n
    · have f1 : (i : Int) < (n : Int) := by omega
      clear T hS
      go_wp2_with fail
      refine (chosen_any n i hn hn1 hlt wr).mono ?_
      rintro e w2 ⟨v2, rfl, hv2, hb2⟩
      obtain ⟨ts, rfl, rs⟩ := tri_of hv2
      simp only [Tri.val]
      have b3 := alloc_below w2 (.cells #[.bool ts.s, .slice ts.a1 ts.n1 ts.c1, .slice ts.a2 ts.n2 ts.c2] 29)
      have X3 := BoxIs.new rs
      have T3 := ((unhide HT).keep hb2).keep b3
      obtain ⟨W3, hW3⟩ : ∃ W, w2.alloc (.cells #[.bool ts.s, .slice ts.a1 ts.n1 ts.c1, .slice ts.a2 ts.n2 ts.c2] 29) = W := ⟨_, rfl⟩
      obtain ⟨gs, hgs⟩ : ∃ g, w2.heap.size = g := ⟨_, rfl⟩
      rw [hW3] at X3 T3
      rw [hgs] at X3
      have HX3 := hide X3
      have HT3 := hide T3
      have ⟨z0, z1, z2⟩ := X3.cells _ (Below.refl _ _)
      have ⟨g0, g1, g2, _, _, _⟩ := box_cell T3.all
      have HCM := hide (cmpR_all ts.val tg.val (Stp.sec n i) L W3 X3.2 T3.rat 300 (sec_RS hn hn1 hlt) (unhide HRL) (by rw [KKe]; omega))
      clear hv2 hb2 rs b3 X3 T3 HT
      by_cases hc : L < Stp.sec n i
      · rw [cmpv_gt hc] at HCM
        have HS4 := hide ((unhide HS).more hc)
        clear hc
        go_wp2_with fail
        refine (unhide HCM).mono ?_
        rintro e W4 ⟨rfl, hb4⟩
        have HT4 := hide ((unhide HT3).keep hb4)
        have X4 := (unhide HX3).keep hb4
        have HXS := hide X4
        have HCC : Hid (∀ W, Below W4.heap.size W4 W → (fun w' : World => (w'.cell? ⟨gs, 0, none⟩ = some (.bool ts.s) ∧ w'.cell? ⟨gs, 1, none⟩ = some (.slice ts.a1 ts.n1 ts.c1) ∧ w'.cell? ⟨gs, 2, none⟩ = some (.slice ts.a2 ts.n2 ts.c2)) ∧ (w'.cell? ⟨G, 0, none⟩ = some (.bool tg.s) ∧ w'.cell? ⟨G, 1, none⟩ = some (.slice tg.a1 tg.n1 tg.c1) ∧ w'.cell? ⟨G, 2, none⟩ = some (.slice tg.a2 tg.n2 tg.c2))) W) := fun W hW => ⟨X4.cells W hW, BoxIs.cells (q := L) ⟨(unhide HT4).all, (unhide HT4).rat⟩ W hW⟩
        clear X4 hb4 HCM HX3 HT3 z0 z1 z2 g0 g1 g2 hW3 hgs
        go_wp2_with fail
        refine wp_region_till (fun w' : World => (w'.cell? ⟨gs, 0, none⟩ = some (.bool ts.s) ∧ w'.cell? ⟨gs, 1, none⟩ = some (.slice ts.a1 ts.n1 ts.c1) ∧ w'.cell? ⟨gs, 2, none⟩ = some (.slice ts.a2 ts.n2 ts.c2)) ∧ (w'.cell? ⟨G, 0, none⟩ = some (.bool tg.s) ∧ w'.cell? ⟨G, 1, none⟩ = some (.slice tg.a1 tg.n1 tg.c1) ∧ w'.cell? ⟨G, 2, none⟩ = some (.slice tg.a2 tg.n2 tg.c2))) 3 (by kernel_rfl) ?_
        have bd0 : Below W4.heap.size W4 W4.drew := (Below.refl _ _).drew
        obtain ⟨W4d, hW4d⟩ : ∃ W, W4.drew = W := ⟨_, rfl⟩
        rw [hW4d] at bd0 ⊢
        have hC0 : (fun w' : World => (w'.cell? ⟨gs, 0, none⟩ = some (.bool ts.s) ∧ w'.cell? ⟨gs, 1, none⟩ = some (.slice ts.a1 ts.n1 ts.c1) ∧ w'.cell? ⟨gs, 2, none⟩ = some (.slice ts.a2 ts.n2 ts.c2)) ∧ (w'.cell? ⟨G, 0, none⟩ = some (.bool tg.s) ∧ w'.cell? ⟨G, 1, none⟩ = some (.slice tg.a1 tg.n1 tg.c1) ∧ w'.cell? ⟨G, 2, none⟩ = some (.slice tg.a2 tg.n2 tg.c2))) W4d := unhide HCC _ bd0
        refine wpTill_pure (i := 0) (v := ?_) rfl (by kernel_rfl) (by kernel_rfl) (by kernel_rfl) (by kernel_rfl) (fun _ _ _ h => h) (Or.inl ⟨by rfl, ?_⟩) (fun _ => hC0) ?_
        rotate_left
        · intro w hSw; clear hSw; go_simp; (try with_reducible rfl)
        (try simp only [List.getElem_toArray, List.getElem_cons_succ, List.getElem_cons_zero])
        (try simp only [Act.put, List.setIfInBounds_toArray, List.set_cons_zero, List.set_cons_succ])
        refine wpTill_take (i := 1) (v := ?_) rfl (by kernel_rfl) (by kernel_rfl) (by kernel_rfl) (by kernel_rfl) (by kernel_rfl) (by kernel_rfl) (fun _ _ _ h => h) (Or.inl ⟨by rfl, ?_⟩) hC0 ?_
        rotate_left
        · intro w hSw; (try dsimp only at hSw); obtain ⟨⟨u0, u1, u2⟩, u3, u4, u5⟩ := hSw; go_simp; (try with_reducible rfl)
        (try simp only [List.getElem_toArray, List.getElem_cons_succ, List.getElem_cons_zero])
        (try simp only [Act.put, List.setIfInBounds_toArray, List.set_cons_zero, List.set_cons_succ])
        refine wpTill_pure (i := 2) (v := ?_) rfl (by kernel_rfl) (by kernel_rfl) (by kernel_rfl) (by kernel_rfl) (fun _ _ _ h => h) (Or.inl ⟨by rfl, ?_⟩) (fun _ => hC0) ?_
        rotate_left
        · intro w hSw; clear hSw; go_simp; (try with_reducible rfl)
        (try simp only [List.getElem_toArray, List.getElem_cons_succ, List.getElem_cons_zero])
        (try simp only [Act.put, List.setIfInBounds_toArray, List.set_cons_zero, List.set_cons_succ])
        have T9 := (unhide HT4).keep bd0
        have FIN := hide (T9.set ((unhide HXS).2.below bd0))
        have ⟨_, _, _, l0, l1, l2⟩ := box_cell T9.all
        have ⟨_, y0, y1, y2⟩ := hC0
        clear T9
        refine wpTill_one (k := 3) (by kernel_rfl) rfl (fun K hK => ?_)
        (try simp only [List.getElem_toArray, List.getElem_cons_succ, List.getElem_cons_zero])
        go_simp
        refine hK.out _ _ (fun h => absurd (h.symm.trans (by kernel_rfl)) Bool.false_ne_true) ?_
        clear hK K
        (try simp only [Act.put, List.setIfInBounds_toArray, List.set_cons_zero, List.set_cons_succ])
        refine wpTill_done (by kernel_rfl) ?_ _
        clear hC0 bd0 y0 y1 y2 l0 l1 l2 HCC hW4d
        go_wp2_with fail
        exact ⟨⟨i + 1, i, _, ts, rfl, by go_num, hlt, unhide HS4, unhide FIN⟩, by simp [intOf]; omega⟩
      · have hy := cmpv_le (Rat.not_lt.1 hc)
        obtain ⟨y, hy'⟩ : ∃ y, cmpv (Stp.sec n i) L = y := ⟨_, rfl⟩
        rw [hy'] at HCM hy
        have hy2 : ¬ 0 < y := by omega
        have HS4 := hide ((unhide HS).less hn hc)
        clear hc hy hy'
        go_wp2_with fail
        refine (unhide HCM).mono ?_
        rintro e W4 ⟨rfl, hb4⟩
        have HT4 := hide ((unhide HT3).keep hb4)
        clear hb4 HCM HX3 HT3 z0 z1 z2 g0 g1 g2 hW3 hgs
        go_wp2_with fail
        exact ⟨⟨i + 1, b, L, tg, rfl, by go_num, hlt, unhide HS4, unhide HT4⟩, by simp [intOf]; omega⟩
    · obtain rfl : i = n := by omega
      have f1 : ¬ (i : Int) < (i : Int) := by omega
      have HCC : Hid (∀ W, Below wr.heap.size wr W → (fun w' : World => (w'.cell? ⟨G, 0, none⟩ = some (.bool tg.s) ∧ w'.cell? ⟨G, 1, none⟩ = some (.slice tg.a1 tg.n1 tg.c1) ∧ w'.cell? ⟨G, 2, none⟩ = some (.slice tg.a2 tg.n2 tg.c2))) W) := fun W hW => BoxIs.cells (q := L) ⟨T.all, T.rat⟩ W hW
      clear T hS
      go_wp2_with fail
      refine wp_region_till (fun w' : World => (w'.cell? ⟨G, 0, none⟩ = some (.bool tg.s) ∧ w'.cell? ⟨G, 1, none⟩ = some (.slice tg.a1 tg.n1 tg.c1) ∧ w'.cell? ⟨G, 2, none⟩ = some (.slice tg.a2 tg.n2 tg.c2))) 3 (by kernel_rfl) ?_
      have bd0 : Below wr.heap.size wr wr.drew := (Below.refl _ _).drew
      obtain ⟨Wd, hWd⟩ : ∃ W, wr.drew = W := ⟨_, rfl⟩
      rw [hWd] at bd0 ⊢
      have hC0 : (fun w' : World => (w'.cell? ⟨G, 0, none⟩ = some (.bool tg.s) ∧ w'.cell? ⟨G, 1, none⟩ = some (.slice tg.a1 tg.n1 tg.c1) ∧ w'.cell? ⟨G, 2, none⟩ = some (.slice tg.a2 tg.n2 tg.c2))) Wd := unhide HCC _ bd0
      refine wpTill_pure (i := 0) (v := ?_) rfl (by kernel_rfl) (by kernel_rfl) (by kernel_rfl) (by kernel_rfl) (fun _ _ _ h => h) (Or.inl ⟨by rfl, ?_⟩) (fun _ => hC0) ?_
      rotate_left
      · intro w hSw; clear hSw; go_simp; (try with_reducible rfl)
      (try simp only [List.getElem_toArray, List.getElem_cons_succ, List.getElem_cons_zero])
      (try simp only [Act.put, List.setIfInBounds_toArray, List.set_cons_zero, List.set_cons_succ])
      refine wpTill_take (i := 1) (v := ?_) rfl (by kernel_rfl) (by kernel_rfl) (by kernel_rfl) (by kernel_rfl) (by kernel_rfl) (by kernel_rfl) (fun _ _ _ h => h) (Or.inl ⟨by rfl, ?_⟩) hC0 ?_
      rotate_left
      · intro w hSw; (try dsimp only at hSw); obtain ⟨u0, u1, u2⟩ := hSw; go_simp; (try with_reducible rfl)
      (try simp only [List.getElem_toArray, List.getElem_cons_succ, List.getElem_cons_zero])
      (try simp only [Act.put, List.setIfInBounds_toArray, List.set_cons_zero, List.set_cons_succ])
      refine wpTill_pure (i := 2) (v := ?_) rfl (by kernel_rfl) (by kernel_rfl) (by kernel_rfl) (by kernel_rfl) (fun _ _ _ h => h) (Or.inl ⟨by rfl, ?_⟩) (fun _ => hC0) ?_
      rotate_left
      · intro w hSw; clear hSw; go_simp; (try with_reducible rfl)
      (try simp only [List.getElem_toArray, List.getElem_cons_succ, List.getElem_cons_zero])
      (try simp only [Act.put, List.setIfInBounds_toArray, List.set_cons_zero, List.set_cons_succ])
      have T9 := (unhide HT).keep bd0
      have ⟨y0, y1, y2, l0, l1, l2⟩ := box_cell T9.res
      have RB := hide (rat_boxed (w0 := w) T9.rat T9.res T9.bl T9.rl (.bool tg.s) (.slice tg.a1 tg.n1 tg.c1) (.slice tg.a2 tg.n2 tg.c2))
      clear T9
      refine wpTill_one (k := 3) (by kernel_rfl) rfl (fun K hK => ?_)
      (try simp only [List.getElem_toArray, List.getElem_cons_succ, List.getElem_cons_zero])
      go_simp
      refine hK.out _ _ (fun h => absurd (h.symm.trans (by kernel_rfl)) Bool.false_ne_true) ?_
      clear hK K
      (try simp only [Act.put, List.setIfInBounds_toArray, List.set_cons_zero, List.set_cons_succ])
      refine wpTill_pure (i := 4) (v := ?_) rfl (by kernel_rfl) (by kernel_rfl) (by kernel_rfl) (by kernel_rfl) (fun _ _ _ h => h) (Or.inl ⟨by rfl, ?_⟩) (fun h => absurd (h.symm.trans (by kernel_rfl)) Bool.false_ne_true) ?_
      rotate_left
      · intro w hSw; clear hSw; go_simp; (try with_reducible rfl)
      (try simp only [List.getElem_toArray, List.getElem_cons_succ, List.getElem_cons_zero])
      (try simp only [Act.put, List.setIfInBounds_toArray, List.set_cons_zero, List.set_cons_succ])
      refine wpTill_done (by kernel_rfl) ?_ _
      clear hC0 bd0 l0 l1 l2 HCC hWd
      go_wp2
      (try simp only [Exit.inBlock, Exit.then])
      have rb := unhide RB
      rcases unhide HS with ⟨h1, _⟩ | ⟨h2, h1⟩
      · omega
      exact bodyPost_ret (v := .tuple #[.int .i64 (b : Int), .agg #[.bool tg.s, .slice tg.a1 tg.n1 tg.c1, .slice tg.a2 tg.n2 tg.c2], .nilIface]) (by simp [results, Tryz.results18, go_sem, y0, y1, y2]) rfl ⟨b, _, rfl, h1, by rw [← h2]; exact rb.1, rb.2⟩

set_option maxHeartbeats 16000000 in
set_option maxRecDepth 100000 in
set_option linter.unusedSimpArgs false in
theorem refSecretary_any (n : Nat) (hn : 1 ≤ n) (hn1 : n ≤ 100) (w : World) : Calls Tryz.prog 17 #[.int .i64 (n : Int)] w fun e w' => ∃ b p : Nat, e = .returned (.tuple #[.int .i64 (b : Int), .pointer (some ⟨p, 0, none⟩)]) ∧ Fst n n b ∧ BRz w' p 0 (Stp.sec n b) ∧ Below w.heap.size w w' := by
  have HC : Hid (∀ r W, r < n → Calls Tryz.prog 7 #[.int .i64 (n : Int), .int .i64 (r : Int)] W (NewsZ W (Stp.sec n r))) := fun r W hr => refChosen_any n r hn hn1 hr W
  go_enter Tryz.func17, Tryz.ntmps17
  go_wp2_with fail
  go_loopw [4, 7] (fun v4 v7 wr => ∃ (i b : Nat), v4 = .int .i64 (b : Int) ∧ v7 = .int .i64 (i : Int) ∧ i ≤ n ∧ ((i = 0 ∧ b = 0) ∨ Fst n i b) ∧ Below w.heap.size w wr) (fun _ v7 _ => n - (intOf v7).toNat)
  case atStart => exact ⟨0, 0, rfl, rfl, Nat.zero_le _, Or.inl ⟨rfl, rfl⟩, Below.refl _ _⟩
  case round =>
    obtain ⟨i, b, rfl, rfl, hi, hF, hbl⟩ := hrel
    have HF := hide hF
    have HBL := hide hbl
    by_cases hlt : i < n
    · have f1 : (i : Int) < (n : Int) := by omega
      have hb : b < n := by rcases hF with ⟨h1, h2⟩ | h1; omega; have := h1.1; omega
      have H1 := hide (unhide HC i wr hlt)
      have HLT := hide hlt
      have HBN := hide hb
      clear hF hbl hb
      go_wp2_with fail
      refine (unhide H1).mono ?_
      rintro e w1 ⟨b1, rfl, -, hx1, hb1⟩
      have HX1 := hide hx1
      have HB1 := hide (bstep (unhide HBL) hb1)
      have H2 := hide (unhide HC b w1 (unhide HBN))
      clear hx1 hb1 H1 HBL
      go_wp2_with fail
      refine (unhide H2).mono ?_
      rintro e w2 ⟨b2, rfl, -, hx2, hb2⟩
      have HB2 := hide (bstep (unhide HB1) hb2)
      have H3 := hide (rcmp_any b1 0 b2 0 300 300 _ _ w2 ((unhide HX1).below hb2) hx2 (sec_RS hn hn1 (unhide HLT)) (sec_RS hn hn1 (unhide HBN)) (by decide))
      clear hx2 hb2 H2 HB1 HX1
      obtain ⟨y, hy⟩ : ∃ y, Wd.sg ((Stp.sec n i).num * ((Stp.sec n b).den : Int)) ((Stp.sec n b).num * ((Stp.sec n i).den : Int)) = y := ⟨_, rfl⟩
      rw [hy] at H3
      have hy : cmpv (Stp.sec n i) (Stp.sec n b) = y := hy
      by_cases hc : Stp.sec n b < Stp.sec n i
      · rw [cmpv_gt hc] at hy
        subst hy
        have HF2 : Hid (Fst n (i + 1) i) := by
          rcases unhide HF with ⟨h1, h2⟩ | h1
          · rw [h1, h2] at hc; exact absurd hc Rat.lt_irrefl
          · exact h1.more hc
        clear hc
        go_wp2_with fail
        refine (unhide H3).mono ?_
        rintro e w3 ⟨rfl, hb3⟩
        have HB3 := hide (bstep (unhide HB2) hb3)
        clear hb3 H3
        go_wp2_with fail
        exact ⟨⟨i + 1, i, rfl, by go_num, hlt, Or.inr (unhide HF2), unhide HB3⟩, by simp [intOf]; omega⟩
      · have ⟨y0, y1⟩ := cmpv_le (Rat.not_lt.1 hc)
        rw [hy] at y0 y1
        have hd : decide (0 < y) = false := decide_eq_false (by omega)
        have HF2 : Hid (Fst n (i + 1) b) := by
          rcases unhide HF with ⟨h1, h2⟩ | h1
          · rw [h1, h2]; exact Fst.first n
          · exact h1.less hc
        clear hc hy
        go_wp2_with fail
        refine (unhide H3).mono ?_
        rintro e w3 ⟨rfl, hb3⟩
        have HB3 := hide (bstep (unhide HB2) hb3)
        clear hb3 H3
        go_wp2_with fail
        exact ⟨⟨i + 1, b, rfl, by go_num, hlt, Or.inr (unhide HF2), unhide HB3⟩, by simp [intOf]; omega⟩
    · obtain rfl : i = n := by omega
      have f1 : ¬ (i : Int) < (i : Int) := by omega
      have hFi : Fst i i b := by rcases hF with ⟨h1, _⟩ | h1; omega; exact h1
      have HFI := hide hFi
      have H1 := hide (unhide HC b wr hFi.1)
      clear hF hbl hFi
      go_wp2_with fail
      refine (unhide H1).mono ?_
      rintro e w1 ⟨b1, rfl, -, hx1, hb1⟩
      have HX1 := hide hx1
      have HB1 := hide (bstep (unhide HBL) hb1)
      clear hx1 hb1 H1
      go_wp2
      exact bodyPost_ret (v := .tuple #[.int .i64 (b : Int), .pointer (some ⟨b1, 0, none⟩)]) (by simp [results, Tryz.results17, go_sem]) rfl ⟨b, b1, rfl, unhide HFI, unhide HX1, unhide HB1⟩

set_option maxHeartbeats 16000000 in
set_option maxRecDepth 100000 in
set_option linter.unusedSimpArgs false in
theorem Secretary_err (n : Int) (h0 : -9223372036854775808 ≤ n) (h1 : n ≤ 9223372036854775807) (hbad : ¬ (1 ≤ n ∧ n ≤ 100)) (w : World) : Calls Tryz.prog 18 #[.int .i64 n] w fun e w' => e = .returned (.tuple #[.int .i64 0, .agg #[.bool false, .slice none 0 0, .slice none 0 0], .iface 22 (.int .i64 2)]) ∧ Below w.heap.size w w' := by
  have b0 := alloc_below w (.cells #[.bool false, .slice none 0 0, .slice none 0 0] 29)
  have X0 := BoxIs.new (w := w) (t := zTri) (q := 0) (rat_zero _)
  obtain ⟨W0, hW0⟩ : ∃ W, w.alloc (.cells #[.bool false, .slice none 0 0, .slice none 0 0] 29) = W := ⟨_, rfl⟩
  obtain ⟨R, hR⟩ : ∃ R, w.heap.size = R := ⟨_, rfl⟩
  have X0' : BoxIs W0 R zTri 0 := by rw [← hW0, ← hR]; exact X0
  rw [hW0] at b0
  have HX0 := hide X0'
  have HB0 := hide b0
  have HRG : Hid (w.heap.size ≤ R) := by show _ ≤ R; omega
  have HMC := hide (mayCome_all n h0 h1 W0)
  have e1 : (decide (1 ≤ n) && decide (n ≤ 100)) = false := by
    by_cases c : 1 ≤ n
    · have : ¬ n ≤ 100 := fun x => hbad ⟨c, x⟩
      simp [this]
    · simp [c]
  rw [e1] at HMC
  clear X0 X0' b0 e1 hbad
  go_enter Tryz.func18, Tryz.ntmps18
  go_wp2_with fail
  clear hW0 hR
  refine (unhide HMC).mono ?_
  rintro e w1 ⟨rfl, hb1⟩
  have Y := (unhide HX0).keep hb1
  have ⟨l0, l1, l2⟩ := Y.free
  have ⟨y0, y1, y2⟩ := Y.cells _ (Below.refl _ _)
  have HBB := hide ((((below_step (unhide HB0) hb1).setCell (p := ⟨R, 0, none⟩) (unhide HRG) (.bool false)).setCell (p := ⟨R, 1, none⟩) (unhide HRG) (.slice none 0 0)).setCell (p := ⟨R, 2, none⟩) (unhide HRG) (.slice none 0 0))
  have y0 : w1.cell? ⟨R, 0, none⟩ = some (.bool false) := y0
  have y1 : w1.cell? ⟨R, 1, none⟩ = some (.slice none 0 0) := y1
  have y2 : w1.cell? ⟨R, 2, none⟩ = some (.slice none 0 0) := y2
  clear hb1 Y HMC
  go_wp2
  exact bodyPost_ret (v := .tuple #[.int .i64 0, .agg #[.bool false, .slice none 0 0, .slice none 0 0], .iface 22 (.int .i64 2)]) (by simp [results, Tryz.results18, go_sem, y0, y1, y2]) rfl ⟨rfl, unhide HBB⟩

set_option maxHeartbeats 2000000 in
theorem whole_good (x : Int) (w : World) :
    Calls Tryz.prog 19 #[.int .i64 x, .nilIface, .int .i64 x, .int .i64 0] w fun e w' => e = .returned (.bool true) ∧ Below w.heap.size w w' := by
  have e0 : (x == x) = true := by simp
  go_enter Tryz.func19, Tryz.ntmps19
  go_wp2
  go_ret
  exact ⟨rfl, Below.refl _ _⟩
set_option maxHeartbeats 2000000 in
theorem whole_bad (y k : Int) (hk : k ≠ 0) (w : World) (hg : ErrTy w) :
    Calls Tryz.prog 19 #[.int .i64 0, .iface 22 (.int .i64 k), .int .i64 y, .int .i64 k] w fun e w' => e = .returned (.bool true) ∧ Below w.heap.size w w' := by
  have HT := hide (tell_errno k w hg)
  clear hg
  go_enter Tryz.func19, Tryz.ntmps19
  go_wp2_with fail
  refine (unhide HT).mono ?_
  rintro e w1 ⟨rfl, hb⟩
  go_wp2
  go_ret
  exact ⟨rfl, hb⟩
set_option maxHeartbeats 16000000 in
set_option maxRecDepth 100000 in
set_option linter.unusedSimpArgs false in
theorem stopSecretary_any (n : Int) (w : World) (hn : I64 n) (htab : Tab w) (hg : ErrTy w) : Calls Tryz.prog 5 #[.int .i64 n] w fun e w' => e = .returned (.bool true) ∧ Below w.heap.size w w' := by
  have HTB := hide htab
  have HGT := hide hg
  have HI := hide (refIntz_any 0 (by decide) (by decide) w)
  clear htab hg
  by_cases c1 : 25 < n ∧ n ≤ 100
  · obtain ⟨c1, c2⟩ := c1
    clear hn
    go_enter Tryz.func5, Tryz.ntmps5
    go_wp2
    go_ret
    exact ⟨rfl, Below.refl _ _⟩
  by_cases hgood : 1 ≤ n ∧ n ≤ 100
  · obtain ⟨g1, g2⟩ := hgood
    obtain ⟨m, rfl⟩ : ∃ m : Nat, n = (m : Int) := ⟨n.toNat, by omega⟩
    have f0 : ¬ (25 : Int) < (m : Int) := fun x => c1 ⟨x, g2⟩
    have f1 : ¬ (m : Int) < 1 := by omega
    have f2 : ¬ (100 : Int) < (m : Int) := by omega
    have HC : Hid (∀ W, Calls Tryz.prog 17 #[.int .i64 (m : Int)] W fun e w' => ∃ b p : Nat, e = .returned (.tuple #[.int .i64 (b : Int), .pointer (some ⟨p, 0, none⟩)]) ∧ Fst m m b ∧ BRz w' p 0 (Stp.sec m b) ∧ Below W.heap.size W w') := fun W => refSecretary_any m (by omega) (by omega) W
    have HD : Hid (∀ W, Calls Tryz.prog 18 #[.int .i64 (m : Int)] W fun e w' => ∃ (b : Nat) (v : Value), e = .returned (.tuple #[.int .i64 (b : Int), v, .nilIface]) ∧ Fst m m b ∧ RatIs w' v (Stp.sec m b) ∧ Below W.heap.size W w') := fun W => Secretary_any m (by omega) (by omega) W
    have hm1 : 1 ≤ m := by omega
    have hm2 : m ≤ 100 := by omega
    clear hn g1 g2 c1
    go_enter Tryz.func5, Tryz.ntmps5
    go_wp2_with fail
    refine (unhide HI).mono ?_
    rintro e w1 ⟨b0, rfl, -, -, hb1⟩
    have HB1 := hide hb1
    clear hb1 HI
    go_wp2_with fail
    refine (unhide HC w1).mono ?_
    rintro e w2 ⟨kb, bw, rfl, hf2, hx2, hb2⟩
    have HX2 := hide hx2
    have HF2 := hide hf2
    have HB2 := hide (bstep (unhide HB1) hb2)
    clear hx2 hb2 hf2 HB1 HC
    go_wp2_with fail
    refine (unhide HD w2).mono ?_
    rintro e w3 ⟨b, v3, rfl, hf3, hv3, hb3⟩
    obtain rfl := hf3.one (unhide HF2)
    obtain ⟨t, rfl, rt⟩ := tri_of hv3
    simp only [Tri.val]
    have b4 := alloc_below w3 (.cells #[.bool t.s, .slice t.a1 t.n1 t.c1, .slice t.a2 t.n2 t.c2] 29)
    have X4 := BoxIs.new rt
    obtain ⟨W4, hW4⟩ : ∃ W, w3.alloc (.cells #[.bool t.s, .slice t.a1 t.n1 t.c1, .slice t.a2 t.n2 t.c2] 29) = W := ⟨_, rfl⟩
    obtain ⟨g4, hg4⟩ : ∃ g, w3.heap.size = g := ⟨_, rfl⟩
    rw [hW4] at b4 X4
    rw [hg4] at X4
    have HX4 := hide X4
    have HB4 := hide (bstep (unhide HB2) (bstep hb3 b4))
    have HX24 := hide ((unhide HX2).below (bstep hb3 b4))
    have HQ : Hid (RS (Stp.sec m b) 300) := sec_RS hm1 hm2 hf3.1
    have HW := hide (whole_good (b : Int) W4)
    clear hv3 rt hb3 b4 X4 HX2 HB2 HD hf3
    go_wp2_with fail
    clear hW4 hg4
    refine (unhide HW).mono ?_
    rintro e w5 ⟨rfl, hb5⟩
    have ⟨y0, y1, y2⟩ := (unhide HX4).cells _ hb5
    have HB5 := hide (bstep (unhide HB4) hb5)
    have HO := hide (one_ok t.val _ bw 300 w5 ((unhide HX4).2.below hb5) (unhide HQ) (by decide) (tab_below (unhide HTB) (unhide HB5)) ((unhide HX24).below hb5))
    clear hb5 HW
    go_wp2_with fail
    clear y0 y1 y2
    refine (unhide HO).mono ?_
    rintro e w6 ⟨rfl, hb6⟩
    have HB6 := hide (bstep (unhide HB5) hb6)
    clear hb6 HO
    go_wp2
    go_ret
    exact ⟨rfl, unhide HB6⟩
  have HD : Hid (∀ W, Calls Tryz.prog 18 #[.int .i64 n] W fun e w' => e = .returned (.tuple #[.int .i64 0, .agg #[.bool false, .slice none 0 0, .slice none 0 0], .iface 22 (.int .i64 2)]) ∧ Below W.heap.size W w') := fun W => Secretary_err n hn.1 hn.2 hgood W
  by_cases f1 : n < 1
  · have f0 : ¬ 25 < n := by omega
    clear hgood hn c1
    go_enter Tryz.func5, Tryz.ntmps5
    go_wp2_with fail
    refine (unhide HI).mono ?_
    rintro e w1 ⟨b0, rfl, -, -, hb1⟩
    have HB1 := hide hb1
    clear hb1 HI
    go_wp2_with fail
    refine (unhide HD w1).mono ?_
    rintro e w3 ⟨rfl, hb3⟩
    have b4 := alloc_below w3 (.cells #[.bool false, .slice none 0 0, .slice none 0 0] 29)
    have X4 := BoxIs.new (w := w3) (t := zTri) (q := 0) (rat_zero _)
    obtain ⟨W4, hW4⟩ : ∃ W, w3.alloc (.cells #[.bool false, .slice none 0 0, .slice none 0 0] 29) = W := ⟨_, rfl⟩
    obtain ⟨g4, hg4⟩ : ∃ g, w3.heap.size = g := ⟨_, rfl⟩
    have X4' : BoxIs W4 g4 zTri 0 := by rw [← hW4, ← hg4]; exact X4
    rw [hW4] at b4
    have ⟨l0, l1, l2⟩ := X4'.free
    have ⟨u0, u1, u2⟩ := X4'.cells _ (Below.refl _ _)
    have u0 : W4.cell? ⟨g4, 0, none⟩ = some (.bool false) := u0
    have u1 : W4.cell? ⟨g4, 1, none⟩ = some (.slice none 0 0) := u1
    have u2 : W4.cell? ⟨g4, 2, none⟩ = some (.slice none 0 0) := u2
    have hge : w3.heap.size ≤ g4 := by omega
    have FIN := X4'.set (t' := zTri) (q' := 0) (rat_zero _)
    have FB := ((b4.setCell (p := ⟨g4, 0, none⟩) hge (.bool false)).setCell (p := ⟨g4, 1, none⟩) hge (.slice none 0 0)).setCell (p := ⟨g4, 2, none⟩) hge (.slice none 0 0)
    have FIN : BoxIs (((W4.setCell ⟨g4, 0, none⟩ (.bool false)).setCell ⟨g4, 1, none⟩ (.slice none 0 0)).setCell ⟨g4, 2, none⟩ (.slice none 0 0)) g4 zTri 0 := FIN
    obtain ⟨W6, hW6⟩ : ∃ W, ((W4.setCell ⟨g4, 0, none⟩ (.bool false)).setCell ⟨g4, 1, none⟩ (.slice none 0 0)).setCell ⟨g4, 2, none⟩ (.slice none 0 0) = W := ⟨_, rfl⟩
    rw [hW6] at FIN FB
    have HX4 := hide FIN
    have HB4 := hide (bstep (unhide HB1) (bstep hb3 FB))
    have HW := hide (whole_bad 0 2 (by decide) W6 ((unhide HGT).below (unhide HB4)))
    clear hb3 b4 X4 X4' HD hge FIN FB
    go_wp2_with fail
    clear hW4 hg4 hW6 l0 l1 l2 u0 u1 u2
    refine (unhide HW).mono ?_
    rintro e w5 ⟨rfl, hb5⟩
    have ⟨y0, y1, y2⟩ := (unhide HX4).cells _ hb5
    have y0 : w5.cell? ⟨g4, 0, none⟩ = some (.bool false) := y0
    have y1 : w5.cell? ⟨g4, 1, none⟩ = some (.slice none 0 0) := y1
    have y2 : w5.cell? ⟨g4, 2, none⟩ = some (.slice none 0 0) := y2
    have HB5 := hide (bstep (unhide HB4) hb5)
    have HO := hide (one_err (.agg #[.bool false, .slice none 0 0, .slice none 0 0]) b0 2 (by decide) w5 ((unhide HX4).2.below hb5) (tab_below (unhide HTB) (unhide HB5)) ((unhide HGT).below (unhide HB5)))
    clear hb5 HW
    go_wp2_with fail
    clear y0 y1 y2
    refine (unhide HO).mono ?_
    rintro e w6 ⟨rfl, hb6⟩
    have HB6 := hide (bstep (unhide HB5) hb6)
    clear hb6 HO
    go_wp2
    go_ret
    exact ⟨rfl, unhide HB6⟩
  have f2 : 100 < n := by
    by_cases c : 100 < n
    · exact c
    · exact absurd ⟨by omega, by omega⟩ hgood
  have f0 : 25 < n := by omega
  have f3 : ¬ n ≤ 100 := by omega
  have f4 : decide (n ≤ 100) = false := decide_eq_false f3
  clear hgood hn c1
  go_enter Tryz.func5, Tryz.ntmps5
  go_wp2_with fail
  refine (unhide HI).mono ?_
  rintro e w1 ⟨b0, rfl, -, -, hb1⟩
  have HB1 := hide hb1
  clear hb1 HI
  go_wp2_with fail
  refine (unhide HD w1).mono ?_
  rintro e w3 ⟨rfl, hb3⟩
  have b4 := alloc_below w3 (.cells #[.bool false, .slice none 0 0, .slice none 0 0] 29)
  have X4 := BoxIs.new (w := w3) (t := zTri) (q := 0) (rat_zero _)
  obtain ⟨W4, hW4⟩ : ∃ W, w3.alloc (.cells #[.bool false, .slice none 0 0, .slice none 0 0] 29) = W := ⟨_, rfl⟩
  obtain ⟨g4, hg4⟩ : ∃ g, w3.heap.size = g := ⟨_, rfl⟩
  have X4' : BoxIs W4 g4 zTri 0 := by rw [← hW4, ← hg4]; exact X4
  rw [hW4] at b4
  have ⟨l0, l1, l2⟩ := X4'.free
  have ⟨u0, u1, u2⟩ := X4'.cells _ (Below.refl _ _)
  have u0 : W4.cell? ⟨g4, 0, none⟩ = some (.bool false) := u0
  have u1 : W4.cell? ⟨g4, 1, none⟩ = some (.slice none 0 0) := u1
  have u2 : W4.cell? ⟨g4, 2, none⟩ = some (.slice none 0 0) := u2
  have hge : w3.heap.size ≤ g4 := by omega
  have FIN := X4'.set (t' := zTri) (q' := 0) (rat_zero _)
  have FB := ((b4.setCell (p := ⟨g4, 0, none⟩) hge (.bool false)).setCell (p := ⟨g4, 1, none⟩) hge (.slice none 0 0)).setCell (p := ⟨g4, 2, none⟩) hge (.slice none 0 0)
  have FIN : BoxIs (((W4.setCell ⟨g4, 0, none⟩ (.bool false)).setCell ⟨g4, 1, none⟩ (.slice none 0 0)).setCell ⟨g4, 2, none⟩ (.slice none 0 0)) g4 zTri 0 := FIN
  obtain ⟨W6, hW6⟩ : ∃ W, ((W4.setCell ⟨g4, 0, none⟩ (.bool false)).setCell ⟨g4, 1, none⟩ (.slice none 0 0)).setCell ⟨g4, 2, none⟩ (.slice none 0 0) = W := ⟨_, rfl⟩
  rw [hW6] at FIN FB
  have HX4 := hide FIN
  have HB4 := hide (bstep (unhide HB1) (bstep hb3 FB))
  have HW := hide (whole_bad 0 2 (by decide) W6 ((unhide HGT).below (unhide HB4)))
  clear hb3 b4 X4 X4' HD hge FIN FB
  go_wp2_with fail
  clear hW4 hg4 hW6 l0 l1 l2 u0 u1 u2
  refine (unhide HW).mono ?_
  rintro e w5 ⟨rfl, hb5⟩
  have ⟨y0, y1, y2⟩ := (unhide HX4).cells _ hb5
  have y0 : w5.cell? ⟨g4, 0, none⟩ = some (.bool false) := y0
  have y1 : w5.cell? ⟨g4, 1, none⟩ = some (.slice none 0 0) := y1
  have y2 : w5.cell? ⟨g4, 2, none⟩ = some (.slice none 0 0) := y2
  have HB5 := hide (bstep (unhide HB4) hb5)
  have HO := hide (one_err (.agg #[.bool false, .slice none 0 0, .slice none 0 0]) b0 2 (by decide) w5 ((unhide HX4).2.below hb5) (tab_below (unhide HTB) (unhide HB5)) ((unhide HGT).below (unhide HB5)))
  clear hb5 HW
  go_wp2_with fail
  clear y0 y1 y2
  refine (unhide HO).mono ?_
  rintro e w6 ⟨rfl, hb6⟩
  have HB6 := hide (bstep (unhide HB5) hb6)
  clear hb6 HO
  go_wp2
  go_ret
  exact ⟨rfl, unhide HB6⟩

end Go.Proofs.YtjadhoembmenkaaGreatDoor
