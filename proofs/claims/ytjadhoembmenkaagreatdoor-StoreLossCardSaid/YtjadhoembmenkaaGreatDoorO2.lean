/- What so many papers lose, by the program. -/
import Derived.Test.YtjadhoembmenkaaGreatDoorO1
import Derived.WalkKit
namespace Go.Proofs.YtjadhoembmenkaaGreatDoor
open Go.RowKit Go.Sort Go.Shelf

def uns (n j : Nat) : Int := max ((n : Int) - (j : Int)) 0
theorem uns_I64 {n j : Nat} (hn : n ≤ 1000) : I64 (uns n j) := by unfold uns; exact ⟨by omega, by omega⟩
def unsR (n j : Nat) : Rat := ((uns n j : Int) : Rat)
def lossV (qs : List Rat) (a b : Rat) (n : Nat) : Rat := a * wsum qs (over n) qs.length + b * rsum qs (unsR n) qs.length
theorem egLoss (args : Array Value) (w : World) : (callFunc 36 args).run Tryz.prog w = .ok (.enter 36 args) w := by
  go_simp
set_option maxHeartbeats 16000000 in
set_option maxRecDepth 100000 in
set_option linter.unusedSimpArgs false in
theorem loss1_any (x n : Nat) (p : Nat) (hx : x ≤ 1000) (hn : n ≤ 1000) (w : World) (hc : w.cell? ⟨p, 0, none⟩ = some (.int .i64 (n : Int))) :
    Calls Tryz.prog 36 #[.int .i64 (x : Int), .pointer (some ⟨p, 0, none⟩)] w fun e w' => ∃ v, e = .returned v ∧ RatIs w' v (unsR n x) ∧ Below w.heap.size w w' := by
  have hp := World.block_lt_of_cell? w _ hc
  have hX := BoxIs.new (w := w) (t := zTri) (q := 0) (rat_zero _)
  have hb0 := alloc_below w (.cells #[.bool false, .slice none 0 0, .slice none 0 0] 29)
  obtain ⟨W0, hW0⟩ : ∃ W, w.alloc (.cells #[.bool false, .slice none 0 0, .slice none 0 0] 29) = W := ⟨_, rfl⟩
  have hX' : BoxIs W0 w.heap.size zTri 0 := by rw [← hW0]; exact hX
  rw [hW0] at hb0
  have hc0 : W0.cell? ⟨p, 0, none⟩ = some (.int .i64 (n : Int)) := by rw [hb0.cell (p := ⟨p, 0, none⟩) hp]; exact hc
  have HX : Hid (∀ W, Below W0.heap.size W0 W → BoxIs W w.heap.size zTri 0) := fun W hW => hX'.keep hW
  have HB : Hid (∀ W, Below W0.heap.size W0 W → Below w.heap.size w W) := fun W hW => below_step hb0 hW
  have HG : Hid (w.heap.size ≤ w.heap.size) := Nat.le_refl _
  have hu := uns_I64 (n := n) (j := x) hn
  have C1 := hide (whole_any (uns n x) hu.1 hu.2 W0)
  have f1 : IntKind.i64.wrap ((n : Int) - (x : Int)) = (n : Int) - (x : Int) := by rw [IntKind.wrap_i64]; omega
  have HU : Hid (uns n x = uns n x) := rfl
  clear hp hX hX' hb0 hc hu
  go_enter Tryz.func36, Tryz.ntmps36
  go_wp2_with fail
  clear hW0
  refine (unhide C1).mono ?_
  rintro e w3 ⟨v3, rfl, hv3, hb3⟩
  obtain ⟨t, rfl, hr3⟩ := tri_of hv3
  simp only [Tri.val]
  have Y := unhide HX _ hb3
  have ⟨l0, l1, l2⟩ := Y.free
  have ⟨y0, y1, y2⟩ := Y.cells _ (Below.refl _ _)
  have FIN := Y.set hr3
  have FB := (((unhide HB _ hb3).setCell (p := ⟨w.heap.size, 0, none⟩) (unhide HG) (.bool t.s)).setCell (p := ⟨w.heap.size, 1, none⟩) (unhide HG) (.slice t.a1 t.n1 t.c1)).setCell (p := ⟨w.heap.size, 2, none⟩) (unhide HG) (.slice t.a2 t.n2 t.c2)
  obtain ⟨Wf, hWf⟩ : ∃ W, ((w3.setCell ⟨w.heap.size, 0, none⟩ (.bool t.s)).setCell ⟨w.heap.size, 1, none⟩ (.slice t.a1 t.n1 t.c1)).setCell ⟨w.heap.size, 2, none⟩ (.slice t.a2 t.n2 t.c2) = W := ⟨_, rfl⟩
  rw [hWf] at FIN FB
  have HFIN := hide FIN
  have HFB := hide FB
  clear Y FIN FB
  have ⟨x0, x1, x2⟩ := (unhide HFIN).cells _ (Below.refl _ _)
  clear hv3 hr3 hb3 C1
  go_wp2
  exact bodyPost_ret (v := .agg #[.bool t.s, .slice t.a1 t.n1 t.c1, .slice t.a2 t.n2 t.c2]) (by simp [results, Tryz.results36, go_sem, x0, x1, x2]) rfl ⟨_, rfl, (unhide HFIN).2, unhide HFB⟩

set_option maxHeartbeats 16000000 in
set_option maxRecDepth 100000 in
set_option linter.unusedSimpArgs false in
theorem loss_any (v vl vf : Value) (qs : List Rat) (a b : Rat) (n : Nat) (w : World) (h : LawIs w v qs) (hl : RatIs w vl a) (hf : RatIs w vf b) (hq : ∀ j, j < qs.length → RS qs[j]! 1) (ha : RS a 1) (hb : RS b 1) (hc : chk qs = 0) (hn : n ≤ 100) :
    Calls Tryz.prog 14 #[v, vl, vf, .int .i64 (n : Int)] w fun e w' => ∃ v, e = .returned (.tuple #[v, .nilIface]) ∧ RatIs w' v (lossV qs a b n) ∧ Below w.heap.size w w' := by
  obtain ⟨hc1, hc2, _, _⟩ := chk_zero hc
  have KKe : KK = 1099511627776 := rfl
  obtain ⟨tl, rfl, hl'⟩ := tri_of hl
  obtain ⟨tf, rfl, hf'⟩ := tri_of hf
  have b1 := alloc_below w (.cells #[.bool tl.s, .slice tl.a1 tl.n1 tl.c1, .slice tl.a2 tl.n2 tl.c2] 29)
  have X0 := BoxIs.new hl'
  obtain ⟨W1, hW1⟩ : ∃ W, w.alloc (.cells #[.bool tl.s, .slice tl.a1 tl.n1 tl.c1, .slice tl.a2 tl.n2 tl.c2] 29) = W := ⟨_, rfl⟩
  obtain ⟨g1, hg1⟩ : ∃ g, w.heap.size + 1 = g := ⟨_, rfl⟩
  have s1 : W1.heap.size = g1 := by rw [← hW1, alloc_size, hg1]
  rw [hW1] at b1 X0
  have b2 := alloc_below W1 (.cells #[.bool tf.s, .slice tf.a1 tf.n1 tf.c1, .slice tf.a2 tf.n2 tf.c2] 29)
  have X1 := BoxIs.new (hf'.below b1)
  obtain ⟨W2, hW2⟩ : ∃ W, W1.alloc (.cells #[.bool tf.s, .slice tf.a1 tf.n1 tf.c1, .slice tf.a2 tf.n2 tf.c2] 29) = W := ⟨_, rfl⟩
  obtain ⟨g2, hg2⟩ : ∃ g, g1 + 1 = g := ⟨_, rfl⟩
  have s2 : W2.heap.size = g2 := by rw [← hW2, alloc_size, s1, hg2]
  rw [hW2] at b2 X1
  rw [s1] at X1
  have b3 := alloc_below W2 (.cells #[.int .i64 (n : Int)] 3)
  have X2 := heap_alloc_new W2 (.cells #[.int .i64 (n : Int)] 3)
  obtain ⟨W3, hW3⟩ : ∃ W, W2.alloc (.cells #[.int .i64 (n : Int)] 3) = W := ⟨_, rfl⟩
  obtain ⟨g3, hg3⟩ : ∃ g, g2 + 1 = g := ⟨_, rfl⟩
  have s3 : W3.heap.size = g3 := by rw [← hW3, alloc_size, s2, hg3]
  rw [hW3] at b3 X2
  rw [s2] at X2
  have b4 := alloc_below W3 (.cells #[.bool false, .slice none 0 0, .slice none 0 0] 29)
  have X3 := BoxIs.new (w := W3) (t := zTri) (q := 0) (rat_zero _)
  obtain ⟨W4, hW4⟩ : ∃ W, W3.alloc (.cells #[.bool false, .slice none 0 0, .slice none 0 0] 29) = W := ⟨_, rfl⟩
  have X3' : BoxIs W4 g3 zTri 0 := by rw [← hW4, ← s3]; exact X3
  rw [hW4] at b4
  have X2' : W4.cell? ⟨g2, 0, none⟩ = some (.int .i64 (n : Int)) ∧ g2 < W4.heap.size := by
    have e := heap_kept X2 b4
    exact ⟨by simp [World.cell?, e], (Array.getElem?_eq_some_iff.1 e).1⟩
  have bb : Below w.heap.size w W4 := below_step (below_step (below_step b1 b2) b3) b4
  have Y0 := ((X0.keep b2).keep b3).keep b4
  have Y1 := (X1.keep b3).keep b4
  have HF : Hid (∀ W, Below W4.heap.size W4 W → BoxIs W w.heap.size tl a ∧ BoxIs W g1 tf b ∧ W.cell? ⟨g2, 0, none⟩ = some (.int .i64 (n : Int)) ∧ LawIs W v qs) := fun W hW => ⟨Y0.keep hW, Y1.keep hW, by rw [hW.cell (p := ⟨g2, 0, none⟩) X2'.2]; exact X2'.1, h.below (below_step bb hW)⟩
  have HX0 : Hid (∀ W, Below W4.heap.size W4 W → BoxIs W g3 zTri 0) := fun W hW => X3'.keep hW
  have HB0 : Hid (∀ W, Below W4.heap.size W4 W → Below w.heap.size w W) := fun W hW => below_step bb hW
  have HG3 : Hid (w.heap.size ≤ g3) := by show _ ≤ _; omega
  have C1 := hide (over_any v qs 1 n W4 (unhide HF _ (Below.refl _ _)).2.2.2 hq (by omega) hc hn)
  have HME : Hid (∀ W, Below W4.heap.size W4 W → Calls Tryz.prog 35 #[v, .func (.func 36) #[] #[.pointer (some ⟨g2, 0, none⟩)]] W fun e w' => ∃ v, e = .returned v ∧ RatIs w' v (rsum qs (unsR n) qs.length) ∧ Below W.heap.size W w') := fun W hW =>
    smean_any v qs 1 1 _ _ (unsR n) W (unhide HF _ hW).2.2.2 hq (by omega) (fun j _ => whole_RS (uns_I64 (by omega))) egLoss (fun j hj W' hW' => loss1_any j n g2 (by omega) (by omega) W' (unhide HF _ (below_step hW hW')).2.2.1)
  have HRA := hide (ha.mono (show 1 ≤ 500 by omega))
  have HRB := hide (hb.mono (show 1 ≤ 500 by omega))
  have rm := wsum_RS (F := over n) hq (fun j hj => over_I64 (by omega)) qs.length (Nat.le_refl _)
  have ru := rsum_RS (F := unsR n) (JF := 1) hq (fun j _ => whole_RS (uns_I64 (by omega))) qs.length (Nat.le_refl _)
  have HRM := hide (rm.mono (show qs.length * (1 + 2) + 1 ≤ 500 by omega))
  have HRU := hide (ru.mono (show qs.length * (1 + 1 + 1) + 1 ≤ 500 by omega))
  have HRP := hide ((ha.mul rm).mono (show 1 + (qs.length * (1 + 2) + 1) ≤ 500 by omega))
  have HRQ := hide ((hb.mul ru).mono (show 1 + (qs.length * (1 + 1 + 1) + 1) ≤ 500 by omega))
  have HKK : Hid (500 + 500 + 1 ≤ KK) := by show _ ≤ _; omega
  have k2 := X2'.1
  simp only [Tri.val]
  clear h hl hf hl' hf' hq ha hb hc hn rm ru b1 b2 b3 b4 bb X0 X1 X2 X3 X3' X2' Y0 Y1 hg1 hg2 hg3 hc1 hc2 KKe
  go_enter Tryz.func14, Tryz.ntmps14
  go_wp2_with fail
  clear hW1 hW2 hW3 hW4 s1 s2 s3
  refine (unhide C1).mono ?_
  rintro e w5 ⟨v5, rfl, hv5, hb5⟩
  obtain ⟨tm, rfl, hr5⟩ := tri_of hv5
  simp only [Tri.val]
  have hbm := below_step hb5 (alloc_below w5 (.cells #[.bool tm.s, .slice tm.a1 tm.n1 tm.c1, .slice tm.a2 tm.n2 tm.c2] 29))
  have XM := BoxIs.new hr5
  obtain ⟨Wm, hWm⟩ : ∃ W, w5.alloc (.cells #[.bool tm.s, .slice tm.a1 tm.n1 tm.c1, .slice tm.a2 tm.n2 tm.c2] 29) = W := ⟨_, rfl⟩
  obtain ⟨gm, hgm⟩ : ∃ g, w5.heap.size = g := ⟨_, rfl⟩
  rw [hWm] at hbm XM
  rw [hgm] at XM
  have HF2 : Hid (∀ W, Below Wm.heap.size Wm W → Below W4.heap.size W4 W ∧ BoxIs W gm tm (wsum qs (over n) qs.length)) := fun W hW => ⟨below_step hbm hW, XM.keep hW⟩
  have C2 := hide (unhide HME _ hbm)
  clear hv5 hr5 hb5 hbm XM C1 k2
  go_wp2_with fail
  clear hWm hgm
  refine (unhide C2).mono ?_
  rintro e w6 ⟨v6, rfl, hv6, hb6⟩
  obtain ⟨tu, rfl, hr6⟩ := tri_of hv6
  simp only [Tri.val]
  have hbu := below_step hb6 (alloc_below w6 (.cells #[.bool tu.s, .slice tu.a1 tu.n1 tu.c1, .slice tu.a2 tu.n2 tu.c2] 29))
  have XU := BoxIs.new hr6
  obtain ⟨Wu, hWu⟩ : ∃ W, w6.alloc (.cells #[.bool tu.s, .slice tu.a1 tu.n1 tu.c1, .slice tu.a2 tu.n2 tu.c2] 29) = W := ⟨_, rfl⟩
  obtain ⟨gu, hgu⟩ : ∃ g, w6.heap.size = g := ⟨_, rfl⟩
  rw [hWu] at hbu XU
  rw [hgu] at XU
  have HF3 : Hid (∀ W, Below Wu.heap.size Wu W → BoxIs W w.heap.size tl a ∧ BoxIs W g1 tf b ∧ Below W4.heap.size W4 W ∧ BoxIs W gm tm (wsum qs (over n) qs.length) ∧ BoxIs W gu tu (rsum qs (unsR n) qs.length)) := fun W hW => by
    have h1 := unhide HF2 W (below_step hbu hW)
    have h2 := unhide HF W h1.1
    exact ⟨h2.1, h2.2.1, h1.1, h1.2, XU.keep hW⟩
  have HX : Hid (∀ W, Below Wu.heap.size Wu W → BoxIs W g3 zTri 0) := fun W hW => unhide HX0 W (unhide HF3 W hW).2.2.1
  have HBB : Hid (∀ W, Below Wu.heap.size Wu W → Below w.heap.size w W) := fun W hW => unhide HB0 W (unhide HF3 W hW).2.2.1
  have HCC : Hid (∀ W, Below Wu.heap.size Wu W → (fun w' : World => (w'.cell? ⟨w.heap.size, 0, none⟩ = some (.bool tl.s) ∧ w'.cell? ⟨w.heap.size, 1, none⟩ = some (.slice tl.a1 tl.n1 tl.c1) ∧ w'.cell? ⟨w.heap.size, 2, none⟩ = some (.slice tl.a2 tl.n2 tl.c2)) ∧ (w'.cell? ⟨gm, 0, none⟩ = some (.bool tm.s) ∧ w'.cell? ⟨gm, 1, none⟩ = some (.slice tm.a1 tm.n1 tm.c1) ∧ w'.cell? ⟨gm, 2, none⟩ = some (.slice tm.a2 tm.n2 tm.c2)) ∧ (w'.cell? ⟨g1, 0, none⟩ = some (.bool tf.s) ∧ w'.cell? ⟨g1, 1, none⟩ = some (.slice tf.a1 tf.n1 tf.c1) ∧ w'.cell? ⟨g1, 2, none⟩ = some (.slice tf.a2 tf.n2 tf.c2)) ∧ (w'.cell? ⟨gu, 0, none⟩ = some (.bool tu.s) ∧ w'.cell? ⟨gu, 1, none⟩ = some (.slice tu.a1 tu.n1 tu.c1) ∧ w'.cell? ⟨gu, 2, none⟩ = some (.slice tu.a2 tu.n2 tu.c2))) W) := fun W hW => by
    have h3 := unhide HF3 W hW
    exact ⟨h3.1.cells _ (Below.refl _ _), h3.2.2.2.1.cells _ (Below.refl _ _), h3.2.1.cells _ (Below.refl _ _), h3.2.2.2.2.cells _ (Below.refl _ _)⟩
  clear hv6 hr6 hb6 hbu XU C2 HME HF HF2 HX0 HB0
  go_wp2_with fail
  clear hWu hgu
  refine wp_region_till (fun w' : World => (w'.cell? ⟨w.heap.size, 0, none⟩ = some (.bool tl.s) ∧ w'.cell? ⟨w.heap.size, 1, none⟩ = some (.slice tl.a1 tl.n1 tl.c1) ∧ w'.cell? ⟨w.heap.size, 2, none⟩ = some (.slice tl.a2 tl.n2 tl.c2)) ∧ (w'.cell? ⟨gm, 0, none⟩ = some (.bool tm.s) ∧ w'.cell? ⟨gm, 1, none⟩ = some (.slice tm.a1 tm.n1 tm.c1) ∧ w'.cell? ⟨gm, 2, none⟩ = some (.slice tm.a2 tm.n2 tm.c2)) ∧ (w'.cell? ⟨g1, 0, none⟩ = some (.bool tf.s) ∧ w'.cell? ⟨g1, 1, none⟩ = some (.slice tf.a1 tf.n1 tf.c1) ∧ w'.cell? ⟨g1, 2, none⟩ = some (.slice tf.a2 tf.n2 tf.c2)) ∧ (w'.cell? ⟨gu, 0, none⟩ = some (.bool tu.s) ∧ w'.cell? ⟨gu, 1, none⟩ = some (.slice tu.a1 tu.n1 tu.c1) ∧ w'.cell? ⟨gu, 2, none⟩ = some (.slice tu.a2 tu.n2 tu.c2))) 7 (by kernel_rfl) ?_
  have bd0 : Below Wu.heap.size Wu Wu.drew := (Below.refl _ _).drew
  have hC0 : (fun w' : World => (w'.cell? ⟨w.heap.size, 0, none⟩ = some (.bool tl.s) ∧ w'.cell? ⟨w.heap.size, 1, none⟩ = some (.slice tl.a1 tl.n1 tl.c1) ∧ w'.cell? ⟨w.heap.size, 2, none⟩ = some (.slice tl.a2 tl.n2 tl.c2)) ∧ (w'.cell? ⟨gm, 0, none⟩ = some (.bool tm.s) ∧ w'.cell? ⟨gm, 1, none⟩ = some (.slice tm.a1 tm.n1 tm.c1) ∧ w'.cell? ⟨gm, 2, none⟩ = some (.slice tm.a2 tm.n2 tm.c2)) ∧ (w'.cell? ⟨g1, 0, none⟩ = some (.bool tf.s) ∧ w'.cell? ⟨g1, 1, none⟩ = some (.slice tf.a1 tf.n1 tf.c1) ∧ w'.cell? ⟨g1, 2, none⟩ = some (.slice tf.a2 tf.n2 tf.c2)) ∧ (w'.cell? ⟨gu, 0, none⟩ = some (.bool tu.s) ∧ w'.cell? ⟨gu, 1, none⟩ = some (.slice tu.a1 tu.n1 tu.c1) ∧ w'.cell? ⟨gu, 2, none⟩ = some (.slice tu.a2 tu.n2 tu.c2))) Wu.drew := unhide HCC _ bd0
  refine wpTill_take (i := 0) (v := ?_) rfl (by kernel_rfl) (by kernel_rfl) (by kernel_rfl) (by kernel_rfl) (by kernel_rfl) (by kernel_rfl) (fun _ _ _ h => h) (Or.inl ⟨by rfl, ?_⟩) hC0 ?_
  rotate_left
  · intro w hSw; (try dsimp only at hSw); obtain ⟨⟨z0, z1, z2⟩, ⟨z3, z4, z5⟩, ⟨z6, z7, z8⟩, z9, z10, z11⟩ := hSw; go_simp; (try with_reducible rfl)
  (try simp only [List.getElem_toArray, List.getElem_cons_succ, List.getElem_cons_zero])
  (try simp only [Act.put, List.setIfInBounds_toArray, List.set_cons_zero, List.set_cons_succ])
  refine wpTill_take (i := 1) (v := ?_) rfl (by kernel_rfl) (by kernel_rfl) (by kernel_rfl) (by kernel_rfl) (by kernel_rfl) (by kernel_rfl) (fun _ _ _ h => h) (Or.inl ⟨by rfl, ?_⟩) hC0 ?_
  rotate_left
  · intro w hSw; (try dsimp only at hSw); obtain ⟨⟨z0, z1, z2⟩, ⟨z3, z4, z5⟩, ⟨z6, z7, z8⟩, z9, z10, z11⟩ := hSw; go_simp; (try with_reducible rfl)
  (try simp only [List.getElem_toArray, List.getElem_cons_succ, List.getElem_cons_zero])
  (try simp only [Act.put, List.setIfInBounds_toArray, List.set_cons_zero, List.set_cons_succ])
  refine wpTill_take (i := 3) (v := ?_) rfl (by kernel_rfl) (by kernel_rfl) (by kernel_rfl) (by kernel_rfl) (by kernel_rfl) (by kernel_rfl) (fun _ _ _ h => h) (Or.inl ⟨by rfl, ?_⟩) hC0 ?_
  rotate_left
  · intro w hSw; (try dsimp only at hSw); obtain ⟨⟨z0, z1, z2⟩, ⟨z3, z4, z5⟩, ⟨z6, z7, z8⟩, z9, z10, z11⟩ := hSw; go_simp; (try with_reducible rfl)
  (try simp only [List.getElem_toArray, List.getElem_cons_succ, List.getElem_cons_zero])
  (try simp only [Act.put, List.setIfInBounds_toArray, List.set_cons_zero, List.set_cons_succ])
  refine wpTill_take (i := 4) (v := ?_) rfl (by kernel_rfl) (by kernel_rfl) (by kernel_rfl) (by kernel_rfl) (by kernel_rfl) (by kernel_rfl) (fun _ _ _ h => h) (Or.inl ⟨by rfl, ?_⟩) hC0 ?_
  rotate_left
  · intro w hSw; (try dsimp only at hSw); obtain ⟨⟨z0, z1, z2⟩, ⟨z3, z4, z5⟩, ⟨z6, z7, z8⟩, z9, z10, z11⟩ := hSw; go_simp; (try with_reducible rfl)
  (try simp only [List.getElem_toArray, List.getElem_cons_succ, List.getElem_cons_zero])
  (try simp only [Act.put, List.setIfInBounds_toArray, List.set_cons_zero, List.set_cons_succ])
  refine wpTill_one (k := 2) (by kernel_rfl) rfl (fun K hK => ?_)
  (try simp only [List.getElem_toArray, List.getElem_cons_succ, List.getElem_cons_zero])
  go_simp
  refine (mulR_any _ _ _ _ _ ((unhide HF3 _ bd0).1.2) ((unhide HF3 _ bd0).2.2.2.1.2) 500 (unhide HRA) (unhide HRM) (unhide HKK)).mono ?_
  rintro e xw_1 ⟨xv_1, rfl, hv_1, hb_1⟩
  have cc_1 := below_step bd0 hb_1
  have hC_1 : (fun w' : World => (w'.cell? ⟨w.heap.size, 0, none⟩ = some (.bool tl.s) ∧ w'.cell? ⟨w.heap.size, 1, none⟩ = some (.slice tl.a1 tl.n1 tl.c1) ∧ w'.cell? ⟨w.heap.size, 2, none⟩ = some (.slice tl.a2 tl.n2 tl.c2)) ∧ (w'.cell? ⟨gm, 0, none⟩ = some (.bool tm.s) ∧ w'.cell? ⟨gm, 1, none⟩ = some (.slice tm.a1 tm.n1 tm.c1) ∧ w'.cell? ⟨gm, 2, none⟩ = some (.slice tm.a2 tm.n2 tm.c2)) ∧ (w'.cell? ⟨g1, 0, none⟩ = some (.bool tf.s) ∧ w'.cell? ⟨g1, 1, none⟩ = some (.slice tf.a1 tf.n1 tf.c1) ∧ w'.cell? ⟨g1, 2, none⟩ = some (.slice tf.a2 tf.n2 tf.c2)) ∧ (w'.cell? ⟨gu, 0, none⟩ = some (.bool tu.s) ∧ w'.cell? ⟨gu, 1, none⟩ = some (.slice tu.a1 tu.n1 tu.c1) ∧ w'.cell? ⟨gu, 2, none⟩ = some (.slice tu.a2 tu.n2 tu.c2))) xw_1 := unhide HCC _ cc_1
  refine hK.out _ _ (fun _ => hC_1) ?_
  clear hK K
  (try simp only [Act.put, List.setIfInBounds_toArray, List.set_cons_zero, List.set_cons_succ])
  refine wpTill_one (k := 5) (by kernel_rfl) rfl (fun K hK => ?_)
  (try simp only [List.getElem_toArray, List.getElem_cons_succ, List.getElem_cons_zero])
  go_simp
  refine (mulR_any _ _ _ _ _ ((unhide HF3 _ cc_1).2.1.2) ((unhide HF3 _ cc_1).2.2.2.2.2) 500 (unhide HRB) (unhide HRU) (unhide HKK)).mono ?_
  rintro e xw_2 ⟨xv_2, rfl, hv_2, hb_2⟩
  have cc_2 := below_step cc_1 hb_2
  have hC_2 : (fun w' : World => (w'.cell? ⟨w.heap.size, 0, none⟩ = some (.bool tl.s) ∧ w'.cell? ⟨w.heap.size, 1, none⟩ = some (.slice tl.a1 tl.n1 tl.c1) ∧ w'.cell? ⟨w.heap.size, 2, none⟩ = some (.slice tl.a2 tl.n2 tl.c2)) ∧ (w'.cell? ⟨gm, 0, none⟩ = some (.bool tm.s) ∧ w'.cell? ⟨gm, 1, none⟩ = some (.slice tm.a1 tm.n1 tm.c1) ∧ w'.cell? ⟨gm, 2, none⟩ = some (.slice tm.a2 tm.n2 tm.c2)) ∧ (w'.cell? ⟨g1, 0, none⟩ = some (.bool tf.s) ∧ w'.cell? ⟨g1, 1, none⟩ = some (.slice tf.a1 tf.n1 tf.c1) ∧ w'.cell? ⟨g1, 2, none⟩ = some (.slice tf.a2 tf.n2 tf.c2)) ∧ (w'.cell? ⟨gu, 0, none⟩ = some (.bool tu.s) ∧ w'.cell? ⟨gu, 1, none⟩ = some (.slice tu.a1 tu.n1 tu.c1) ∧ w'.cell? ⟨gu, 2, none⟩ = some (.slice tu.a2 tu.n2 tu.c2))) xw_2 := unhide HCC _ cc_2
  refine hK.out _ _ (fun _ => hC_2) ?_
  clear hK K
  (try simp only [Act.put, List.setIfInBounds_toArray, List.set_cons_zero, List.set_cons_succ])
  refine wpTill_one (k := 6) (by kernel_rfl) rfl (fun K hK => ?_)
  (try simp only [List.getElem_toArray, List.getElem_cons_succ, List.getElem_cons_zero])
  go_simp
  refine (addR_any _ _ _ _ _ (hv_1.below hb_2) hv_2 500 (unhide HRP) (unhide HRQ) (unhide HKK)).mono ?_
  rintro e xw_3 ⟨xv_3, rfl, hv_3, hb_3⟩
  have cc_3 := below_step cc_2 hb_3
  have hC_3 : (fun w' : World => (w'.cell? ⟨w.heap.size, 0, none⟩ = some (.bool tl.s) ∧ w'.cell? ⟨w.heap.size, 1, none⟩ = some (.slice tl.a1 tl.n1 tl.c1) ∧ w'.cell? ⟨w.heap.size, 2, none⟩ = some (.slice tl.a2 tl.n2 tl.c2)) ∧ (w'.cell? ⟨gm, 0, none⟩ = some (.bool tm.s) ∧ w'.cell? ⟨gm, 1, none⟩ = some (.slice tm.a1 tm.n1 tm.c1) ∧ w'.cell? ⟨gm, 2, none⟩ = some (.slice tm.a2 tm.n2 tm.c2)) ∧ (w'.cell? ⟨g1, 0, none⟩ = some (.bool tf.s) ∧ w'.cell? ⟨g1, 1, none⟩ = some (.slice tf.a1 tf.n1 tf.c1) ∧ w'.cell? ⟨g1, 2, none⟩ = some (.slice tf.a2 tf.n2 tf.c2)) ∧ (w'.cell? ⟨gu, 0, none⟩ = some (.bool tu.s) ∧ w'.cell? ⟨gu, 1, none⟩ = some (.slice tu.a1 tu.n1 tu.c1) ∧ w'.cell? ⟨gu, 2, none⟩ = some (.slice tu.a2 tu.n2 tu.c2))) xw_3 := unhide HCC _ cc_3
  refine hK.out _ _ (fun _ => hC_3) ?_
  clear hK K
  (try simp only [Act.put, List.setIfInBounds_toArray, List.set_cons_zero, List.set_cons_succ])
  obtain ⟨t5, rfl, r5⟩ := tri_of hv_3
  simp only [Tri.val]
  have Y := unhide HX _ cc_3
  have ⟨l0, l1, l2⟩ := Y.free
  have ⟨y0, y1, y2⟩ := Y.cells _ (Below.refl _ _)
  have FIN := Y.set r5
  have FB := (((unhide HBB _ cc_3).setCell (p := ⟨g3, 0, none⟩) (unhide HG3) (.bool t5.s)).setCell (p := ⟨g3, 1, none⟩) (unhide HG3) (.slice t5.a1 t5.n1 t5.c1)).setCell (p := ⟨g3, 2, none⟩) (unhide HG3) (.slice t5.a2 t5.n2 t5.c2)
  obtain ⟨Wf, hWf⟩ : ∃ W, ((xw_3.setCell ⟨g3, 0, none⟩ (.bool t5.s)).setCell ⟨g3, 1, none⟩ (.slice t5.a1 t5.n1 t5.c1)).setCell ⟨g3, 2, none⟩ (.slice t5.a2 t5.n2 t5.c2) = W := ⟨_, rfl⟩
  rw [hWf] at FIN FB
  have HFIN := hide FIN
  have HFB := hide FB
  clear Y FIN FB
  clear r5 hv_1 hv_2 hv_3
  refine wpTill_one (k := 7) (by kernel_rfl) rfl (fun K hK => ?_)
  (try simp only [List.getElem_toArray, List.getElem_cons_succ, List.getElem_cons_zero])
  go_simp
  refine hK.out _ _ (fun h => absurd (h.symm.trans (by kernel_rfl)) Bool.false_ne_true) ?_
  clear hK K
  (try simp only [Act.put, List.setIfInBounds_toArray, List.set_cons_zero, List.set_cons_succ])
  refine wpTill_one (k := 8) (by kernel_rfl) rfl (fun K hK => ?_)
  (try simp only [List.getElem_toArray, List.getElem_cons_succ, List.getElem_cons_zero])
  go_simp
  refine hK.out _ _ (fun h => absurd (h.symm.trans (by kernel_rfl)) Bool.false_ne_true) ?_
  clear hK K
  (try simp only [Act.put, List.setIfInBounds_toArray, List.set_cons_zero, List.set_cons_succ])
  refine wpTill_done (by kernel_rfl) ?_ _
  have ⟨x0, x1, x2⟩ := (unhide HFIN).cells _ (Below.refl _ _)
  clear l0 l1 l2 y0 y1 y2 hWf hC0 hC_1 hC_2 hC_3 cc_1 cc_2 cc_3 bd0 hb_1 hb_2 hb_3
  go_wp2
  exact bodyPost_ret (v := .tuple #[.agg #[.bool t5.s, .slice t5.a1 t5.n1 t5.c1, .slice t5.a2 t5.n2 t5.c2], .nilIface]) (by simp [results, Tryz.results14, go_sem, x0, x1, x2]) rfl ⟨_, rfl, (unhide HFIN).2, unhide HFB⟩
end Go.Proofs.YtjadhoembmenkaaGreatDoor
