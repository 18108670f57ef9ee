/- Wait, Load. -/
import Derived.Test.YtbboacmjbffmhaaDoorS5
import Derived.Test.YtbboacmjbffmhaaDoorV2
namespace Go.Proofs.YtbboacmjbffmhaaDoor
open Go.RowKit Go.Sort Go.Shelf

theorem chain_one_any {P : Program} {ops : Array Oper} {Q : Exit → Act → World → Prop} {C : World → Prop} {md : Region.Mode} (N : Nat) (mk : Nat → Bool → Array Bool) (ic : Nat → Nat) (ia m : Nat) (I : Nat → Bool → Act → World → Prop)
    (hr : ∀ c l, c ≤ N → (Region.ready md ops (mk c l)).all (fun i => (i == ic c && decide (c < N)) || (i == ia && !l) || (c == N && l)) = true)
    (hne : ∀ c l, c ≤ N → (c == N && l) = false → (Region.ready md ops (mk c l)).isEmpty = false)
    (h1 : ∀ c l, c < N → (mk c l).setIfInBounds (ic c) true = mk (c + 1) l) (ha : ∀ c, (mk c false).setIfInBounds ia true = mk c true)
    (s1 : ∀ c l a w, c < N → I c l a w → wpOp P ops Q (ic c) (fun a' w' => C w' ∧ I (c + 1) l a' w') a w)
    (sa : ∀ c a w, I c false a w → wpOp P ops Q ia (fun a' w' => C w' ∧ I c true a' w') a w)
    (fin : ∀ a w, I N true a w → wpHold P md ops Q C m (mk N true) a w) :
    ∀ n c l, c ≤ N → (N - c) + (1 - l.toNat) = n → ∀ a w, I c l a w → wpHold P md ops Q C (n + m) (mk c l) a w := by
  intro n
  induction n with
  | zero =>
    intro c l hc hn a w h
    obtain rfl : c = N := by omega
    cases l <;> simp at hn
    rw [Nat.zero_add]
    exact fin a w h
  | succ n ih =>
    intro c l hc hn a w h
    have hall := hr c l hc
    have hend : (c == N && l) = false := by
      cases l <;> simp at hn ⊢
      omega
    have hnn := hne c l hc hend
    rw [Nat.succ_add]
    refine ⟨fun e => (by rw [e] at hnn; cases hnn), fun i hi => ?_⟩
    have hk := List.all_eq_true.1 hall i hi
    rw [hend] at hk
    simp only [Bool.or_eq_true, Bool.and_eq_true, beq_iff_eq, Bool.not_eq_true', Bool.or_false, decide_eq_true_eq] at hk
    rcases hk with ⟨rfl, hlt⟩ | ⟨rfl, rfl⟩
    · exact wpOp_mono (fun a' w' h' => ⟨h'.1, by rw [h1 c l hlt]; exact ih (c + 1) l (by omega) (by omega) a' w' h'.2⟩) (s1 c l a w hlt h)
    · exact wpOp_mono (fun a' w' h' => ⟨h'.1, by rw [ha]; exact ih c true hc (by simp at hn ⊢; omega) a' w' h'.2⟩) (sa c a w h)

/-- A fraction, and a box. -/
structure OneJ (q1 : Rat) (w0 : World) (c : Nat) (l : Bool) (w : World) (s1 s3 : Value) : Prop where
  bl : Below w0.heap.size w0 w
  r1 : 1 ≤ c → RatIs w s1 q1
  al : l = true → ∃ b, s3 = .pointer (some ⟨b, 0, none⟩) ∧ BoxIs w b zTri 0 ∧ w0.heap.size ≤ b

def WaitPost (w : World) (ks : List (Rat × List Rat)) (e : Ending) (w' : World) : Prop :=
  (FitC ks ∧ ∃ v, e = .returned (.tuple #[v, .nilIface]) ∧ RatIs w' v (waitC ks) ∧ Below w.heap.size w w') ∨
  (¬ FitC ks ∧ ∃ k : Int, e = .returned (.tuple #[zAgg, .iface 71 (.int .i64 k)]) ∧ Below w.heap.size w w')
def LoadPost (w : World) (ks : List (Rat × List Rat)) (e : Ending) (w' : World) : Prop :=
  (GoodC ks ∧ ∃ v, e = .returned (.tuple #[v, .nilIface]) ∧ RatIs w' v (Bth.ps (ldC ks) ks.length) ∧ Below w.heap.size w w') ∨
  (¬ GoodC ks ∧ ∃ k : Int, e = .returned (.tuple #[zAgg, .iface 71 (.int .i64 k)]) ∧ Below w.heap.size w w')

set_option maxHeartbeats 8000000 in
set_option maxRecDepth 100000 in
set_option linter.unusedSimpArgs false in
theorem wait_any (v : Value) (ks : List (Rat × List Rat)) (w : World) (h : ClassesAre w v ks) (sm : SmC ks) (hl : ks.length ≤ 6) :
    Calls Tryd.prog 6 #[v] w (WaitPost w ks) := by
  have KKe : KK = 1099511627776 := rfl
  have bA := alloc_below w (.cells #[.bool false, .slice none 0 0, .slice none 0 0] 33)
  have HAH := hide (ahead_any v ks _ (h.below bA) sm hl)
  have X0 := BoxIs.new (w := w) (t := zTri) (q := 0) (rat_zero _)
  obtain ⟨W0, hW0⟩ : ∃ W, w.alloc (.cells #[.bool false, .slice none 0 0, .slice none 0 0] 33) = W := ⟨_, rfl⟩
  rw [show w.alloc (.cells #[.bool zTri.s, .slice zTri.a1 zTri.n1 zTri.c1, .slice zTri.a2 zTri.n2 zTri.c2] 33) = W0 from hW0] at X0
  obtain ⟨gr, hgr⟩ : ∃ g, w.heap.size = g := ⟨_, rfl⟩
  rw [hW0] at HAH bA
  rw [hgr] at X0
  have HX := hide X0
  have HB0 := hide bA
  have HLE : Hid (w.heap.size ≤ gr) := by show _ ≤ _; omega
  have HSM := hide sm
  obtain ⟨a, c, rfl, h1, h2, h3⟩ := h
  clear h3 sm bA X0
  go_enter Tryd.func6, Tryd.ntmps6
  go_wp2_with fail
  clear hW0 hgr
  refine (unhide HAH).mono ?_
  rintro e w1 (⟨hg, vm, vl, vh, rfl, hm, hvl, hvh, hb1⟩ | ⟨hng, k, rfl, hb1⟩)
  rotate_left
  · have HNG := hide hng
    have X2 := (unhide HX).keep hb1
    have ⟨g0, g1, g2, f0, f1, f2⟩ := box_cell X2.1
    have BEL := hide ((((below_step (unhide HB0) hb1).setCell (p := ⟨gr, 0, none⟩) (unhide HLE) (.bool false)).setCell (p := ⟨gr, 1, none⟩) (unhide HLE) (.slice none 0 0)).setCell (p := ⟨gr, 2, none⟩) (unhide HLE) (.slice none 0 0))
    clear X2 hb1 hng HAH
    go_wp2
    exact bodyPost_ret (v := .tuple #[zAgg, .iface 71 (.int .i64 k)]) (by simp [results, Tryd.results6, go_sem, g0, g1, g2, zAgg]) rfl (Or.inr ⟨unhide HNG, k, rfl, unhide BEL⟩)
  have HFIT := hide hg
  have HVm := hide hm
  obtain ⟨am, cm, rfl, m1, m2, m3⟩ := hm
  rw [row_length] at m1 m3 ⊢
  have Hm3 := hide m3
  clear m3
  have HVl := hide hvl
  obtain ⟨al, cl, rfl, l1, l2, l3⟩ := hvl
  rw [row_length] at l1 l3 ⊢
  have Hl3 := hide l3
  clear l3
  have HVh := hide hvh
  obtain ⟨ah, ch, rfl, h1, h2, h3⟩ := hvh
  rw [row_length] at h1 h3 ⊢
  have Hh3 := hide h3
  clear h3
  have HX1 := hide ((unhide HX).keep hb1)
  have HB1 := hide (below_step (unhide HB0) hb1)
  clear hg hb1 HX HB0 HAH
  obtain ⟨bl, ol, rfl, hbl, hcl⟩ := unhide Hl3 (by omega)
  obtain ⟨bh, oh, rfl, hbh, hch⟩ := unhide Hh3 (by omega)
  obtain ⟨xs, xp1, xp2, xn1, xd1, xn2, xd2, xk0, xk1, xk2, xr⟩ := hcl ks.length (by omega)
  obtain ⟨tl, rfl, rfl, rfl, rfl, rfl, rfl, rfl⟩ : ∃ t : Tri, xs = t.s ∧ xp1 = t.a1 ∧ xp2 = t.a2 ∧ xn1 = t.n1 ∧ xd1 = t.c1 ∧ xn2 = t.n2 ∧ xd2 = t.c2 := ⟨⟨xs, xp1, xp2, xn1, xd1, xn2, xd2⟩, rfl, rfl, rfl, rfl, rfl, rfl, rfl⟩
  obtain ⟨ys, yp1, yp2, yn1, yd1, yn2, yd2, yk0, yk1, yk2, yr⟩ := hch ks.length (by omega)
  obtain ⟨th, rfl, rfl, rfl, rfl, rfl, rfl, rfl⟩ : ∃ t : Tri, ys = t.s ∧ yp1 = t.a1 ∧ yp2 = t.a2 ∧ yn1 = t.n1 ∧ yd1 = t.c1 ∧ yn2 = t.n2 ∧ yd2 = t.c2 := ⟨⟨ys, yp1, yp2, yn1, yd1, yn2, yd2⟩, rfl, rfl, rfl, rfl, rfl, rfl, rfl⟩
  rw [row_get (by omega)] at xr yr
  have HRL := hide xr
  have HRH := hide yr
  have HCC : Hid (∀ W, Below w1.heap.size w1 W → (fun w' : World => (w'.cell? ⟨bh, oh + ks.length * 3, none⟩ = some (.bool th.s) ∧ w'.cell? ⟨bh, oh + ks.length * 3 + 1, none⟩ = some (.slice th.a1 th.n1 th.c1) ∧ w'.cell? ⟨bh, oh + ks.length * 3 + 2, none⟩ = some (.slice th.a2 th.n2 th.c2)) ∧ (w'.cell? ⟨bl, ol + ks.length * 3, none⟩ = some (.bool tl.s) ∧ w'.cell? ⟨bl, ol + ks.length * 3 + 1, none⟩ = some (.slice tl.a1 tl.n1 tl.c1) ∧ w'.cell? ⟨bl, ol + ks.length * 3 + 2, none⟩ = some (.slice tl.a2 tl.n2 tl.c2))) W) := fun W hW => by
    constructor
    · rw [hW.cell (p := ⟨bh, oh + ks.length * 3, none⟩) hbh, hW.cell (p := ⟨bh, oh + ks.length * 3 + 1, none⟩) hbh, hW.cell (p := ⟨bh, oh + ks.length * 3 + 2, none⟩) hbh]; exact ⟨yk0, yk1, yk2⟩
    · rw [hW.cell (p := ⟨bl, ol + ks.length * 3, none⟩) hbl, hW.cell (p := ⟨bl, ol + ks.length * 3 + 1, none⟩) hbl, hW.cell (p := ⟨bl, ol + ks.length * 3 + 2, none⟩) hbl]; exact ⟨xk0, xk1, xk2⟩
  have HDV : Hid (∀ W, Below w1.heap.size w1 W → Calls Tryd.prog 21 #[.agg #[.bool th.s, .slice th.a1 th.n1 th.c1, .slice th.a2 th.n2 th.c2], .agg #[.bool tl.s, .slice tl.a1 tl.n1 tl.c1, .slice tl.a2 tl.n2 tl.c2]] W fun e w' => ∃ v, e = .returned v ∧ RatIs w' v (waitC ks) ∧ Below W.heap.size W w') := fun W hW => sdivided_any th.val tl.val _ _ W ((unhide HRH).below hW) ((unhide HRL).below hW) 300 ((hfC_RS (unhide HSM) ks.length (Nat.le_refl _)).mono (by omega)) ((lfC_RS (unhide HSM) ks.length (Nat.le_refl _)).mono (by omega)) (by rw [KKe]; omega) (num_of_pos (unhide HFIT).2)
  have q1 : (ks.length : Int) < (ks.length : Int) + 1 := by omega
  have q2 : (0 : Int) ≤ (ks.length : Int) := by omega
  clear xr yr xk0 xk1 xk2 yk0 yk1 yk2 hcl hch
  go_wp2_with fail
  refine wp_region_till (fun w' : World => (w'.cell? ⟨bh, oh + ks.length * 3, none⟩ = some (.bool th.s) ∧ w'.cell? ⟨bh, oh + ks.length * 3 + 1, none⟩ = some (.slice th.a1 th.n1 th.c1) ∧ w'.cell? ⟨bh, oh + ks.length * 3 + 2, none⟩ = some (.slice th.a2 th.n2 th.c2)) ∧ (w'.cell? ⟨bl, ol + ks.length * 3, none⟩ = some (.bool tl.s) ∧ w'.cell? ⟨bl, ol + ks.length * 3 + 1, none⟩ = some (.slice tl.a1 tl.n1 tl.c1) ∧ w'.cell? ⟨bl, ol + ks.length * 3 + 2, none⟩ = some (.slice tl.a2 tl.n2 tl.c2))) 11 (by kernel_rfl) ?_
  have bd0 : Below w1.heap.size w1 w1.drew := (Below.refl _ _).drew
  have hC0 : (fun w' : World => (w'.cell? ⟨bh, oh + ks.length * 3, none⟩ = some (.bool th.s) ∧ w'.cell? ⟨bh, oh + ks.length * 3 + 1, none⟩ = some (.slice th.a1 th.n1 th.c1) ∧ w'.cell? ⟨bh, oh + ks.length * 3 + 2, none⟩ = some (.slice th.a2 th.n2 th.c2)) ∧ (w'.cell? ⟨bl, ol + ks.length * 3, none⟩ = some (.bool tl.s) ∧ w'.cell? ⟨bl, ol + ks.length * 3 + 1, none⟩ = some (.slice tl.a1 tl.n1 tl.c1) ∧ w'.cell? ⟨bl, ol + ks.length * 3 + 2, none⟩ = some (.slice tl.a2 tl.n2 tl.c2))) w1.drew := unhide HCC _ bd0
  refine wpTill_pure (i := 0) (v := ?_) rfl (by kernel_rfl) (by kernel_rfl) (by kernel_rfl) (by kernel_rfl) (fun _ _ _ h => h) (Or.inl ⟨by rfl, ?_⟩) (fun _ => hC0) ?_
  rotate_left
  · intro w hSw; clear hSw; go_simp; (try with_reducible rfl)
  (try simp only [List.getElem_toArray, List.getElem_cons_succ, List.getElem_cons_zero])
  (try simp only [Act.put, List.setIfInBounds_toArray, List.set_cons_zero, List.set_cons_succ])
  refine wpTill_pure (i := 1) (v := ?_) rfl (by kernel_rfl) (by kernel_rfl) (by kernel_rfl) (by kernel_rfl) (fun _ _ _ h => h) (Or.inl ⟨by rfl, ?_⟩) (fun _ => hC0) ?_
  rotate_left
  · intro w hSw; clear hSw; go_simp; (try with_reducible rfl)
  (try simp only [List.getElem_toArray, List.getElem_cons_succ, List.getElem_cons_zero])
  (try simp only [Act.put, List.setIfInBounds_toArray, List.set_cons_zero, List.set_cons_succ])
  refine wpTill_pure (i := 2) (v := ?_) rfl (by kernel_rfl) (by kernel_rfl) (by kernel_rfl) (by kernel_rfl) (fun _ _ _ h => h) (Or.inl ⟨by rfl, ?_⟩) (fun _ => hC0) ?_
  rotate_left
  · intro w hSw; clear hSw; go_simp; (try with_reducible rfl)
  (try simp only [List.getElem_toArray, List.getElem_cons_succ, List.getElem_cons_zero])
  (try simp only [Act.put, List.setIfInBounds_toArray, List.set_cons_zero, List.set_cons_succ])
  refine wpTill_pure (i := 3) (v := ?_) rfl (by kernel_rfl) (by kernel_rfl) (by kernel_rfl) (by kernel_rfl) (fun _ _ _ h => h) (Or.inl ⟨by rfl, ?_⟩) (fun _ => hC0) ?_
  rotate_left
  · intro w hSw; clear hSw; go_simp; (try with_reducible rfl)
  (try simp only [List.getElem_toArray, List.getElem_cons_succ, List.getElem_cons_zero])
  (try simp only [Act.put, List.setIfInBounds_toArray, List.set_cons_zero, List.set_cons_succ])
  refine wpTill_take (i := 4) (v := ?_) rfl (by kernel_rfl) (by kernel_rfl) (by kernel_rfl) (by kernel_rfl) (by kernel_rfl) (by kernel_rfl) (fun _ _ _ h => h) (Or.inl ⟨by rfl, ?_⟩) hC0 ?_
  rotate_left
  · intro w hSw; (try dsimp only at hSw); obtain ⟨⟨z0, z1, z2⟩, z3, z4, z5⟩ := hSw; go_simp; (try with_reducible rfl)
  (try simp only [List.getElem_toArray, List.getElem_cons_succ, List.getElem_cons_zero])
  (try simp only [Act.put, List.setIfInBounds_toArray, List.set_cons_zero, List.set_cons_succ])
  refine wpTill_pure (i := 5) (v := ?_) rfl (by kernel_rfl) (by kernel_rfl) (by kernel_rfl) (by kernel_rfl) (fun _ _ _ h => h) (Or.inl ⟨by rfl, ?_⟩) (fun _ => hC0) ?_
  rotate_left
  · intro w hSw; clear hSw; go_simp; (try with_reducible rfl)
  (try simp only [List.getElem_toArray, List.getElem_cons_succ, List.getElem_cons_zero])
  (try simp only [Act.put, List.setIfInBounds_toArray, List.set_cons_zero, List.set_cons_succ])
  refine wpTill_pure (i := 6) (v := ?_) rfl (by kernel_rfl) (by kernel_rfl) (by kernel_rfl) (by kernel_rfl) (fun _ _ _ h => h) (Or.inl ⟨by rfl, ?_⟩) (fun _ => hC0) ?_
  rotate_left
  · intro w hSw; clear hSw; go_simp; (try with_reducible rfl)
  (try simp only [List.getElem_toArray, List.getElem_cons_succ, List.getElem_cons_zero])
  (try simp only [Act.put, List.setIfInBounds_toArray, List.set_cons_zero, List.set_cons_succ])
  refine wpTill_pure (i := 7) (v := ?_) rfl (by kernel_rfl) (by kernel_rfl) (by kernel_rfl) (by kernel_rfl) (fun _ _ _ h => h) (Or.inl ⟨by rfl, ?_⟩) (fun _ => hC0) ?_
  rotate_left
  · intro w hSw; clear hSw; go_simp; (try with_reducible rfl)
  (try simp only [List.getElem_toArray, List.getElem_cons_succ, List.getElem_cons_zero])
  (try simp only [Act.put, List.setIfInBounds_toArray, List.set_cons_zero, List.set_cons_succ])
  refine wpTill_pure (i := 8) (v := ?_) rfl (by kernel_rfl) (by kernel_rfl) (by kernel_rfl) (by kernel_rfl) (fun _ _ _ h => h) (Or.inl ⟨by rfl, ?_⟩) (fun _ => hC0) ?_
  rotate_left
  · intro w hSw; clear hSw; go_simp; (try with_reducible rfl)
  (try simp only [List.getElem_toArray, List.getElem_cons_succ, List.getElem_cons_zero])
  (try simp only [Act.put, List.setIfInBounds_toArray, List.set_cons_zero, List.set_cons_succ])
  refine wpTill_take (i := 9) (v := ?_) rfl (by kernel_rfl) (by kernel_rfl) (by kernel_rfl) (by kernel_rfl) (by kernel_rfl) (by kernel_rfl) (fun _ _ _ h => h) (Or.inl ⟨by rfl, ?_⟩) hC0 ?_
  rotate_left
  · intro w hSw; (try dsimp only at hSw); obtain ⟨⟨z0, z1, z2⟩, z3, z4, z5⟩ := hSw; go_simp; (try with_reducible rfl)
  (try simp only [List.getElem_toArray, List.getElem_cons_succ, List.getElem_cons_zero])
  (try simp only [Act.put, List.setIfInBounds_toArray, List.set_cons_zero, List.set_cons_succ])
  refine wpTill_one (k := 10) (by kernel_rfl) rfl (fun K hK => ?_)
  (try simp only [List.getElem_toArray, List.getElem_cons_succ, List.getElem_cons_zero])
  go_simp
  refine (unhide HDV _ bd0).mono ?_
  rintro e xw_1 ⟨xv_1, rfl, hv_1, hb_1⟩
  have cc_1 := below_step bd0 hb_1
  have hC_1 : (fun w' : World => (w'.cell? ⟨bh, oh + ks.length * 3, none⟩ = some (.bool th.s) ∧ w'.cell? ⟨bh, oh + ks.length * 3 + 1, none⟩ = some (.slice th.a1 th.n1 th.c1) ∧ w'.cell? ⟨bh, oh + ks.length * 3 + 2, none⟩ = some (.slice th.a2 th.n2 th.c2)) ∧ (w'.cell? ⟨bl, ol + ks.length * 3, none⟩ = some (.bool tl.s) ∧ w'.cell? ⟨bl, ol + ks.length * 3 + 1, none⟩ = some (.slice tl.a1 tl.n1 tl.c1) ∧ w'.cell? ⟨bl, ol + ks.length * 3 + 2, none⟩ = some (.slice tl.a2 tl.n2 tl.c2))) xw_1 := unhide HCC _ cc_1
  refine hK.out _ _ (fun _ => hC_1) ?_
  clear hK K
  (try simp only [Act.put, List.setIfInBounds_toArray, List.set_cons_zero, List.set_cons_succ])
  obtain ⟨tn, rfl, rn⟩ := tri_of hv_1
  simp only [Tri.val]
  have X8 := (unhide HX1).keep cc_1
  have ⟨l0, l1, l2⟩ := X8.free
  have ⟨y0, y1, y2⟩ := X8.cells _ (Below.refl _ _)
  have FX := X8.set rn
  have FB := (((below_step (unhide HB1) cc_1).setCell (p := ⟨gr, 0, none⟩) (unhide HLE) (.bool tn.s)).setCell (p := ⟨gr, 1, none⟩) (unhide HLE) (.slice tn.a1 tn.n1 tn.c1)).setCell (p := ⟨gr, 2, none⟩) (unhide HLE) (.slice tn.a2 tn.n2 tn.c2)
  obtain ⟨W9, hW9⟩ : ∃ W, ((xw_1.setCell ⟨gr, 0, none⟩ (.bool tn.s)).setCell ⟨gr, 1, none⟩ (.slice tn.a1 tn.n1 tn.c1)).setCell ⟨gr, 2, none⟩ (.slice tn.a2 tn.n2 tn.c2) = W := ⟨_, rfl⟩
  rw [hW9] at FX FB
  have ⟨x0, x1, x2⟩ := FX.cells _ (Below.refl _ _)
  have HFX := hide FX
  have HFB := hide FB
  clear X8 FX FB rn hv_1 hb_1
  refine wpTill_one (k := 11) (by kernel_rfl) rfl (fun K hK => ?_)
  (try simp only [List.getElem_toArray, List.getElem_cons_succ, List.getElem_cons_zero])
  go_simp
  refine hK.out _ _ (fun h => absurd (h.symm.trans (by kernel_rfl)) Bool.false_ne_true) ?_
  clear hK K
  (try simp only [Act.put, List.setIfInBounds_toArray, List.set_cons_zero, List.set_cons_succ])
  refine wpTill_one (k := 12) (by kernel_rfl) rfl (fun K hK => ?_)
  (try simp only [List.getElem_toArray, List.getElem_cons_succ, List.getElem_cons_zero])
  go_simp
  refine hK.out _ _ (fun h => absurd (h.symm.trans (by kernel_rfl)) Bool.false_ne_true) ?_
  clear hK K
  (try simp only [Act.put, List.setIfInBounds_toArray, List.set_cons_zero, List.set_cons_succ])
  refine wpTill_done (by kernel_rfl) ?_ _
  clear l0 l1 l2 y0 y1 y2 hW9 hC0 hC_1 cc_1 bd0 HCC HDV
  go_wp2
  exact bodyPost_ret (v := .tuple #[.agg #[.bool tn.s, .slice tn.a1 tn.n1 tn.c1, .slice tn.a2 tn.n2 tn.c2], .nilIface]) (by simp [results, Tryd.results6, go_sem, x0, x1, x2]) rfl (Or.inl ⟨unhide HFIT, _, rfl, (unhide HFX).2, unhide HFB⟩)

set_option maxHeartbeats 8000000 in
set_option maxRecDepth 100000 in
set_option linter.unusedSimpArgs false in
theorem load_any (v : Value) (ks : List (Rat × List Rat)) (w : World) (h : ClassesAre w v ks) (sm : SmC ks) (hl : ks.length ≤ 6) :
    Calls Tryd.prog 10 #[v] w (LoadPost w ks) := by
  have KKe : KK = 1099511627776 := rfl
  have bA := alloc_below w (.cells #[.bool false, .slice none 0 0, .slice none 0 0] 33)
  have HTI := hide (times_any v ks _ (h.below bA) sm hl)
  have X0 := BoxIs.new (w := w) (t := zTri) (q := 0) (rat_zero _)
  obtain ⟨W0, hW0⟩ : ∃ W, w.alloc (.cells #[.bool false, .slice none 0 0, .slice none 0 0] 33) = W := ⟨_, rfl⟩
  rw [show w.alloc (.cells #[.bool zTri.s, .slice zTri.a1 zTri.n1 zTri.c1, .slice zTri.a2 zTri.n2 zTri.c2] 33) = W0 from hW0] at X0
  obtain ⟨gr, hgr⟩ : ∃ g, w.heap.size = g := ⟨_, rfl⟩
  rw [hW0] at HTI bA
  rw [hgr] at X0
  have HX := hide X0
  have HB0 := hide bA
  have HV := hide h
  have HLE : Hid (w.heap.size ≤ gr) := by show _ ≤ _; omega
  have HSM := hide sm
  obtain ⟨a, c, rfl, h1, h2, h3⟩ := h
  clear h3 sm bA X0
  go_enter Tryd.func10, Tryd.ntmps10
  go_wp2_with fail
  clear hW0 hgr
  refine (unhide HTI).mono ?_
  rintro e w1 (⟨hg, vm, rfl, hm, hb1⟩ | ⟨hng, k, rfl, hb1⟩)
  rotate_left
  · have HNG := hide hng
    have X2 := (unhide HX).keep hb1
    have ⟨g0, g1, g2, f0, f1, f2⟩ := box_cell X2.1
    have BEL := hide ((((below_step (unhide HB0) hb1).setCell (p := ⟨gr, 0, none⟩) (unhide HLE) (.bool false)).setCell (p := ⟨gr, 1, none⟩) (unhide HLE) (.slice none 0 0)).setCell (p := ⟨gr, 2, none⟩) (unhide HLE) (.slice none 0 0))
    clear X2 hb1 hng HTI
    go_wp2
    exact bodyPost_ret (v := .tuple #[zAgg, .iface 71 (.int .i64 k)]) (by simp [results, Tryd.results10, go_sem, g0, g1, g2, zAgg]) rfl (Or.inr ⟨unhide HNG, k, rfl, unhide BEL⟩)
  have HGC := hide hg
  have HB1 := hide (below_step (unhide HB0) hb1)
  have HLO := hide (sloads_any _ vm ks w1 ((unhide HV).below (unhide HB1)) hm (unhide HSM) hl)
  have HX1 := hide ((unhide HX).keep hb1)
  obtain ⟨am, cm, rfl, m1, m2, m3⟩ := hm
  rw [row_length] at HLO ⊢
  clear hg hb1 HX HB0 HTI m1 m2 m3
  go_wp2_with fail
  refine (unhide HLO).mono ?_
  rintro e w2 ⟨D, ud, rfl, SD⟩
  have hud : ud.length = ks.length := by rw [SD.len, row_length]
  have LW := SD.law (by omega)
  rw [hud] at LW
  have hsu := sumR_any _ _ 41 w2 LW (fun j hj => by rw [row_length] at hj; rw [row_get hj]; exact ld_RS (unhide HSM) (by omega) hj) (by rw [row_length, KKe]; omega)
  rw [row_length, qsum_row _ _ _ (Nat.le_refl _)] at hsu
  have HSU := hide hsu
  have HX2 := hide ((unhide HX1).keep SD.bl)
  have HB2 := hide (below_step (unhide HB1) SD.bl)
  clear SD LW hsu hud HLO HX1 HB1
  go_wp2_with fail
  refine (unhide HSU).mono ?_
  rintro e w3 ⟨v3, rfl, hv3, hb3⟩
  obtain ⟨tn, rfl, rn⟩ := tri_of hv3
  simp only [Tri.val]
  have X8 := (unhide HX2).keep hb3
  have ⟨l0, l1, l2⟩ := X8.free
  have ⟨y0, y1, y2⟩ := X8.cells _ (Below.refl _ _)
  have FX := X8.set rn
  have FB := (((below_step (unhide HB2) hb3).setCell (p := ⟨gr, 0, none⟩) (unhide HLE) (.bool tn.s)).setCell (p := ⟨gr, 1, none⟩) (unhide HLE) (.slice tn.a1 tn.n1 tn.c1)).setCell (p := ⟨gr, 2, none⟩) (unhide HLE) (.slice tn.a2 tn.n2 tn.c2)
  obtain ⟨W9, hW9⟩ : ∃ W, ((w3.setCell ⟨gr, 0, none⟩ (.bool tn.s)).setCell ⟨gr, 1, none⟩ (.slice tn.a1 tn.n1 tn.c1)).setCell ⟨gr, 2, none⟩ (.slice tn.a2 tn.n2 tn.c2) = W := ⟨_, rfl⟩
  rw [hW9] at FX FB
  have ⟨x0, x1, x2⟩ := FX.cells _ (Below.refl _ _)
  have HFX := hide FX
  have HFB := hide FB
  clear X8 FX FB rn hv3 hb3 HSU HX2 HB2
  go_wp2
  exact bodyPost_ret (v := .tuple #[.agg #[.bool tn.s, .slice tn.a1 tn.n1 tn.c1, .slice tn.a2 tn.n2 tn.c2], .nilIface]) (by simp [results, Tryd.results10, go_sem, x0, x1, x2]) rfl (Or.inl ⟨unhide HGC, _, rfl, (unhide HFX).2, unhide HFB⟩)
end Go.Proofs.YtbboacmjbffmhaaDoor
