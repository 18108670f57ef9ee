/- What it costs to have so much there, by the program. -/
import Derived.Test.YtohkmkoklhnnlaaGreatDoorO1
import Derived.Test.YtohkmkoklhnnlaaGreatDoorM41
namespace Go.Proofs.YtohkmkoklhnnlaaGreatDoor
open Go.RowKit Go.Sort Go.Shelf

/-- A shop's box. -/
def ShopAt (W : World) (g : Nat) (v : Value) (F E L S : Int) : Prop := W.heap[g]? = some (.cells #[v, .int .i64 F, .int .i64 E, .int .i64 L, .int .i64 S] 28)
theorem ShopAt.keep {W W' : World} {g : Nat} {v : Value} {F E L S : Int} (h : ShopAt W g v F E L S) (hb : Below W.heap.size W W') : ShopAt W' g v F E L S := heap_kept h hb
theorem ShopAt.cells {W : World} {g : Nat} {v : Value} {F E L S : Int} (h : ShopAt W g v F E L S) : W.cell? ⟨g, 0, none⟩ = some v ∧ W.cell? ⟨g, 1, none⟩ = some (.int .i64 F) ∧ W.cell? ⟨g, 2, none⟩ = some (.int .i64 E) ∧ W.cell? ⟨g, 3, none⟩ = some (.int .i64 L) ∧ W.cell? ⟨g, 4, none⟩ = some (.int .i64 S) := by
  unfold ShopAt at h
  simp [World.cell?, h]
/-- A box of one cell. -/
def OneAt (W : World) (g : Nat) (x : Value) (T : TypeId) : Prop := W.heap[g]? = some (.cells #[x] T)
theorem OneAt.keep {W W' : World} {g : Nat} {x : Value} {T : TypeId} (h : OneAt W g x T) (hb : Below W.heap.size W W') : OneAt W' g x T := heap_kept h hb
theorem OneAt.cell {W : World} {g : Nat} {x : Value} {T : TypeId} (h : OneAt W g x T) : W.cell? ⟨g, 0, none⟩ = some x := by
  unfold OneAt at h
  simp [World.cell?, h]
def cvI (L S y : Int) (j : Nat) : Int := L * max (y - (j : Int)) 0 + S * max ((j : Int) - y) 0
def bhR (B : Int → Rat) (L S y : Int) (j : Nat) : Rat := ((cvI L S y j : Int) : Rat) + B (y - (j : Int))
def havV (qs : List Rat) (B : Int → Rat) (L S y : Int) : Rat := rsum qs (bhR B L S y) qs.length
theorem mulB {a b A C : Int} (h1 : 0 ≤ a) (h2 : a ≤ A) (h3 : 0 ≤ b) (h4 : b ≤ C) : 0 ≤ a * b ∧ a * b ≤ A * C := ⟨Int.mul_nonneg h1 h3, Int.mul_le_mul h2 h4 h3 (by omega)⟩
theorem cvI_bd {L S y : Int} {j : Nat} (hL : 0 ≤ L ∧ L ≤ 1000) (hS : 0 ≤ S ∧ S ≤ 1000) (hy : -40 ≤ y ∧ y ≤ 40) (hj : j ≤ 101) : 0 ≤ cvI L S y j ∧ cvI L S y j ≤ 400000 := by
  have h1 := mulB hL.1 hL.2 (show 0 ≤ max (y - (j : Int)) 0 by omega) (show max (y - (j : Int)) 0 ≤ 150 by omega)
  have h2 := mulB hS.1 hS.2 (show 0 ≤ max ((j : Int) - y) 0 by omega) (show max ((j : Int) - y) 0 ≤ 150 by omega)
  unfold cvI
  omega
theorem egHav (args : Array Value) (w : World) : (callFunc 57 args).run Tryz.prog w = .ok (.enter 57 args) w := by
  go_simp
theorem egZer (args : Array Value) (w : World) : (callFunc 16 args).run Tryz.prog w = .ok (.enter 16 args) w := by
  go_simp
set_option maxHeartbeats 16000000 in
set_option maxRecDepth 100000 in
set_option linter.unusedSimpArgs false in
theorem zer_any (x : Int) (w : World) : Calls Tryz.prog 16 #[.int .i64 x] w fun e w' => ∃ v, e = .returned v ∧ RatIs w' v 0 ∧ Below w.heap.size w w' := by
  have hX := BoxIs.new (w := w) (t := zTri) (q := 0) (rat_zero _)
  have hb0 := alloc_below w (.cells #[.bool false, .slice none 0 0, .slice none 0 0] 40)
  obtain ⟨W0, hW0⟩ : ∃ W, w.alloc (.cells #[.bool false, .slice none 0 0, .slice none 0 0] 40) = W := ⟨_, rfl⟩
  have Y : BoxIs W0 w.heap.size zTri 0 := by rw [← hW0]; exact hX
  rw [hW0] at hb0
  have ⟨l0, l1, l2⟩ := Y.free
  have ⟨y0, y1, y2⟩ := Y.cells _ (Below.refl _ _)
  have FIN := Y.set (t' := zTri) (q' := 0) (rat_zero _)
  have FB := ((hb0.setCell (p := ⟨w.heap.size, 0, none⟩) (Nat.le_refl _) (.bool false)).setCell (p := ⟨w.heap.size, 1, none⟩) (Nat.le_refl _) (.slice none 0 0)).setCell (p := ⟨w.heap.size, 2, none⟩) (Nat.le_refl _) (.slice none 0 0)
  obtain ⟨Wf, hWf⟩ : ∃ W, ((W0.setCell ⟨w.heap.size, 0, none⟩ (.bool false)).setCell ⟨w.heap.size, 1, none⟩ (.slice none 0 0)).setCell ⟨w.heap.size, 2, none⟩ (.slice none 0 0) = W := ⟨_, rfl⟩
  have FIN' : BoxIs Wf w.heap.size zTri 0 := by rw [← hWf]; exact FIN
  rw [hWf] at FB
  have HFB := hide FB
  have HFIN := hide FIN'
  have ⟨x0, x1, x2⟩ := FIN'.cells _ (Below.refl _ _)
  clear hX hb0 Y FIN FIN' FB
  go_enter Tryz.func16, Tryz.ntmps16
  go_wp2
  exact bodyPost_ret (v := .agg #[.bool false, .slice none 0 0, .slice none 0 0]) (by simp [results, Tryz.results16, go_sem, x0, x1, x2, zTri]) rfl ⟨_, rfl, (unhide HFIN).2, unhide HFB⟩
set_option maxHeartbeats 16000000 in
set_option maxRecDepth 100000 in
set_option linter.unusedSimpArgs false in
theorem hav1_any (qy gs gb : Nat) (v : Value) (F E L S y : Int) (j : Nat) (fk : Nat) (bd : Array Value) (B : Int → Rat) (JB : Nat) (w : World) (hs : ShopAt w gs v F E L S) (hq : OneAt w qy (.int .i64 y) 3) (hg : w.cell? ⟨gb, 0, none⟩ = some (.func (.func fk) #[] bd))
    (hL : 0 ≤ L ∧ L ≤ 1000) (hS : 0 ≤ S ∧ S ≤ 1000) (hy : -40 ≤ y ∧ y ≤ 40) (hj : j ≤ 101) (heg : ∀ args w, (callFunc fk args).run Tryz.prog w = .ok (.enter fk args) w) (hBR : RS (B (y - (j : Int))) JB) (hJB : 4 * JB + 100 ≤ KK)
    (hB : ∀ W, Below w.heap.size w W → Calls Tryz.prog fk (#[.int .i64 (y - (j : Int))] ++ bd) W fun e w' => ∃ v, e = .returned v ∧ RatIs w' v (B (y - (j : Int))) ∧ Below W.heap.size W w') :
    Calls Tryz.prog 57 #[.int .i64 (j : Int), .pointer (some ⟨qy, 0, none⟩), .pointer (some ⟨gs, 0, none⟩), .pointer (some ⟨gb, 0, none⟩)] w fun e w' => ∃ v, e = .returned v ∧ RatIs w' v (bhR B L S y j) ∧ Below w.heap.size w w' := by
  have hX := BoxIs.new (w := w) (t := zTri) (q := 0) (rat_zero _)
  have hb0 := alloc_below w (.cells #[.bool false, .slice none 0 0, .slice none 0 0] 40)
  obtain ⟨W0, hW0⟩ : ∃ W, w.alloc (.cells #[.bool false, .slice none 0 0, .slice none 0 0] 40) = W := ⟨_, rfl⟩
  have Y : BoxIs W0 w.heap.size zTri 0 := by rw [← hW0]; exact hX
  rw [hW0] at hb0
  have hgl := World.block_lt_of_cell? w _ hg
  have HCC : Hid (∀ W, Below W0.heap.size W0 W → (fun w' : World => w'.cell? ⟨gs, 3, none⟩ = some (.int .i64 L) ∧ w'.cell? ⟨gs, 4, none⟩ = some (.int .i64 S) ∧ w'.cell? ⟨gb, 0, none⟩ = some (.func (.func fk) #[] bd)) W) := fun W hW => by
    have h1 := ((hs.keep hb0).keep hW).cells
    exact ⟨h1.2.2.2.1, h1.2.2.2.2, by rw [(below_step hb0 hW).cell (p := ⟨gb, 0, none⟩) hgl]; exact hg⟩
  have HX : Hid (∀ W, Below W0.heap.size W0 W → BoxIs W w.heap.size zTri 0) := fun W hW => Y.keep hW
  have HBB : Hid (∀ W, Below W0.heap.size W0 W → Below w.heap.size w W) := fun W hW => below_step hb0 hW
  have HG : Hid (w.heap.size ≤ w.heap.size) := Nat.le_refl _
  have k0 := (hq.keep hb0).cell
  have hcb := cvI_bd (y := y) (j := j) hL hS hy hj
  have hci : I64 (cvI L S y j) := ⟨by omega, by omega⟩
  have HR1 := hide ((whole_RS hci).mono (show 1 ≤ JB + 5 by omega))
  have HR2 := hide (hBR.mono (show JB ≤ JB + 5 by omega))
  have HKK : Hid (JB + 5 + (JB + 5) + 1 ≤ KK) := by show _ ≤ _; omega
  obtain ⟨r, hr⟩ : ∃ r, y - (j : Int) = r := ⟨_, rfl⟩
  have f0 : IntKind.i64.wrap (y - (j : Int)) = r := by rw [hr, IntKind.wrap_i64]; omega
  have HBH : Hid (∀ W, Below W0.heap.size W0 W → Calls Tryz.prog fk (#[.int .i64 r] ++ bd) W fun e w' => ∃ v, e = .returned v ∧ RatIs w' v (B (y - (j : Int))) ∧ Below W.heap.size W w') := fun W hW => by
    have := hB W (below_step hb0 hW)
    rw [hr] at this ⊢
    exact this
  have hm1 := mulB hL.1 hL.2 (show 0 ≤ max r 0 by omega) (show max r 0 ≤ 150 by omega)
  have hm2 := mulB hS.1 hS.2 (show 0 ≤ max (-r) 0 by omega) (show max (-r) 0 ≤ 150 by omega)
  have ecv : cvI L S y j = L * max r 0 + S * max (-r) 0 := by unfold cvI; rw [hr, show (j : Int) - y = -r by omega]
  obtain ⟨nr, hnr⟩ : ∃ z, -r = z := ⟨_, rfl⟩
  have f1 : IntKind.i64.wrap (-r) = nr := by rw [hnr, IntKind.wrap_i64]; omega
  rw [hnr] at ecv hm2
  obtain ⟨m1, hm1e⟩ : ∃ z, L * max r 0 = z := ⟨_, rfl⟩
  obtain ⟨m2, hm2e⟩ : ∃ z, S * max nr 0 = z := ⟨_, rfl⟩
  obtain ⟨p, hp⟩ : ∃ z, m1 + m2 = z := ⟨_, rfl⟩
  rw [hm1e] at hm1 ecv
  rw [hm2e] at hm2 ecv
  rw [hp] at ecv
  have f2 : IntKind.i64.wrap (L * max r 0) = m1 := by rw [hm1e, IntKind.wrap_i64]; omega
  have f3 : IntKind.i64.wrap (S * max nr 0) = m2 := by rw [hm2e, IntKind.wrap_i64]; omega
  have f4 : IntKind.i64.wrap (m1 + m2) = p := by rw [hp, IntKind.wrap_i64]; omega
  have HWH : Hid (∀ W, Calls Tryz.prog 10 #[.int .i64 p] W fun e w' => ∃ v, e = .returned v ∧ RatIs w' v ((cvI L S y j : Int) : Rat) ∧ Below W.heap.size W w') := fun W => by rw [ecv]; exact whole_any p (by omega) (by omega) W
  clear hX hb0 Y hgl hs hq hg hL hS hy hj hBR hJB hB hcb hci hr hm1 hm2 ecv hm1e hm2e hp hnr
  go_enter Tryz.func57, Tryz.ntmps57
  go_wp2_with fail
  clear hW0
  refine wp_region_till (fun w' : World => w'.cell? ⟨gs, 3, none⟩ = some (.int .i64 L) ∧ w'.cell? ⟨gs, 4, none⟩ = some (.int .i64 S) ∧ w'.cell? ⟨gb, 0, none⟩ = some (.func (.func fk) #[] bd)) 17 (by kernel_rfl) ?_
  have bd0 : Below W0.heap.size W0 W0.drew := (Below.refl _ _).drew
  have hC0 : (fun w' : World => w'.cell? ⟨gs, 3, none⟩ = some (.int .i64 L) ∧ w'.cell? ⟨gs, 4, none⟩ = some (.int .i64 S) ∧ w'.cell? ⟨gb, 0, none⟩ = some (.func (.func fk) #[] bd)) W0.drew := unhide HCC _ bd0
  refine wpTill_pure (i := 0) (v := ?_) rfl (by kernel_rfl) (by kernel_rfl) (by kernel_rfl) (by kernel_rfl) (fun _ _ _ h => h) (Or.inl ⟨by rfl, ?_⟩) (fun _ => hC0) ?_
  rotate_left
  · intro w hSw; clear hSw; go_simp; (try with_reducible rfl)
  (try simp only [List.getElem_toArray, List.getElem_cons_succ, List.getElem_cons_zero])
  (try simp only [Act.put, List.setIfInBounds_toArray, List.set_cons_zero, List.set_cons_succ])
  refine wpTill_take (i := 1) (v := ?_) rfl (by kernel_rfl) (by kernel_rfl) (by kernel_rfl) (by kernel_rfl) (by kernel_rfl) (by kernel_rfl) (fun _ _ _ h => h) (Or.inl ⟨by rfl, ?_⟩) hC0 ?_
  rotate_left
  · intro w hSw; (try dsimp only at hSw); obtain ⟨z0, z1, z2⟩ := hSw; go_simp; (try with_reducible rfl)
  (try simp only [List.getElem_toArray, List.getElem_cons_succ, List.getElem_cons_zero])
  (try simp only [Act.put, List.setIfInBounds_toArray, List.set_cons_zero, List.set_cons_succ])
  refine wpTill_pure (i := 2) (v := ?_) rfl (by kernel_rfl) (by kernel_rfl) (by kernel_rfl) (by kernel_rfl) (fun _ _ _ h => h) (Or.inl ⟨by rfl, ?_⟩) (fun _ => hC0) ?_
  rotate_left
  · intro w hSw; clear hSw; go_simp; (try with_reducible rfl)
  (try simp only [List.getElem_toArray, List.getElem_cons_succ, List.getElem_cons_zero])
  (try simp only [Act.put, List.setIfInBounds_toArray, List.set_cons_zero, List.set_cons_succ])
  refine wpTill_pure (i := 3) (v := ?_) rfl (by kernel_rfl) (by kernel_rfl) (by kernel_rfl) (by kernel_rfl) (fun _ _ _ h => h) (Or.inl ⟨by rfl, ?_⟩) (fun _ => hC0) ?_
  rotate_left
  · intro w hSw; clear hSw; go_simp; (try with_reducible rfl)
  (try simp only [List.getElem_toArray, List.getElem_cons_succ, List.getElem_cons_zero])
  (try simp only [Act.put, List.setIfInBounds_toArray, List.set_cons_zero, List.set_cons_succ])
  refine wpTill_pure (i := 4) (v := ?_) rfl (by kernel_rfl) (by kernel_rfl) (by kernel_rfl) (by kernel_rfl) (fun _ _ _ h => h) (Or.inl ⟨by rfl, ?_⟩) (fun _ => hC0) ?_
  rotate_left
  · intro w hSw; clear hSw; go_simp; (try with_reducible rfl)
  (try simp only [List.getElem_toArray, List.getElem_cons_succ, List.getElem_cons_zero])
  (try simp only [Act.put, List.setIfInBounds_toArray, List.set_cons_zero, List.set_cons_succ])
  refine wpTill_pure (i := 5) (v := ?_) rfl (by kernel_rfl) (by kernel_rfl) (by kernel_rfl) (by kernel_rfl) (fun _ _ _ h => h) (Or.inl ⟨by rfl, ?_⟩) (fun _ => hC0) ?_
  rotate_left
  · intro w hSw; clear hSw; go_simp; (try with_reducible rfl)
  (try simp only [List.getElem_toArray, List.getElem_cons_succ, List.getElem_cons_zero])
  (try simp only [Act.put, List.setIfInBounds_toArray, List.set_cons_zero, List.set_cons_succ])
  refine wpTill_take (i := 6) (v := ?_) rfl (by kernel_rfl) (by kernel_rfl) (by kernel_rfl) (by kernel_rfl) (by kernel_rfl) (by kernel_rfl) (fun _ _ _ h => h) (Or.inl ⟨by rfl, ?_⟩) hC0 ?_
  rotate_left
  · intro w hSw; (try dsimp only at hSw); obtain ⟨z0, z1, z2⟩ := hSw; go_simp; (try with_reducible rfl)
  (try simp only [List.getElem_toArray, List.getElem_cons_succ, List.getElem_cons_zero])
  (try simp only [Act.put, List.setIfInBounds_toArray, List.set_cons_zero, List.set_cons_succ])
  refine wpTill_pure (i := 7) (v := ?_) rfl (by kernel_rfl) (by kernel_rfl) (by kernel_rfl) (by kernel_rfl) (fun _ _ _ h => h) (Or.inl ⟨by rfl, ?_⟩) (fun _ => hC0) ?_
  rotate_left
  · intro w hSw; clear hSw; go_simp; (try with_reducible rfl)
  (try simp only [List.getElem_toArray, List.getElem_cons_succ, List.getElem_cons_zero])
  (try simp only [Act.put, List.setIfInBounds_toArray, List.set_cons_zero, List.set_cons_succ])
  refine wpTill_pure (i := 8) (v := ?_) rfl (by kernel_rfl) (by kernel_rfl) (by kernel_rfl) (by kernel_rfl) (fun _ _ _ h => h) (Or.inl ⟨by rfl, ?_⟩) (fun _ => hC0) ?_
  rotate_left
  · intro w hSw; clear hSw; go_simp; (try with_reducible rfl)
  (try simp only [List.getElem_toArray, List.getElem_cons_succ, List.getElem_cons_zero])
  (try simp only [Act.put, List.setIfInBounds_toArray, List.set_cons_zero, List.set_cons_succ])
  refine wpTill_pure (i := 9) (v := ?_) rfl (by kernel_rfl) (by kernel_rfl) (by kernel_rfl) (by kernel_rfl) (fun _ _ _ h => h) (Or.inl ⟨by rfl, ?_⟩) (fun _ => hC0) ?_
  rotate_left
  · intro w hSw; clear hSw; go_simp; (try with_reducible rfl)
  (try simp only [List.getElem_toArray, List.getElem_cons_succ, List.getElem_cons_zero])
  (try simp only [Act.put, List.setIfInBounds_toArray, List.set_cons_zero, List.set_cons_succ])
  refine wpTill_pure (i := 10) (v := ?_) rfl (by kernel_rfl) (by kernel_rfl) (by kernel_rfl) (by kernel_rfl) (fun _ _ _ h => h) (Or.inl ⟨by rfl, ?_⟩) (fun _ => hC0) ?_
  rotate_left
  · intro w hSw; clear hSw; go_simp; (try with_reducible rfl)
  (try simp only [List.getElem_toArray, List.getElem_cons_succ, List.getElem_cons_zero])
  (try simp only [Act.put, List.setIfInBounds_toArray, List.set_cons_zero, List.set_cons_succ])
  refine wpTill_pure (i := 11) (v := ?_) rfl (by kernel_rfl) (by kernel_rfl) (by kernel_rfl) (by kernel_rfl) (fun _ _ _ h => h) (Or.inl ⟨by rfl, ?_⟩) (fun _ => hC0) ?_
  rotate_left
  · intro w hSw; clear hSw; go_simp; (try with_reducible rfl)
  (try simp only [List.getElem_toArray, List.getElem_cons_succ, List.getElem_cons_zero])
  (try simp only [Act.put, List.setIfInBounds_toArray, List.set_cons_zero, List.set_cons_succ])
  refine wpTill_take (i := 13) (v := ?_) rfl (by kernel_rfl) (by kernel_rfl) (by kernel_rfl) (by kernel_rfl) (by kernel_rfl) (by kernel_rfl) (fun _ _ _ h => h) (Or.inl ⟨by rfl, ?_⟩) hC0 ?_
  rotate_left
  · intro w hSw; (try dsimp only at hSw); obtain ⟨z0, z1, z2⟩ := hSw; go_simp; (try with_reducible rfl)
  (try simp only [List.getElem_toArray, List.getElem_cons_succ, List.getElem_cons_zero])
  (try simp only [Act.put, List.setIfInBounds_toArray, List.set_cons_zero, List.set_cons_succ])
  refine wpTill_pure (i := 14) (v := ?_) rfl (by kernel_rfl) (by kernel_rfl) (by kernel_rfl) (by kernel_rfl) (fun _ _ _ h => h) (Or.inl ⟨by rfl, ?_⟩) (fun _ => hC0) ?_
  rotate_left
  · intro w hSw; clear hSw; go_simp; (try with_reducible rfl)
  (try simp only [List.getElem_toArray, List.getElem_cons_succ, List.getElem_cons_zero])
  (try simp only [Act.put, List.setIfInBounds_toArray, List.set_cons_zero, List.set_cons_succ])
  refine wpTill_one (k := 12) (by kernel_rfl) rfl (fun K hK => ?_)
  (try simp only [List.getElem_toArray, List.getElem_cons_succ, List.getElem_cons_zero])
  go_simp
  refine (unhide HWH W0.drew).mono ?_
  rintro e xw_1 ⟨xv_1, rfl, hv_1, hb_1⟩
  have cc_1 := below_step bd0 hb_1
  have hC_1 : (fun w' : World => w'.cell? ⟨gs, 3, none⟩ = some (.int .i64 L) ∧ w'.cell? ⟨gs, 4, none⟩ = some (.int .i64 S) ∧ w'.cell? ⟨gb, 0, none⟩ = some (.func (.func fk) #[] bd)) xw_1 := unhide HCC _ cc_1
  refine hK.out _ _ (fun _ => hC_1) ?_
  clear hK K
  (try simp only [Act.put, List.setIfInBounds_toArray, List.set_cons_zero, List.set_cons_succ])
  refine wpTill_one (k := 15) (by kernel_rfl) rfl (fun K hK => ?_)
  (try simp only [List.getElem_toArray, List.getElem_cons_succ, List.getElem_cons_zero])
  go_simp
  refine (unhide HBH _ cc_1).mono ?_
  rintro e xw_2 ⟨xv_2, rfl, hv_2, hb_2⟩
  have cc_2 := below_step cc_1 hb_2
  have hC_2 : (fun w' : World => w'.cell? ⟨gs, 3, none⟩ = some (.int .i64 L) ∧ w'.cell? ⟨gs, 4, none⟩ = some (.int .i64 S) ∧ w'.cell? ⟨gb, 0, none⟩ = some (.func (.func fk) #[] bd)) xw_2 := unhide HCC _ cc_2
  refine hK.out _ _ (fun _ => hC_2) ?_
  clear hK K
  (try simp only [Act.put, List.setIfInBounds_toArray, List.set_cons_zero, List.set_cons_succ])
  refine wpTill_one (k := 16) (by kernel_rfl) rfl (fun K hK => ?_)
  (try simp only [List.getElem_toArray, List.getElem_cons_succ, List.getElem_cons_zero])
  go_simp
  refine (addR_any _ _ _ _ _ (hv_1.below hb_2) hv_2 _ (unhide HR1) (unhide HR2) (unhide HKK)).mono ?_
  rintro e xw_3 ⟨xv_3, rfl, hv_3, hb_3⟩
  have cc_3 := below_step cc_2 hb_3
  have hC_3 : (fun w' : World => w'.cell? ⟨gs, 3, none⟩ = some (.int .i64 L) ∧ w'.cell? ⟨gs, 4, none⟩ = some (.int .i64 S) ∧ w'.cell? ⟨gb, 0, none⟩ = some (.func (.func fk) #[] bd)) xw_3 := unhide HCC _ cc_3
  refine hK.out _ _ (fun _ => hC_3) ?_
  clear hK K
  (try simp only [Act.put, List.setIfInBounds_toArray, List.set_cons_zero, List.set_cons_succ])
  obtain ⟨t5, rfl, r5⟩ := tri_of hv_3
  simp only [Tri.val]
  have Y := unhide HX _ cc_3
  have ⟨l0, l1, l2⟩ := Y.free
  have ⟨y0, y1, y2⟩ := Y.cells _ (Below.refl _ _)
  have FIN := Y.set r5
  have FB := (((unhide HBB _ cc_3).setCell (p := ⟨w.heap.size, 0, none⟩) (unhide HG) (.bool t5.s)).setCell (p := ⟨w.heap.size, 1, none⟩) (unhide HG) (.slice t5.a1 t5.n1 t5.c1)).setCell (p := ⟨w.heap.size, 2, none⟩) (unhide HG) (.slice t5.a2 t5.n2 t5.c2)
  obtain ⟨Wf, hWf⟩ : ∃ W, ((xw_3.setCell ⟨w.heap.size, 0, none⟩ (.bool t5.s)).setCell ⟨w.heap.size, 1, none⟩ (.slice t5.a1 t5.n1 t5.c1)).setCell ⟨w.heap.size, 2, none⟩ (.slice t5.a2 t5.n2 t5.c2) = W := ⟨_, rfl⟩
  rw [hWf] at FIN FB
  have HFIN := hide FIN
  have HFB := hide FB
  clear Y FIN FB
  clear r5 hv_1 hv_2 hv_3
  refine wpTill_one (k := 17) (by kernel_rfl) rfl (fun K hK => ?_)
  (try simp only [List.getElem_toArray, List.getElem_cons_succ, List.getElem_cons_zero])
  go_simp
  refine hK.out _ _ (fun h => absurd (h.symm.trans (by kernel_rfl)) Bool.false_ne_true) ?_
  clear hK K
  (try simp only [Act.put, List.setIfInBounds_toArray, List.set_cons_zero, List.set_cons_succ])
  refine wpTill_done (by kernel_rfl) ?_ _
  have ⟨x0, x1, x2⟩ := (unhide HFIN).cells _ (Below.refl _ _)
  clear l0 l1 l2 y0 y1 y2 hWf hC0 hC_1 hC_2 hC_3 cc_1 cc_2 cc_3 bd0 hb_1 hb_2 hb_3
  go_wp2
  exact bodyPost_ret (v := .agg #[.bool t5.s, .slice t5.a1 t5.n1 t5.c1, .slice t5.a2 t5.n2 t5.c2]) (by simp [results, Tryz.results57, go_sem, x0, x1, x2]) rfl ⟨_, rfl, (unhide HFIN).2, unhide HFB⟩
end Go.Proofs.YtohkmkoklhnnlaaGreatDoor
