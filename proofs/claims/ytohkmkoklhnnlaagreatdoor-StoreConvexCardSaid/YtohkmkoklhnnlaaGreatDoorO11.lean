/- What a goal costs, by the program. -/
import Derived.Test.YtohkmkoklhnnlaaGreatDoorO10
namespace Go.Proofs.YtohkmkoklhnnlaaGreatDoor
open Go.RowKit Go.Sort Go.Shelf

set_option maxHeartbeats 16000000 in
set_option maxRecDepth 100000 in
set_option linter.unusedSimpArgs false in
theorem hav_any (v : Value) (F E L S : Int) (fk : Nat) (bd : Array Value) (B : Int → Rat) (JB : Nat) (qs : List Rat) (y : Int) (w : World) (h : LawIs w v qs) (hlen : qs.length ≤ 101) (hL : 0 ≤ L ∧ L ≤ 1000) (hS : 0 ≤ S ∧ S ≤ 1000) (hq : ∀ j, j < qs.length → RS qs[j]! 1) (heg : ∀ args w, (callFunc fk args).run Tryz.prog w = .ok (.enter fk args) w) (hBR : ∀ x : Int, -150 ≤ x → x ≤ 40 → RS (B x) JB) (hJB : JB ≤ 1000000) (hy : -40 ≤ y ∧ y ≤ 40) (hB : ∀ (x : Int), -150 ≤ x → x ≤ 40 → ∀ W, Below w.heap.size w W → Calls Tryz.prog fk (#[.int .i64 x] ++ bd) W fun e w' => ∃ v, e = .returned v ∧ RatIs w' v (B x) ∧ Below W.heap.size W w') :
    Calls Tryz.prog 37 #[.agg #[v, .int .i64 F, .int .i64 E, .int .i64 L, .int .i64 S], .int .i64 y, .func (.func fk) #[] bd] w fun e w' => ∃ v, e = .returned v ∧ RatIs w' v (havV qs B L S y) ∧ Below w.heap.size w w' := by
  have KKe : KK = 1099511627776 := rfl
  have HL := hide h
  obtain ⟨va, vc, rfl, hv1, hv2, _⟩ := h
  obtain ⟨v, hv⟩ : ∃ v, Value.slice va qs.length vc = v := ⟨_, rfl⟩
  rw [hv] at HL ⊢
  have b1 := alloc_below w (.cells #[v, .int .i64 F, .int .i64 E, .int .i64 L, .int .i64 S] 28)
  have X0 : ShopAt (w.alloc (.cells #[v, .int .i64 F, .int .i64 E, .int .i64 L, .int .i64 S] 28)) w.heap.size v F E L S := heap_alloc_new w _
  obtain ⟨W1, hW1⟩ : ∃ W, w.alloc (.cells #[v, .int .i64 F, .int .i64 E, .int .i64 L, .int .i64 S] 28) = W := ⟨_, rfl⟩
  obtain ⟨g1, s1⟩ : ∃ g, W1.heap.size = g := ⟨_, rfl⟩
  have z1 : w.heap.size + 1 = g1 := by rw [← s1, ← hW1, alloc_size]
  rw [hW1] at b1 X0
  have b2 := alloc_below W1 (.cells #[.int .i64 y] 3)
  have X1 : OneAt (W1.alloc (.cells #[.int .i64 y] 3)) W1.heap.size (.int .i64 y) 3 := heap_alloc_new W1 _
  obtain ⟨W2, hW2⟩ : ∃ W, W1.alloc (.cells #[.int .i64 y] 3) = W := ⟨_, rfl⟩
  obtain ⟨g2, s2⟩ : ∃ g, W2.heap.size = g := ⟨_, rfl⟩
  have z2 : g1 + 1 = g2 := by rw [← s2, ← hW2, alloc_size, s1]
  rw [hW2] at b2 X1
  rw [s1] at X1
  have b3 := alloc_below W2 (.cells #[.func (.func fk) #[] bd] 44)
  have X2 : OneAt (W2.alloc (.cells #[.func (.func fk) #[] bd] 44)) W2.heap.size (.func (.func fk) #[] bd) 44 := heap_alloc_new W2 _
  obtain ⟨W3, hW3⟩ : ∃ W, W2.alloc (.cells #[.func (.func fk) #[] bd] 44) = W := ⟨_, rfl⟩
  obtain ⟨g3, s3⟩ : ∃ g, W3.heap.size = g := ⟨_, rfl⟩
  have z3 : g2 + 1 = g3 := by rw [← s3, ← hW3, alloc_size, s2]
  rw [hW3] at b3 X2
  rw [s2] at X2
  have b4 := alloc_below W3 (.cells #[.bool false, .slice none 0 0, .slice none 0 0] 40)
  have X3 := BoxIs.new (w := W3) (t := zTri) (q := 0) (rat_zero _)
  obtain ⟨W4, hW4⟩ : ∃ W, W3.alloc (.cells #[.bool false, .slice none 0 0, .slice none 0 0] 40) = W := ⟨_, rfl⟩
  have X3' : BoxIs W4 g3 zTri 0 := by rw [← hW4, ← s3]; exact X3
  rw [hW4] at b4
  have bb : Below w.heap.size w W4 := below_step (below_step (below_step b1 b2) b3) b4
  have Y0 := ((X0.keep b2).keep b3).keep b4
  have Y1 := (X1.keep b3).keep b4
  have Y2 := X2.keep b4
  have HX : Hid (∀ W, Below W4.heap.size W4 W → BoxIs W g3 zTri 0) := fun W hW => X3'.keep hW
  have HBB : Hid (∀ W, Below W4.heap.size W4 W → Below w.heap.size w W) := fun W hW => below_step bb hW
  have HG : Hid (w.heap.size ≤ g3) := by show _ ≤ _; omega
  have C1 := hide (smean_any v qs 1 (JB + 2) 57 #[.pointer (some ⟨g1, 0, none⟩), .pointer (some ⟨w.heap.size, 0, none⟩), .pointer (some ⟨g2, 0, none⟩)] (bhR B L S y) W4 ((unhide HL).below bb) hq (by have := Nat.mul_le_mul hlen (show 1 + (JB + 2) + 1 ≤ 1000004 by omega); omega)
    (fun j hj => by have hc := cvI_bd (y := y) (j := j) hL hS hy (by omega); exact ((whole_RS ⟨by omega, by omega⟩).add (hBR (y - (j : Int)) (by omega) (by omega))).mono (by omega)) egHav
    (fun j hj W hW => hav1_any g1 w.heap.size g2 v F E L S y j fk bd B JB W (Y0.keep hW) (Y1.keep hW) (Y2.keep hW).cell hL hS hy (by omega) heg (hBR _ (by omega) (by omega)) (by omega) (fun W' hW' => hB _ (by omega) (by omega) W' (below_step (below_step bb hW) hW'))))
  have c0 := Y0.cells.1
  have HV := hide hv
  clear hv HL hlen hL hS hq hBR hJB hB hy b1 b2 b3 b4 bb X0 X1 X2 X3 X3' Y0 Y1 Y2 z1 z2 z3 KKe hv1 hv2
  go_enter Tryz.func37, Tryz.ntmps37
  go_wp2_with fail
  clear hW1 hW2 hW3 hW4 s1 s2 s3
  refine (unhide C1).mono ?_
  rintro e w5 ⟨v5, rfl, hv5, hb5⟩
  obtain ⟨t5, rfl, r5⟩ := tri_of hv5
  simp only [Tri.val]
  have Y := unhide HX _ hb5
  have ⟨l0, l1, l2⟩ := Y.free
  have ⟨y0, y1, y2⟩ := Y.cells _ (Below.refl _ _)
  have FIN := Y.set r5
  have FB := (((unhide HBB _ hb5).setCell (p := ⟨g3, 0, none⟩) (unhide HG) (.bool t5.s)).setCell (p := ⟨g3, 1, none⟩) (unhide HG) (.slice t5.a1 t5.n1 t5.c1)).setCell (p := ⟨g3, 2, none⟩) (unhide HG) (.slice t5.a2 t5.n2 t5.c2)
  obtain ⟨Wf, hWf⟩ : ∃ W, ((w5.setCell ⟨g3, 0, none⟩ (.bool t5.s)).setCell ⟨g3, 1, none⟩ (.slice t5.a1 t5.n1 t5.c1)).setCell ⟨g3, 2, none⟩ (.slice t5.a2 t5.n2 t5.c2) = W := ⟨_, rfl⟩
  rw [hWf] at FIN FB
  have HFIN := hide FIN
  have HFB := hide FB
  clear Y FIN FB
  have ⟨x0, x1, x2⟩ := (unhide HFIN).cells _ (Below.refl _ _)
  clear hv5 r5 hb5 C1 c0
  go_wp2
  exact bodyPost_ret (v := .agg #[.bool t5.s, .slice t5.a1 t5.n1 t5.c1, .slice t5.a2 t5.n2 t5.c2]) (by simp [results, Tryz.results37, go_sem, x0, x1, x2]) rfl ⟨_, rfl, (unhide HFIN).2, unhide HFB⟩

/-- A goal in its box: an amount and what it costs. -/
def GoalAt (W : World) (g : Nat) (y : Int) (t : Tri) (q : Rat) : Prop := W.heap[g]? = some (.cells #[.int .i64 y, .bool t.s, .slice t.a1 t.n1 t.c1, .slice t.a2 t.n2 t.c2] 74) ∧ RatIs W t.val q
theorem GoalAt.keep {W W' : World} {g : Nat} {y : Int} {t : Tri} {q : Rat} (h : GoalAt W g y t q) (hb : Below W.heap.size W W') : GoalAt W' g y t q := ⟨heap_kept h.1 hb, h.2.below hb⟩
theorem GoalAt.cells {W : World} {g : Nat} {y : Int} {t : Tri} {q : Rat} (h : GoalAt W g y t q) : W.cell? ⟨g, 0, none⟩ = some (.int .i64 y) ∧ W.cell? ⟨g, 1, none⟩ = some (.bool t.s) ∧ W.cell? ⟨g, 2, none⟩ = some (.slice t.a1 t.n1 t.c1) ∧ W.cell? ⟨g, 3, none⟩ = some (.slice t.a2 t.n2 t.c2) := by
  have h1 := h.1
  simp [World.cell?, h1]
theorem GoalAt.free {W : World} {g : Nat} {y : Int} {t : Tri} {q : Rat} (h : GoalAt W g y t q) : W.frozen? ⟨g, 0, none⟩ = false ∧ W.frozen? ⟨g, 1, none⟩ = false ∧ W.frozen? ⟨g, 2, none⟩ = false ∧ W.frozen? ⟨g, 3, none⟩ = false := by
  have h1 := h.1
  simp [World.frozen?, h1]
theorem GoalAt.new {w : World} {y : Int} {t : Tri} {q : Rat} (h : RatIs w t.val q) : GoalAt (w.alloc (.cells #[.int .i64 y, .bool t.s, .slice t.a1 t.n1 t.c1, .slice t.a2 t.n2 t.c2] 74)) w.heap.size y t q := ⟨heap_alloc_new w _, h.below (alloc_below w _)⟩
theorem noWord4 (y : Int) (b : Bool) (a1 a2 : Option Addr) (n1 c1 n2 c2 : Nat) (T : TypeId) (fr : Nat × Nat) : NoWord (.cells #[.int .i64 y, .bool b, .slice a1 n1 c1, .slice a2 n2 c2] T fr) := by
  intro cs T' fr' e j x
  injection e with e
  subst e
  rcases j with _ | _ | _ | _ | j <;> simp
/-- Four cells of one block. -/
def set4 (W : World) (g : Nat) (x0 x1 x2 x3 : Value) : World := (((W.setCell ⟨g, 0, none⟩ x0).setCell ⟨g, 1, none⟩ x1).setCell ⟨g, 2, none⟩ x2).setCell ⟨g, 3, none⟩ x3
theorem set4_other {W : World} {g k : Nat} {x0 x1 x2 x3 : Value} (h : k ≠ g) : (set4 W g x0 x1 x2 x3).heap[k]? = W.heap[k]? := by
  unfold set4
  rw [Below.heap_setCell _ _ _ _ h, Below.heap_setCell _ _ _ _ h, Below.heap_setCell _ _ _ _ h, Below.heap_setCell _ _ _ _ h]
theorem set4_size (W : World) (g : Nat) (x0 x1 x2 x3 : Value) : (set4 W g x0 x1 x2 x3).heap.size = W.heap.size := by unfold set4; simp [World.setCell]
theorem set4_below {w W : World} {g : Nat} {x0 x1 x2 x3 : Value} (h : Below w.heap.size w W) (hg : w.heap.size ≤ g) : Below w.heap.size w (set4 W g x0 x1 x2 x3) := (((h.setCell (p := ⟨g, 0, none⟩) hg _).setCell (p := ⟨g, 1, none⟩) hg _).setCell (p := ⟨g, 2, none⟩) hg _).setCell (p := ⟨g, 3, none⟩) hg _
theorem GoalAt.rat {W : World} {g : Nat} {y : Int} {t : Tri} {q : Rat} (h : GoalAt W g y t q) {v : Value} {p : Rat} (hr : RatIs W v p) (x0 x1 x2 x3 : Value) : RatIs (set4 W g x0 x1 x2 x3) v p :=
  hr.other h.1 (noWord4 _ _ _ _ _ _ _ _ _ _) (Nat.le_of_eq (set4_size W g x0 x1 x2 x3).symm) (fun _ hk => set4_other hk)
theorem GoalAt.set {W : World} {g : Nat} {y y' : Int} {t t' : Tri} {q q' : Rat} (h : GoalAt W g y t q) (hr : RatIs W t'.val q') : GoalAt (set4 W g (.int .i64 y') (.bool t'.s) (.slice t'.a1 t'.n1 t'.c1) (.slice t'.a2 t'.n2 t'.c2)) g y' t' q' := by
  refine ⟨?_, h.rat hr _ _ _ _⟩
  have h1 := h.1
  unfold set4
  simp only [setCell_eq, mapBlock, Array.getElem?_modify, h1, if_true, Option.map_some, onCells]
  rfl
def prV (qs : List Rat) (B : Int → Rat) (E L S y : Int) : Rat := havV qs B L S y + ((E * y : Int) : Rat)
theorem havV_RS {qs : List Rat} {B : Int → Rat} {L S y : Int} {JB : Nat} (hlen : qs.length ≤ 101) (hL : 0 ≤ L ∧ L ≤ 1000) (hS : 0 ≤ S ∧ S ≤ 1000) (hq : ∀ j, j < qs.length → RS qs[j]! 1) (hBR : ∀ x : Int, -150 ≤ x → x ≤ 40 → RS (B x) JB) (hy : -40 ≤ y ∧ y ≤ 40) : RS (havV qs B L S y) (101 * (JB + 4) + 1) := by
  have := rsum_RS (F := bhR B L S y) (JF := JB + 2) hq (fun j hj => by have hc := cvI_bd (y := y) (j := j) hL hS hy (by omega); exact ((whole_RS ⟨by omega, by omega⟩).add (hBR (y - (j : Int)) (by omega) (by omega))).mono (by omega)) qs.length (Nat.le_refl _)
  exact this.mono (by have := Nat.mul_le_mul_right (1 + (JB + 2) + 1) hlen; omega)
set_option maxHeartbeats 16000000 in
set_option maxRecDepth 100000 in
set_option linter.unusedSimpArgs false in
theorem priced_any (v : Value) (F E L S : Int) (fk : Nat) (bd : Array Value) (B : Int → Rat) (JB : Nat) (qs : List Rat) (gs gb : Nat) (y : Int) (w : World) (h : LawIs w v qs) (hlen : qs.length ≤ 101) (hL : 0 ≤ L ∧ L ≤ 1000) (hS : 0 ≤ S ∧ S ≤ 1000) (hq : ∀ j, j < qs.length → RS qs[j]! 1) (heg : ∀ args w, (callFunc fk args).run Tryz.prog w = .ok (.enter fk args) w) (hBR : ∀ x : Int, -150 ≤ x → x ≤ 40 → RS (B x) JB) (hJB : JB ≤ 1000000) (hy : -40 ≤ y ∧ y ≤ 40) (hE : 0 ≤ E ∧ E ≤ 1000) (hs : ShopAt w gs v F E L S) (hg : w.cell? ⟨gb, 0, none⟩ = some (.func (.func fk) #[] bd)) (hB : ∀ (x : Int), -150 ≤ x → x ≤ 40 → ∀ W, Below w.heap.size w W → Calls Tryz.prog fk (#[.int .i64 x] ++ bd) W fun e w' => ∃ v, e = .returned v ∧ RatIs w' v (B x) ∧ Below W.heap.size W w') :
    Calls Tryz.prog 36 #[.int .i64 y, .pointer (some ⟨gs, 0, none⟩), .pointer (some ⟨gb, 0, none⟩)] w fun e w' => ∃ t : Tri, e = .returned (.agg #[.int .i64 y, .bool t.s, .slice t.a1 t.n1 t.c1, .slice t.a2 t.n2 t.c2]) ∧ RatIs w' t.val (prV qs B E L S y) ∧ Below w.heap.size w w' := by
  have KKe : KK = 1099511627776 := rfl
  have hX := GoalAt.new (w := w) (y := 0) (t := zTri) (q := 0) (rat_zero _)
  have hb0 := alloc_below w (.cells #[.int .i64 0, .bool false, .slice none 0 0, .slice none 0 0] 74)
  obtain ⟨W0, hW0⟩ : ∃ W, w.alloc (.cells #[.int .i64 0, .bool false, .slice none 0 0, .slice none 0 0] 74) = W := ⟨_, rfl⟩
  have Y : GoalAt W0 w.heap.size 0 zTri 0 := by rw [← hW0]; exact hX
  rw [hW0] at hb0
  have hgl := World.block_lt_of_cell? w _ hg
  have HCC : Hid (∀ W, Below W0.heap.size W0 W → (fun w' : World => (w'.cell? ⟨gs, 0, none⟩ = some v ∧ w'.cell? ⟨gs, 1, none⟩ = some (.int .i64 F) ∧ w'.cell? ⟨gs, 2, none⟩ = some (.int .i64 E) ∧ w'.cell? ⟨gs, 3, none⟩ = some (.int .i64 L) ∧ w'.cell? ⟨gs, 4, none⟩ = some (.int .i64 S)) ∧ w'.cell? ⟨gb, 0, none⟩ = some (.func (.func fk) #[] bd)) W) := fun W hW => by
    have h1 := ((hs.keep hb0).keep hW).cells
    exact ⟨h1, by rw [(below_step hb0 hW).cell (p := ⟨gb, 0, none⟩) hgl]; exact hg⟩
  have HX : Hid (∀ W, Below W0.heap.size W0 W → GoalAt W w.heap.size 0 zTri 0) := fun W hW => Y.keep hW
  have HBB : Hid (∀ W, Below W0.heap.size W0 W → Below w.heap.size w W) := fun W hW => below_step hb0 hW
  have HHV : Hid (∀ W, Below W0.heap.size W0 W → Calls Tryz.prog 37 #[.agg #[v, .int .i64 F, .int .i64 E, .int .i64 L, .int .i64 S], .int .i64 y, .func (.func fk) #[] bd] W fun e w' => ∃ v, e = .returned v ∧ RatIs w' v (havV qs B L S y) ∧ Below W.heap.size W w') := fun W hW => hav_any v F E L S fk bd B JB qs y W (h.below (below_step hb0 hW)) hlen hL hS hq heg hBR hJB hy (fun x h1 h2 W' hW' => hB x h1 h2 W' (below_step (below_step hb0 hW) hW'))
  have hmb : -40000 ≤ E * y ∧ E * y ≤ 40000 := by
    rcases Int.le_total 0 y with c | c
    · have := mulB hE.1 hE.2 c hy.2; omega
    · have := mulB hE.1 hE.2 (show 0 ≤ -y by omega) (show -y ≤ 40 by omega)
      rw [Int.mul_neg] at this
      omega
  obtain ⟨p, hp⟩ : ∃ z, E * y = z := ⟨_, rfl⟩
  have f1 : IntKind.i64.wrap (E * y) = p := by rw [hp, IntKind.wrap_i64]; omega
  have HWH : Hid (∀ W, Calls Tryz.prog 10 #[.int .i64 p] W fun e w' => ∃ v, e = .returned v ∧ RatIs w' v ((E * y : Int) : Rat) ∧ Below W.heap.size W w') := fun W => by rw [hp]; exact whole_any p (by omega) (by omega) W
  have HR1 := hide ((havV_RS hlen hL hS hq hBR hy).mono (show 101 * (JB + 4) + 1 ≤ 102000000 by omega))
  have HR2 : Hid (RS ((E * y : Int) : Rat) 102000000) := (whole_RS (x := E * y) ⟨by omega, by omega⟩).mono (by omega)
  have HKK : Hid (102000000 + 102000000 + 1 ≤ KK) := by show _ ≤ _; omega
  clear hX hb0 Y hgl hs hg hlen hL hS hq hBR hJB hB hy hE h hmb hp KKe
  go_enter Tryz.func36, Tryz.ntmps36
  go_wp2_with fail
  clear hW0
  refine wp_region_till (fun w' : World => (w'.cell? ⟨gs, 0, none⟩ = some v ∧ w'.cell? ⟨gs, 1, none⟩ = some (.int .i64 F) ∧ w'.cell? ⟨gs, 2, none⟩ = some (.int .i64 E) ∧ w'.cell? ⟨gs, 3, none⟩ = some (.int .i64 L) ∧ w'.cell? ⟨gs, 4, none⟩ = some (.int .i64 S)) ∧ w'.cell? ⟨gb, 0, none⟩ = some (.func (.func fk) #[] bd)) 12 (by kernel_rfl) ?_
  have bd0 : Below W0.heap.size W0 W0.drew := (Below.refl _ _).drew
  have hC0 : (fun w' : World => (w'.cell? ⟨gs, 0, none⟩ = some v ∧ w'.cell? ⟨gs, 1, none⟩ = some (.int .i64 F) ∧ w'.cell? ⟨gs, 2, none⟩ = some (.int .i64 E) ∧ w'.cell? ⟨gs, 3, none⟩ = some (.int .i64 L) ∧ w'.cell? ⟨gs, 4, none⟩ = some (.int .i64 S)) ∧ w'.cell? ⟨gb, 0, none⟩ = some (.func (.func fk) #[] bd)) W0.drew := unhide HCC _ bd0
  refine wpTill_pure (i := 0) (v := ?_) rfl (by kernel_rfl) (by kernel_rfl) (by kernel_rfl) (by kernel_rfl) (fun _ _ _ h => h) (Or.inl ⟨by rfl, ?_⟩) (fun _ => hC0) ?_
  rotate_left
  · intro w hSw; clear hSw; go_simp; (try with_reducible rfl)
  (try simp only [List.getElem_toArray, List.getElem_cons_succ, List.getElem_cons_zero])
  (try simp only [Act.put, List.setIfInBounds_toArray, List.set_cons_zero, List.set_cons_succ])
  refine wpTill_take (i := 1) (v := ?_) rfl (by kernel_rfl) (by kernel_rfl) (by kernel_rfl) (by kernel_rfl) (by kernel_rfl) (by kernel_rfl) (fun _ _ _ h => h) (Or.inl ⟨by rfl, ?_⟩) hC0 ?_
  rotate_left
  · intro w hSw; (try dsimp only at hSw); obtain ⟨⟨z0, z1, z2, z3, z4⟩, z5⟩ := hSw; go_simp; (try with_reducible rfl)
  (try simp only [List.getElem_toArray, List.getElem_cons_succ, List.getElem_cons_zero])
  (try simp only [Act.put, List.setIfInBounds_toArray, List.set_cons_zero, List.set_cons_succ])
  refine wpTill_pure (i := 2) (v := ?_) rfl (by kernel_rfl) (by kernel_rfl) (by kernel_rfl) (by kernel_rfl) (fun _ _ _ h => h) (Or.inl ⟨by rfl, ?_⟩) (fun _ => hC0) ?_
  rotate_left
  · intro w hSw; clear hSw; go_simp; (try with_reducible rfl)
  (try simp only [List.getElem_toArray, List.getElem_cons_succ, List.getElem_cons_zero])
  (try simp only [Act.put, List.setIfInBounds_toArray, List.set_cons_zero, List.set_cons_succ])
  refine wpTill_take (i := 3) (v := ?_) rfl (by kernel_rfl) (by kernel_rfl) (by kernel_rfl) (by kernel_rfl) (by kernel_rfl) (by kernel_rfl) (fun _ _ _ h => h) (Or.inl ⟨by rfl, ?_⟩) hC0 ?_
  rotate_left
  · intro w hSw; (try dsimp only at hSw); obtain ⟨⟨z0, z1, z2, z3, z4⟩, z5⟩ := hSw; go_simp; (try with_reducible rfl)
  (try simp only [List.getElem_toArray, List.getElem_cons_succ, List.getElem_cons_zero])
  (try simp only [Act.put, List.setIfInBounds_toArray, List.set_cons_zero, List.set_cons_succ])
  refine wpTill_pure (i := 5) (v := ?_) rfl (by kernel_rfl) (by kernel_rfl) (by kernel_rfl) (by kernel_rfl) (fun _ _ _ h => h) (Or.inl ⟨by rfl, ?_⟩) (fun _ => hC0) ?_
  rotate_left
  · intro w hSw; clear hSw; go_simp; (try with_reducible rfl)
  (try simp only [List.getElem_toArray, List.getElem_cons_succ, List.getElem_cons_zero])
  (try simp only [Act.put, List.setIfInBounds_toArray, List.set_cons_zero, List.set_cons_succ])
  refine wpTill_take (i := 6) (v := ?_) rfl (by kernel_rfl) (by kernel_rfl) (by kernel_rfl) (by kernel_rfl) (by kernel_rfl) (by kernel_rfl) (fun _ _ _ h => h) (Or.inl ⟨by rfl, ?_⟩) hC0 ?_
  rotate_left
  · intro w hSw; (try dsimp only at hSw); obtain ⟨⟨z0, z1, z2, z3, z4⟩, z5⟩ := hSw; go_simp; (try with_reducible rfl)
  (try simp only [List.getElem_toArray, List.getElem_cons_succ, List.getElem_cons_zero])
  (try simp only [Act.put, List.setIfInBounds_toArray, List.set_cons_zero, List.set_cons_succ])
  refine wpTill_pure (i := 7) (v := ?_) rfl (by kernel_rfl) (by kernel_rfl) (by kernel_rfl) (by kernel_rfl) (fun _ _ _ h => h) (Or.inl ⟨by rfl, ?_⟩) (fun _ => hC0) ?_
  rotate_left
  · intro w hSw; clear hSw; go_simp; (try with_reducible rfl)
  (try simp only [List.getElem_toArray, List.getElem_cons_succ, List.getElem_cons_zero])
  (try simp only [Act.put, List.setIfInBounds_toArray, List.set_cons_zero, List.set_cons_succ])
  refine wpTill_pure (i := 8) (v := ?_) rfl (by kernel_rfl) (by kernel_rfl) (by kernel_rfl) (by kernel_rfl) (fun _ _ _ h => h) (Or.inl ⟨by rfl, ?_⟩) (fun _ => hC0) ?_
  rotate_left
  · intro w hSw; clear hSw; go_simp; (try with_reducible rfl)
  (try simp only [List.getElem_toArray, List.getElem_cons_succ, List.getElem_cons_zero])
  (try simp only [Act.put, List.setIfInBounds_toArray, List.set_cons_zero, List.set_cons_succ])
  refine wpTill_one (k := 4) (by kernel_rfl) rfl (fun K hK => ?_)
  (try simp only [List.getElem_toArray, List.getElem_cons_succ, List.getElem_cons_zero])
  go_simp
  refine (unhide HHV _ bd0).mono ?_
  rintro e xw_1 ⟨xv_1, rfl, hv_1, hb_1⟩
  have cc_1 := below_step bd0 hb_1
  have hC_1 : (fun w' : World => (w'.cell? ⟨gs, 0, none⟩ = some v ∧ w'.cell? ⟨gs, 1, none⟩ = some (.int .i64 F) ∧ w'.cell? ⟨gs, 2, none⟩ = some (.int .i64 E) ∧ w'.cell? ⟨gs, 3, none⟩ = some (.int .i64 L) ∧ w'.cell? ⟨gs, 4, none⟩ = some (.int .i64 S)) ∧ w'.cell? ⟨gb, 0, none⟩ = some (.func (.func fk) #[] bd)) xw_1 := unhide HCC _ cc_1
  refine hK.out _ _ (fun _ => hC_1) ?_
  clear hK K
  (try simp only [Act.put, List.setIfInBounds_toArray, List.set_cons_zero, List.set_cons_succ])
  refine wpTill_one (k := 9) (by kernel_rfl) rfl (fun K hK => ?_)
  (try simp only [List.getElem_toArray, List.getElem_cons_succ, List.getElem_cons_zero])
  go_simp
  refine (unhide HWH _).mono ?_
  rintro e xw_2 ⟨xv_2, rfl, hv_2, hb_2⟩
  have cc_2 := below_step cc_1 hb_2
  have hC_2 : (fun w' : World => (w'.cell? ⟨gs, 0, none⟩ = some v ∧ w'.cell? ⟨gs, 1, none⟩ = some (.int .i64 F) ∧ w'.cell? ⟨gs, 2, none⟩ = some (.int .i64 E) ∧ w'.cell? ⟨gs, 3, none⟩ = some (.int .i64 L) ∧ w'.cell? ⟨gs, 4, none⟩ = some (.int .i64 S)) ∧ w'.cell? ⟨gb, 0, none⟩ = some (.func (.func fk) #[] bd)) xw_2 := unhide HCC _ cc_2
  refine hK.out _ _ (fun _ => hC_2) ?_
  clear hK K
  (try simp only [Act.put, List.setIfInBounds_toArray, List.set_cons_zero, List.set_cons_succ])
  refine wpTill_one (k := 10) (by kernel_rfl) rfl (fun K hK => ?_)
  (try simp only [List.getElem_toArray, List.getElem_cons_succ, List.getElem_cons_zero])
  go_simp
  refine (addR_any _ _ _ _ _ (hv_1.below hb_2) hv_2 _ (unhide HR1) (unhide HR2) (unhide HKK)).mono ?_
  rintro e xw_3 ⟨xv_3, rfl, hv_3, hb_3⟩
  have cc_3 := below_step cc_2 hb_3
  have hC_3 : (fun w' : World => (w'.cell? ⟨gs, 0, none⟩ = some v ∧ w'.cell? ⟨gs, 1, none⟩ = some (.int .i64 F) ∧ w'.cell? ⟨gs, 2, none⟩ = some (.int .i64 E) ∧ w'.cell? ⟨gs, 3, none⟩ = some (.int .i64 L) ∧ w'.cell? ⟨gs, 4, none⟩ = some (.int .i64 S)) ∧ w'.cell? ⟨gb, 0, none⟩ = some (.func (.func fk) #[] bd)) xw_3 := unhide HCC _ cc_3
  refine hK.out _ _ (fun _ => hC_3) ?_
  clear hK K
  (try simp only [Act.put, List.setIfInBounds_toArray, List.set_cons_zero, List.set_cons_succ])
  obtain ⟨t5, rfl, r5⟩ := tri_of hv_3
  simp only [Tri.val]
  refine wpTill_pure (i := 11) (v := ?_) rfl (by kernel_rfl) (by kernel_rfl) (by kernel_rfl) (by kernel_rfl) (fun _ _ _ h => h) (Or.inl ⟨by rfl, ?_⟩) (fun _ => hC_3) ?_
  rotate_left
  · intro w hSw; clear hSw; go_simp; (try with_reducible rfl)
  (try simp only [List.getElem_toArray, List.getElem_cons_succ, List.getElem_cons_zero])
  (try simp only [Act.put, List.setIfInBounds_toArray, List.set_cons_zero, List.set_cons_succ])
  have Y := unhide HX _ cc_3
  have ⟨l0, l1, l2, l3⟩ := Y.free
  have ⟨y0, y1, y2, y3⟩ := Y.cells
  have FIN := Y.set (y' := y) r5
  have FB := set4_below (g := w.heap.size) (x0 := .int .i64 y) (x1 := .bool t5.s) (x2 := .slice t5.a1 t5.n1 t5.c1) (x3 := .slice t5.a2 t5.n2 t5.c2) (unhide HBB _ cc_3) (Nat.le_refl _)
  unfold set4 at FIN FB
  obtain ⟨Wf, hWf⟩ : ∃ W, (((xw_3.setCell ⟨w.heap.size, 0, none⟩ (.int .i64 y)).setCell ⟨w.heap.size, 1, none⟩ (.bool t5.s)).setCell ⟨w.heap.size, 2, none⟩ (.slice t5.a1 t5.n1 t5.c1)).setCell ⟨w.heap.size, 3, none⟩ (.slice t5.a2 t5.n2 t5.c2) = W := ⟨_, rfl⟩
  rw [hWf] at FIN FB
  have HFIN := hide FIN
  have HFB := hide FB
  clear Y FIN FB r5 hv_1 hv_2 hv_3
  refine wpTill_one (k := 12) (by kernel_rfl) rfl (fun K hK => ?_)
  (try simp only [List.getElem_toArray, List.getElem_cons_succ, List.getElem_cons_zero])
  go_simp
  refine hK.out _ _ (fun h => absurd (h.symm.trans (by kernel_rfl)) Bool.false_ne_true) ?_
  clear hK K
  (try simp only [Act.put, List.setIfInBounds_toArray, List.set_cons_zero, List.set_cons_succ])
  refine wpTill_done (by kernel_rfl) ?_ _
  have ⟨x0, x1, x2, x3⟩ := (unhide HFIN).cells
  clear l0 l1 l2 l3 y0 y1 y2 y3 hWf hC0 hC_1 hC_2 hC_3 cc_1 cc_2 cc_3 bd0 hb_1 hb_2 hb_3
  go_wp2
  exact bodyPost_ret (v := .agg #[.int .i64 y, .bool t5.s, .slice t5.a1 t5.n1 t5.c1, .slice t5.a2 t5.n2 t5.c2]) (by simp [results, Tryz.results36, go_sem, x0, x1, x2, x3]) rfl ⟨_, rfl, (unhide HFIN).2, unhide HFB⟩
end Go.Proofs.YtohkmkoklhnnlaaGreatDoor
