/- Sorting: the stable sort of a short row; what Best compares. -/
import Derived.Test.YtbboacmjbffmhaaGreatDoorU1
import Derived.Test.YtbboacmjbffmhaaGreatDoorX2
namespace Go.Proofs.YtbboacmjbffmhaaGreatDoor
open Go.RowKit Go.Sort Go.Shelf

set_option maxHeartbeats 8000000 in
set_option maxRecDepth 100000 in
set_option linter.unusedSimpArgs false in
theorem stable_any (g n : Nat) (f : Nat → Nat) (k : Nat → Rat) (pa : Addr) (w0 w : World) (Inv : World → Prop) (CI : CmpInv g n k pa Inv) (hn : n ≤ 5) (hn0 : 0 < n) (hf : ∀ i, i < n → f i < n) (hg : OwnI w g n (fun i => ((f i : Nat) : Int))) (hbl : Below w0.heap.size w0 w) (hge : w0.heap.size ≤ g) (hI : Inv w) :
    Calls Tryz.prog 37 #[.slice (some ⟨g, 0, none⟩) n n, .int .i64 (n : Int), .func (.func 21) #[] #[.pointer (some pa)]] w (SortPost w0 g n k Inv) := by
  have HIN := hide (insertion_any g n f k pa w0 w Inv CI hn hn0 hf hg hbl hge hI)
  have n20 : ¬ (20 : Int) ≤ (n : Int) := by omega
  have n21 : ¬ (20 : Int) < (n : Int) := by omega
  clear CI hf hg hbl hge hI hn0
  go_enter Tryz.func37, Tryz.ntmps37
  go_wp2_with fail
  go_loopw [7, 8] (fun va vb wr => va = .int .i64 0 ∧ vb = .int .i64 20 ∧ wr = w) (fun _ _ _ => 0)
  case atStart => exact ⟨rfl, rfl, rfl⟩
  case round =>
    obtain ⟨rfl, rfl, rfl⟩ := hrel
    go_wp2_with fail
    (try simp only [Exit.inBlock, Exit.then])
    go_wp2_with fail
    refine (unhide HIN).mono ?_
    rintro e w2 ⟨rfl, hpost⟩
    have HPO := hide hpost
    clear hpost HIN
    go_wp2_with fail
    go_loopw [6] (fun va wr => va = .int .i64 20 ∧ wr = w2) (fun _ _ => 0)
    case atStart => exact ⟨rfl, rfl⟩
    case round =>
      obtain ⟨rfl, rfl⟩ := hrel
      go_wp2
      (try simp only [Exit.inBlock, Exit.then])
      (try go_wp2)
      exact bodyPost_ret (v := .tuple #[]) (by simp [results, Tryz.results37, go_sem]) rfl ⟨rfl, unhide HPO⟩

set_option maxHeartbeats 8000000 in
set_option maxRecDepth 100000 in
set_option linter.unusedSimpArgs false in
theorem sortStable_any (g n : Nat) (f : Nat → Nat) (k : Nat → Rat) (pa : Addr) (w0 w : World) (Inv : World → Prop) (CI : CmpInv g n k pa Inv) (hn : n ≤ 5) (hn0 : 0 < n) (hf : ∀ i, i < n → f i < n) (hg : OwnI w g n (fun i => ((f i : Nat) : Int))) (hbl : Below w0.heap.size w0 w) (hge : w0.heap.size ≤ g) (hI : Inv w) :
    Calls Tryz.prog 20 #[.slice (some ⟨g, 0, none⟩) n n, .func (.func 21) #[] #[.pointer (some pa)]] w (SortPost w0 g n k Inv) := by
  have HIN := hide (stable_any g n f k pa w0 w Inv CI hn hn0 hf hg hbl hge hI)
  clear CI hf hg hbl hge hI hn0
  go_enter Tryz.func20, Tryz.ntmps20
  go_wp2_with fail
  refine (unhide HIN).mono ?_
  rintro e w2 ⟨rfl, hpost⟩
  have HPO := hide hpost
  clear hpost HIN
  go_wp2
  exact bodyPost_ret (v := .tuple #[]) (by simp [results, Tryz.results20, go_sem]) rfl ⟨rfl, unhide HPO⟩

/-- What Best compares: a row of fractions, and the box of the row. -/
structure WInv (w0 : World) (G bp n : Nat) (us : List Tri) (ws : List Rat) (W : World) : Prop where
  sums : SumsAt w0 W G us ws
  box : W.heap[bp]? = some (.cells #[.slice (some ⟨G, 0, none⟩) n n] 30)
theorem WInv.keep {w0 W W' : World} {G bp n : Nat} {us : List Tri} {ws : List Rat} (h : WInv w0 G bp n us ws W) (hb : Below W.heap.size W W') : WInv w0 G bp n us ws W' :=
  ⟨h.sums.keep hb, by rw [hb.block _ (Array.getElem?_eq_some_iff.1 h.box).1]; exact h.box⟩
theorem WInv.cell {w0 W : World} {G bp n : Nat} {us : List Tri} {ws : List Rat} (h : WInv w0 G bp n us ws W) : W.cell? ⟨bp, 0, none⟩ = some (.slice (some ⟨G, 0, none⟩) n n) := by
  have h' := h.box
  simp [World.cell?, h']

set_option maxHeartbeats 8000000 in
set_option maxRecDepth 100000 in
set_option linter.unusedSimpArgs false in
theorem best1_any (a b n G bp J : Nat) (us : List Tri) (ws : List Rat) (w0 w : World) (hw : ws.length = n) (ha : a < n) (hb : b < n) (h : WInv w0 G bp n us ws w) (hr : ∀ j, j < n → RS ws[j]! J) (hJ : J ≤ KK) :
    Calls Tryz.prog 21 #[.int .i64 (a : Int), .int .i64 (b : Int), .pointer (some ⟨bp, 0, none⟩)] w fun e w' => e = .returned (.int .i64 (cmpv ws[b]! ws[a]!)) ∧ Below w.heap.size w w' := by
  have hul : us.length = n := by rw [h.sums.len, hw]
  have ⟨ca, _⟩ := h.sums.cells a (by omega)
  have ⟨cb, _⟩ := h.sums.cells b (by omega)
  have ra := h.sums.rat a (by omega)
  have rb := h.sums.rat b (by omega)
  have cp := h.cell
  obtain ⟨ta, hta⟩ : ∃ t, us[a]! = t := ⟨_, rfl⟩
  obtain ⟨tb, htb⟩ : ∃ t, us[b]! = t := ⟨_, rfl⟩
  rw [hta] at ca ra
  rw [htb] at cb rb
  have hGl : G < w.heap.size := (Array.getElem?_eq_some_iff.1 h.sums.row).1
  have hbl : bp < w.heap.size := (Array.getElem?_eq_some_iff.1 h.box).1
  have HCC : Hid (∀ W, Below w.heap.size w W → (fun w' : World => w'.cell? ⟨bp, 0, none⟩ = some (.slice (some ⟨G, 0, none⟩) n n) ∧ (w'.cell? ⟨G, a * 3, none⟩ = some (.bool ta.s) ∧ w'.cell? ⟨G, a * 3 + 1, none⟩ = some (.slice ta.a1 ta.n1 ta.c1) ∧ w'.cell? ⟨G, a * 3 + 2, none⟩ = some (.slice ta.a2 ta.n2 ta.c2)) ∧ (w'.cell? ⟨G, b * 3, none⟩ = some (.bool tb.s) ∧ w'.cell? ⟨G, b * 3 + 1, none⟩ = some (.slice tb.a1 tb.n1 tb.c1) ∧ w'.cell? ⟨G, b * 3 + 2, none⟩ = some (.slice tb.a2 tb.n2 tb.c2))) W) := fun W hW => by
    refine ⟨by rw [hW.cell (p := ⟨bp, 0, none⟩) hbl]; exact cp, ?_, ?_⟩
    · rw [hW.cell (p := ⟨G, a * 3, none⟩) hGl, hW.cell (p := ⟨G, a * 3 + 1, none⟩) hGl, hW.cell (p := ⟨G, a * 3 + 2, none⟩) hGl]; exact ca
    · rw [hW.cell (p := ⟨G, b * 3, none⟩) hGl, hW.cell (p := ⟨G, b * 3 + 1, none⟩) hGl, hW.cell (p := ⟨G, b * 3 + 2, none⟩) hGl]; exact cb
  have HCM : Hid (∀ W, Below w.heap.size w W → Calls Tryz.prog 14 #[.agg #[.bool tb.s, .slice tb.a1 tb.n1 tb.c1, .slice tb.a2 tb.n2 tb.c2], .agg #[.bool ta.s, .slice ta.a1 ta.n1 ta.c1, .slice ta.a2 ta.n2 ta.c2]] W fun e w' => e = .returned (.int .i64 (cmpv ws[b]! ws[a]!)) ∧ Below W.heap.size W w') := fun W hW => cmpR_all tb.val ta.val _ _ W (rb.below hW) (ra.below hW) J (hr b hb) (hr a ha) hJ
  have e1 : (a : Int) < (n : Int) := by omega
  have e2 : (b : Int) < (n : Int) := by omega
  have e3 : (0 : Int) ≤ (a : Int) := by omega
  have e4 : (0 : Int) ≤ (b : Int) := by omega
  generalize cmpv ws[b]! ws[a]! = x at *
  clear h ca cb ra rb cp hta htb hGl hbl hr hul hw
  go_enter Tryz.func21, Tryz.ntmps21
  go_wp2_with fail
  refine wp_region_hold (fun w' : World => w'.cell? ⟨bp, 0, none⟩ = some (.slice (some ⟨G, 0, none⟩) n n) ∧ (w'.cell? ⟨G, a * 3, none⟩ = some (.bool ta.s) ∧ w'.cell? ⟨G, a * 3 + 1, none⟩ = some (.slice ta.a1 ta.n1 ta.c1) ∧ w'.cell? ⟨G, a * 3 + 2, none⟩ = some (.slice ta.a2 ta.n2 ta.c2)) ∧ (w'.cell? ⟨G, b * 3, none⟩ = some (.bool tb.s) ∧ w'.cell? ⟨G, b * 3 + 1, none⟩ = some (.slice tb.a1 tb.n1 tb.c1) ∧ w'.cell? ⟨G, b * 3 + 2, none⟩ = some (.slice tb.a2 tb.n2 tb.c2))) (by kernel_rfl) ?_
  have bd0 : Below w.heap.size w w.drew := (Below.refl _ _).drew
  have hC0 : (fun w' : World => w'.cell? ⟨bp, 0, none⟩ = some (.slice (some ⟨G, 0, none⟩) n n) ∧ (w'.cell? ⟨G, a * 3, none⟩ = some (.bool ta.s) ∧ w'.cell? ⟨G, a * 3 + 1, none⟩ = some (.slice ta.a1 ta.n1 ta.c1) ∧ w'.cell? ⟨G, a * 3 + 2, none⟩ = some (.slice ta.a2 ta.n2 ta.c2)) ∧ (w'.cell? ⟨G, b * 3, none⟩ = some (.bool tb.s) ∧ w'.cell? ⟨G, b * 3 + 1, none⟩ = some (.slice tb.a1 tb.n1 tb.c1) ∧ w'.cell? ⟨G, b * 3 + 2, none⟩ = some (.slice tb.a2 tb.n2 tb.c2))) w.drew := unhide HCC _ bd0
  refine wpHold_take (i := 0) (v := ?_) rfl (by kernel_rfl) (by kernel_rfl) (by kernel_rfl) (fun _ _ _ h => h) (Or.inl ⟨by rfl, ?_⟩) hC0 ?_
  rotate_left
  · intro w hSw; (try dsimp only at hSw); obtain ⟨z0, ⟨z1, z2, z3⟩, z4, z5, z6⟩ := hSw; go_simp; (try with_reducible rfl)
  (try simp only [List.getElem_toArray, List.getElem_cons_succ, List.getElem_cons_zero])
  (try simp only [Act.put, List.setIfInBounds_toArray, List.set_cons_zero, List.set_cons_succ])
  refine wpHold_take (i := 1) (v := ?_) rfl (by kernel_rfl) (by kernel_rfl) (by kernel_rfl) (fun _ _ _ h => h) (Or.inl ⟨by rfl, ?_⟩) hC0 ?_
  rotate_left
  · intro w hSw; clear hSw; go_simp; (try with_reducible rfl)
  (try simp only [List.getElem_toArray, List.getElem_cons_succ, List.getElem_cons_zero])
  (try simp only [Act.put, List.setIfInBounds_toArray, List.set_cons_zero, List.set_cons_succ])
  refine wpHold_take (i := 2) (v := ?_) rfl (by kernel_rfl) (by kernel_rfl) (by kernel_rfl) (fun _ _ _ h => h) (Or.inl ⟨by rfl, ?_⟩) hC0 ?_
  rotate_left
  · intro w hSw; clear hSw; go_simp; (try with_reducible rfl)
  (try simp only [List.getElem_toArray, List.getElem_cons_succ, List.getElem_cons_zero])
  (try simp only [Act.put, List.setIfInBounds_toArray, List.set_cons_zero, List.set_cons_succ])
  refine wpHold_take (i := 3) (v := ?_) rfl (by kernel_rfl) (by kernel_rfl) (by kernel_rfl) (fun _ _ _ h => h) (Or.inl ⟨by rfl, ?_⟩) hC0 ?_
  rotate_left
  · intro w hSw; (try dsimp only at hSw); obtain ⟨z0, ⟨z1, z2, z3⟩, z4, z5, z6⟩ := hSw; go_simp; (try with_reducible rfl)
  (try simp only [List.getElem_toArray, List.getElem_cons_succ, List.getElem_cons_zero])
  (try simp only [Act.put, List.setIfInBounds_toArray, List.set_cons_zero, List.set_cons_succ])
  refine wpHold_take (i := 4) (v := ?_) rfl (by kernel_rfl) (by kernel_rfl) (by kernel_rfl) (fun _ _ _ h => h) (Or.inl ⟨by rfl, ?_⟩) hC0 ?_
  rotate_left
  · intro w hSw; (try dsimp only at hSw); obtain ⟨z0, ⟨z1, z2, z3⟩, z4, z5, z6⟩ := hSw; go_simp; (try with_reducible rfl)
  (try simp only [List.getElem_toArray, List.getElem_cons_succ, List.getElem_cons_zero])
  (try simp only [Act.put, List.setIfInBounds_toArray, List.set_cons_zero, List.set_cons_succ])
  refine wpHold_take (i := 5) (v := ?_) rfl (by kernel_rfl) (by kernel_rfl) (by kernel_rfl) (fun _ _ _ h => h) (Or.inl ⟨by rfl, ?_⟩) hC0 ?_
  rotate_left
  · intro w hSw; clear hSw; go_simp; (try with_reducible rfl)
  (try simp only [List.getElem_toArray, List.getElem_cons_succ, List.getElem_cons_zero])
  (try simp only [Act.put, List.setIfInBounds_toArray, List.set_cons_zero, List.set_cons_succ])
  refine wpHold_take (i := 6) (v := ?_) rfl (by kernel_rfl) (by kernel_rfl) (by kernel_rfl) (fun _ _ _ h => h) (Or.inl ⟨by rfl, ?_⟩) hC0 ?_
  rotate_left
  · intro w hSw; clear hSw; go_simp; (try with_reducible rfl)
  (try simp only [List.getElem_toArray, List.getElem_cons_succ, List.getElem_cons_zero])
  (try simp only [Act.put, List.setIfInBounds_toArray, List.set_cons_zero, List.set_cons_succ])
  refine wpHold_take (i := 7) (v := ?_) rfl (by kernel_rfl) (by kernel_rfl) (by kernel_rfl) (fun _ _ _ h => h) (Or.inl ⟨by rfl, ?_⟩) hC0 ?_
  rotate_left
  · intro w hSw; (try dsimp only at hSw); obtain ⟨z0, ⟨z1, z2, z3⟩, z4, z5, z6⟩ := hSw; go_simp; (try with_reducible rfl)
  (try simp only [List.getElem_toArray, List.getElem_cons_succ, List.getElem_cons_zero])
  (try simp only [Act.put, List.setIfInBounds_toArray, List.set_cons_zero, List.set_cons_succ])
  refine wpHold_one (k := 8) (by kernel_rfl) rfl (fun K hK => ?_)
  (try simp only [List.getElem_toArray, List.getElem_cons_succ, List.getElem_cons_zero])
  go_simp
  refine (unhide HCM _ bd0).mono ?_
  rintro e xw_1 ⟨rfl, hb_1⟩
  have cc_1 := below_step bd0 hb_1
  have hC_1 : (fun w' : World => w'.cell? ⟨bp, 0, none⟩ = some (.slice (some ⟨G, 0, none⟩) n n) ∧ (w'.cell? ⟨G, a * 3, none⟩ = some (.bool ta.s) ∧ w'.cell? ⟨G, a * 3 + 1, none⟩ = some (.slice ta.a1 ta.n1 ta.c1) ∧ w'.cell? ⟨G, a * 3 + 2, none⟩ = some (.slice ta.a2 ta.n2 ta.c2)) ∧ (w'.cell? ⟨G, b * 3, none⟩ = some (.bool tb.s) ∧ w'.cell? ⟨G, b * 3 + 1, none⟩ = some (.slice tb.a1 tb.n1 tb.c1) ∧ w'.cell? ⟨G, b * 3 + 2, none⟩ = some (.slice tb.a2 tb.n2 tb.c2))) xw_1 := unhide HCC _ cc_1
  refine hK.out _ _ hC_1 ?_
  clear hK K
  (try simp only [Act.put, List.setIfInBounds_toArray, List.set_cons_zero, List.set_cons_succ])
  refine wpHold_take (i := 9) (v := ?_) rfl (by kernel_rfl) (by kernel_rfl) (by kernel_rfl) (fun _ _ _ h => h) (Or.inl ⟨by rfl, ?_⟩) hC_1 ?_
  rotate_left
  · intro w hSw; clear hSw; go_simp; (try with_reducible rfl)
  (try simp only [List.getElem_toArray, List.getElem_cons_succ, List.getElem_cons_zero])
  (try simp only [Act.put, List.setIfInBounds_toArray, List.set_cons_zero, List.set_cons_succ])
  refine wpHold_done (by kernel_rfl) ?_ _
  have HBN := hide cc_1
  clear hC0 hC_1 cc_1 hb_1 bd0 HCC HCM
  go_wp2
  go_ret
  exact ⟨rfl, unhide HBN⟩
end Go.Proofs.YtbboacmjbffmhaaGreatDoor
