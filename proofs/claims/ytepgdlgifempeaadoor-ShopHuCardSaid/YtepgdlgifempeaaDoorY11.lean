/- A pool of machines: its methods. -/
import Derived.Test.YtepgdlgifempeaaDoorY4
import Derived.Test.YtepgdlgifempeaaDoorM30
namespace Go.Proofs.YtepgdlgifempeaaDoor
open Go.RowKit Go.Sort Stb Shp Hp

/-- Block g holds n machines, number f i at place i, free from L (f i) on. -/
def PoolR (w : World) (g n cap : Nat) (L : Nat → Int) (f : Nat → Nat) : Prop :=
  ∃ cur : Array Value, w.heap[g]? = some (.cells cur 77) ∧ cur.size = cap * 2 ∧ n ≤ cap ∧ cap ≤ maxLen ∧ ∀ i, i < n → cur[i * 2]? = some (.int .i64 (L (f i))) ∧ cur[i * 2 + 1]? = some (.int .i64 (f i : Int))
theorem PoolR.lt {w : World} {g n cap : Nat} {L : Nat → Int} {f : Nat → Nat} (h : PoolR w g n cap L f) : g < w.heap.size := by
  obtain ⟨cur, h1, _⟩ := h
  exact (Array.getElem?_eq_some_iff.1 h1).1
theorem PoolR.caps {w : World} {g n cap : Nat} {L : Nat → Int} {f : Nat → Nat} (h : PoolR w g n cap L f) : n ≤ cap ∧ cap ≤ 9223372036854775807 := by
  obtain ⟨cur, _, _, h3, h4, _⟩ := h
  unfold maxLen at h4
  exact ⟨h3, h4⟩
theorem PoolR.keep {w w' : World} {g n cap : Nat} {L : Nat → Int} {f : Nat → Nat} (h : PoolR w g n cap L f) (hb : Below w.heap.size w w') : PoolR w' g n cap L f := by
  have hl := h.lt
  obtain ⟨cur, h1, h2⟩ := h
  exact ⟨cur, by rw [hb.block g hl]; exact h1, h2⟩
theorem PoolR.other {w w' : World} {g n cap : Nat} {L : Nat → Int} {f : Nat → Nat} (h : PoolR w g n cap L f) (e : w'.heap[g]? = w.heap[g]?) : PoolR w' g n cap L f := by
  obtain ⟨cur, h1, h2⟩ := h
  exact ⟨cur, by rw [e]; exact h1, h2⟩
theorem PoolR.cells {w : World} {g n cap : Nat} {L : Nat → Int} {f : Nat → Nat} (h : PoolR w g n cap L f) {j : Nat} (hj : j < n) : w.cell? ⟨g, j * 2, none⟩ = some (.int .i64 (L (f j))) ∧ w.cell? ⟨g, j * 2 + 1, none⟩ = some (.int .i64 (f j : Int)) := by
  obtain ⟨cur, h1, _, _, _, h3⟩ := h
  simp only [World.cell?, h1]
  exact h3 j hj
theorem PoolR.free {w : World} {g n cap : Nat} {L : Nat → Int} {f : Nat → Nat} (h : PoolR w g n cap L f) (j : Nat) : w.frozen? ⟨g, j, none⟩ = false := by
  obtain ⟨cur, h1, _⟩ := h; simp [World.frozen?, h1]
theorem PoolR.less {w : World} {g n n' cap : Nat} {L : Nat → Int} {f : Nat → Nat} (h : PoolR w g n cap L f) (hn : n' ≤ n) : PoolR w g n' cap L f := by
  obtain ⟨cur, h1, h2, h3, h4, h5⟩ := h
  exact ⟨cur, h1, h2, by omega, h4, fun i hi => h5 i (by omega)⟩
theorem PoolR.congr {w : World} {g n cap : Nat} {L L' : Nat → Int} {f f' : Nat → Nat} (h : PoolR w g n cap L f) (e : ∀ i, i < n → f i = f' i ∧ L (f i) = L' (f' i)) : PoolR w g n cap L' f' := by
  obtain ⟨cur, h1, h2, h3, h4, h5⟩ := h
  refine ⟨cur, h1, h2, h3, h4, fun i hi => ?_⟩
  rw [← (e i hi).2, ← (e i hi).1]
  exact h5 i hi
def puf (f : Nat → Nat) (x k : Nat) : Nat → Nat := fun i => if i = x then k else f i
theorem puf_swp (f : Nat → Nat) (x y : Nat) : puf (puf f x (f y)) y (f x) = Stb.swp f x y := by
  funext i
  unfold puf Stb.swp
  by_cases h1 : i = y
  · rw [if_pos h1]
    by_cases h2 : i = x
    · rw [if_pos h2, ← h1, h2]
    · rw [if_neg h2, if_pos h1]
  · rw [if_neg h1]
    by_cases h2 : i = x
    · rw [if_pos h2, if_pos h2]
    · rw [if_neg h2, if_neg h2, if_neg h1]
/-- A machine is put in a place. -/
theorem PoolR.put {w : World} {g n cap : Nat} {L : Nat → Int} {f : Nat → Nat} (h : PoolR w g n cap L f) {x : Nat} (hx : x < n) (k : Nat) : PoolR ((w.setCell ⟨g, x * 2, none⟩ (.int .i64 (L k))).setCell ⟨g, x * 2 + 1, none⟩ (.int .i64 (k : Int))) g n cap L (puf f x k) := by
  obtain ⟨cur, h1, h2, h3, h4, h5⟩ := h
  have e1 : (w.setCell ⟨g, x * 2, none⟩ (.int .i64 (L k))).heap[g]? = some (.cells (cur.setIfInBounds (x * 2) (.int .i64 (L k))) 77) := by
    rw [setCell_eq]
    simp only [mapBlock, Array.getElem?_modify, h1, if_true, Option.map_some, onCells]
  refine ⟨(cur.setIfInBounds (x * 2) (.int .i64 (L k))).setIfInBounds (x * 2 + 1) (.int .i64 (k : Int)), ?_, by simpa using h2, h3, h4, fun i hi => ?_⟩
  · rw [setCell_eq]
    simp only [mapBlock, Array.getElem?_modify, e1, if_true, Option.map_some, onCells]
  · unfold puf
    by_cases c : i = x
    · subst c
      rw [if_pos rfl]
      constructor
      · rw [Array.getElem?_setIfInBounds, if_neg (by omega), Array.getElem?_setIfInBounds, if_pos rfl, if_pos (by omega)]
      · rw [Array.getElem?_setIfInBounds, if_pos rfl, if_pos (by simp; omega)]
    · rw [if_neg c]
      have := h5 i hi
      constructor
      · rw [Array.getElem?_setIfInBounds, if_neg (by omega), Array.getElem?_setIfInBounds, if_neg (by omega)]; exact this.1
      · rw [Array.getElem?_setIfInBounds, if_neg (by omega), Array.getElem?_setIfInBounds, if_neg (by omega)]; exact this.2

/-- What S tells is as it was. -/
structure Fr (S : Nat → Prop) (w0 w : World) : Prop where
  os : w.os = w0.os
  tape : w.tape = w0.tape
  output : w.output = w0.output
  size : w0.heap.size ≤ w.heap.size
  block : ∀ k, k < w0.heap.size → S k → w.heap[k]? = w0.heap[k]?
theorem Fr.refl (S : Nat → Prop) (w : World) : Fr S w w := ⟨rfl, rfl, rfl, Nat.le_refl _, fun _ _ _ => rfl⟩
theorem Fr.step {S : Nat → Prop} {w0 w w' : World} (h : Fr S w0 w) (hb : Below w.heap.size w w') : Fr S w0 w' :=
  ⟨by rw [hb.os, h.os], by rw [hb.tape, h.tape], by rw [hb.output, h.output], Nat.le_trans h.size hb.size, fun k hk hs => by rw [hb.block k (Nat.lt_of_lt_of_le hk h.size)]; exact h.block k hk hs⟩
theorem Fr.set {S : Nat → Prop} {w0 w : World} (h : Fr S w0 w) {b : Nat} (hb : ¬ S b) (j : Nat) (v : Value) : Fr S w0 (w.setCell ⟨b, j, none⟩ v) := by
  have q := (Below.refl 0 w).setCell (p := ⟨b, j, none⟩) (Nat.zero_le b) v
  exact ⟨by rw [q.os, h.os], by rw [q.tape, h.tape], by rw [q.output, h.output], Nat.le_trans h.size q.size, fun k hk hs => by
    rw [Below.heap_setCell _ _ _ _ (show k ≠ b from fun e => hb (by subst e; exact hs))]; exact h.block k hk hs⟩
theorem Fr.grown {S : Nat → Prop} {w0 w w' : World} {g : Nat} (h : Fr S w0 w) (hg : w.grownBy w' (some g)) (hb : ¬ S g) : Fr S w0 w' :=
  ⟨by rw [hg.os, h.os], by rw [hg.tape, h.tape], by rw [hg.output, h.output], Nat.le_trans h.size hg.size, fun k hk hs => by
    rw [hg.block k (Nat.lt_of_lt_of_le hk h.size) (fun e => hb (by rw [← Option.some.inj e]; exact hs))]; exact h.block k hk hs⟩
theorem Fr.below {S : Nat → Prop} {w0 w : World} {B : Nat} (h : Fr S w0 w) (hB : B ≤ w0.heap.size) (hS : ∀ k, k < B → S k) : Below B w0 w :=
  ⟨h.os, h.tape, h.output, h.size, fun k hk => h.block k (by omega) (hS k hk)⟩
/-- The pool as heap's functions see it. -/
structure HP (S : Nat → Prop) (w0 w : World) (pp g n cap : Nat) (L : Nat → Int) (f : Nat → Nat) : Prop where
  box : Box1 89 w pp (.slice (some ⟨g, 0, none⟩) n cap)
  row : PoolR w g n cap L f
  bl : Fr S w0 w
  ge : ¬ S pp ∧ ¬ S g ∧ pp ≠ g
  old : ∀ k, S k → k < w0.heap.size
theorem HP.keep {S : Nat → Prop} {w0 w w' : World} {pp g n cap : Nat} {L : Nat → Int} {f : Nat → Nat} (h : HP S w0 w pp g n cap L f) (hb : Below w.heap.size w w') : HP S w0 w' pp g n cap L f := ⟨h.box.keep hb, h.row.keep hb, h.bl.step hb, h.ge, h.old⟩
theorem HP.put {S : Nat → Prop} {w0 w : World} {pp g n cap : Nat} {L : Nat → Int} {f : Nat → Nat} (h : HP S w0 w pp g n cap L f) {x : Nat} (hx : x < n) (k : Nat) : HP S w0 ((w.setCell ⟨g, x * 2, none⟩ (.int .i64 (L k))).setCell ⟨g, x * 2 + 1, none⟩ (.int .i64 (k : Int))) pp g n cap L (puf f x k) :=
  ⟨(h.box.apart h.ge.2.2).apart h.ge.2.2, h.row.put hx k, (h.bl.set h.ge.2.1 _ _).set h.ge.2.1 _ _, h.ge, h.old⟩

set_option maxHeartbeats 8000000 in
set_option maxRecDepth 100000 in
set_option linter.unusedSimpArgs false in
theorem pless_any (g n cap : Nat) (L : Nat → Int) (f : Nat → Nat) (i k : Nat) (w : World) (h : PoolR w g n cap L f) (hi : i < n) (hk : k < n) :
    Calls Tryd.prog 89 #[.slice (some ⟨g, 0, none⟩) n cap, .int .i64 (i : Int), .int .i64 (k : Int)] w fun e w' => e = .returned (.bool (les L (f i) (f k))) ∧ Below w.heap.size w w' := by
  have ci := h.cells hi
  have ck := h.cells hk
  obtain ⟨i0, i1⟩ := ci
  obtain ⟨k0, k1⟩ := ck
  have hcap := h.caps
  obtain ⟨x, hx⟩ : ∃ x, L (f i) = x := ⟨_, rfl⟩
  obtain ⟨y, hy⟩ : ∃ x, L (f k) = x := ⟨_, rfl⟩
  obtain ⟨p, hp⟩ : ∃ x, f i = x := ⟨_, rfl⟩
  obtain ⟨q, hq⟩ : ∃ x, f k = x := ⟨_, rfl⟩
  have hv : les L (f i) (f k) = decide (x < y ∨ (x = y ∧ p < q)) := by unfold les; rw [hx, hy, hp, hq]
  rw [hv]
  rw [hx] at i0
  rw [hy] at k0
  rw [hp] at i1
  rw [hq] at k1
  have e1 : (0 : Int) ≤ (i : Int) := by omega
  have e2 : (i : Int) < (n : Int) := by omega
  have e3 : (0 : Int) ≤ (k : Int) := by omega
  have e4 : (k : Int) < (n : Int) := by omega
  clear h hv hx hy hp hq hi hk
  by_cases c : x = y
  · subst c
    have f1 : (x == x) = true := by simp
    rw [show decide (x < x ∨ (x = x ∧ p < q)) = decide (p < q) by simp]
    go_enter Tryd.func89, Tryd.ntmps89
    go_wp2_with fail
    go_quiet (fail)
    go_wp2_with fail
    go_quiet (fail)
    go_wp2
    go_ret
    refine ⟨rfl, ?_⟩
    (try rw [World.drewN_drewN])
    exact below_drewN _ _
  · have f1 : (x == y) = false := by rw [beq_eq_false_iff_ne]; exact c
    rw [show decide (x < y ∨ (x = y ∧ p < q)) = decide (x < y) by simp [c]]
    clear c
    go_enter Tryd.func89, Tryd.ntmps89
    go_wp2_with fail
    go_quiet (fail)
    go_wp2_with fail
    go_quiet (fail)
    go_wp2
    go_ret
    refine ⟨rfl, ?_⟩
    (try rw [World.drewN_drewN])
    exact below_drewN _ _

theorem there_set (w : World) (g i j : Nat) (u : Value) {v : Value} (h : w.cell? ⟨g, j, none⟩ = some v) (hf : w.frozen? ⟨g, j, none⟩ = false) : (∃ u' : Value, (w.setCell ⟨g, i, none⟩ u).cell? ⟨g, j, none⟩ = some u') ∧ (w.setCell ⟨g, i, none⟩ u).frozen? ⟨g, j, none⟩ = false := by
  refine ⟨?_, by rw [World.frozen?_setCell]; exact hf⟩
  by_cases c : i = j
  · subst c; exact ⟨u, World.cell?_setCell_same _ _ _ h⟩
  · exact ⟨v, by rw [World.cell?_setCell_other _ _ _ _ (fun e => by injection e with _ e2; exact c e2)]; exact h⟩
set_option maxHeartbeats 8000000 in
set_option maxRecDepth 100000 in
set_option linter.unusedSimpArgs false in
theorem pswap_any (pp g n cap : Nat) (L : Nat → Int) (f : Nat → Nat) (x y : Nat) (S : Nat → Prop) (w0 w : World) (h : HP S w0 w pp g n cap L f) (hx : x < n) (hy : y < n) :
    Calls Tryd.prog 92 #[.slice (some ⟨g, 0, none⟩) n cap, .int .i64 (x : Int), .int .i64 (y : Int)] w fun e w' => e = .returned (.tuple #[]) ∧ HP S w0 w' pp g n cap L (Stb.swp f x y) := by
  have HH := hide h
  have HXN := hide hx
  have HYN := hide hy
  have hcap := h.row.caps
  obtain ⟨a, ha⟩ : ∃ v, L (f x) = v := ⟨_, rfl⟩
  obtain ⟨b, hb⟩ : ∃ v, L (f y) = v := ⟨_, rfl⟩
  obtain ⟨p, hp⟩ : ∃ v, f x = v := ⟨_, rfl⟩
  obtain ⟨q, hq⟩ : ∃ v, f y = v := ⟨_, rfl⟩
  rw [hp] at ha
  rw [hq] at hb
  have HA := hide ha
  have HB := hide hb
  have HP := hide hp
  have HQ := hide hq
  have HCC : Hid (∀ W, Below w.heap.size w W → (fun w' : World => (w'.cell? ⟨g, x * 2, none⟩ = some (.int .i64 a) ∧ w'.cell? ⟨g, x * 2 + 1, none⟩ = some (.int .i64 (p : Int))) ∧ w'.cell? ⟨g, y * 2, none⟩ = some (.int .i64 b) ∧ w'.cell? ⟨g, y * 2 + 1, none⟩ = some (.int .i64 (q : Int))) W) := fun W hW => by
    have h1 := (h.row.keep hW).cells hx
    have h2 := (h.row.keep hW).cells hy
    rw [hp, ha] at h1
    rw [hq, hb] at h2
    exact ⟨h1, h2⟩
  have e1 : (0 : Int) ≤ (x : Int) := by omega
  have e2 : (x : Int) < (n : Int) := by omega
  have e3 : (0 : Int) ≤ (y : Int) := by omega
  have e4 : (y : Int) < (n : Int) := by omega
  clear h hx hy ha hb hp hq
  go_enter Tryd.func92, Tryd.ntmps92
  go_wp2_with fail
  refine wp_region_till (fun w' : World => (w'.cell? ⟨g, x * 2, none⟩ = some (.int .i64 a) ∧ w'.cell? ⟨g, x * 2 + 1, none⟩ = some (.int .i64 (p : Int))) ∧ w'.cell? ⟨g, y * 2, none⟩ = some (.int .i64 b) ∧ w'.cell? ⟨g, y * 2 + 1, none⟩ = some (.int .i64 (q : Int))) 13 (by kernel_rfl) ?_
  have bd0 : Below w.heap.size w w.drew := (Below.refl _ _).drew
  obtain ⟨WD, hWD⟩ : ∃ W, w.drew = W := ⟨_, rfl⟩
  rw [hWD] at bd0 ⊢
  have hC0 : (fun w' : World => (w'.cell? ⟨g, x * 2, none⟩ = some (.int .i64 a) ∧ w'.cell? ⟨g, x * 2 + 1, none⟩ = some (.int .i64 (p : Int))) ∧ w'.cell? ⟨g, y * 2, none⟩ = some (.int .i64 b) ∧ w'.cell? ⟨g, y * 2 + 1, none⟩ = some (.int .i64 (q : Int))) WD := unhide HCC _ bd0
  refine wpTill_pure (i := 0) (v := ?_) rfl (by kernel_rfl) (by kernel_rfl) (by kernel_rfl) (by kernel_rfl) (fun _ _ _ h => h) (Or.inl ⟨by rfl, ?_⟩) (fun _ => hC0) ?_
  rotate_left
  · intro w hSw; clear hSw; go_simp; (try with_reducible rfl)
  (try simp only [List.getElem_toArray, List.getElem_cons_succ, List.getElem_cons_zero])
  (try simp only [Act.put, List.setIfInBounds_toArray, List.set_cons_zero, List.set_cons_succ])
  refine wpTill_pure (i := 1) (v := ?_) rfl (by kernel_rfl) (by kernel_rfl) (by kernel_rfl) (by kernel_rfl) (fun _ _ _ h => h) (Or.inl ⟨by rfl, ?_⟩) (fun _ => hC0) ?_
  rotate_left
  · intro w hSw; clear hSw; go_simp; (try with_reducible rfl)
  (try simp only [List.getElem_toArray, List.getElem_cons_succ, List.getElem_cons_zero])
  (try simp only [Act.put, List.setIfInBounds_toArray, List.set_cons_zero, List.set_cons_succ])
  refine wpTill_pure (i := 2) (v := ?_) rfl (by kernel_rfl) (by kernel_rfl) (by kernel_rfl) (by kernel_rfl) (fun _ _ _ h => h) (Or.inl ⟨by rfl, ?_⟩) (fun _ => hC0) ?_
  rotate_left
  · intro w hSw; clear hSw; go_simp; (try with_reducible rfl)
  (try simp only [List.getElem_toArray, List.getElem_cons_succ, List.getElem_cons_zero])
  (try simp only [Act.put, List.setIfInBounds_toArray, List.set_cons_zero, List.set_cons_succ])
  refine wpTill_pure (i := 3) (v := ?_) rfl (by kernel_rfl) (by kernel_rfl) (by kernel_rfl) (by kernel_rfl) (fun _ _ _ h => h) (Or.inl ⟨by rfl, ?_⟩) (fun _ => hC0) ?_
  rotate_left
  · intro w hSw; clear hSw; go_simp; (try with_reducible rfl)
  (try simp only [List.getElem_toArray, List.getElem_cons_succ, List.getElem_cons_zero])
  (try simp only [Act.put, List.setIfInBounds_toArray, List.set_cons_zero, List.set_cons_succ])
  refine wpTill_pure (i := 4) (v := ?_) rfl (by kernel_rfl) (by kernel_rfl) (by kernel_rfl) (by kernel_rfl) (fun _ _ _ h => h) (Or.inl ⟨by rfl, ?_⟩) (fun _ => hC0) ?_
  rotate_left
  · intro w hSw; clear hSw; go_simp; (try with_reducible rfl)
  (try simp only [List.getElem_toArray, List.getElem_cons_succ, List.getElem_cons_zero])
  (try simp only [Act.put, List.setIfInBounds_toArray, List.set_cons_zero, List.set_cons_succ])
  refine wpTill_pure (i := 5) (v := ?_) rfl (by kernel_rfl) (by kernel_rfl) (by kernel_rfl) (by kernel_rfl) (fun _ _ _ h => h) (Or.inl ⟨by rfl, ?_⟩) (fun _ => hC0) ?_
  rotate_left
  · intro w hSw; clear hSw; go_simp; (try with_reducible rfl)
  (try simp only [List.getElem_toArray, List.getElem_cons_succ, List.getElem_cons_zero])
  (try simp only [Act.put, List.setIfInBounds_toArray, List.set_cons_zero, List.set_cons_succ])
  refine wpTill_pure (i := 6) (v := ?_) rfl (by kernel_rfl) (by kernel_rfl) (by kernel_rfl) (by kernel_rfl) (fun _ _ _ h => h) (Or.inl ⟨by rfl, ?_⟩) (fun _ => hC0) ?_
  rotate_left
  · intro w hSw; clear hSw; go_simp; (try with_reducible rfl)
  (try simp only [List.getElem_toArray, List.getElem_cons_succ, List.getElem_cons_zero])
  (try simp only [Act.put, List.setIfInBounds_toArray, List.set_cons_zero, List.set_cons_succ])
  refine wpTill_take (i := 7) (v := ?_) rfl (by kernel_rfl) (by kernel_rfl) (by kernel_rfl) (by kernel_rfl) (by kernel_rfl) (by kernel_rfl) (fun _ _ _ h => h) (Or.inl ⟨by rfl, ?_⟩) hC0 ?_
  rotate_left
  · intro w hSw; (try dsimp only at hSw); obtain ⟨⟨z1, z2⟩, z3, z4⟩ := hSw; go_simp; (try with_reducible rfl)
  (try simp only [List.getElem_toArray, List.getElem_cons_succ, List.getElem_cons_zero])
  (try simp only [Act.put, List.setIfInBounds_toArray, List.set_cons_zero, List.set_cons_succ])
  refine wpTill_pure (i := 8) (v := ?_) rfl (by kernel_rfl) (by kernel_rfl) (by kernel_rfl) (by kernel_rfl) (fun _ _ _ h => h) (Or.inl ⟨by rfl, ?_⟩) (fun _ => hC0) ?_
  rotate_left
  · intro w hSw; clear hSw; go_simp; (try with_reducible rfl)
  (try simp only [List.getElem_toArray, List.getElem_cons_succ, List.getElem_cons_zero])
  (try simp only [Act.put, List.setIfInBounds_toArray, List.set_cons_zero, List.set_cons_succ])
  refine wpTill_pure (i := 9) (v := ?_) rfl (by kernel_rfl) (by kernel_rfl) (by kernel_rfl) (by kernel_rfl) (fun _ _ _ h => h) (Or.inl ⟨by rfl, ?_⟩) (fun _ => hC0) ?_
  rotate_left
  · intro w hSw; clear hSw; go_simp; (try with_reducible rfl)
  (try simp only [List.getElem_toArray, List.getElem_cons_succ, List.getElem_cons_zero])
  (try simp only [Act.put, List.setIfInBounds_toArray, List.set_cons_zero, List.set_cons_succ])
  refine wpTill_pure (i := 10) (v := ?_) rfl (by kernel_rfl) (by kernel_rfl) (by kernel_rfl) (by kernel_rfl) (fun _ _ _ h => h) (Or.inl ⟨by rfl, ?_⟩) (fun _ => hC0) ?_
  rotate_left
  · intro w hSw; clear hSw; go_simp; (try with_reducible rfl)
  (try simp only [List.getElem_toArray, List.getElem_cons_succ, List.getElem_cons_zero])
  (try simp only [Act.put, List.setIfInBounds_toArray, List.set_cons_zero, List.set_cons_succ])
  refine wpTill_take (i := 11) (v := ?_) rfl (by kernel_rfl) (by kernel_rfl) (by kernel_rfl) (by kernel_rfl) (by kernel_rfl) (by kernel_rfl) (fun _ _ _ h => h) (Or.inl ⟨by rfl, ?_⟩) hC0 ?_
  rotate_left
  · intro w hSw; (try dsimp only at hSw); obtain ⟨⟨z1, z2⟩, z3, z4⟩ := hSw; go_simp; (try with_reducible rfl)
  (try simp only [List.getElem_toArray, List.getElem_cons_succ, List.getElem_cons_zero])
  (try simp only [Act.put, List.setIfInBounds_toArray, List.set_cons_zero, List.set_cons_succ])
  refine wpTill_pure (i := 12) (v := ?_) rfl (by kernel_rfl) (by kernel_rfl) (by kernel_rfl) (by kernel_rfl) (fun _ _ _ h => h) (Or.inl ⟨by rfl, ?_⟩) (fun _ => hC0) ?_
  rotate_left
  · intro w hSw; clear hSw; go_simp; (try with_reducible rfl)
  (try simp only [List.getElem_toArray, List.getElem_cons_succ, List.getElem_cons_zero])
  (try simp only [Act.put, List.setIfInBounds_toArray, List.set_cons_zero, List.set_cons_succ])
  have h0 := (unhide HH).keep bd0
  have h1 := h0.put (unhide HXN) (f y)
  have h2 := h1.put (unhide HYN) (f x)
  rw [puf_swp] at h2
  have r0 := h0.row
  have y0 := (r0.cells (unhide HXN)).1
  have y1 := (r0.cells (unhide HXN)).2
  have l0 := r0.free (x * 2)
  have r1 : PoolR (WD.setCell ⟨g, x * 2, none⟩ (.int .i64 (L (f y)))) g n cap L (fun _ => 0) ∨ True := Or.inr trivial
  rw [unhide HQ, unhide HB] at h1 h2
  rw [unhide HP, unhide HA] at h2
  obtain ⟨V1, hV1⟩ : ∃ V, WD.setCell ⟨g, x * 2, none⟩ (.int .i64 b) = V := ⟨_, rfl⟩
  have t1 := there_set WD g (x * 2) (x * 2 + 1) (.int .i64 b) y1 (r0.free _)
  rw [hV1] at h1 h2 t1
  obtain ⟨V2, hV2⟩ : ∃ V, V1.setCell ⟨g, x * 2 + 1, none⟩ (.int .i64 (q : Int)) = V := ⟨_, rfl⟩
  rw [hV2] at h1 h2
  have y2 := (h1.row.cells (unhide HYN)).1
  have y3 := (h1.row.cells (unhide HYN)).2
  have l2 := h1.row.free (y * 2)
  obtain ⟨V3, hV3⟩ : ∃ V, V2.setCell ⟨g, y * 2, none⟩ (.int .i64 a) = V := ⟨_, rfl⟩
  have t3 := there_set V2 g (y * 2) (y * 2 + 1) (.int .i64 a) y3 (h1.row.free _)
  rw [hV3] at h2 t3
  obtain ⟨V4, hV4⟩ : ∃ V, V3.setCell ⟨g, y * 2 + 1, none⟩ (.int .i64 (p : Int)) = V := ⟨_, rfl⟩
  rw [hV4] at h2
  have HFIN := hide h2
  obtain ⟨⟨u1, t1⟩, l1⟩ := t1
  obtain ⟨⟨u3, t3⟩, l3⟩ := t3
  obtain ⟨u0, y0⟩ : ∃ u : Value, WD.cell? ⟨g, x * 2, none⟩ = some u := ⟨_, y0⟩
  obtain ⟨u2, y2⟩ : ∃ u : Value, V2.cell? ⟨g, y * 2, none⟩ = some u := ⟨_, y2⟩
  clear h0 h1 h2 r0 r1 y1 y3
  refine wpTill_one (k := 13) (by kernel_rfl) rfl (fun K hK => ?_)
  (try simp only [List.getElem_toArray, List.getElem_cons_succ, List.getElem_cons_zero])
  go_simp
  refine hK.out _ _ (fun h => absurd (h.symm.trans (by kernel_rfl)) Bool.false_ne_true) ?_
  clear hK K
  (try simp only [Act.put, List.setIfInBounds_toArray, List.set_cons_zero, List.set_cons_succ])
  refine wpTill_one (k := 14) (by kernel_rfl) rfl (fun K hK => ?_)
  (try simp only [List.getElem_toArray, List.getElem_cons_succ, List.getElem_cons_zero])
  go_simp
  refine hK.out _ _ (fun h => absurd (h.symm.trans (by kernel_rfl)) Bool.false_ne_true) ?_
  clear hK K
  (try simp only [Act.put, List.setIfInBounds_toArray, List.set_cons_zero, List.set_cons_succ])
  refine wpTill_one (k := 15) (by kernel_rfl) rfl (fun K hK => ?_)
  (try simp only [List.getElem_toArray, List.getElem_cons_succ, List.getElem_cons_zero])
  go_simp
  refine hK.out _ _ (fun h => absurd (h.symm.trans (by kernel_rfl)) Bool.false_ne_true) ?_
  clear hK K
  (try simp only [Act.put, List.setIfInBounds_toArray, List.set_cons_zero, List.set_cons_succ])
  refine wpTill_done (by kernel_rfl) ?_ _
  clear hC0 bd0 HCC hV1 hV2 hV3 hV4 hWD y0 y2 l0 l2 t1 t3 l1 l3
  (try go_wp2)
  exact bodyPost_end (v := .tuple #[]) (by simp [results, Tryd.results92, go_sem]) rfl ⟨rfl, unhide HFIN⟩

set_option maxHeartbeats 8000000 in
set_option maxRecDepth 100000 in
set_option linter.unusedSimpArgs false in
theorem plen_any (g n cap : Nat) (w : World) :
    Calls Tryd.prog 88 #[.slice (some ⟨g, 0, none⟩) n cap] w fun e w' => e = .returned (.int .i64 (n : Int)) ∧ w' = w := by
  go_enter Tryd.func88, Tryd.ntmps88
  go_wp2
  go_ret
  exact ⟨rfl, rfl⟩

end Go.Proofs.YtepgdlgifempeaaDoor
