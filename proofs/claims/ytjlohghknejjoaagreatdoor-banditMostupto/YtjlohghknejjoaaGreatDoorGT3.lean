/- Rows that are pieces of one row; square. -/
import Derived.Test.YtjlohghknejjoaaGreatDoorGT1
namespace Go.Proofs.YtjlohghknejjoaaGreatDoor
open Go.RowKit Go.Sort Go.Shelf

theorem SumsAt.rebase {w w1 wr : World} {g : Nat} {us : List Tri} {qs : List Rat} (h : SumsAt w1 wr g us qs) (hb : Below w.heap.size w w1) : SumsAt w wr g us qs :=
  ⟨h.row, h.len, h.rat, below_step hb h.bl, Nat.le_trans hb.size h.gl⟩
theorem SumsAt.lt {w wr : World} {g : Nat} {us : List Tri} {qs : List Rat} (h : SumsAt w wr g us qs) : g < wr.heap.size := (Array.getElem?_eq_some_iff.1 h.row).1
theorem SumsAt.congr {w wr : World} {g : Nat} {us : List Tri} {qs rs : List Rat} (h : SumsAt w wr g us qs) (e : qs = rs) : SumsAt w wr g us rs := e ▸ h
theorem HdAt.rebase {w w1 wr : World} {G n c : Nat} {ls : Nat → Sl} (h : HdAt w1 wr G n c ls) (hb : Below w.heap.size w w1) : HdAt w wr G n c ls := ⟨h.out, Nat.le_trans hb.size h.gl, below_step hb h.bl⟩
theorem HdAt.rowed {w wr : World} {G n c g : Nat} {ls : Nat → Sl} {us : List Tri} (h : HdAt w wr G n c ls) (hg : wr.heap[g]? = some (.cells (tcells us).toArray 37)) (hge : w.heap.size ≤ g) (i0 i1 i2 : Nat) (x0 x1 x2 : Value) :
    HdAt w (((wr.setCell ⟨g, i0, none⟩ x0).setCell ⟨g, i1, none⟩ x1).setCell ⟨g, i2, none⟩ x2) G n c ls := by
  have hG : G ≠ g := fun e => by
    have a := h.out
    rw [e, hg] at a
    injection a with a
    injection a with _ a
    exact absurd a (by decide)
  exact ⟨by rw [Below.heap_setCell _ _ _ _ hG, Below.heap_setCell _ _ _ _ hG, Below.heap_setCell _ _ _ _ hG]; exact h.out, h.gl, ((h.bl.setCell hge _).setCell hge _).setCell hge _⟩
theorem HdAt.ne {w wr : World} {G n c g : Nat} {ls : Nat → Sl} {us : List Tri} (h : HdAt w wr G n c ls) (hg : wr.heap[g]? = some (.cells (tcells us).toArray 37)) : G ≠ g := fun e => by
  have a := h.out
  rw [e, hg] at a
  injection a with a
  injection a with _ a
  exact absurd a (by decide)
theorem SumsAt.headed {w wr : World} {G n c g i : Nat} {ls : Nat → Sl} {us : List Tri} {qs : List Rat} (h : SumsAt w wr g us qs) (hd : HdAt w wr G n c ls) (x : Value) : SumsAt w (wr.setCell ⟨G, i, none⟩ x) g us qs :=
  ⟨by rw [Below.heap_setCell _ _ _ _ (hd.ne h.row).symm]; exact h.row, h.len, fun j hj => (h.rat j hj).headed hd.out _ _, h.bl.setCell hd.gl _, h.gl⟩

/-- Rows that are pieces of one row. -/
def pcs (B n : Nat) (i : Nat) : Sl := (some ⟨B, i * n * 3, none⟩, n, n)
def flt (n : Nat) (M : Nat → Nat → Rat) (k : Nat) : Rat := M (k / n) (k % n)
structure OneMat (w wr : World) (G B n : Nat) (us : List Tri) (M : Nat → Nat → Rat) : Prop where
  sum : SumsAt w wr B us (row (flt n M) (n * n))
  hd : HdAt w wr G n n (pcs B n)
theorem at_lt {n i j : Nat} (hi : i < n) (hj : j < n) : i * n + j < n * n := by
  have h1 : (i + 1) * n ≤ n * n := Nat.mul_le_mul_right n hi
  rw [Nat.succ_mul] at h1
  omega
theorem at_div {n j : Nat} (i : Nat) (hj : j < n) : (i * n + j) / n = i := by
  rw [Nat.mul_comm, Nat.mul_add_div (by omega), Nat.div_eq_of_lt hj, Nat.add_zero]
theorem at_mod {n j : Nat} (i : Nat) (hj : j < n) : (i * n + j) % n = j := by
  rw [Nat.mul_comm, Nat.mul_add_mod, Nat.mod_eq_of_lt hj]
theorem flt_at {n i j : Nat} (M : Nat → Nat → Rat) (hj : j < n) : flt n M (i * n + j) = M i j := by unfold flt; rw [at_div i hj, at_mod i hj]
theorem flt_congr {n : Nat} {M N : Nat → Nat → Rat} (h : ∀ i j, i < n → j < n → M i j = N i j) : row (flt n M) (n * n) = row (flt n N) (n * n) := row_congr (fun k hk => by
  have hn : 0 < n := by
    by_cases e : n = 0
    · rw [e] at hk; simp at hk
    · omega
  exact h _ _ (Nat.div_lt_of_lt_mul hk) (Nat.mod_lt _ hn))
theorem flt_set {n i j : Nat} (M : Nat → Nat → Rat) (q : Rat) (hi : i < n) (hj : j < n) : (row (flt n M) (n * n)).set (i * n + j) q = row (flt n (upm M i j q)) (n * n) := by
  refine row_eq (by rw [List.length_set, row_length]) (fun k hk => ?_)
  have hl := at_lt hi hj
  by_cases e : i * n + j = k
  · subst e
    rw [flt_at _ hj]
    unfold upm
    rw [if_pos ⟨rfl, rfl⟩]
    simp [row_length, hl]
  · have e1 : ((row (flt n M) (n * n)).set (i * n + j) q)[k]! = (row (flt n M) (n * n))[k]! := by simp [e]
    rw [e1, row_get hk]
    unfold flt upm
    rw [if_neg]
    rintro ⟨h1, h2⟩
    apply e
    have := Nat.div_add_mod k n
    rw [h1, h2, Nat.mul_comm] at this
    exact this
theorem OneMat.keep {w wr w' : World} {G B n : Nat} {us : List Tri} {M : Nat → Nat → Rat} (h : OneMat w wr G B n us M) (hb : Below wr.heap.size wr w') : OneMat w w' G B n us M := ⟨h.sum.keep hb, h.hd.keep hb⟩
theorem OneMat.rebase {w w1 wr : World} {G B n : Nat} {us : List Tri} {M : Nat → Nat → Rat} (h : OneMat w1 wr G B n us M) (hb : Below w.heap.size w w1) : OneMat w wr G B n us M := ⟨h.sum.rebase hb, h.hd.rebase hb⟩
theorem OneMat.congr {w wr : World} {G B n : Nat} {us : List Tri} {M N : Nat → Nat → Rat} (h : OneMat w wr G B n us M) (e : ∀ i j, i < n → j < n → M i j = N i j) : OneMat w wr G B n us N := ⟨h.sum.congr (flt_congr e), h.hd⟩
theorem OneMat.len {w wr : World} {G B n : Nat} {us : List Tri} {M : Nat → Nat → Rat} (h : OneMat w wr G B n us M) : us.length = n * n := by rw [h.sum.len, row_length]
theorem OneMat.head {w wr : World} {G B n : Nat} {us : List Tri} {M : Nat → Nat → Rat} (h : OneMat w wr G B n us M) {i : Nat} (hi : i < n) : wr.cell? ⟨G, i, none⟩ = some (.slice (some ⟨B, i * n * 3, none⟩) n n) := hdl_cell h.hd.out hi hi
theorem OneMat.cells {w wr : World} {G B n : Nat} {us : List Tri} {M : Nat → Nat → Rat} (h : OneMat w wr G B n us M) {i j : Nat} (hi : i < n) (hj : j < n) :
    (wr.cell? ⟨B, i * n * 3 + j * 3, none⟩ = some (.bool (us[i * n + j]!).s) ∧ wr.cell? ⟨B, i * n * 3 + j * 3 + 1, none⟩ = some (.slice (us[i * n + j]!).a1 (us[i * n + j]!).n1 (us[i * n + j]!).c1) ∧ wr.cell? ⟨B, i * n * 3 + j * 3 + 2, none⟩ = some (.slice (us[i * n + j]!).a2 (us[i * n + j]!).n2 (us[i * n + j]!).c2)) ∧
    (wr.frozen? ⟨B, i * n * 3 + j * 3, none⟩ = false ∧ wr.frozen? ⟨B, i * n * 3 + j * 3 + 1, none⟩ = false ∧ wr.frozen? ⟨B, i * n * 3 + j * 3 + 2, none⟩ = false) ∧ RatIs wr (us[i * n + j]!).val (M i j) := by
  have hl := at_lt hi hj
  have a := h.sum.cells (i * n + j) (by rw [h.len]; exact hl)
  have r := h.sum.rat (i * n + j) (by rw [h.len]; exact hl)
  rw [row_get hl, flt_at _ hj] at r
  rw [Nat.add_mul] at a
  exact ⟨a.1, a.2, r⟩
theorem OneMat.set {w wr : World} {G B n : Nat} {us : List Tri} {M : Nat → Nat → Rat} (h : OneMat w wr G B n us M) {i j : Nat} (hi : i < n) (hj : j < n) (t : Tri) (q : Rat) (hr : RatIs wr t.val q) :
    OneMat w (((wr.setCell ⟨B, i * n * 3 + j * 3, none⟩ (.bool t.s)).setCell ⟨B, i * n * 3 + j * 3 + 1, none⟩ (.slice t.a1 t.n1 t.c1)).setCell ⟨B, i * n * 3 + j * 3 + 2, none⟩ (.slice t.a2 t.n2 t.c2)) G B n (us.set (i * n + j) t) (upm M i j q) := by
  have a := h.sum.set (i * n + j) (by rw [h.len]; exact at_lt hi hj) t q hr
  rw [flt_set M q hi hj, Nat.add_mul] at a
  exact ⟨a, h.hd.rowed h.sum.row h.sum.gl _ _ _ _ _ _⟩
theorem OneMat.rowed {w wr : World} {G B n g : Nat} {us us2 : List Tri} {M : Nat → Nat → Rat} (h : OneMat w wr G B n us M) (hg : wr.heap[g]? = some (.cells (tcells us2).toArray 37)) (hne : B ≠ g) (hge : w.heap.size ≤ g) (i0 i1 i2 : Nat) (x0 x1 x2 : Value) :
    OneMat w (((wr.setCell ⟨g, i0, none⟩ x0).setCell ⟨g, i1, none⟩ x1).setCell ⟨g, i2, none⟩ x2) G B n us M := ⟨h.sum.apart' hg hne hge _ _ _ _ _ _, h.hd.rowed hg hge _ _ _ _ _ _⟩
theorem OneMat.law {w wr : World} {G B n : Nat} {us : List Tri} {M : Nat → Nat → Rat} (h : OneMat w wr G B n us M) (hn : n ≤ 1000) {i : Nat} (hi : i < n) : LawIs wr (.slice (some ⟨B, i * n * 3, none⟩) n n) (row (M i) n) := by
  refine ⟨some ⟨B, i * n * 3, none⟩, n, by rw [row_length], by rw [row_length]; exact Nat.le_refl _, by omega, fun _ => ⟨B, i * n * 3, rfl, h.sum.lt, fun j hj => ?_⟩⟩
  rw [row_length] at hj
  obtain ⟨⟨k0, k1, k2⟩, _, r⟩ := h.cells hi hj
  rw [row_get hj]
  exact ⟨_, _, _, _, _, _, _, k0, k1, k2, r⟩
theorem OneMat.rows {w wr : World} {G B n : Nat} {us : List Tri} {M : Nat → Nat → Rat} (h : OneMat w wr G B n us M) (hn : n ≤ 1000) : RowsAre wr (.slice (some ⟨G, 0, none⟩) n n) (mrows n n M) :=
  h.hd.rows (mrows_length _ _ _) hn (fun i hi => by rw [mrows_get hi]; exact h.law hn hi)
/-- What square says: so many rows of so many noughts. -/
def SqOne (w : World) (n : Nat) (e : Ending) (w' : World) : Prop := ∃ (G B : Nat) (us : List Tri), e = .returned (.slice (some ⟨G, 0, none⟩) n n) ∧ OneMat w w' G B n us (fun _ _ => 0)

set_option maxHeartbeats 16000000 in
set_option maxRecDepth 100000 in
set_option linter.unusedSimpArgs false in
theorem bsquare_any (n : Nat) (w : World) (hn : n ≤ 30) : Calls Tryz.prog 58 #[.int .i64 (n : Int)] w (SqOne w n) := by
  have hN2 : n * n ≤ 30 * 30 := Nat.mul_le_mul hn hn
  obtain ⟨nn, hnn⟩ : ∃ x, n * n = x := ⟨_, rfl⟩
  rw [hnn] at hN2
  have hm1 : IntKind.i64.wrap ((n : Int) * (n : Int)) = (nn : Int) := by rw [← Int.natCast_mul, hnn, IntKind.wrap_i64]; omega
  go_enter Tryz.func58, Tryz.ntmps58
  go_wp2_with fail
  refine wp_region_hold (fun _ : World => True) (by kernel_rfl) ?_
  have bd0 : Below w.heap.size w w.drew := (Below.refl _ _).drew
  obtain ⟨Wx, hWx⟩ : ∃ W, w.drew = W := ⟨_, rfl⟩
  rw [hWx] at bd0 ⊢
  have hC0 : (fun _ : World => True) Wx := trivial
  refine wpHold_take (i := 0) (v := ?_) rfl (by kernel_rfl) (by kernel_rfl) (by kernel_rfl) (fun _ _ _ h => h) (Or.inl ⟨by rfl, ?_⟩) hC0 ?_
  rotate_left
  · intro w hSw; clear hSw; go_simp; (try with_reducible rfl)
  (try simp only [List.getElem_toArray, List.getElem_cons_succ, List.getElem_cons_zero])
  (try simp only [Act.put, List.setIfInBounds_toArray, List.set_cons_zero, List.set_cons_succ])
  refine wpHold_take (i := 1) (v := ?_) rfl (by kernel_rfl) (by kernel_rfl) (by kernel_rfl) (fun _ _ _ h => h) (Or.inl ⟨by rfl, ?_⟩) hC0 ?_
  rotate_left
  · intro w hSw; clear hSw; go_simp; (try with_reducible rfl)
  (try simp only [List.getElem_toArray, List.getElem_cons_succ, List.getElem_cons_zero])
  (try simp only [Act.put, List.setIfInBounds_toArray, List.set_cons_zero, List.set_cons_succ])
  refine wpHold_take (i := 2) (v := ?_) rfl (by kernel_rfl) (by kernel_rfl) (by kernel_rfl) (fun _ _ _ h => h) (Or.inl ⟨by rfl, ?_⟩) hC0 ?_
  rotate_left
  · intro w hSw; clear hSw; go_simp; (try with_reducible rfl)
  (try simp only [List.getElem_toArray, List.getElem_cons_succ, List.getElem_cons_zero])
  (try simp only [Act.put, List.setIfInBounds_toArray, List.set_cons_zero, List.set_cons_succ])
  refine wpHold_take (i := 4) (v := ?_) rfl (by kernel_rfl) (by kernel_rfl) (by kernel_rfl) (fun _ _ _ h => h) (Or.inl ⟨by rfl, ?_⟩) hC0 ?_
  rotate_left
  · intro w hSw; clear hSw; go_simp; (try with_reducible rfl)
  (try simp only [List.getElem_toArray, List.getElem_cons_succ, List.getElem_cons_zero])
  (try simp only [Act.put, List.setIfInBounds_toArray, List.set_cons_zero, List.set_cons_succ])
  refine wpHold_listed (n := 4) (L' := (fun x : Bool × Bool × Bool => #[true, true, true, x.1, true, x.2.1, x.2.2, false]) (false, false, false)) (by kernel_rfl) (by kernel_rfl) ?_
  refine wpHold_name (fun a0 ha0 => ?_)
  refine two_any (fun x : Bool × Bool × Bool => #[true, true, true, x.1, true, x.2.1, x.2.2, false]) 1 3 5 6 (fun x y z na W => ∃ s1 s2 s3, na = ((a0.put (some 11) s1).put (some 13) s2).put (some 3) s3 ∧ (z = true → x = true ∧ s3 = s1) ∧ TwoK (fun W s1 => ∃ B, s1 = .slice (some ⟨B, 0, none⟩) nn nn ∧ SumsAt w W B (List.replicate nn zTri) (List.replicate nn 0)) (fun W s2 => ∃ G, s2 = .slice (some ⟨G, 0, none⟩) n n ∧ HdAt w W G n 0 (pcs 0 n)) (fun W s1 s2 => ∃ B G, s1 = .slice (some ⟨B, 0, none⟩) nn nn ∧ s2 = .slice (some ⟨G, 0, none⟩) n n ∧ SumsAt w W B (List.replicate nn zTri) (List.replicate nn 0) ∧ HdAt w W G n 0 (pcs 0 n)) Wx x y W s1 s2) ?_ ?_ ?_ ?_ ?_ ?_ _ _ ⟨undef, undef, undef, by subst ha0; rfl, fun h => (by cases h), Below.refl _ _, fun h => (by cases h), fun h => (by cases h), fun h => (by cases h)⟩
  · clear ha0
    rintro ⟨x, y, z⟩ hs
    match x, y, z, hs with
    | false, false, false, _ => (show (_ : Bool) = _; kernel_rfl)
    | false, false, true, _ => (show (_ : Bool) = _; kernel_rfl)
    | false, true, false, _ => (show (_ : Bool) = _; kernel_rfl)
    | false, true, true, _ => (show (_ : Bool) = _; kernel_rfl)
    | true, false, false, _ => (show (_ : Bool) = _; kernel_rfl)
    | true, false, true, _ => (show (_ : Bool) = _; kernel_rfl)
    | true, true, false, _ => (show (_ : Bool) = _; kernel_rfl)
  · clear ha0
    rintro ⟨x, y, z⟩ hs
    match x, y, z, hs with
    | false, false, false, _ => (show (_ : Bool) = _; kernel_rfl)
    | false, false, true, _ => (show (_ : Bool) = _; kernel_rfl)
    | false, true, false, _ => (show (_ : Bool) = _; kernel_rfl)
    | false, true, true, _ => (show (_ : Bool) = _; kernel_rfl)
    | true, false, false, _ => (show (_ : Bool) = _; kernel_rfl)
    | true, false, true, _ => (show (_ : Bool) = _; kernel_rfl)
    | true, true, false, _ => (show (_ : Bool) = _; kernel_rfl)
  · rintro y z na wv ⟨s1, s2, s3, rfl, hz, J⟩
    have hz0 : z = false := by
      cases z with
      | false => rfl
      | true => exact absurd (hz rfl).1 (by decide)
    subst hz0
    subst ha0
    have qmk := make_ratios (nn : Int) (by omega) (by omega) wv
    rw [Int.toNat_natCast] at qmk
    have hb := alloc_below wv (.cells (tcells (List.replicate nn zTri)).toArray 37)
    refine wpOp_step rfl (fun K hK => ?_)
    (try simp only [Act.put, List.setIfInBounds_toArray, List.set_cons_zero, List.set_cons_succ] at hK ⊢)
    (try simp only [List.getElem_toArray, List.getElem_cons_succ, List.getElem_cons_zero])
    go_simp
    have hS := SumsAt.start w wv nn (below_step bd0 J.bl)
    have hbz := below_step J.bl hb
    exact hK _ _ ⟨trivial, _, s2, s3, rfl, fun h => (by cases h), hbz, fun _ => ⟨_, rfl, hS⟩, fun h => by
      obtain ⟨G2, e1, e2⟩ := J.rb h
      exact ⟨G2, e1, e2.keep hb⟩, fun _ h => by
      obtain ⟨G2, e1, e2⟩ := J.rb h
      exact ⟨_, G2, rfl, e1, hS, e2.keep hb⟩⟩
  · rintro x z na wv ⟨s1, s2, s3, rfl, hz, J⟩
    subst ha0
    have qmk := make_rows (n : Int) (by omega) (by omega) (pcs 0 n) wv
    rw [Int.toNat_natCast] at qmk
    have hb := alloc_below wv (.cells (hdl n 0 (pcs 0 n)).toArray 29)
    refine wpOp_step rfl (fun K hK => ?_)
    (try simp only [Act.put, List.setIfInBounds_toArray, List.set_cons_zero, List.set_cons_succ] at hK ⊢)
    (try simp only [List.getElem_toArray, List.getElem_cons_succ, List.getElem_cons_zero])
    go_simp
    have hH : HdAt w (wv.alloc (.cells (hdl n 0 (pcs 0 n)).toArray 29)) wv.heap.size n 0 (pcs 0 n) := ⟨heap_alloc_new _ _, (below_step bd0 J.bl).size, below_step (below_step bd0 J.bl) hb⟩
    have hbz := below_step J.bl hb
    exact hK _ _ ⟨trivial, s1, _, s3, rfl, hz, hbz, fun h => by
      obtain ⟨G, e1, e2⟩ := J.ra h
      exact ⟨G, e1, e2.keep hb⟩, fun _ => ⟨_, rfl, hH⟩, fun h _ => by
      obtain ⟨G, e1, e2⟩ := J.ra h
      exact ⟨G, _, e1, rfl, e2.keep hb, hH⟩⟩
  · rintro y na wv ⟨s1, s2, s3, rfl, hz, J⟩
    subst ha0
    refine wpOp_step rfl (fun K hK => ?_)
    (try simp only [Act.put, List.setIfInBounds_toArray, List.set_cons_zero, List.set_cons_succ] at hK ⊢)
    (try simp only [List.getElem_toArray, List.getElem_cons_succ, List.getElem_cons_zero])
    go_simp
    have hbz := J.bl
    exact hK _ _ ⟨trivial, s1, s2, s1, rfl, fun _ => ⟨by trivial, rfl⟩, J⟩
  rintro na wv ⟨s1, s2, s3, rfl, hz, J⟩
  obtain ⟨_, rfl⟩ := hz rfl
  subst ha0
  have hbz := J.bl
  have hCv : (fun _ : World => True) wv := trivial
  obtain ⟨B, G, rfl, rfl, hS0, hH0⟩ := J.rab rfl rfl
  refine wpHold_take (i := 7) (v := ?_) rfl (by kernel_rfl) (by kernel_rfl) (by kernel_rfl) (fun _ _ _ h => h) (Or.inl ⟨by rfl, ?_⟩) hCv ?_
  rotate_left
  · intro w hSw; clear hSw; go_simp; (try with_reducible rfl)
  (try simp only [List.getElem_toArray, List.getElem_cons_succ, List.getElem_cons_zero])
  (try simp only [Act.put, List.setIfInBounds_toArray, List.set_cons_zero, List.set_cons_succ])
  refine wpHold_done (by kernel_rfl) ?_ _
  have HS0 : Hid (SumsAt w wv B (List.replicate nn zTri) (row (flt n (fun _ _ => 0)) nn)) := hS0.congr (row_eq List.length_replicate (fun i hi => by simp [hi, flt]))
  have HH0 : Hid (HdAt w wv G n 0 (pcs B n)) := ⟨by rw [← hdl_zero]; have := hH0.out; rw [← hdl_zero] at this; exact this, hH0.gl, hH0.bl⟩
  clear J hS0 hH0 bd0 hWx hC0 hCv hbz hz
  go_wp2_with fail
  go_loopw [16] (fun vi wr => ∃ (k : Nat), vi = .int .i64 (k : Int) ∧ k ≤ n ∧ SumsAt w wr B (List.replicate nn zTri) (row (flt n (fun _ _ => 0)) nn) ∧ HdAt w wr G n k (pcs B n)) (fun vi _ => n - (intOf vi).toNat)
  case atStart => exact ⟨0, rfl, Nat.zero_le _, unhide HS0, unhide HH0⟩
  case round =>
    obtain ⟨k, rfl, hk, hS, hH⟩ := hrel
    clear HS0 HH0
    by_cases hlt : k < n
    · have e1 : (k : Int) < (n : Int) := by omega
      have e0 : (0 : Int) ≤ (k : Int) := by omega
      have m1 : k * n ≤ (k + 1) * n := Nat.mul_le_mul_right n (by omega)
      have m2 : (k + 1) * n ≤ n * n := Nat.mul_le_mul_right n (by omega)
      have m4 : (k + 1) * n = k * n + n := Nat.succ_mul k n
      obtain ⟨fr, hfr⟩ : ∃ x, k * n = x := ⟨_, rfl⟩
      obtain ⟨tq, hto⟩ : ∃ x, (k + 1) * n = x := ⟨_, rfl⟩
      have j1 : IntKind.i64.wrap ((k : Int) * (n : Int)) = (fr : Int) := by rw [← Int.natCast_mul, hfr, IntKind.wrap_i64]; omega
      have j2 : IntKind.i64.wrap ((k : Int) + 1) = (k : Int) + 1 := by rw [IntKind.wrap_i64]; omega
      have j3 : IntKind.i64.wrap (((k : Int) + 1) * (n : Int)) = (tq : Int) := by rw [show ((k : Int) + 1) = ((k + 1 : Nat) : Int) by omega, ← Int.natCast_mul, hto, IntKind.wrap_i64]; omega
      rw [hfr, hto] at m1
      rw [hto] at m2 m4
      rw [hfr] at m4
      rw [hnn] at m2
      have d1 : (0 : Int) ≤ (fr : Int) := by omega
      have d2 : (fr : Int) ≤ (tq : Int) := by omega
      have d3 : (tq : Int) ≤ (nn : Int) := by omega
      have d4 : (tq : Int) ≤ (tq : Int) := by omega
      have d5 : tq - fr = n := by omega
      have d6 : ¬ tq = fr := by omega
      have kz := hdl_cell0 hH.out (Nat.le_refl k) hlt
      have kf := hdl_free hH.out k
      have P1 := hH.push (some ⟨B, fr * 3, none⟩, n, n)
      have P2 := hS.headed (i := k) hH (.slice (some ⟨B, fr * 3, none⟩) n n)
      obtain ⟨W2, hW2⟩ : ∃ W, wr.setCell ⟨G, k, none⟩ (.slice (some ⟨B, fr * 3, none⟩) n n) = W := ⟨_, rfl⟩
      have P1' : HdAt w W2 G n (k + 1) (pcs B n) := by
        rw [← hW2]
        refine ⟨?_, P1.gl, P1.bl⟩
        have := P1.out
        rw [hdl_congr (ms := pcs B n) (fun i hi => by
          unfold upl pcs
          by_cases e : i = k
          · rw [if_pos e, e, hfr]
          · rw [if_neg e])] at this
        exact this
      rw [hW2] at P2
      have HP1 := hide P1'
      have HP2 := hide P2
      clear hS hH P1 P1' P2 hfr hto
      go_wp2_with fail
      exact ⟨⟨k + 1, by go_num, hlt, unhide HP2, unhide HP1⟩, by simp [intOf]; omega⟩
    · obtain rfl : k = n := by omega
      have e1 : ¬ (k : Int) < (k : Int) := by omega
      have HM : Hid (OneMat w wr G B k (List.replicate nn zTri) (fun _ _ => 0)) := ⟨by rw [hnn]; exact hS, hH⟩
      clear hS hH
      go_wp2
      go_ret
      exact ⟨G, B, _, rfl, unhide HM⟩
end Go.Proofs.YtjlohghknejjoaaGreatDoor
