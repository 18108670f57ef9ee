/- Arms: the index. -/
import Derived.Test.YtjlohghknejjoaaGreatDoorGT5
import Derived.Test.YtjlohghknejjoaaGreatDoorGT6
namespace Go.Proofs.YtjlohghknejjoaaGreatDoor
open Go.RowKit Go.Sort Go.Shelf

/-- How many are known. -/
def cntK (K : Nat → Bool) : Nat → Nat
  | 0 => 0
  | m + 1 => cntK K m + (if K m = true then 1 else 0)
theorem cntK_le (K : Nat → Bool) : ∀ m, cntK K m ≤ m
  | 0 => Nat.le_refl 0
  | m + 1 => by
    have := cntK_le K m
    show cntK K m + _ ≤ _
    split <;> omega
theorem cntK_all {K : Nat → Bool} : ∀ {m : Nat}, cntK K m = m → ∀ s, s < m → K s = true
  | m + 1, h, s, hs => by
    have h1 := cntK_le K m
    have h : cntK K m + (if K m = true then 1 else 0) = m + 1 := h
    by_cases c : K m = true
    · rw [if_pos c] at h
      by_cases e : s = m
      · rw [e]; exact c
      · exact cntK_all (K := K) (m := m) (by omega) s (by omega)
    · rw [if_neg c] at h; omega
theorem cntK_some {K : Nat → Bool} : ∀ {m : Nat}, cntK K m < m → ∃ s, s < m ∧ K s = false
  | m + 1, h => by
    have h : cntK K m + (if K m = true then 1 else 0) < m + 1 := h
    by_cases c : K m = true
    · rw [if_pos c] at h
      obtain ⟨s, hs, h2⟩ := cntK_some (K := K) (m := m) (by omega)
      exact ⟨s, by omega, h2⟩
    · exact ⟨m, by omega, by simpa using c⟩
theorem cntK_ins {K : Nat → Bool} {z : Nat} (hz : K z = false) : ∀ m, cntK (Git.ins K z) m = cntK K m + (if z < m then 1 else 0)
  | 0 => by simp [cntK]
  | m + 1 => by
    have ih := cntK_ins hz m
    have a1 : cntK (Git.ins K z) (m + 1) = cntK (Git.ins K z) m + (if Git.ins K z m = true then 1 else 0) := rfl
    have a2 : cntK K (m + 1) = cntK K m + (if K m = true then 1 else 0) := rfl
    rw [a1, a2, ih]
    by_cases e : m = z
    · have e1 : Git.ins K z m = true := by unfold Git.ins; rw [if_pos e]
      have e2 : K m = false := by rw [e]; exact hz
      have e3 : ¬ z < m := by omega
      have e4 : z < m + 1 := by omega
      simp [e1, e2, e3, e4]
    · have e1 : Git.ins K z m = K m := by unfold Git.ins; rw [if_neg e]
      rw [e1]
      by_cases c : z < m
      · have c2 : z < m + 1 := by omega
        simp only [if_pos c, if_pos c2]; omega
      · have c2 : ¬ z < m + 1 := by omega
        simp only [if_neg c, if_neg c2]; omega
theorem cntK_none : ∀ m, cntK (fun _ => false) m = 0
  | 0 => rfl
  | m + 1 => by
    show cntK (fun _ => false) m + _ = 0
    rw [cntK_none m]; rfl
/-- The greatest of those that are not known, of the first j. -/
def Nxt (K : Nat → Bool) (q : Nat → Rat) (j : Nat) (x : Int) : Prop := (x = -1 ∧ ∀ s, s < j → K s = true) ∨ ∃ z : Nat, x = (z : Int) ∧ z < j ∧ K z = false ∧ ∀ s, s < j → K s = false → q s ≤ q z
theorem SumsAt.bools {w wr : World} {G g n j : Nat} {x : Bool} {f : Nat → Bool} {us : List Tri} {qs : List Rat} (h : SumsAt w wr G us qs) (hg : OwnB wr g n f) (hge : w.heap.size ≤ g) : SumsAt w (wr.setCell ⟨g, j, none⟩ (.bool x)) G us qs := by
  have hne : G ≠ g := fun e => by
    have a := h.row
    unfold OwnB at hg
    rw [e, hg] at a
    injection a with a
    injection a with _ a
    exact absurd a (by decide)
  exact ⟨by rw [Below.heap_setCell _ _ _ _ hne]; exact h.row, h.len, fun i hi => (h.rat i hi).bools hg, h.bl.setCell hge _, h.gl⟩
theorem OwnB.rowed {wr : World} {g n G : Nat} {f : Nat → Bool} {us : List Tri} (h : OwnB wr g n f) (hg : wr.heap[G]? = some (.cells (tcells us).toArray 37)) (i0 i1 i2 : Nat) (x0 x1 x2 : Value) : OwnB (((wr.setCell ⟨G, i0, none⟩ x0).setCell ⟨G, i1, none⟩ x1).setCell ⟨G, i2, none⟩ x2) g n f := by
  unfold OwnB at h ⊢
  have hne : g ≠ G := fun e => by
    rw [e, hg] at h
    injection h with a
    injection a with _ a
    exact absurd a (by decide)
  rw [Below.heap_setCell _ _ _ _ hne, Below.heap_setCell _ _ _ _ hne, Below.heap_setCell _ _ _ _ hne]
  exact h
def IndPost (w : World) (a : Git.Arm) (e : Ending) (w' : World) : Prop :=
  ∃ (v : Value) (x : Nat → Rat), e = .returned v ∧ LawIs w' v (row x a.n) ∧ Git.Idx a x ∧ (∀ i, i < a.n → RS (x i) (2 * XBn a.n)) ∧ Below w.heap.size w w'

set_option maxHeartbeats 16000000 in
set_option maxRecDepth 100000 in
set_option linter.unusedSimpArgs false in
theorem indices_any (v vw : Value) (gs : List Rat) (P : List (List Rat)) (b : Rat) (w : World) (h : ArmIs w v gs P) (hw : RatIs w vw b) (sm : SmA gs P) (gm : GoodAr gs P) (rb : RS b 1) (h0 : 0 ≤ b) (h1 : b < 1) :
    Calls Tryz.prog 23 #[v, vw] w (IndPost w (arm gs P b)) := by
  have KKe : KK = 1099511627776 := rfl
  obtain ⟨m, l, rfl, hT, hS⟩ := h
  have hln := rows_len hS
  have hmn := law_len hT
  obtain ⟨n, hn⟩ : ∃ n, P.length = n := ⟨_, rfl⟩
  obtain ⟨k, hk⟩ : ∃ k, gs.length = k := ⟨_, rfl⟩
  rw [hn] at hln
  rw [hk] at hmn
  have HN := hide hn
  have HK := hide hk
  have HLN := hide hln
  have HMN := hide hmn
  obtain ⟨t, rfl, hwt⟩ := tri_of hw
  have X0 := ArmBox.new hT hS
  have b0 := alloc_below w (.cells #[.slice m.a m.n m.c, .slice l.a l.n l.c] 32)
  obtain ⟨W1, hW1⟩ : ∃ W, w.alloc (.cells #[.slice m.a m.n m.c, .slice l.a l.n l.c] 32) = W := ⟨_, rfl⟩
  obtain ⟨ba, hba⟩ : ∃ x, w.heap.size = x := ⟨_, rfl⟩
  rw [hW1] at X0 b0
  rw [hba] at X0
  have hXW := BoxIs.new (w := W1) (hwt.below b0)
  have b1 := alloc_below W1 (.cells #[.bool t.s, .slice t.a1 t.n1 t.c1, .slice t.a2 t.n2 t.c2] 37)
  obtain ⟨W0, hW0⟩ : ∃ W, W1.alloc (.cells #[.bool t.s, .slice t.a1 t.n1 t.c1, .slice t.a2 t.n2 t.c2] 37) = W := ⟨_, rfl⟩
  obtain ⟨bw, hbw⟩ : ∃ x, W1.heap.size = x := ⟨_, rfl⟩
  rw [hW0] at hXW b1
  rw [hbw] at hXW
  have HXW := hide hXW
  have HXA := hide (X0.keep b1)
  have HB0 := hide (below_step b0 b1)
  have HCA : Hid (∀ W, Below W0.heap.size W0 W → (fun w' : World => (w'.cell? ⟨ba, 0, none⟩ = some (.slice m.a k m.c) ∧ w'.cell? ⟨ba, 1, none⟩ = some (.slice l.a n l.c)) ∧ w'.cell? ⟨bw, 0, none⟩ = some (.bool t.s) ∧ w'.cell? ⟨bw, 1, none⟩ = some (.slice t.a1 t.n1 t.c1) ∧ w'.cell? ⟨bw, 2, none⟩ = some (.slice t.a2 t.n2 t.c2)) W) := fun W hW => by
    have h1 := (unhide HXA).cells W hW
    rw [hmn, hln] at h1
    exact ⟨h1, (unhide HXW).cells W hW⟩
  have HAR : Hid (∀ W, Below W0.heap.size W0 W → ArmIs W (.agg #[.slice m.a k m.c, .slice l.a n l.c]) gs P) := fun W hW => by
    have h1 := (unhide HXA).arm.below hW
    unfold aval at h1
    rw [hmn, hln] at h1
    exact h1
  have HRW : Hid (∀ W, Below W0.heap.size W0 W → RatIs W (.agg #[.bool t.s, .slice t.a1 t.n1 t.c1, .slice t.a2 t.n2 t.c2]) b) := fun W hW => (unhide HXW).2.below hW
  unfold aval
  rw [hmn, hln] at hW1 ⊢
  simp only [Tri.val]
  have ⟨⟨ca0, ca1⟩, cw0, cw1, cw2⟩ := unhide HCA W0 (Below.refl _ _)
  clear hT hS X0 b0 b1 hXW hwt hw hln hmn
  have hk1 : 1 ≤ k := by have := gm.n1; omega
  have hk5 : k ≤ 5 := by have := gm.n5; omega
  have HXB : Hid (16 * XBn k + 200 ≤ KK) := xbn_le k (by omega)
  have HRA : Hid (∀ W, Below W0.heap.size W0 W → ∀ K vs, BRow W vs k K → Calls Tryz.prog 30 #[.agg #[.slice m.a k m.c, .slice l.a n l.c], .agg #[.bool t.s, .slice t.a1 t.n1 t.c1, .slice t.a2 t.n2 t.c2], vs] W (RatesPost W (arm gs P b) K)) := fun W hW K vs hvs => rates_any _ _ vs gs P b K W (unhide HAR W hW) (unhide HRW W hW) (by rw [hk]; exact hvs) sm gm rb h0 h1
  have HOK := hide (good_aok (b := b) gm h0 h1)
  obtain ⟨A, hA⟩ : ∃ A, arm gs P b = A := ⟨_, rfl⟩
  rw [hA] at HRA HOK ⊢
  have HAN : Hid (A.n = k) := by show _ = _; rw [← hA]; exact hk
  clear sm gm rb h0 h1 hn hk hA HRW HAR
  go_enter Tryz.func23, Tryz.ntmps23
  go_wp2_with fail
  clear hW1 hba hW0 hbw ca0 ca1 cw0 cw1 cw2
  refine wp_region_hold (fun w' : World => (w'.cell? ⟨ba, 0, none⟩ = some (.slice m.a k m.c) ∧ w'.cell? ⟨ba, 1, none⟩ = some (.slice l.a n l.c)) ∧ w'.cell? ⟨bw, 0, none⟩ = some (.bool t.s) ∧ w'.cell? ⟨bw, 1, none⟩ = some (.slice t.a1 t.n1 t.c1) ∧ w'.cell? ⟨bw, 2, none⟩ = some (.slice t.a2 t.n2 t.c2)) (by kernel_rfl) ?_
  have bd0 : Below W0.heap.size W0 W0.drew := (Below.refl _ _).drew
  obtain ⟨Wx, hWx⟩ : ∃ W, W0.drew = W := ⟨_, rfl⟩
  rw [hWx] at bd0 ⊢
  have hC0 : (fun w' : World => (w'.cell? ⟨ba, 0, none⟩ = some (.slice m.a k m.c) ∧ w'.cell? ⟨ba, 1, none⟩ = some (.slice l.a n l.c)) ∧ w'.cell? ⟨bw, 0, none⟩ = some (.bool t.s) ∧ w'.cell? ⟨bw, 1, none⟩ = some (.slice t.a1 t.n1 t.c1) ∧ w'.cell? ⟨bw, 2, none⟩ = some (.slice t.a2 t.n2 t.c2)) Wx := unhide HCA _ bd0
  refine wpHold_take (i := 0) (v := ?_) rfl (by kernel_rfl) (by kernel_rfl) (by kernel_rfl) (fun _ _ _ h => h) (Or.inl ⟨by rfl, ?_⟩) hC0 ?_
  rotate_left
  · intro w hSw; clear hSw; go_simp; (try with_reducible rfl)
  (try simp only [List.getElem_toArray, List.getElem_cons_succ, List.getElem_cons_zero])
  (try simp only [Act.put, List.setIfInBounds_toArray, List.set_cons_zero, List.set_cons_succ])
  refine wpHold_take (i := 1) (v := ?_) rfl (by kernel_rfl) (by kernel_rfl) (by kernel_rfl) (fun _ _ _ h => h) (Or.inl ⟨by rfl, ?_⟩) hC0 ?_
  rotate_left
  · intro w hSw; (try dsimp only at hSw); obtain ⟨⟨z0, z1⟩, z2, z3, z4⟩ := hSw; go_simp; (try with_reducible rfl)
  (try simp only [List.getElem_toArray, List.getElem_cons_succ, List.getElem_cons_zero])
  (try simp only [Act.put, List.setIfInBounds_toArray, List.set_cons_zero, List.set_cons_succ])
  refine wpHold_take (i := 2) (v := ?_) rfl (by kernel_rfl) (by kernel_rfl) (by kernel_rfl) (fun _ _ _ h => h) (Or.inl ⟨by rfl, ?_⟩) hC0 ?_
  rotate_left
  · intro w hSw; clear hSw; go_simp; (try with_reducible rfl)
  (try simp only [List.getElem_toArray, List.getElem_cons_succ, List.getElem_cons_zero])
  (try simp only [Act.put, List.setIfInBounds_toArray, List.set_cons_zero, List.set_cons_succ])
  refine wpHold_take (i := 4) (v := ?_) rfl (by kernel_rfl) (by kernel_rfl) (by kernel_rfl) (fun _ _ _ h => h) (Or.inl ⟨by rfl, ?_⟩) hC0 ?_
  rotate_left
  · intro w hSw; clear hSw; go_simp; (try with_reducible rfl)
  (try simp only [List.getElem_toArray, List.getElem_cons_succ, List.getElem_cons_zero])
  (try simp only [Act.put, List.setIfInBounds_toArray, List.set_cons_zero, List.set_cons_succ])
  refine wpHold_take (i := 5) (v := ?_) rfl (by kernel_rfl) (by kernel_rfl) (by kernel_rfl) (fun _ _ _ h => h) (Or.inl ⟨by rfl, ?_⟩) hC0 ?_
  rotate_left
  · intro w hSw; (try dsimp only at hSw); obtain ⟨⟨z0, z1⟩, z2, z3, z4⟩ := hSw; go_simp; (try with_reducible rfl)
  (try simp only [List.getElem_toArray, List.getElem_cons_succ, List.getElem_cons_zero])
  (try simp only [Act.put, List.setIfInBounds_toArray, List.set_cons_zero, List.set_cons_succ])
  refine wpHold_take (i := 6) (v := ?_) rfl (by kernel_rfl) (by kernel_rfl) (by kernel_rfl) (fun _ _ _ h => h) (Or.inl ⟨by rfl, ?_⟩) hC0 ?_
  rotate_left
  · intro w hSw; clear hSw; go_simp; (try with_reducible rfl)
  (try simp only [List.getElem_toArray, List.getElem_cons_succ, List.getElem_cons_zero])
  (try simp only [Act.put, List.setIfInBounds_toArray, List.set_cons_zero, List.set_cons_succ])
  refine wpHold_listed (n := 4) (L' := (fun x : Bool × Bool × Bool => #[true, true, true, x.1, true, true, true, x.2.1, x.2.2, false]) (false, false, false)) (by kernel_rfl) (by kernel_rfl) ?_
  refine wpHold_name (fun a0 ha0 => ?_)
  refine two_any (fun x : Bool × Bool × Bool => #[true, true, true, x.1, true, true, true, x.2.1, x.2.2, false]) 1 3 7 8 (fun x y z na W => ∃ s1 s2 s3, na = ((a0.put (some 14) s1).put (some 18) s2).put (some 5) s3 ∧ (z = true → x = true ∧ s3 = s1) ∧ TwoK (fun W s1 => ∃ G, s1 = .slice (some ⟨G, 0, none⟩) k k ∧ SumsAt W0 W G (List.replicate k zTri) (List.replicate k 0)) (fun W s2 => ∃ g, s2 = .slice (some ⟨g, 0, none⟩) k k ∧ OwnB W g k (fun _ => false) ∧ W0.heap.size ≤ g) (fun W s1 s2 => ∃ G g, s1 = .slice (some ⟨G, 0, none⟩) k k ∧ s2 = .slice (some ⟨g, 0, none⟩) k k ∧ SumsAt W0 W G (List.replicate k zTri) (List.replicate k 0) ∧ OwnB W g k (fun _ => false) ∧ W0.heap.size ≤ g) Wx x y W s1 s2) ?_ ?_ ?_ ?_ ?_ ?_ _ _ ⟨undef, undef, undef, by subst ha0; rfl, fun h => (by cases h), Below.refl _ _, fun h => (by cases h), fun h => (by cases h), fun h => (by cases h)⟩
  · clear ha0
    rintro ⟨x, y, z⟩ hs
    match x, y, z, hs with
    | false, false, false, _ => (show (_ : Bool) = _; kernel_rfl)
    | false, false, true, _ => (show (_ : Bool) = _; kernel_rfl)
    | false, true, false, _ => (show (_ : Bool) = _; kernel_rfl)
    | false, true, true, _ => (show (_ : Bool) = _; kernel_rfl)
    | true, false, false, _ => (show (_ : Bool) = _; kernel_rfl)
    | true, false, true, _ => (show (_ : Bool) = _; kernel_rfl)
    | true, true, false, _ => (show (_ : Bool) = _; kernel_rfl)
  · clear ha0
    rintro ⟨x, y, z⟩ hs
    match x, y, z, hs with
    | false, false, false, _ => (show (_ : Bool) = _; kernel_rfl)
    | false, false, true, _ => (show (_ : Bool) = _; kernel_rfl)
    | false, true, false, _ => (show (_ : Bool) = _; kernel_rfl)
    | false, true, true, _ => (show (_ : Bool) = _; kernel_rfl)
    | true, false, false, _ => (show (_ : Bool) = _; kernel_rfl)
    | true, false, true, _ => (show (_ : Bool) = _; kernel_rfl)
    | true, true, false, _ => (show (_ : Bool) = _; kernel_rfl)
  · rintro y z na wv ⟨s1, s2, s3, rfl, hz, J⟩
    have hz0 : z = false := by
      cases z with
      | false => rfl
      | true => exact absurd (hz rfl).1 (by decide)
    subst hz0
    subst ha0
    have qmk := make_ratios (k : Int) (by omega) (by omega) wv
    rw [Int.toNat_natCast] at qmk
    have hb := alloc_below wv (.cells (tcells (List.replicate k zTri)).toArray 37)
    refine wpOp_step rfl (fun K hK => ?_)
    (try simp only [Act.put, List.setIfInBounds_toArray, List.set_cons_zero, List.set_cons_succ] at hK ⊢)
    (try simp only [List.getElem_toArray, List.getElem_cons_succ, List.getElem_cons_zero])
    go_simp
    have hS := SumsAt.start W0 wv k (below_step bd0 J.bl)
    have hbz := below_step J.bl hb
    exact hK _ _ ⟨(unhide HCA _ (below_step bd0 hbz)), _, s2, s3, rfl, fun h => (by cases h), hbz, fun _ => ⟨_, rfl, hS⟩, fun h => by
      obtain ⟨g, e1, e2, e3⟩ := J.rb h
      exact ⟨g, e1, e2.keep hb, e3⟩, fun _ h => by
      obtain ⟨g, e1, e2, e3⟩ := J.rb h
      exact ⟨_, g, rfl, e1, hS, e2.keep hb, e3⟩⟩
  · rintro x z na wv ⟨s1, s2, s3, rfl, hz, J⟩
    subst ha0
    have qmk := make_bools k (by omega) wv
    have hb := alloc_below wv (.cells (brow (fun _ => false) k).toArray 4)
    refine wpOp_step rfl (fun K hK => ?_)
    (try simp only [Act.put, List.setIfInBounds_toArray, List.set_cons_zero, List.set_cons_succ] at hK ⊢)
    (try simp only [List.getElem_toArray, List.getElem_cons_succ, List.getElem_cons_zero])
    go_simp
    have hO := make_ownB wv k
    have hbz := below_step J.bl hb
    have hge := (below_step bd0 J.bl).size
    exact hK _ _ ⟨(unhide HCA _ (below_step bd0 hbz)), s1, _, s3, rfl, hz, hbz, fun h => by
      obtain ⟨G, e1, e2⟩ := J.ra h
      exact ⟨G, e1, e2.keep hb⟩, fun _ => ⟨_, rfl, hO, hge⟩, fun h _ => by
      obtain ⟨G, e1, e2⟩ := J.ra h
      exact ⟨G, _, e1, rfl, e2.keep hb, hO, hge⟩⟩
  · rintro y na wv ⟨s1, s2, s3, rfl, hz, J⟩
    subst ha0
    refine wpOp_step rfl (fun K hK => ?_)
    (try simp only [Act.put, List.setIfInBounds_toArray, List.set_cons_zero, List.set_cons_succ] at hK ⊢)
    (try simp only [List.getElem_toArray, List.getElem_cons_succ, List.getElem_cons_zero])
    go_simp
    have hbz := J.bl
    exact hK _ _ ⟨(unhide HCA _ (below_step bd0 hbz)), s1, s2, s1, rfl, fun _ => ⟨by trivial, rfl⟩, J⟩
  rintro na wv ⟨s1, s2, s3, rfl, hz, J⟩
  obtain ⟨_, rfl⟩ := hz rfl
  subst ha0
  have hbz := J.bl
  have hCv : (fun w' : World => (w'.cell? ⟨ba, 0, none⟩ = some (.slice m.a k m.c) ∧ w'.cell? ⟨ba, 1, none⟩ = some (.slice l.a n l.c)) ∧ w'.cell? ⟨bw, 0, none⟩ = some (.bool t.s) ∧ w'.cell? ⟨bw, 1, none⟩ = some (.slice t.a1 t.n1 t.c1) ∧ w'.cell? ⟨bw, 2, none⟩ = some (.slice t.a2 t.n2 t.c2)) wv := (unhide HCA _ (below_step bd0 hbz))
  obtain ⟨G, g, rfl, rfl, hS0, hO0, hge⟩ := J.rab rfl rfl
  refine wpHold_take (i := 9) (v := ?_) rfl (by kernel_rfl) (by kernel_rfl) (by kernel_rfl) (fun _ _ _ h => h) (Or.inl ⟨by rfl, ?_⟩) hCv ?_
  rotate_left
  · intro w hSw; clear hSw; go_simp; (try with_reducible rfl)
  (try simp only [List.getElem_toArray, List.getElem_cons_succ, List.getElem_cons_zero])
  (try simp only [Act.put, List.setIfInBounds_toArray, List.set_cons_zero, List.set_cons_succ])
  refine wpHold_done (by kernel_rfl) ?_ _
  have HS0 : Hid (SumsAt W0 wv G (List.replicate k zTri) (row (fun _ => 0) k)) := hS0.congr (row_eq List.length_replicate (fun i hi => by simp [hi]))
  have HO0 := hide hO0
  have HGE := hide hge
  clear J hS0 hO0 hge bd0 hWx hC0 hCv hbz hz
  go_wp2_with fail
  go_loopw [21] (fun vi wr => ∃ (i : Nat) (K : Nat → Bool) (x : Nat → Rat) (us : List Tri), vi = .int .i64 (i : Int) ∧ i ≤ k ∧ us.length = k ∧ SumsAt W0 wr G us (row x k) ∧ OwnB wr g k K ∧ Git.Gi A K ∧ cntK K k = i ∧ (∀ s, s < k → K s = true → Git.IdxAt A (x s) s ∧ RS (x s) (2 * XBn k))) (fun vi _ => k - (intOf vi).toNat)
  case atStart => exact ⟨0, fun _ => false, fun _ => 0, _, rfl, Nat.zero_le _, List.length_replicate, unhide HS0, unhide HO0, Git.gi_start (unhide HOK), cntK_none k, fun s _ h => (by cases h)⟩
  case round =>
    obtain ⟨i, K, x, us, rfl, hi, hul, hSm, hOw, hGi, hcn, hIx⟩ := hrel
    clear HS0 HO0
    have HGI := hide hGi
    have HCN := hide hcn
    have HIX := hide hIx
    have HUL := hide hul
    by_cases hlt : i < k
    · have e1 : (i : Int) < (k : Int) := by omega
      have hbl := hSm.bl
      have ⟨⟨a0, a1⟩, q0, q1, q2⟩ := unhide HCA wr hbl
      have HRT := hide (unhide HRA wr hbl K (.slice (some ⟨g, 0, none⟩) k k) ⟨some ⟨g, 0, none⟩, k, rfl, Nat.le_refl _, by omega, fun _ => ⟨g, 0, rfl, hOw.lt, fun j hj => by rw [Nat.zero_add]; exact hOw.cell hj⟩⟩)
      have HSM := hide hSm
      have HOW := hide hOw
      clear hSm hOw hbl hGi hcn hIx hul
      go_wp2_with fail
      clear a0 a1 q0 q1 q2
      refine (unhide HRT).mono ?_
      rintro e w3 ⟨v3, N, D, rfl, hv3, hN, hD, hr3, hb3⟩
      rw [unhide HAN] at hv3
      have HV3 := hide hv3
      obtain ⟨aa1, cc1, rfl, _, _, z1⟩ := hv3
      rw [row_length] at z1 HV3 ⊢
      obtain ⟨b1, o1, rfl, hb1, hz1⟩ := z1 (by omega)
      have HZ1 := hide hz1
      have HL1 := hide hb1
      have HN3 := hide hN
      have HD3 := hide hD
      rw [unhide HAN] at hr3
      have HR3 := hide hr3
      have HSM3 := hide ((unhide HSM).keep hb3)
      have HOW3 := hide ((unhide HOW).keep hb3)
      clear z1 hz1 hb1 hN hD hr3 HSM HOW HRT hb3
      go_wp2_with fail
      go_loopw [8, 29] (fun vn vj wr => ∃ (j : Nat) (y : Int), vj = .int .i64 (j : Int) ∧ vn = .int .i64 y ∧ j ≤ k ∧ Nxt K (fun s => N s / D s) j y ∧ Below w3.heap.size w3 wr) (fun _ vj _ => k - (intOf vj).toNat)
      case atStart => exact ⟨0, -1, rfl, rfl, Nat.zero_le _, Or.inl ⟨rfl, fun s hs => absurd hs (Nat.not_lt_zero s)⟩, Below.refl _ _⟩
      case round =>
        obtain ⟨j, y, rfl, rfl, hj, hnx, hbj⟩ := hrel
        by_cases hltj : j < k
        · have g1 : (j : Int) < (k : Int) := by omega
          have g0 : (0 : Int) ≤ (j : Int) := by omega
          obtain ⟨xs_, xp1, xp2, xn1, xd1, xn2, xd2, xk0, xk1, xk2, xr⟩ := unhide HZ1 j hltj
          obtain ⟨tx, rfl, rfl, rfl, rfl, rfl, rfl, rfl⟩ : ∃ t : Tri, xs_ = t.s ∧ xp1 = t.a1 ∧ xp2 = t.a2 ∧ xn1 = t.n1 ∧ xd1 = t.c1 ∧ xn2 = t.n2 ∧ xd2 = t.c2 := ⟨⟨xs_, xp1, xp2, xn1, xd1, xn2, xd2⟩, rfl, rfl, rfl, rfl, rfl, rfl, rfl⟩
          rw [← hbj.cell (p := ⟨b1, o1 + j * 3, none⟩) (unhide HL1)] at xk0
          rw [← hbj.cell (p := ⟨b1, o1 + j * 3 + 1, none⟩) (unhide HL1)] at xk1
          rw [← hbj.cell (p := ⟨b1, o1 + j * 3 + 2, none⟩) (unhide HL1)] at xk2
          rw [row_get hltj] at xr
          have bA := alloc_below wr (.cells #[.bool tx.s, .slice tx.a1 tx.n1 tx.c1, .slice tx.a2 tx.n2 tx.c2] 37)
          have X5 := BoxIs.new (xr.below hbj)
          have hbj5 := below_step hbj bA
          obtain ⟨W5, hW5⟩ : ∃ W, wr.alloc (.cells #[.bool tx.s, .slice tx.a1 tx.n1 tx.c1, .slice tx.a2 tx.n2 tx.c2] 37) = W := ⟨_, rfl⟩
          obtain ⟨gx, hgx⟩ : ∃ g, wr.heap.size = g := ⟨_, rfl⟩
          rw [hW5] at X5 hbj5
          rw [hgx] at X5
          have HX5 := hide X5
          have HB5 := hide hbj5
          have ⟨q0, q1, q2⟩ := X5.cells _ (Below.refl _ _)
          have HC5 : Hid (∀ W, Below W5.heap.size W5 W → (fun w' : World => w'.cell? ⟨g, j, none⟩ = some (.bool (K j)) ∧ (w'.cell? ⟨gx, 0, none⟩ = some (.bool tx.s) ∧ w'.cell? ⟨gx, 1, none⟩ = some (.slice tx.a1 tx.n1 tx.c1) ∧ w'.cell? ⟨gx, 2, none⟩ = some (.slice tx.a2 tx.n2 tx.c2))) W) := fun W hW => ⟨((unhide HOW3).keep (below_step hbj5 hW)).cell hltj, (unhide HX5).cells W hW⟩
          have HNX := hide hnx
          by_cases hkj : K j = true
          · have HCC : Hid (∀ W, Below W5.heap.size W5 W → (fun w' : World => w'.cell? ⟨g, j, none⟩ = some (.bool true) ∧ (w'.cell? ⟨gx, 0, none⟩ = some (.bool tx.s) ∧ w'.cell? ⟨gx, 1, none⟩ = some (.slice tx.a1 tx.n1 tx.c1) ∧ w'.cell? ⟨gx, 2, none⟩ = some (.slice tx.a2 tx.n2 tx.c2))) W) := fun W hW => by have := unhide HC5 W hW; rw [hkj] at this; exact this
            have HN2 : Hid (Nxt K (fun s => N s / D s) (j + 1) y) := by
              rcases hnx with ⟨e, h2⟩ | ⟨z, e, hz, hk2, h2⟩
              · exact Or.inl ⟨e, fun s hs => by by_cases c : s = j; rw [c]; exact hkj; exact h2 s (by omega)⟩
              · exact Or.inr ⟨z, e, by omega, hk2, fun s hs hks => by by_cases c : s = j; rw [c, hkj] at hks; cases hks; exact h2 s (by omega) hks⟩
            clear hnx hbj hbj5 X5 bA xr hkj
            go_wp2_with fail
            clear hW5 hgx xk0 xk1 xk2 q0 q1 q2
            refine wp_region_hold (fun w' : World => w'.cell? ⟨g, j, none⟩ = some (.bool true) ∧ (w'.cell? ⟨gx, 0, none⟩ = some (.bool tx.s) ∧ w'.cell? ⟨gx, 1, none⟩ = some (.slice tx.a1 tx.n1 tx.c1) ∧ w'.cell? ⟨gx, 2, none⟩ = some (.slice tx.a2 tx.n2 tx.c2))) (by kernel_rfl) ?_
            have bd0 : Below W5.heap.size W5 W5.drew := (Below.refl _ _).drew
            have hC0 : (fun w' : World => w'.cell? ⟨g, j, none⟩ = some (.bool true) ∧ (w'.cell? ⟨gx, 0, none⟩ = some (.bool tx.s) ∧ w'.cell? ⟨gx, 1, none⟩ = some (.slice tx.a1 tx.n1 tx.c1) ∧ w'.cell? ⟨gx, 2, none⟩ = some (.slice tx.a2 tx.n2 tx.c2))) W5.drew := unhide HCC _ bd0
            refine wpHold_take (i := 0) (v := ?_) rfl (by kernel_rfl) (by kernel_rfl) (by kernel_rfl) (fun _ _ _ h => h) (Or.inl ⟨by rfl, ?_⟩) hC0 ?_
            rotate_left
            · intro w hSw; clear hSw; go_simp; (try with_reducible rfl)
            (try simp only [List.getElem_toArray, List.getElem_cons_succ, List.getElem_cons_zero])
            (try simp only [Act.put, List.setIfInBounds_toArray, List.set_cons_zero, List.set_cons_succ])
            refine wpHold_take (i := 1) (v := ?_) rfl (by kernel_rfl) (by kernel_rfl) (by kernel_rfl) (fun _ _ _ h => h) (Or.inl ⟨by rfl, ?_⟩) hC0 ?_
            rotate_left
            · intro w hSw; clear hSw; go_simp; (try with_reducible rfl)
            (try simp only [List.getElem_toArray, List.getElem_cons_succ, List.getElem_cons_zero])
            (try simp only [Act.put, List.setIfInBounds_toArray, List.set_cons_zero, List.set_cons_succ])
            refine wpHold_take (i := 2) (v := ?_) rfl (by kernel_rfl) (by kernel_rfl) (by kernel_rfl) (fun _ _ _ h => h) (Or.inl ⟨by rfl, ?_⟩) hC0 ?_
            rotate_left
            · intro w hSw; clear hSw; go_simp; (try with_reducible rfl)
            (try simp only [List.getElem_toArray, List.getElem_cons_succ, List.getElem_cons_zero])
            (try simp only [Act.put, List.setIfInBounds_toArray, List.set_cons_zero, List.set_cons_succ])
            refine wpHold_take (i := 3) (v := ?_) rfl (by kernel_rfl) (by kernel_rfl) (by kernel_rfl) (fun _ _ _ h => h) (Or.inl ⟨by rfl, ?_⟩) hC0 ?_
            rotate_left
            · intro w hSw; (try dsimp only at hSw); obtain ⟨z0, z1, z2, z3⟩ := hSw; go_simp; (try with_reducible rfl)
            (try simp only [List.getElem_toArray, List.getElem_cons_succ, List.getElem_cons_zero])
            (try simp only [Act.put, List.setIfInBounds_toArray, List.set_cons_zero, List.set_cons_succ])
            refine wpHold_take (i := 4) (v := ?_) rfl (by kernel_rfl) (by kernel_rfl) (by kernel_rfl) (fun _ _ _ h => h) (Or.inl ⟨by rfl, ?_⟩) hC0 ?_
            rotate_left
            · intro w hSw; clear hSw; go_simp; (try with_reducible rfl)
            (try simp only [List.getElem_toArray, List.getElem_cons_succ, List.getElem_cons_zero])
            (try simp only [Act.put, List.setIfInBounds_toArray, List.set_cons_zero, List.set_cons_succ])
            refine wpHold_take (i := 5) (v := ?_) rfl (by kernel_rfl) (by kernel_rfl) (by kernel_rfl) (fun _ _ _ h => h) (Or.inl ⟨by rfl, ?_⟩) hC0 ?_
            rotate_left
            · intro w hSw; clear hSw; go_simp; (try with_reducible rfl)
            (try simp only [List.getElem_toArray, List.getElem_cons_succ, List.getElem_cons_zero])
            (try simp only [Act.put, List.setIfInBounds_toArray, List.set_cons_zero, List.set_cons_succ])
            refine wpHold_take (i := 6) (v := undef) rfl (by kernel_rfl) (by kernel_rfl) (by kernel_rfl) (fun _ _ _ h => h) (Or.inr ⟨by rfl, rfl⟩) hC0 ?_
            (try simp only [List.getElem_toArray, List.getElem_cons_succ, List.getElem_cons_zero])
            (try simp only [Act.put, List.setIfInBounds_toArray, List.set_cons_zero, List.set_cons_succ])
            refine wpHold_take (i := 7) (v := undef) rfl (by kernel_rfl) (by kernel_rfl) (by kernel_rfl) (fun _ _ _ h => h) (Or.inr ⟨by rfl, rfl⟩) hC0 ?_
            (try simp only [List.getElem_toArray, List.getElem_cons_succ, List.getElem_cons_zero])
            (try simp only [Act.put, List.setIfInBounds_toArray, List.set_cons_zero, List.set_cons_succ])
            refine wpHold_take (i := 8) (v := undef) rfl (by kernel_rfl) (by kernel_rfl) (by kernel_rfl) (fun _ _ _ h => h) (Or.inr ⟨by rfl, rfl⟩) hC0 ?_
            (try simp only [List.getElem_toArray, List.getElem_cons_succ, List.getElem_cons_zero])
            (try simp only [Act.put, List.setIfInBounds_toArray, List.set_cons_zero, List.set_cons_succ])
            refine wpHold_take (i := 9) (v := undef) rfl (by kernel_rfl) (by kernel_rfl) (by kernel_rfl) (fun _ _ _ h => h) (Or.inr ⟨by rfl, rfl⟩) hC0 ?_
            (try simp only [List.getElem_toArray, List.getElem_cons_succ, List.getElem_cons_zero])
            (try simp only [Act.put, List.setIfInBounds_toArray, List.set_cons_zero, List.set_cons_succ])
            refine wpHold_take (i := 10) (v := undef) rfl (by kernel_rfl) (by kernel_rfl) (by kernel_rfl) (fun _ _ _ h => h) (Or.inr ⟨by rfl, rfl⟩) hC0 ?_
            (try simp only [List.getElem_toArray, List.getElem_cons_succ, List.getElem_cons_zero])
            (try simp only [Act.put, List.setIfInBounds_toArray, List.set_cons_zero, List.set_cons_succ])
            refine wpHold_take (i := 11) (v := undef) rfl (by kernel_rfl) (by kernel_rfl) (by kernel_rfl) (fun _ _ _ h => h) (Or.inr ⟨by rfl, rfl⟩) hC0 ?_
            (try simp only [List.getElem_toArray, List.getElem_cons_succ, List.getElem_cons_zero])
            (try simp only [Act.put, List.setIfInBounds_toArray, List.set_cons_zero, List.set_cons_succ])
            refine wpHold_take (i := 12) (v := undef) rfl (by kernel_rfl) (by kernel_rfl) (by kernel_rfl) (fun _ _ _ h => h) (Or.inr ⟨by rfl, rfl⟩) hC0 ?_
            (try simp only [List.getElem_toArray, List.getElem_cons_succ, List.getElem_cons_zero])
            (try simp only [Act.put, List.setIfInBounds_toArray, List.set_cons_zero, List.set_cons_succ])
            refine wpHold_take (i := 13) (v := undef) rfl (by kernel_rfl) (by kernel_rfl) (by kernel_rfl) (fun _ _ _ h => h) (Or.inr ⟨by rfl, rfl⟩) hC0 ?_
            (try simp only [List.getElem_toArray, List.getElem_cons_succ, List.getElem_cons_zero])
            (try simp only [Act.put, List.setIfInBounds_toArray, List.set_cons_zero, List.set_cons_succ])
            refine wpHold_take (i := 14) (v := undef) rfl (by kernel_rfl) (by kernel_rfl) (by kernel_rfl) (fun _ _ _ h => h) (Or.inr ⟨by rfl, rfl⟩) hC0 ?_
            (try simp only [List.getElem_toArray, List.getElem_cons_succ, List.getElem_cons_zero])
            (try simp only [Act.put, List.setIfInBounds_toArray, List.set_cons_zero, List.set_cons_succ])
            refine wpHold_take (i := 15) (v := undef) rfl (by kernel_rfl) (by kernel_rfl) (by kernel_rfl) (fun _ _ _ h => h) (Or.inr ⟨by rfl, rfl⟩) hC0 ?_
            (try simp only [List.getElem_toArray, List.getElem_cons_succ, List.getElem_cons_zero])
            (try simp only [Act.put, List.setIfInBounds_toArray, List.set_cons_zero, List.set_cons_succ])
            refine wpHold_take (i := 16) (v := undef) rfl (by kernel_rfl) (by kernel_rfl) (by kernel_rfl) (fun _ _ _ h => h) (Or.inr ⟨by rfl, rfl⟩) hC0 ?_
            (try simp only [List.getElem_toArray, List.getElem_cons_succ, List.getElem_cons_zero])
            (try simp only [Act.put, List.setIfInBounds_toArray, List.set_cons_zero, List.set_cons_succ])
            refine wpHold_take (i := 17) (v := ?_) rfl (by kernel_rfl) (by kernel_rfl) (by kernel_rfl) (fun _ _ _ h => h) (Or.inl ⟨by rfl, ?_⟩) hC0 ?_
            rotate_left
            · intro w hSw; clear hSw; go_simp; (try with_reducible rfl)
            (try simp only [List.getElem_toArray, List.getElem_cons_succ, List.getElem_cons_zero])
            (try simp only [Act.put, List.setIfInBounds_toArray, List.set_cons_zero, List.set_cons_succ])
            refine wpHold_done (by kernel_rfl) ?_ _
            have HB6 := hide (below_step (unhide HB5) bd0)
            clear hC0 bd0 HCC HC5
            go_wp2_with fail
            exact ⟨⟨j + 1, y, by go_num, rfl, hltj, unhide HN2, unhide HB6⟩, by simp [intOf]; omega⟩
          have hkf : K j = false := by simpa using hkj
          rcases hnx with ⟨rfl, h2⟩ | ⟨z, rfl, hzj, hkz, h2⟩
          · have HCC : Hid (∀ W, Below W5.heap.size W5 W → (fun w' : World => w'.cell? ⟨g, j, none⟩ = some (.bool false) ∧ (w'.cell? ⟨gx, 0, none⟩ = some (.bool tx.s) ∧ w'.cell? ⟨gx, 1, none⟩ = some (.slice tx.a1 tx.n1 tx.c1) ∧ w'.cell? ⟨gx, 2, none⟩ = some (.slice tx.a2 tx.n2 tx.c2))) W) := fun W hW => by have := unhide HC5 W hW; rw [hkf] at this; exact this
            have HN2 : Hid (Nxt K (fun s => N s / D s) (j + 1) (j : Int)) := Or.inr ⟨j, rfl, by omega, hkf, fun s hs hks => by
              by_cases c : s = j
              · rw [c]; exact Rat.le_refl
              · have := h2 s (by omega)
                rw [hks] at this; cases this⟩
            clear hbj hbj5 X5 bA xr hkj hkf h2
            go_wp2_with fail
            clear hW5 hgx xk0 xk1 xk2 q0 q1 q2
            refine wp_region_hold (fun w' : World => w'.cell? ⟨g, j, none⟩ = some (.bool false) ∧ (w'.cell? ⟨gx, 0, none⟩ = some (.bool tx.s) ∧ w'.cell? ⟨gx, 1, none⟩ = some (.slice tx.a1 tx.n1 tx.c1) ∧ w'.cell? ⟨gx, 2, none⟩ = some (.slice tx.a2 tx.n2 tx.c2))) (by kernel_rfl) ?_
            have bd0 : Below W5.heap.size W5 W5.drew := (Below.refl _ _).drew
            have hC0 : (fun w' : World => w'.cell? ⟨g, j, none⟩ = some (.bool false) ∧ (w'.cell? ⟨gx, 0, none⟩ = some (.bool tx.s) ∧ w'.cell? ⟨gx, 1, none⟩ = some (.slice tx.a1 tx.n1 tx.c1) ∧ w'.cell? ⟨gx, 2, none⟩ = some (.slice tx.a2 tx.n2 tx.c2))) W5.drew := unhide HCC _ bd0
            refine wpHold_take (i := 0) (v := ?_) rfl (by kernel_rfl) (by kernel_rfl) (by kernel_rfl) (fun _ _ _ h => h) (Or.inl ⟨by rfl, ?_⟩) hC0 ?_
            rotate_left
            · intro w hSw; clear hSw; go_simp; (try with_reducible rfl)
            (try simp only [List.getElem_toArray, List.getElem_cons_succ, List.getElem_cons_zero])
            (try simp only [Act.put, List.setIfInBounds_toArray, List.set_cons_zero, List.set_cons_succ])
            refine wpHold_take (i := 1) (v := ?_) rfl (by kernel_rfl) (by kernel_rfl) (by kernel_rfl) (fun _ _ _ h => h) (Or.inl ⟨by rfl, ?_⟩) hC0 ?_
            rotate_left
            · intro w hSw; clear hSw; go_simp; (try with_reducible rfl)
            (try simp only [List.getElem_toArray, List.getElem_cons_succ, List.getElem_cons_zero])
            (try simp only [Act.put, List.setIfInBounds_toArray, List.set_cons_zero, List.set_cons_succ])
            refine wpHold_take (i := 2) (v := ?_) rfl (by kernel_rfl) (by kernel_rfl) (by kernel_rfl) (fun _ _ _ h => h) (Or.inl ⟨by rfl, ?_⟩) hC0 ?_
            rotate_left
            · intro w hSw; clear hSw; go_simp; (try with_reducible rfl)
            (try simp only [List.getElem_toArray, List.getElem_cons_succ, List.getElem_cons_zero])
            (try simp only [Act.put, List.setIfInBounds_toArray, List.set_cons_zero, List.set_cons_succ])
            refine wpHold_take (i := 3) (v := ?_) rfl (by kernel_rfl) (by kernel_rfl) (by kernel_rfl) (fun _ _ _ h => h) (Or.inl ⟨by rfl, ?_⟩) hC0 ?_
            rotate_left
            · intro w hSw; (try dsimp only at hSw); obtain ⟨z0, z1, z2, z3⟩ := hSw; go_simp; (try with_reducible rfl)
            (try simp only [List.getElem_toArray, List.getElem_cons_succ, List.getElem_cons_zero])
            (try simp only [Act.put, List.setIfInBounds_toArray, List.set_cons_zero, List.set_cons_succ])
            refine wpHold_take (i := 4) (v := ?_) rfl (by kernel_rfl) (by kernel_rfl) (by kernel_rfl) (fun _ _ _ h => h) (Or.inl ⟨by rfl, ?_⟩) hC0 ?_
            rotate_left
            · intro w hSw; clear hSw; go_simp; (try with_reducible rfl)
            (try simp only [List.getElem_toArray, List.getElem_cons_succ, List.getElem_cons_zero])
            (try simp only [Act.put, List.setIfInBounds_toArray, List.set_cons_zero, List.set_cons_succ])
            refine wpHold_take (i := 5) (v := ?_) rfl (by kernel_rfl) (by kernel_rfl) (by kernel_rfl) (fun _ _ _ h => h) (Or.inl ⟨by rfl, ?_⟩) hC0 ?_
            rotate_left
            · intro w hSw; clear hSw; go_simp; (try with_reducible rfl)
            (try simp only [List.getElem_toArray, List.getElem_cons_succ, List.getElem_cons_zero])
            (try simp only [Act.put, List.setIfInBounds_toArray, List.set_cons_zero, List.set_cons_succ])
            refine wpHold_take (i := 6) (v := ?_) rfl (by kernel_rfl) (by kernel_rfl) (by kernel_rfl) (fun _ _ _ h => h) (Or.inl ⟨by rfl, ?_⟩) hC0 ?_
            rotate_left
            · intro w hSw; clear hSw; go_simp; (try with_reducible rfl)
            (try simp only [List.getElem_toArray, List.getElem_cons_succ, List.getElem_cons_zero])
            (try simp only [Act.put, List.setIfInBounds_toArray, List.set_cons_zero, List.set_cons_succ])
            refine wpHold_take (i := 7) (v := ?_) rfl (by kernel_rfl) (by kernel_rfl) (by kernel_rfl) (fun _ _ _ h => h) (Or.inl ⟨by rfl, ?_⟩) hC0 ?_
            rotate_left
            · intro w hSw; clear hSw; go_simp; (try with_reducible rfl)
            (try simp only [List.getElem_toArray, List.getElem_cons_succ, List.getElem_cons_zero])
            (try simp only [Act.put, List.setIfInBounds_toArray, List.set_cons_zero, List.set_cons_succ])
            refine wpHold_take (i := 8) (v := ?_) rfl (by kernel_rfl) (by kernel_rfl) (by kernel_rfl) (fun _ _ _ h => h) (Or.inl ⟨by rfl, ?_⟩) hC0 ?_
            rotate_left
            · intro w hSw; clear hSw; go_simp; (try with_reducible rfl)
            (try simp only [List.getElem_toArray, List.getElem_cons_succ, List.getElem_cons_zero])
            (try simp only [Act.put, List.setIfInBounds_toArray, List.set_cons_zero, List.set_cons_succ])
            refine wpHold_take (i := 9) (v := undef) rfl (by kernel_rfl) (by kernel_rfl) (by kernel_rfl) (fun _ _ _ h => h) (Or.inr ⟨by rfl, rfl⟩) hC0 ?_
            (try simp only [List.getElem_toArray, List.getElem_cons_succ, List.getElem_cons_zero])
            (try simp only [Act.put, List.setIfInBounds_toArray, List.set_cons_zero, List.set_cons_succ])
            refine wpHold_take (i := 10) (v := undef) rfl (by kernel_rfl) (by kernel_rfl) (by kernel_rfl) (fun _ _ _ h => h) (Or.inr ⟨by rfl, rfl⟩) hC0 ?_
            (try simp only [List.getElem_toArray, List.getElem_cons_succ, List.getElem_cons_zero])
            (try simp only [Act.put, List.setIfInBounds_toArray, List.set_cons_zero, List.set_cons_succ])
            refine wpHold_take (i := 11) (v := undef) rfl (by kernel_rfl) (by kernel_rfl) (by kernel_rfl) (fun _ _ _ h => h) (Or.inr ⟨by rfl, rfl⟩) hC0 ?_
            (try simp only [List.getElem_toArray, List.getElem_cons_succ, List.getElem_cons_zero])
            (try simp only [Act.put, List.setIfInBounds_toArray, List.set_cons_zero, List.set_cons_succ])
            refine wpHold_take (i := 12) (v := undef) rfl (by kernel_rfl) (by kernel_rfl) (by kernel_rfl) (fun _ _ _ h => h) (Or.inr ⟨by rfl, rfl⟩) hC0 ?_
            (try simp only [List.getElem_toArray, List.getElem_cons_succ, List.getElem_cons_zero])
            (try simp only [Act.put, List.setIfInBounds_toArray, List.set_cons_zero, List.set_cons_succ])
            refine wpHold_take (i := 13) (v := undef) rfl (by kernel_rfl) (by kernel_rfl) (by kernel_rfl) (fun _ _ _ h => h) (Or.inr ⟨by rfl, rfl⟩) hC0 ?_
            (try simp only [List.getElem_toArray, List.getElem_cons_succ, List.getElem_cons_zero])
            (try simp only [Act.put, List.setIfInBounds_toArray, List.set_cons_zero, List.set_cons_succ])
            refine wpHold_take (i := 14) (v := undef) rfl (by kernel_rfl) (by kernel_rfl) (by kernel_rfl) (fun _ _ _ h => h) (Or.inr ⟨by rfl, rfl⟩) hC0 ?_
            (try simp only [List.getElem_toArray, List.getElem_cons_succ, List.getElem_cons_zero])
            (try simp only [Act.put, List.setIfInBounds_toArray, List.set_cons_zero, List.set_cons_succ])
            refine wpHold_take (i := 15) (v := undef) rfl (by kernel_rfl) (by kernel_rfl) (by kernel_rfl) (fun _ _ _ h => h) (Or.inr ⟨by rfl, rfl⟩) hC0 ?_
            (try simp only [List.getElem_toArray, List.getElem_cons_succ, List.getElem_cons_zero])
            (try simp only [Act.put, List.setIfInBounds_toArray, List.set_cons_zero, List.set_cons_succ])
            refine wpHold_take (i := 16) (v := ?_) rfl (by kernel_rfl) (by kernel_rfl) (by kernel_rfl) (fun _ _ _ h => h) (Or.inl ⟨by rfl, ?_⟩) hC0 ?_
            rotate_left
            · intro w hSw; clear hSw; go_simp; (try with_reducible rfl)
            (try simp only [List.getElem_toArray, List.getElem_cons_succ, List.getElem_cons_zero])
            (try simp only [Act.put, List.setIfInBounds_toArray, List.set_cons_zero, List.set_cons_succ])
            refine wpHold_take (i := 17) (v := ?_) rfl (by kernel_rfl) (by kernel_rfl) (by kernel_rfl) (fun _ _ _ h => h) (Or.inl ⟨by rfl, ?_⟩) hC0 ?_
            rotate_left
            · intro w hSw; clear hSw; go_simp; (try with_reducible rfl)
            (try simp only [List.getElem_toArray, List.getElem_cons_succ, List.getElem_cons_zero])
            (try simp only [Act.put, List.setIfInBounds_toArray, List.set_cons_zero, List.set_cons_succ])
            refine wpHold_done (by kernel_rfl) ?_ _
            have HB6 := hide (below_step (unhide HB5) bd0)
            clear hC0 bd0 HCC HC5
            go_wp2_with fail
            exact ⟨⟨j + 1, (j : Int), by go_num, rfl, hltj, unhide HN2, unhide HB6⟩, by simp [intOf]; omega⟩
          · have hzk : z < k := by omega
            obtain ⟨ys_, yp1, yp2, yn1, yd1, yn2, yd2, yk0, yk1, yk2, yr⟩ := unhide HZ1 z hzk
            obtain ⟨ty, rfl, rfl, rfl, rfl, rfl, rfl, rfl⟩ : ∃ t : Tri, ys_ = t.s ∧ yp1 = t.a1 ∧ yp2 = t.a2 ∧ yn1 = t.n1 ∧ yd1 = t.c1 ∧ yn2 = t.n2 ∧ yd2 = t.c2 := ⟨⟨ys_, yp1, yp2, yn1, yd1, yn2, yd2⟩, rfl, rfl, rfl, rfl, rfl, rfl, rfl⟩
            rw [row_get hzk] at yr
            have HCC : Hid (∀ W, Below W5.heap.size W5 W → (fun w' : World => w'.cell? ⟨g, j, none⟩ = some (.bool false) ∧ (w'.cell? ⟨gx, 0, none⟩ = some (.bool tx.s) ∧ w'.cell? ⟨gx, 1, none⟩ = some (.slice tx.a1 tx.n1 tx.c1) ∧ w'.cell? ⟨gx, 2, none⟩ = some (.slice tx.a2 tx.n2 tx.c2)) ∧ w'.cell? ⟨b1, o1 + z * 3, none⟩ = some (.bool ty.s) ∧ w'.cell? ⟨b1, o1 + z * 3 + 1, none⟩ = some (.slice ty.a1 ty.n1 ty.c1) ∧ w'.cell? ⟨b1, o1 + z * 3 + 2, none⟩ = some (.slice ty.a2 ty.n2 ty.c2)) W) := fun W hW => by
              have h1 := unhide HC5 W hW
              rw [hkf] at h1
              have hh := below_step hbj5 hW
              refine ⟨h1.1, h1.2, ?_, ?_, ?_⟩
              · rw [hh.cell (p := ⟨b1, o1 + z * 3, none⟩) (unhide HL1)]; exact yk0
              · rw [hh.cell (p := ⟨b1, o1 + z * 3 + 1, none⟩) (unhide HL1)]; exact yk1
              · rw [hh.cell (p := ⟨b1, o1 + z * 3 + 2, none⟩) (unhide HL1)]; exact yk2
            have HCM : Hid (∀ W, Below W5.heap.size W5 W → Calls Tryz.prog 14 #[.agg #[.bool tx.s, .slice tx.a1 tx.n1 tx.c1, .slice tx.a2 tx.n2 tx.c2], .agg #[.bool ty.s, .slice ty.a1 ty.n1 ty.c1, .slice ty.a2 ty.n2 ty.c2]] W fun e w' => e = .returned (.int .i64 (cmpv (N j / D j) (N z / D z))) ∧ Below W.heap.size W w') := fun W hW => cmpR_all tx.val ty.val _ _ W ((unhide HX5).2.below hW) (yr.below (below_step hbj5 hW)) (2 * XBn k) (unhide HR3 j hltj) (unhide HR3 z hzk) (by have := unhide HXB; omega)
            have z0 : (0 : Int) ≤ (z : Int) := by omega
            have z1 : (z : Int) < (k : Int) := by omega
            have z2 : ¬ (z : Int) < 0 := by omega
            have z3 : decide ((z : Int) < 0) = false := decide_eq_false z2
            by_cases hgt : N z / D z < N j / D j
            · rw [cmpv_gt hgt] at HCM
              have HN2 : Hid (Nxt K (fun s => N s / D s) (j + 1) (j : Int)) := Or.inr ⟨j, rfl, by omega, hkf, fun s hs hks => by
                by_cases c : s = j
                · rw [c]; exact Rat.le_refl
                · exact Rat.le_trans (h2 s (by omega) hks) (Rat.le_of_lt hgt)⟩
              clear hbj hbj5 X5 bA xr hkj hkf h2 yr yk0 yk1 yk2 hgt
              go_wp2_with fail
              clear hW5 hgx xk0 xk1 xk2 q0 q1 q2
              refine wp_region_hold (fun w' : World => w'.cell? ⟨g, j, none⟩ = some (.bool false) ∧ (w'.cell? ⟨gx, 0, none⟩ = some (.bool tx.s) ∧ w'.cell? ⟨gx, 1, none⟩ = some (.slice tx.a1 tx.n1 tx.c1) ∧ w'.cell? ⟨gx, 2, none⟩ = some (.slice tx.a2 tx.n2 tx.c2)) ∧ w'.cell? ⟨b1, o1 + z * 3, none⟩ = some (.bool ty.s) ∧ w'.cell? ⟨b1, o1 + z * 3 + 1, none⟩ = some (.slice ty.a1 ty.n1 ty.c1) ∧ w'.cell? ⟨b1, o1 + z * 3 + 2, none⟩ = some (.slice ty.a2 ty.n2 ty.c2)) (by kernel_rfl) ?_
              have bd0 : Below W5.heap.size W5 W5.drew := (Below.refl _ _).drew
              have hC0 : (fun w' : World => w'.cell? ⟨g, j, none⟩ = some (.bool false) ∧ (w'.cell? ⟨gx, 0, none⟩ = some (.bool tx.s) ∧ w'.cell? ⟨gx, 1, none⟩ = some (.slice tx.a1 tx.n1 tx.c1) ∧ w'.cell? ⟨gx, 2, none⟩ = some (.slice tx.a2 tx.n2 tx.c2)) ∧ w'.cell? ⟨b1, o1 + z * 3, none⟩ = some (.bool ty.s) ∧ w'.cell? ⟨b1, o1 + z * 3 + 1, none⟩ = some (.slice ty.a1 ty.n1 ty.c1) ∧ w'.cell? ⟨b1, o1 + z * 3 + 2, none⟩ = some (.slice ty.a2 ty.n2 ty.c2)) W5.drew := unhide HCC _ bd0
              refine wpHold_take (i := 0) (v := ?_) rfl (by kernel_rfl) (by kernel_rfl) (by kernel_rfl) (fun _ _ _ h => h) (Or.inl ⟨by rfl, ?_⟩) hC0 ?_
              rotate_left
              · intro w hSw; clear hSw; go_simp; (try with_reducible rfl)
              (try simp only [List.getElem_toArray, List.getElem_cons_succ, List.getElem_cons_zero])
              (try simp only [Act.put, List.setIfInBounds_toArray, List.set_cons_zero, List.set_cons_succ])
              refine wpHold_take (i := 1) (v := ?_) rfl (by kernel_rfl) (by kernel_rfl) (by kernel_rfl) (fun _ _ _ h => h) (Or.inl ⟨by rfl, ?_⟩) hC0 ?_
              rotate_left
              · intro w hSw; clear hSw; go_simp; (try with_reducible rfl)
              (try simp only [List.getElem_toArray, List.getElem_cons_succ, List.getElem_cons_zero])
              (try simp only [Act.put, List.setIfInBounds_toArray, List.set_cons_zero, List.set_cons_succ])
              refine wpHold_take (i := 2) (v := ?_) rfl (by kernel_rfl) (by kernel_rfl) (by kernel_rfl) (fun _ _ _ h => h) (Or.inl ⟨by rfl, ?_⟩) hC0 ?_
              rotate_left
              · intro w hSw; clear hSw; go_simp; (try with_reducible rfl)
              (try simp only [List.getElem_toArray, List.getElem_cons_succ, List.getElem_cons_zero])
              (try simp only [Act.put, List.setIfInBounds_toArray, List.set_cons_zero, List.set_cons_succ])
              refine wpHold_take (i := 3) (v := ?_) rfl (by kernel_rfl) (by kernel_rfl) (by kernel_rfl) (fun _ _ _ h => h) (Or.inl ⟨by rfl, ?_⟩) hC0 ?_
              rotate_left
              · intro w hSw; (try dsimp only at hSw); obtain ⟨z0, ⟨z1, z2, z3⟩, z4, z5, z6⟩ := hSw; go_simp; (try with_reducible rfl)
              (try simp only [List.getElem_toArray, List.getElem_cons_succ, List.getElem_cons_zero])
              (try simp only [Act.put, List.setIfInBounds_toArray, List.set_cons_zero, List.set_cons_succ])
              refine wpHold_take (i := 4) (v := ?_) rfl (by kernel_rfl) (by kernel_rfl) (by kernel_rfl) (fun _ _ _ h => h) (Or.inl ⟨by rfl, ?_⟩) hC0 ?_
              rotate_left
              · intro w hSw; clear hSw; go_simp; (try with_reducible rfl)
              (try simp only [List.getElem_toArray, List.getElem_cons_succ, List.getElem_cons_zero])
              (try simp only [Act.put, List.setIfInBounds_toArray, List.set_cons_zero, List.set_cons_succ])
              refine wpHold_take (i := 5) (v := ?_) rfl (by kernel_rfl) (by kernel_rfl) (by kernel_rfl) (fun _ _ _ h => h) (Or.inl ⟨by rfl, ?_⟩) hC0 ?_
              rotate_left
              · intro w hSw; clear hSw; go_simp; (try with_reducible rfl)
              (try simp only [List.getElem_toArray, List.getElem_cons_succ, List.getElem_cons_zero])
              (try simp only [Act.put, List.setIfInBounds_toArray, List.set_cons_zero, List.set_cons_succ])
              refine wpHold_take (i := 6) (v := ?_) rfl (by kernel_rfl) (by kernel_rfl) (by kernel_rfl) (fun _ _ _ h => h) (Or.inl ⟨by rfl, ?_⟩) hC0 ?_
              rotate_left
              · intro w hSw; clear hSw; go_simp; (try with_reducible rfl)
              (try simp only [List.getElem_toArray, List.getElem_cons_succ, List.getElem_cons_zero])
              (try simp only [Act.put, List.setIfInBounds_toArray, List.set_cons_zero, List.set_cons_succ])
              refine wpHold_take (i := 7) (v := ?_) rfl (by kernel_rfl) (by kernel_rfl) (by kernel_rfl) (fun _ _ _ h => h) (Or.inl ⟨by rfl, ?_⟩) hC0 ?_
              rotate_left
              · intro w hSw; clear hSw; go_simp; (try with_reducible rfl)
              (try simp only [List.getElem_toArray, List.getElem_cons_succ, List.getElem_cons_zero])
              (try simp only [Act.put, List.setIfInBounds_toArray, List.set_cons_zero, List.set_cons_succ])
              refine wpHold_take (i := 8) (v := ?_) rfl (by kernel_rfl) (by kernel_rfl) (by kernel_rfl) (fun _ _ _ h => h) (Or.inl ⟨by rfl, ?_⟩) hC0 ?_
              rotate_left
              · intro w hSw; clear hSw; go_simp; (try with_reducible rfl)
              (try simp only [List.getElem_toArray, List.getElem_cons_succ, List.getElem_cons_zero])
              (try simp only [Act.put, List.setIfInBounds_toArray, List.set_cons_zero, List.set_cons_succ])
              refine wpHold_take (i := 9) (v := ?_) rfl (by kernel_rfl) (by kernel_rfl) (by kernel_rfl) (fun _ _ _ h => h) (Or.inl ⟨by rfl, ?_⟩) hC0 ?_
              rotate_left
              · intro w hSw; (try dsimp only at hSw); obtain ⟨z0, ⟨z1, z2, z3⟩, z4, z5, z6⟩ := hSw; go_simp; (try with_reducible rfl)
              (try simp only [List.getElem_toArray, List.getElem_cons_succ, List.getElem_cons_zero])
              (try simp only [Act.put, List.setIfInBounds_toArray, List.set_cons_zero, List.set_cons_succ])
              refine wpHold_take (i := 10) (v := ?_) rfl (by kernel_rfl) (by kernel_rfl) (by kernel_rfl) (fun _ _ _ h => h) (Or.inl ⟨by rfl, ?_⟩) hC0 ?_
              rotate_left
              · intro w hSw; clear hSw; go_simp; (try with_reducible rfl)
              (try simp only [List.getElem_toArray, List.getElem_cons_succ, List.getElem_cons_zero])
              (try simp only [Act.put, List.setIfInBounds_toArray, List.set_cons_zero, List.set_cons_succ])
              refine wpHold_take (i := 11) (v := ?_) rfl (by kernel_rfl) (by kernel_rfl) (by kernel_rfl) (fun _ _ _ h => h) (Or.inl ⟨by rfl, ?_⟩) hC0 ?_
              rotate_left
              · intro w hSw; clear hSw; go_simp; (try with_reducible rfl)
              (try simp only [List.getElem_toArray, List.getElem_cons_succ, List.getElem_cons_zero])
              (try simp only [Act.put, List.setIfInBounds_toArray, List.set_cons_zero, List.set_cons_succ])
              refine wpHold_take (i := 12) (v := ?_) rfl (by kernel_rfl) (by kernel_rfl) (by kernel_rfl) (fun _ _ _ h => h) (Or.inl ⟨by rfl, ?_⟩) hC0 ?_
              rotate_left
              · intro w hSw; clear hSw; go_simp; (try with_reducible rfl)
              (try simp only [List.getElem_toArray, List.getElem_cons_succ, List.getElem_cons_zero])
              (try simp only [Act.put, List.setIfInBounds_toArray, List.set_cons_zero, List.set_cons_succ])
              refine wpHold_take (i := 13) (v := ?_) rfl (by kernel_rfl) (by kernel_rfl) (by kernel_rfl) (fun _ _ _ h => h) (Or.inl ⟨by rfl, ?_⟩) hC0 ?_
              rotate_left
              · intro w hSw; (try dsimp only at hSw); obtain ⟨z0, ⟨z1, z2, z3⟩, z4, z5, z6⟩ := hSw; go_simp; (try with_reducible rfl)
              (try simp only [List.getElem_toArray, List.getElem_cons_succ, List.getElem_cons_zero])
              (try simp only [Act.put, List.setIfInBounds_toArray, List.set_cons_zero, List.set_cons_succ])
              refine wpHold_one (k := 14) (by kernel_rfl) rfl (fun K hK => ?_)
              (try simp only [List.getElem_toArray, List.getElem_cons_succ, List.getElem_cons_zero])
              go_simp
              refine (unhide HCM _ bd0).mono ?_
              rintro e xw_1 ⟨rfl, hb_1⟩
              have cc_1 := below_step bd0 hb_1
              have hC_1 : (fun w' : World => w'.cell? ⟨g, j, none⟩ = some (.bool false) ∧ (w'.cell? ⟨gx, 0, none⟩ = some (.bool tx.s) ∧ w'.cell? ⟨gx, 1, none⟩ = some (.slice tx.a1 tx.n1 tx.c1) ∧ w'.cell? ⟨gx, 2, none⟩ = some (.slice tx.a2 tx.n2 tx.c2)) ∧ w'.cell? ⟨b1, o1 + z * 3, none⟩ = some (.bool ty.s) ∧ w'.cell? ⟨b1, o1 + z * 3 + 1, none⟩ = some (.slice ty.a1 ty.n1 ty.c1) ∧ w'.cell? ⟨b1, o1 + z * 3 + 2, none⟩ = some (.slice ty.a2 ty.n2 ty.c2)) xw_1 := unhide HCC _ cc_1
              refine hK.out _ _ hC_1 ?_
              clear hK K
              (try simp only [Act.put, List.setIfInBounds_toArray, List.set_cons_zero, List.set_cons_succ])
              refine wpHold_take (i := 15) (v := ?_) rfl (by kernel_rfl) (by kernel_rfl) (by kernel_rfl) (fun _ _ _ h => h) (Or.inl ⟨by rfl, ?_⟩) hC_1 ?_
              rotate_left
              · intro w hSw; clear hSw; go_simp; (try with_reducible rfl)
              (try simp only [List.getElem_toArray, List.getElem_cons_succ, List.getElem_cons_zero])
              (try simp only [Act.put, List.setIfInBounds_toArray, List.set_cons_zero, List.set_cons_succ])
              refine wpHold_take (i := 16) (v := ?_) rfl (by kernel_rfl) (by kernel_rfl) (by kernel_rfl) (fun _ _ _ h => h) (Or.inl ⟨by rfl, ?_⟩) hC_1 ?_
              rotate_left
              · intro w hSw; clear hSw; go_simp; (try with_reducible rfl)
              (try simp only [List.getElem_toArray, List.getElem_cons_succ, List.getElem_cons_zero])
              (try simp only [Act.put, List.setIfInBounds_toArray, List.set_cons_zero, List.set_cons_succ])
              refine wpHold_take (i := 17) (v := ?_) rfl (by kernel_rfl) (by kernel_rfl) (by kernel_rfl) (fun _ _ _ h => h) (Or.inl ⟨by rfl, ?_⟩) hC_1 ?_
              rotate_left
              · intro w hSw; clear hSw; go_simp; (try with_reducible rfl)
              (try simp only [List.getElem_toArray, List.getElem_cons_succ, List.getElem_cons_zero])
              (try simp only [Act.put, List.setIfInBounds_toArray, List.set_cons_zero, List.set_cons_succ])
              refine wpHold_done (by kernel_rfl) ?_ _
              have HB6 := hide (below_step (unhide HB5) cc_1)
              clear hC0 hC_1 cc_1 hb_1 bd0 HCC HC5 HCM
              go_wp2_with fail
              exact ⟨⟨j + 1, (j : Int), by go_num, rfl, hltj, unhide HN2, unhide HB6⟩, by simp [intOf]; omega⟩
            · have hle := Rat.not_lt.1 hgt
              have ⟨y0, y1⟩ := cmpv_le hle
              obtain ⟨yy, hyy⟩ : ∃ y, cmpv (N j / D j) (N z / D z) = y := ⟨_, rfl⟩
              rw [hyy] at y0 y1 HCM
              have hd2 : decide (0 < yy) = false := decide_eq_false (by omega)
              have HN2 : Hid (Nxt K (fun s => N s / D s) (j + 1) (z : Int)) := Or.inr ⟨z, rfl, by omega, hkz, fun s hs hks => by
                by_cases c : s = j
                · rw [c]; exact hle
                · exact h2 s (by omega) hks⟩
              clear hbj hbj5 X5 bA xr hkj hkf h2 yr yk0 yk1 yk2 hgt hle hyy
              go_wp2_with fail
              clear hW5 hgx xk0 xk1 xk2 q0 q1 q2
              refine wp_region_hold (fun w' : World => w'.cell? ⟨g, j, none⟩ = some (.bool false) ∧ (w'.cell? ⟨gx, 0, none⟩ = some (.bool tx.s) ∧ w'.cell? ⟨gx, 1, none⟩ = some (.slice tx.a1 tx.n1 tx.c1) ∧ w'.cell? ⟨gx, 2, none⟩ = some (.slice tx.a2 tx.n2 tx.c2)) ∧ w'.cell? ⟨b1, o1 + z * 3, none⟩ = some (.bool ty.s) ∧ w'.cell? ⟨b1, o1 + z * 3 + 1, none⟩ = some (.slice ty.a1 ty.n1 ty.c1) ∧ w'.cell? ⟨b1, o1 + z * 3 + 2, none⟩ = some (.slice ty.a2 ty.n2 ty.c2)) (by kernel_rfl) ?_
              have bd0 : Below W5.heap.size W5 W5.drew := (Below.refl _ _).drew
              have hC0 : (fun w' : World => w'.cell? ⟨g, j, none⟩ = some (.bool false) ∧ (w'.cell? ⟨gx, 0, none⟩ = some (.bool tx.s) ∧ w'.cell? ⟨gx, 1, none⟩ = some (.slice tx.a1 tx.n1 tx.c1) ∧ w'.cell? ⟨gx, 2, none⟩ = some (.slice tx.a2 tx.n2 tx.c2)) ∧ w'.cell? ⟨b1, o1 + z * 3, none⟩ = some (.bool ty.s) ∧ w'.cell? ⟨b1, o1 + z * 3 + 1, none⟩ = some (.slice ty.a1 ty.n1 ty.c1) ∧ w'.cell? ⟨b1, o1 + z * 3 + 2, none⟩ = some (.slice ty.a2 ty.n2 ty.c2)) W5.drew := unhide HCC _ bd0
              refine wpHold_take (i := 0) (v := ?_) rfl (by kernel_rfl) (by kernel_rfl) (by kernel_rfl) (fun _ _ _ h => h) (Or.inl ⟨by rfl, ?_⟩) hC0 ?_
              rotate_left
              · intro w hSw; clear hSw; go_simp; (try with_reducible rfl)
              (try simp only [List.getElem_toArray, List.getElem_cons_succ, List.getElem_cons_zero])
              (try simp only [Act.put, List.setIfInBounds_toArray, List.set_cons_zero, List.set_cons_succ])
              refine wpHold_take (i := 1) (v := ?_) rfl (by kernel_rfl) (by kernel_rfl) (by kernel_rfl) (fun _ _ _ h => h) (Or.inl ⟨by rfl, ?_⟩) hC0 ?_
              rotate_left
              · intro w hSw; clear hSw; go_simp; (try with_reducible rfl)
              (try simp only [List.getElem_toArray, List.getElem_cons_succ, List.getElem_cons_zero])
              (try simp only [Act.put, List.setIfInBounds_toArray, List.set_cons_zero, List.set_cons_succ])
              refine wpHold_take (i := 2) (v := ?_) rfl (by kernel_rfl) (by kernel_rfl) (by kernel_rfl) (fun _ _ _ h => h) (Or.inl ⟨by rfl, ?_⟩) hC0 ?_
              rotate_left
              · intro w hSw; clear hSw; go_simp; (try with_reducible rfl)
              (try simp only [List.getElem_toArray, List.getElem_cons_succ, List.getElem_cons_zero])
              (try simp only [Act.put, List.setIfInBounds_toArray, List.set_cons_zero, List.set_cons_succ])
              refine wpHold_take (i := 3) (v := ?_) rfl (by kernel_rfl) (by kernel_rfl) (by kernel_rfl) (fun _ _ _ h => h) (Or.inl ⟨by rfl, ?_⟩) hC0 ?_
              rotate_left
              · intro w hSw; (try dsimp only at hSw); obtain ⟨z0, ⟨z1, z2, z3⟩, z4, z5, z6⟩ := hSw; go_simp; (try with_reducible rfl)
              (try simp only [List.getElem_toArray, List.getElem_cons_succ, List.getElem_cons_zero])
              (try simp only [Act.put, List.setIfInBounds_toArray, List.set_cons_zero, List.set_cons_succ])
              refine wpHold_take (i := 4) (v := ?_) rfl (by kernel_rfl) (by kernel_rfl) (by kernel_rfl) (fun _ _ _ h => h) (Or.inl ⟨by rfl, ?_⟩) hC0 ?_
              rotate_left
              · intro w hSw; clear hSw; go_simp; (try with_reducible rfl)
              (try simp only [List.getElem_toArray, List.getElem_cons_succ, List.getElem_cons_zero])
              (try simp only [Act.put, List.setIfInBounds_toArray, List.set_cons_zero, List.set_cons_succ])
              refine wpHold_take (i := 5) (v := ?_) rfl (by kernel_rfl) (by kernel_rfl) (by kernel_rfl) (fun _ _ _ h => h) (Or.inl ⟨by rfl, ?_⟩) hC0 ?_
              rotate_left
              · intro w hSw; clear hSw; go_simp; (try with_reducible rfl)
              (try simp only [List.getElem_toArray, List.getElem_cons_succ, List.getElem_cons_zero])
              (try simp only [Act.put, List.setIfInBounds_toArray, List.set_cons_zero, List.set_cons_succ])
              refine wpHold_take (i := 6) (v := ?_) rfl (by kernel_rfl) (by kernel_rfl) (by kernel_rfl) (fun _ _ _ h => h) (Or.inl ⟨by rfl, ?_⟩) hC0 ?_
              rotate_left
              · intro w hSw; clear hSw; go_simp; (try with_reducible rfl)
              (try simp only [List.getElem_toArray, List.getElem_cons_succ, List.getElem_cons_zero])
              (try simp only [Act.put, List.setIfInBounds_toArray, List.set_cons_zero, List.set_cons_succ])
              refine wpHold_take (i := 7) (v := ?_) rfl (by kernel_rfl) (by kernel_rfl) (by kernel_rfl) (fun _ _ _ h => h) (Or.inl ⟨by rfl, ?_⟩) hC0 ?_
              rotate_left
              · intro w hSw; clear hSw; go_simp; (try with_reducible rfl)
              (try simp only [List.getElem_toArray, List.getElem_cons_succ, List.getElem_cons_zero])
              (try simp only [Act.put, List.setIfInBounds_toArray, List.set_cons_zero, List.set_cons_succ])
              refine wpHold_take (i := 8) (v := ?_) rfl (by kernel_rfl) (by kernel_rfl) (by kernel_rfl) (fun _ _ _ h => h) (Or.inl ⟨by rfl, ?_⟩) hC0 ?_
              rotate_left
              · intro w hSw; clear hSw; go_simp; (try with_reducible rfl)
              (try simp only [List.getElem_toArray, List.getElem_cons_succ, List.getElem_cons_zero])
              (try simp only [Act.put, List.setIfInBounds_toArray, List.set_cons_zero, List.set_cons_succ])
              refine wpHold_take (i := 9) (v := ?_) rfl (by kernel_rfl) (by kernel_rfl) (by kernel_rfl) (fun _ _ _ h => h) (Or.inl ⟨by rfl, ?_⟩) hC0 ?_
              rotate_left
              · intro w hSw; (try dsimp only at hSw); obtain ⟨z0, ⟨z1, z2, z3⟩, z4, z5, z6⟩ := hSw; go_simp; (try with_reducible rfl)
              (try simp only [List.getElem_toArray, List.getElem_cons_succ, List.getElem_cons_zero])
              (try simp only [Act.put, List.setIfInBounds_toArray, List.set_cons_zero, List.set_cons_succ])
              refine wpHold_take (i := 10) (v := ?_) rfl (by kernel_rfl) (by kernel_rfl) (by kernel_rfl) (fun _ _ _ h => h) (Or.inl ⟨by rfl, ?_⟩) hC0 ?_
              rotate_left
              · intro w hSw; clear hSw; go_simp; (try with_reducible rfl)
              (try simp only [List.getElem_toArray, List.getElem_cons_succ, List.getElem_cons_zero])
              (try simp only [Act.put, List.setIfInBounds_toArray, List.set_cons_zero, List.set_cons_succ])
              refine wpHold_take (i := 11) (v := ?_) rfl (by kernel_rfl) (by kernel_rfl) (by kernel_rfl) (fun _ _ _ h => h) (Or.inl ⟨by rfl, ?_⟩) hC0 ?_
              rotate_left
              · intro w hSw; clear hSw; go_simp; (try with_reducible rfl)
              (try simp only [List.getElem_toArray, List.getElem_cons_succ, List.getElem_cons_zero])
              (try simp only [Act.put, List.setIfInBounds_toArray, List.set_cons_zero, List.set_cons_succ])
              refine wpHold_take (i := 12) (v := ?_) rfl (by kernel_rfl) (by kernel_rfl) (by kernel_rfl) (fun _ _ _ h => h) (Or.inl ⟨by rfl, ?_⟩) hC0 ?_
              rotate_left
              · intro w hSw; clear hSw; go_simp; (try with_reducible rfl)
              (try simp only [List.getElem_toArray, List.getElem_cons_succ, List.getElem_cons_zero])
              (try simp only [Act.put, List.setIfInBounds_toArray, List.set_cons_zero, List.set_cons_succ])
              refine wpHold_take (i := 13) (v := ?_) rfl (by kernel_rfl) (by kernel_rfl) (by kernel_rfl) (fun _ _ _ h => h) (Or.inl ⟨by rfl, ?_⟩) hC0 ?_
              rotate_left
              · intro w hSw; (try dsimp only at hSw); obtain ⟨z0, ⟨z1, z2, z3⟩, z4, z5, z6⟩ := hSw; go_simp; (try with_reducible rfl)
              (try simp only [List.getElem_toArray, List.getElem_cons_succ, List.getElem_cons_zero])
              (try simp only [Act.put, List.setIfInBounds_toArray, List.set_cons_zero, List.set_cons_succ])
              refine wpHold_one (k := 14) (by kernel_rfl) rfl (fun K hK => ?_)
              (try simp only [List.getElem_toArray, List.getElem_cons_succ, List.getElem_cons_zero])
              go_simp
              refine (unhide HCM _ bd0).mono ?_
              rintro e xw_1 ⟨rfl, hb_1⟩
              have cc_1 := below_step bd0 hb_1
              have hC_1 : (fun w' : World => w'.cell? ⟨g, j, none⟩ = some (.bool false) ∧ (w'.cell? ⟨gx, 0, none⟩ = some (.bool tx.s) ∧ w'.cell? ⟨gx, 1, none⟩ = some (.slice tx.a1 tx.n1 tx.c1) ∧ w'.cell? ⟨gx, 2, none⟩ = some (.slice tx.a2 tx.n2 tx.c2)) ∧ w'.cell? ⟨b1, o1 + z * 3, none⟩ = some (.bool ty.s) ∧ w'.cell? ⟨b1, o1 + z * 3 + 1, none⟩ = some (.slice ty.a1 ty.n1 ty.c1) ∧ w'.cell? ⟨b1, o1 + z * 3 + 2, none⟩ = some (.slice ty.a2 ty.n2 ty.c2)) xw_1 := unhide HCC _ cc_1
              refine hK.out _ _ hC_1 ?_
              clear hK K
              (try simp only [Act.put, List.setIfInBounds_toArray, List.set_cons_zero, List.set_cons_succ])
              refine wpHold_take (i := 15) (v := ?_) rfl (by kernel_rfl) (by kernel_rfl) (by kernel_rfl) (fun _ _ _ h => h) (Or.inl ⟨by rfl, ?_⟩) hC_1 ?_
              rotate_left
              · intro w hSw; clear hSw; go_simp; (try with_reducible rfl)
              (try simp only [List.getElem_toArray, List.getElem_cons_succ, List.getElem_cons_zero])
              (try simp only [Act.put, List.setIfInBounds_toArray, List.set_cons_zero, List.set_cons_succ])
              refine wpHold_take (i := 16) (v := ?_) rfl (by kernel_rfl) (by kernel_rfl) (by kernel_rfl) (fun _ _ _ h => h) (Or.inl ⟨by rfl, ?_⟩) hC_1 ?_
              rotate_left
              · intro w hSw; clear hSw; go_simp; (try with_reducible rfl)
              (try simp only [List.getElem_toArray, List.getElem_cons_succ, List.getElem_cons_zero])
              (try simp only [Act.put, List.setIfInBounds_toArray, List.set_cons_zero, List.set_cons_succ])
              refine wpHold_take (i := 17) (v := ?_) rfl (by kernel_rfl) (by kernel_rfl) (by kernel_rfl) (fun _ _ _ h => h) (Or.inl ⟨by rfl, ?_⟩) hC_1 ?_
              rotate_left
              · intro w hSw; clear hSw; go_simp; (try with_reducible rfl)
              (try simp only [List.getElem_toArray, List.getElem_cons_succ, List.getElem_cons_zero])
              (try simp only [Act.put, List.setIfInBounds_toArray, List.set_cons_zero, List.set_cons_succ])
              refine wpHold_done (by kernel_rfl) ?_ _
              have HB6 := hide (below_step (unhide HB5) cc_1)
              clear hC0 hC_1 cc_1 hb_1 bd0 HCC HC5 HCM
              go_wp2_with fail
              exact ⟨⟨j + 1, (z : Int), by go_num, rfl, hltj, unhide HN2, unhide HB6⟩, by simp [intOf]; omega⟩
        · have ej : j = k := by omega
          rw [ej] at hnx ⊢
          have g1 : ¬ (k : Int) < (k : Int) := by omega
          rcases hnx with ⟨rfl, h2⟩ | ⟨z, rfl, hzj, hkz, h2⟩
          · exfalso
            obtain ⟨s, hs, hks⟩ := cntK_some (K := K) (m := k) (by rw [unhide HCN]; exact hlt)
            have := h2 s hs
            rw [hks] at this; cases this
          obtain ⟨ys_, yp1, yp2, yn1, yd1, yn2, yd2, yk0, yk1, yk2, yr⟩ := unhide HZ1 z hzj
          obtain ⟨ty, rfl, rfl, rfl, rfl, rfl, rfl, rfl⟩ : ∃ t : Tri, ys_ = t.s ∧ yp1 = t.a1 ∧ yp2 = t.a2 ∧ yn1 = t.n1 ∧ yd1 = t.c1 ∧ yn2 = t.n2 ∧ yd2 = t.c2 := ⟨⟨ys_, yp1, yp2, yn1, yd1, yn2, yd2⟩, rfl, rfl, rfl, rfl, rfl, rfl, rfl⟩
          rw [row_get hzj] at yr
          rw [← hbj.cell (p := ⟨b1, o1 + z * 3, none⟩) (unhide HL1)] at yk0
          rw [← hbj.cell (p := ⟨b1, o1 + z * 3 + 1, none⟩) (unhide HL1)] at yk1
          rw [← hbj.cell (p := ⟨b1, o1 + z * 3 + 2, none⟩) (unhide HL1)] at yk2
          have z0 : (0 : Int) ≤ (z : Int) := by omega
          have z1 : (z : Int) < (k : Int) := by omega
          have hST := Git.gi_step (unhide HOK) (unhide HGI) (unhide HN3) (unhide HD3) (by rw [unhide HAN]; exact hzj) hkz (fun s hs hks => h2 s (by rw [unhide HAN] at hs; exact hs) hks)
          have S3 := (unhide HSM3).keep hbj
          have O3 := (unhide HOW3).keep hbj
          have ⟨⟨y0, y1, y2⟩, f0, f1, f2⟩ := S3.cells z (by rw [unhide HUL]; exact hzj)
          have S4 := S3.set z (by rw [unhide HUL]; exact hzj) ty _ (yr.below hbj)
          have O4 := O3.rowed S3.row (z * 3) (z * 3 + 1) (z * 3 + 2) (.bool ty.s) (.slice ty.a1 ty.n1 ty.c1) (.slice ty.a2 ty.n2 ty.c2)
          obtain ⟨W7, hW7⟩ : ∃ W, ((wr.setCell ⟨G, z * 3, none⟩ (.bool ty.s)).setCell ⟨G, z * 3 + 1, none⟩ (.slice ty.a1 ty.n1 ty.c1)).setCell ⟨G, z * 3 + 2, none⟩ (.slice ty.a2 ty.n2 ty.c2) = W := ⟨_, rfl⟩
          rw [hW7] at S4 O4
          have kz := O4.cell hzj
          have kf := O4.free z
          have S5 := S4.bools (j := z) (x := true) O4 (unhide HGE)
          have O5 := O4.set z true
          obtain ⟨W8, hW8⟩ : ∃ W, W7.setCell ⟨g, z, none⟩ (.bool true) = W := ⟨_, rfl⟩
          rw [hW8] at S5 O5
          have ex : (row x k).set z (N z / D z) = row (fun s => if s = z then N z / D z else x s) k := row_eq (by rw [List.length_set, row_length]) (fun s hs => by
            by_cases c : s = z
            · rw [if_pos c, c]; simp [row_length, hzj]
            · rw [if_neg c]
              have e1 : ((row x k).set z (N z / D z))[s]! = (row x k)[s]! := by simp [Ne.symm c]
              rw [e1, row_get hs])
          rw [ex] at S5
          have HFS := hide S5
          have HFO : Hid (OwnB W8 g k (Git.ins K z)) := O5.congr (fun s _ => rfl)
          have HFG := hide hST.2
          have HFC : Hid (cntK (Git.ins K z) k = i + 1) := by
            show _ = _
            rw [cntK_ins hkz, if_pos hzj, unhide HCN]
          have HFI : Hid (∀ s, s < k → Git.ins K z s = true → Git.IdxAt A (if s = z then N z / D z else x s) s ∧ RS (if s = z then N z / D z else x s) (2 * XBn k)) := fun s hs hks => by
            by_cases c : s = z
            · rw [if_pos c, c]
              exact ⟨hST.1, unhide HR3 z hzj⟩
            · rw [if_neg c]
              unfold Git.ins at hks
              rw [if_neg c] at hks
              exact unhide HIX s hs hks
          clear hbj S3 O3 S4 O4 S5 O5 yr hST h2 hkz ex
          go_wp2_with fail
          exact ⟨⟨i + 1, Git.ins K z, fun s => if s = z then N z / D z else x s, _, by go_num, hlt, by rw [List.length_set]; exact unhide HUL, unhide HFS, unhide HFO, unhide HFG, unhide HFC, unhide HFI⟩, by simp [intOf]; omega⟩
    · have ei : i = k := by omega
      rw [ei] at hcn ⊢
      have e1 : ¬ (k : Int) < (k : Int) := by omega
      have hL := hSm.law (by omega)
      rw [hul] at hL
      have HL := hide hL
      have HB9 := hide (below_step (unhide HB0) hSm.bl)
      have HID : Hid (Git.Idx A x) := fun s hs => (hIx s (by rw [unhide HAN] at hs; exact hs) (cntK_all hcn s (by rw [unhide HAN] at hs; exact hs))).1
      have HRS : Hid (∀ s, s < k → RS (x s) (2 * XBn k)) := fun s hs => (hIx s hs (cntK_all hcn s hs)).2
      clear hSm hOw hL hul hIx hGi hcn
      go_wp2
      go_ret
      exact ⟨_, x, rfl, by rw [unhide HAN]; exact unhide HL, unhide HID, by rw [unhide HAN]; exact unhide HRS, unhide HB9⟩
end Go.Proofs.YtjlohghknejjoaaGreatDoor
