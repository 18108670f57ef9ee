/- Models: one step. -/
import Derived.Test.YtjlohghknejjoaaGreatDoorI4
namespace Go.Proofs.YtjlohghknejjoaaGreatDoor
open Go.RowKit Go.Sort Go.Shelf

/-- What Step says: the values a step ahead, and the acts. -/
def StepPost (w : World) (n : Nat) (M : Mdp.Md) (x : Nat → Rat) (e : Ending) (w' : World) : Prop :=
  ∃ (v : Value) (G : Nat), e = .returned (.tuple #[v, .slice (some ⟨G, 0, none⟩) n n]) ∧ LawIs w' v (row (Mdp.T M x) n) ∧ OwnI w' G n (fun s => ((Mdp.bst M x s : Nat) : Int)) ∧ w.heap.size ≤ G ∧ Below w.heap.size w w'
theorem own_ne {w : World} {G g n : Nat} {f : Nat → Int} {us : List Tri} (h : OwnI w G n f) (hg : w.heap[g]? = some (.cells (tcells us).toArray 37)) : G ≠ g := fun e => by
  unfold OwnI at h
  rw [e, hg] at h
  injection h with h
  injection h with _ h
  exact absurd h (by decide)
theorem OwnI.rowed {w : World} {G g n : Nat} {f : Nat → Int} {us : List Tri} (h : OwnI w G n f) (hg : w.heap[g]? = some (.cells (tcells us).toArray 37)) (i0 i1 i2 : Nat) (x0 x1 x2 : Value) : OwnI (((w.setCell ⟨g, i0, none⟩ x0).setCell ⟨g, i1, none⟩ x1).setCell ⟨g, i2, none⟩ x2) G n f := by
  have hne := own_ne h hg
  unfold OwnI at h ⊢
  rw [Below.heap_setCell _ _ _ _ hne, Below.heap_setCell _ _ _ _ hne, Below.heap_setCell _ _ _ _ hne]; exact h
theorem qv_RS {K : List (List (Rat × List Rat))} {b : Rat} {x : Nat → Rat} {J : Nat} (sm : SmM K b) (gm : GoodM K b) (hx : ∀ t, t < K.length → RS (x t) J) {s a : Nat} (hs : s < K.length) (ha : a < (K[s]!).length) : RS (Mdp.qv (mdl K b) x s a) (8 * (J + 2) + 5) := by
  have key : ∀ k, k ≤ K.length → RS (Bth.ps (fun t => (((K[s]!)[a]!).2)[t]! * x t) k) (k * (J + 2) + 1) := fun k => by
    induction k with
    | zero => intro _; exact RS.zero.mono (by omega)
    | succ k ih =>
      intro hk
      exact RS.mono ((ih (by omega)).add ((sm.rp s a k hs ha (by rw [gm.nx s a hs ha]; omega)).mul (hx k (by omega)))) (by rw [Nat.succ_mul]; omega)
  have h1 := key K.length (Nat.le_refl _)
  have h2 : K.length * (J + 2) ≤ 8 * (J + 2) := Nat.mul_le_mul_right _ gm.n8
  exact RS.mono ((sm.rg s a hs ha).add (sm.wb.mul h1)) (by omega)
/-- What the loop over states holds. -/
structure StepS (W0 wr : World) (G1 G2 n : Nat) (M : Mdp.Md) (us : List Tri) (x : Nat → Rat) (s : Nat) : Prop where
  a : SumsAt W0 wr G1 us (fill (Mdp.T M x) n s)
  c : OwnI wr G2 n (fun j => if j < s then ((Mdp.bst M x j : Nat) : Int) else 0)
  lg : W0.heap.size ≤ G2
theorem StepS.keep {W0 wr w' : World} {G1 G2 n : Nat} {M : Mdp.Md} {us : List Tri} {x : Nat → Rat} {s : Nat} (h : StepS W0 wr G1 G2 n M us x s) (hb : Below wr.heap.size wr w') : StepS W0 w' G1 G2 n M us x s := ⟨h.a.keep hb, h.c.keep hb, h.lg⟩

theorem egStep (args : Array Value) (w : World) : (callFunc 83 args).run Tryz.prog w = .ok (.enter 83 args) w := by
  go_simp
set_option maxHeartbeats 16000000 in
set_option maxRecDepth 100000 in
set_option linter.unusedSimpArgs false in
theorem step_any (v vx : Value) (K : List (List (Rat × List Rat))) (b : Rat) (xs : List Rat) (J : Nat) (w : World) (h : ModelIs w v K b) (sm : SmM K b) (gm : GoodM K b) (hx : LawIs w vx xs) (hxl : xs.length = K.length) (hxr : ∀ j, j < K.length → RS xs[j]! J) (hJ : 16 * J + 200 ≤ KK) :
    Calls Tryz.prog 51 #[v, vx] w (StepPost w K.length (mdl K b) (bf xs)) := by
  have KKe : KK = 1099511627776 := rfl
  obtain ⟨l, t, rfl, hS, hR⟩ := h
  have hln := states_len hS
  have X0 := MBox.new hS hR
  have b0 := alloc_below w (.cells #[.slice l.a l.n l.c, .bool t.s, .slice t.a1 t.n1 t.c1, .slice t.a2 t.n2 t.c2] 70)
  obtain ⟨W0, hW0⟩ : ∃ W, w.alloc (.cells #[.slice l.a l.n l.c, .bool t.s, .slice t.a1 t.n1 t.c1, .slice t.a2 t.n2 t.c2] 70) = W := ⟨_, rfl⟩
  obtain ⟨g, hg⟩ : ∃ g, w.heap.size = g := ⟨_, rfl⟩
  rw [hW0] at X0 b0
  rw [hg] at X0
  have ⟨c0, c1, c2, c3⟩ := X0.cells _ (Below.refl _ _)
  have HX0 := hide X0
  have HB0 := hide b0
  have HLN := hide hln
  obtain ⟨n, hn⟩ : ∃ n, K.length = n := ⟨_, rfl⟩
  have HN := hide hn
  rw [hn] at hln
  rw [hln] at c0
  unfold mval
  rw [hln] at hW0 ⊢
  have HSM := hide sm
  have HGM := hide gm
  have HX := hide hx
  have hn8 := gm.n8
  have hn1 := gm.n1
  rw [hn] at hn8 hn1
  have HXR := hide hxr
  rw [hn] at hxl ⊢
  have HXL := hide hxl
  obtain ⟨M, hM⟩ : ∃ M, mdl K b = M := ⟨_, rfl⟩
  rw [hM]
  have HM := hide hM
  obtain ⟨x, hxf⟩ : ∃ x : Nat → Rat, bf xs = x := ⟨_, rfl⟩
  rw [hxf]
  have HXF := hide hxf
  obtain ⟨ax, cx, rfl, x1, x2, x3⟩ := hx
  rw [hxl] at HX x1 ⊢
  clear hS hR X0 b0 sm gm x3 hxr hM hxf hn
  go_enter Tryz.func51, Tryz.ntmps51
  go_wp2_with fail
  clear hW0 hg
  refine wp_region_hold (fun _ : World => True) (by kernel_rfl) ?_
  have bd0 : Below W0.heap.size W0 W0.drew := (Below.refl _ _).drew
  obtain ⟨Wx, hWx⟩ : ∃ W, W0.drew = W := ⟨_, rfl⟩
  rw [hWx] at bd0 ⊢
  have hC0 : (fun _ : World => True) Wx := trivial
  refine wpHold_take (i := 0) (v := ?_) rfl (by kernel_rfl) (by kernel_rfl) (by kernel_rfl) (fun _ _ _ h => h) (Or.inl ⟨by rfl, ?_⟩) hC0 ?_
  rotate_left
  · intro w hSw; clear hSw; go_simp; (try with_reducible rfl)
  (try simp only [List.getElem_toArray, List.getElem_cons_succ, List.getElem_cons_zero])
  (try simp only [Act.put, List.setIfInBounds_toArray, List.set_cons_zero, List.set_cons_succ])
  refine wpHold_take (i := 1) (v := ?_) rfl (by kernel_rfl) (by kernel_rfl) (by kernel_rfl) (fun _ _ _ h => h) (Or.inl ⟨by rfl, ?_⟩) hC0 ?_
  rotate_left
  · intro w hSw; clear hSw; go_simp; (try with_reducible rfl)
  (try simp only [List.getElem_toArray, List.getElem_cons_succ, List.getElem_cons_zero])
  (try simp only [Act.put, List.setIfInBounds_toArray, List.set_cons_zero, List.set_cons_succ])
  refine wpHold_take (i := 3) (v := ?_) rfl (by kernel_rfl) (by kernel_rfl) (by kernel_rfl) (fun _ _ _ h => h) (Or.inl ⟨by rfl, ?_⟩) hC0 ?_
  rotate_left
  · intro w hSw; clear hSw; go_simp; (try with_reducible rfl)
  (try simp only [List.getElem_toArray, List.getElem_cons_succ, List.getElem_cons_zero])
  (try simp only [Act.put, List.setIfInBounds_toArray, List.set_cons_zero, List.set_cons_succ])
  refine wpHold_take (i := 4) (v := ?_) rfl (by kernel_rfl) (by kernel_rfl) (by kernel_rfl) (fun _ _ _ h => h) (Or.inl ⟨by rfl, ?_⟩) hC0 ?_
  rotate_left
  · intro w hSw; clear hSw; go_simp; (try with_reducible rfl)
  (try simp only [List.getElem_toArray, List.getElem_cons_succ, List.getElem_cons_zero])
  (try simp only [Act.put, List.setIfInBounds_toArray, List.set_cons_zero, List.set_cons_succ])
  refine wpHold_listed (n := 4) (L' := (fun x : Bool × Bool × Bool => #[true, true, x.1, true, true, x.2.1, x.2.2, false]) (false, false, false)) (by kernel_rfl) (by kernel_rfl) ?_
  refine wpHold_name (fun a0 ha0 => ?_)
  refine two_any (fun x : Bool × Bool × Bool => #[true, true, x.1, true, true, x.2.1, x.2.2, false]) 1 2 5 6 (fun x y z na W => ∃ s1 s2 s3, na = ((a0.put (some 15) s1).put (some 18) s2).put (some 6) s3 ∧ (z = true → x = true ∧ s3 = s1) ∧ TwoK (fun W s1 => ∃ G, s1 = .slice (some ⟨G, 0, none⟩) n n ∧ SumsAt W0 W G (List.replicate n zTri) (List.replicate n 0)) (fun W s2 => ∃ G, s2 = .slice (some ⟨G, 0, none⟩) n n ∧ OwnI W G n (fun _ => 0) ∧ W0.heap.size ≤ G) (fun _ _ _ => True) Wx x y W s1 s2) ?_ ?_ ?_ ?_ ?_ ?_ _ _ ⟨undef, undef, undef, by subst ha0; rfl, fun h => (by cases h), Below.refl _ _, fun h => (by cases h), fun h => (by cases h), fun h => (by cases h)⟩
  · clear ha0
    rintro ⟨x, y, z⟩ hs
    match x, y, z, hs with
    | false, false, false, _ => (show (_ : Bool) = _; kernel_rfl)
    | false, false, true, _ => (show (_ : Bool) = _; kernel_rfl)
    | false, true, false, _ => (show (_ : Bool) = _; kernel_rfl)
    | false, true, true, _ => (show (_ : Bool) = _; kernel_rfl)
    | true, false, false, _ => (show (_ : Bool) = _; kernel_rfl)
    | true, false, true, _ => (show (_ : Bool) = _; kernel_rfl)
    | true, true, false, _ => (show (_ : Bool) = _; kernel_rfl)
  · clear ha0
    rintro ⟨x, y, z⟩ hs
    match x, y, z, hs with
    | false, false, false, _ => (show (_ : Bool) = _; kernel_rfl)
    | false, false, true, _ => (show (_ : Bool) = _; kernel_rfl)
    | false, true, false, _ => (show (_ : Bool) = _; kernel_rfl)
    | false, true, true, _ => (show (_ : Bool) = _; kernel_rfl)
    | true, false, false, _ => (show (_ : Bool) = _; kernel_rfl)
    | true, false, true, _ => (show (_ : Bool) = _; kernel_rfl)
    | true, true, false, _ => (show (_ : Bool) = _; kernel_rfl)
  · rintro y z na wv ⟨s1, s2, s3, rfl, hz, J⟩
    have hz0 : z = false := by
      cases z with
      | false => rfl
      | true => exact absurd (hz rfl).1 (by decide)
    subst hz0
    subst ha0
    have qmk := make_ratios (n : Int) (by omega) (by omega) wv
    rw [Int.toNat_natCast] at qmk
    have hb := alloc_below wv (.cells (tcells (List.replicate n zTri)).toArray 37)
    refine wpOp_step rfl (fun K hK => ?_)
    (try simp only [Act.put, List.setIfInBounds_toArray, List.set_cons_zero, List.set_cons_succ] at hK ⊢)
    (try simp only [List.getElem_toArray, List.getElem_cons_succ, List.getElem_cons_zero])
    go_simp
    have hbz := below_step J.bl hb
    exact hK _ _ ⟨trivial, _, s2, s3, rfl, fun h => (by cases h), hbz, fun _ => ⟨_, rfl, SumsAt.start W0 wv n (below_step bd0 J.bl)⟩, fun h => by
      obtain ⟨G, e1, e2, e3⟩ := J.rb h
      exact ⟨G, e1, e2.keep hb, e3⟩, fun _ _ => trivial⟩
  · rintro x z na wv ⟨s1, s2, s3, rfl, hz, J⟩
    subst ha0
    have qmk := make_ints n (by omega) wv
    have hb := alloc_below wv (.cells (lrow (fun _ => 0) n).toArray 3)
    refine wpOp_step rfl (fun K hK => ?_)
    (try simp only [Act.put, List.setIfInBounds_toArray, List.set_cons_zero, List.set_cons_succ] at hK ⊢)
    (try simp only [List.getElem_toArray, List.getElem_cons_succ, List.getElem_cons_zero])
    go_simp
    have hbz := below_step J.bl hb
    exact hK _ _ ⟨trivial, s1, _, s3, rfl, hz, hbz, fun h => by
      obtain ⟨G, e1, e2⟩ := J.ra h
      exact ⟨G, e1, e2.keep hb⟩, fun _ => ⟨_, rfl, make_own wv n, (below_step bd0 J.bl).size⟩, fun _ _ => trivial⟩
  · rintro y na wv ⟨s1, s2, s3, rfl, hz, J⟩
    subst ha0
    refine wpOp_step rfl (fun K hK => ?_)
    (try simp only [Act.put, List.setIfInBounds_toArray, List.set_cons_zero, List.set_cons_succ] at hK ⊢)
    (try simp only [List.getElem_toArray, List.getElem_cons_succ, List.getElem_cons_zero])
    go_simp
    have hbz := J.bl
    exact hK _ _ ⟨trivial, s1, s2, s1, rfl, fun _ => ⟨by trivial, rfl⟩, J⟩
  rintro na wv ⟨s1, s2, s3, rfl, hz, J⟩
  obtain ⟨_, rfl⟩ := hz rfl
  subst ha0
  have hbz := J.bl
  have hCv : (fun _ : World => True) wv := trivial
  obtain ⟨G1, rfl, SG1⟩ := J.ra rfl
  obtain ⟨G2, rfl, OG2, lg2⟩ := J.rb rfl
  refine wpHold_take (i := 7) (v := ?_) rfl (by kernel_rfl) (by kernel_rfl) (by kernel_rfl) (fun _ _ _ h => h) (Or.inl ⟨by rfl, ?_⟩) hCv ?_
  rotate_left
  · intro w hSw; clear hSw; go_simp; (try with_reducible rfl)
  (try simp only [List.getElem_toArray, List.getElem_cons_succ, List.getElem_cons_zero])
  (try simp only [Act.put, List.setIfInBounds_toArray, List.set_cons_zero, List.set_cons_succ])
  refine wpHold_done (by kernel_rfl) ?_ _
  have HST : Hid (StepS W0 wv G1 G2 n M (List.replicate n zTri) x 0) := ⟨by rw [← fill_zero]; exact SG1, OG2.congr (fun j _ => by simp), lg2⟩
  have ⟨c0, _, _, _⟩ := (unhide HX0).cells _ SG1.bl
  rw [hln] at c0
  clear J SG1 OG2 lg2 bd0 hWx hC0 hCv hbz hz
  go_wp2_with fail
  clear c0
  go_loopw [22] (fun vi wr => ∃ (s : Nat) (us : List Tri), vi = .int .i64 (s : Int) ∧ s ≤ n ∧ us.length = n ∧ StepS W0 wr G1 G2 n M us x s) (fun vi _ => n - (intOf vi).toNat)
  case atStart => exact ⟨0, _, rfl, Nat.zero_le _, List.length_replicate, unhide HST⟩
  case round =>
    obtain ⟨s, us, rfl, hs, hus, T⟩ := hrel
    clear HST
    have HT := hide T
    have HUS := hide hus
    by_cases hlt : s < n
    · have e1 : (s : Int) < (n : Int) := by omega
      have e0 : (0 : Int) ≤ (s : Int) := by omega
      have hltK : s < K.length := by have := unhide HN; omega
      obtain ⟨bk, ok, m, hla, hbk, k0, hA⟩ := ((unhide HX0).2.1.below T.a.bl).at hltK
      have hmn := acts_len hA
      have ha8 := (unhide HGM).a8 s hltK
      have ha1 := (unhide HGM).a1 s hltK
      obtain ⟨na, hna⟩ : ∃ x, m.n = x := ⟨_, rfl⟩
      rw [hna] at k0 hmn
      rw [← hmn] at ha8 ha1
      have HMN := hide hmn
      have HLT := hide hltK
      have HA := hide hA
      have qm2 := make_ratios (na : Int) (by omega) (by omega) wr
      rw [Int.toNat_natCast] at qm2
      have S3 := SumsAt.start wr wr na (Below.refl _ _)
      obtain ⟨W1, hW1⟩ : ∃ W, wr.alloc (.cells (tcells (List.replicate na zTri)).toArray 37) = W := ⟨_, rfl⟩
      obtain ⟨G3, hG3⟩ : ∃ G, wr.heap.size = G := ⟨_, rfl⟩
      rw [hW1] at qm2
      rw [hG3] at qm2
      rw [hW1] at S3
      have S3' : SumsAt wr W1 G3 (List.replicate na zTri) (fill (Mdp.qv M x s) na 0) := by rw [← hG3, ← fill_zero]; exact S3
      have HS3 := hide S3'
      have HG3 := hide hG3
      rw [hla]
      clear T hus hmn hna hltK hA S3 S3' hG3
      go_wp2_with fail
      clear qm2 hW1 k0
      obtain ⟨V, hV⟩ : ∃ V, wr = V := ⟨_, rfl⟩
      rw [hV] at HT HA HS3 HG3
      clear hV
      go_loopw [32] (fun vj wv => ∃ (j : Nat) (ws : List Tri), vj = .int .i64 (j : Int) ∧ j ≤ na ∧ ws.length = na ∧ SumsAt V wv G3 ws (fill (Mdp.qv M x s) na j)) (fun vj _ => na - (intOf vj).toNat)
      case atStart => exact ⟨0, _, rfl, Nat.zero_le _, List.length_replicate, unhide HS3⟩
      case round =>
        obtain ⟨j, ws, rfl, hj, hws, T3⟩ := hrel
        clear HS3
        by_cases hltj : j < na
        · have f1 : (j : Int) < (na : Int) := by omega
          have f0 : (0 : Int) ≤ (j : Int) := by omega
          have hltj' : j < (K[s]!).length := by have := unhide HMN; omega
          obtain ⟨ba, oa, ta, la, hma, hba, ⟨a0, a1, a2, a3⟩, hAct⟩ := ((unhide HA).below T3.bl).at hltj'
          have bA := alloc_below wr (.cells #[.bool ta.s, .slice ta.a1 ta.n1 ta.c1, .slice ta.a2 ta.n2 ta.c2, .slice la.a la.n la.c] 67)
          have hnew := heap_alloc_new wr (.cells #[.bool ta.s, .slice ta.a1 ta.n1 ta.c1, .slice ta.a2 ta.n2 ta.c2, .slice la.a la.n la.c] 67)
          have T4 := T3.keep bA
          have hact := hAct.below bA
          have hWW := below_step (unhide HT).a.bl T4.bl
          obtain ⟨W2, hW2⟩ : ∃ W, wr.alloc (.cells #[.bool ta.s, .slice ta.a1 ta.n1 ta.c1, .slice ta.a2 ta.n2 ta.c2, .slice la.a la.n la.c] 67) = W := ⟨_, rfl⟩
          obtain ⟨bx, hbx⟩ : ∃ x, wr.heap.size = x := ⟨_, rfl⟩
          rw [hW2] at hnew T4 hact hWW
          rw [hbx] at hnew
          have hbxl : bx < W2.heap.size := (Array.getElem?_eq_some_iff.1 hnew).1
          have MX := (unhide HX0).keep hWW
          have HCC : Hid (∀ W, Below W2.heap.size W2 W → (fun w' : World => (w'.cell? ⟨bx, 0, none⟩ = some (.bool ta.s) ∧ w'.cell? ⟨bx, 1, none⟩ = some (.slice ta.a1 ta.n1 ta.c1) ∧ w'.cell? ⟨bx, 2, none⟩ = some (.slice ta.a2 ta.n2 ta.c2) ∧ w'.cell? ⟨bx, 3, none⟩ = some (.slice la.a la.n la.c)) ∧ w'.cell? ⟨g, 1, none⟩ = some (.bool t.s) ∧ w'.cell? ⟨g, 2, none⟩ = some (.slice t.a1 t.n1 t.c1) ∧ w'.cell? ⟨g, 3, none⟩ = some (.slice t.a2 t.n2 t.c2)) W) := fun W hW => by
            have h' : W.heap[bx]? = some (.cells #[.bool ta.s, .slice ta.a1 ta.n1 ta.c1, .slice ta.a2 ta.n2 ta.c2, .slice la.a la.n la.c] 67) := by rw [hW.block _ hbxl]; exact hnew
            have mc := MX.cells W hW
            refine ⟨by simp [World.cell?, h'], mc.2⟩
          have ⟨⟨q0, q1, q2, q3⟩, q4, q5, q6⟩ := unhide HCC _ (Below.refl _ _)
          have hln2 := law_len hact.2
          have hnx := (unhide HGM).nx s j (unhide HLT) hltj'
          have HQV : Hid (((K[s]!)[j]!).1 + b * mv ((K[s]!)[j]!).2 xs (((K[s]!)[j]!).2).length = Mdp.qv M x s j) := by
            show _ = _
            rw [hnx, ← unhide HM, ← unhide HXF]
            rfl
          have rmv := mv_RS (qs := ((K[s]!)[j]!).2) (xs := xs) (J := J) (fun u hu => (unhide HSM).rp s j u (unhide HLT) hltj' hu) (fun u hu => unhide HXR u (by rw [hnx] at hu; exact hu)) _ (Nat.le_refl _)
          have hm8 : (((K[s]!)[j]!).2).length * (J + 2) ≤ 8 * (J + 2) := Nat.mul_le_mul_right _ (by rw [hnx]; exact (unhide HGM).n8)
          have HME : Hid (∀ W, Below W2.heap.size W2 W → Calls Tryz.prog 81 #[.slice la.a la.n la.c, .slice ax n cx] W fun e w' => ∃ v, e = .returned v ∧ RatIs w' v (mv ((K[s]!)[j]!).2 xs (((K[s]!)[j]!).2).length) ∧ Below W.heap.size W w') := fun W hW =>
            cmean_any la.val _ _ xs J W (hact.2.below hW) ((unhide HX).below (below_step (unhide HB0) (below_step hWW hW))) (by rw [hnx, unhide HXL]; exact (unhide HN).symm) (fun u hu => (unhide HSM).rp s j u (unhide HLT) hltj' hu) (fun u hu => unhide HXR u (by rw [hnx] at hu; exact hu)) (by omega)
          have HWT := hide MX.2.2
          have HGA := hide hact.1
          have HRW := hide ((unhide HSM).wb.mono (show 1 ≤ 8 * (J + 2) + 5 by omega))
          have HRM := hide (rmv.mono (show _ ≤ 8 * (J + 2) + 5 by omega))
          have HRG := hide (((unhide HSM).rg s j (unhide HLT) hltj').mono (show 1 ≤ 8 * (J + 2) + 5 by omega))
          have HRX := hide (((unhide HSM).wb.mul rmv).mono (show _ ≤ 8 * (J + 2) + 5 by omega))
          have HJJ : Hid ((8 * (J + 2) + 5) + (8 * (J + 2) + 5) + 1 ≤ KK) := by show _ ≤ _; omega
          have HS5 := hide T4
          have HUL := hide hws
          have HLJ := hide hltj'
          rw [hma]
          clear T3 T4 hAct bA hnew hact hWW MX hws hln2 hnx rmv hm8
          go_wp2_with fail
          clear hW2 hbx a0 a1 a2 a3 q0 q1 q2 q3 q4 q5 q6
          refine wp_region_till (fun w' : World => (w'.cell? ⟨bx, 0, none⟩ = some (.bool ta.s) ∧ w'.cell? ⟨bx, 1, none⟩ = some (.slice ta.a1 ta.n1 ta.c1) ∧ w'.cell? ⟨bx, 2, none⟩ = some (.slice ta.a2 ta.n2 ta.c2) ∧ w'.cell? ⟨bx, 3, none⟩ = some (.slice la.a la.n la.c)) ∧ w'.cell? ⟨g, 1, none⟩ = some (.bool t.s) ∧ w'.cell? ⟨g, 2, none⟩ = some (.slice t.a1 t.n1 t.c1) ∧ w'.cell? ⟨g, 3, none⟩ = some (.slice t.a2 t.n2 t.c2)) 13 (by kernel_rfl) ?_
          have bd0 : Below W2.heap.size W2 W2.drew := (Below.refl _ _).drew
          have hC0 : (fun w' : World => (w'.cell? ⟨bx, 0, none⟩ = some (.bool ta.s) ∧ w'.cell? ⟨bx, 1, none⟩ = some (.slice ta.a1 ta.n1 ta.c1) ∧ w'.cell? ⟨bx, 2, none⟩ = some (.slice ta.a2 ta.n2 ta.c2) ∧ w'.cell? ⟨bx, 3, none⟩ = some (.slice la.a la.n la.c)) ∧ w'.cell? ⟨g, 1, none⟩ = some (.bool t.s) ∧ w'.cell? ⟨g, 2, none⟩ = some (.slice t.a1 t.n1 t.c1) ∧ w'.cell? ⟨g, 3, none⟩ = some (.slice t.a2 t.n2 t.c2)) W2.drew := unhide HCC _ bd0
          refine wpTill_pure (i := 0) (v := ?_) rfl (by kernel_rfl) (by kernel_rfl) (by kernel_rfl) (by kernel_rfl) (fun _ _ _ h => h) (Or.inl ⟨by rfl, ?_⟩) (fun _ => hC0) ?_
          rotate_left
          · intro w hSw; clear hSw; go_simp; (try with_reducible rfl)
          (try simp only [List.getElem_toArray, List.getElem_cons_succ, List.getElem_cons_zero])
          (try simp only [Act.put, List.setIfInBounds_toArray, List.set_cons_zero, List.set_cons_succ])
          refine wpTill_pure (i := 1) (v := ?_) rfl (by kernel_rfl) (by kernel_rfl) (by kernel_rfl) (by kernel_rfl) (fun _ _ _ h => h) (Or.inl ⟨by rfl, ?_⟩) (fun _ => hC0) ?_
          rotate_left
          · intro w hSw; clear hSw; go_simp; (try with_reducible rfl)
          (try simp only [List.getElem_toArray, List.getElem_cons_succ, List.getElem_cons_zero])
          (try simp only [Act.put, List.setIfInBounds_toArray, List.set_cons_zero, List.set_cons_succ])
          refine wpTill_pure (i := 2) (v := ?_) rfl (by kernel_rfl) (by kernel_rfl) (by kernel_rfl) (by kernel_rfl) (fun _ _ _ h => h) (Or.inl ⟨by rfl, ?_⟩) (fun _ => hC0) ?_
          rotate_left
          · intro w hSw; clear hSw; go_simp; (try with_reducible rfl)
          (try simp only [List.getElem_toArray, List.getElem_cons_succ, List.getElem_cons_zero])
          (try simp only [Act.put, List.setIfInBounds_toArray, List.set_cons_zero, List.set_cons_succ])
          refine wpTill_take (i := 3) (v := ?_) rfl (by kernel_rfl) (by kernel_rfl) (by kernel_rfl) (by kernel_rfl) (by kernel_rfl) (by kernel_rfl) (fun _ _ _ h => h) (Or.inl ⟨by rfl, ?_⟩) hC0 ?_
          rotate_left
          · intro w hSw; (try dsimp only at hSw); obtain ⟨⟨z0, z1, z2, z3⟩, z4, z5, z6⟩ := hSw; go_simp; (try with_reducible rfl)
          (try simp only [List.getElem_toArray, List.getElem_cons_succ, List.getElem_cons_zero])
          (try simp only [Act.put, List.setIfInBounds_toArray, List.set_cons_zero, List.set_cons_succ])
          refine wpTill_pure (i := 4) (v := ?_) rfl (by kernel_rfl) (by kernel_rfl) (by kernel_rfl) (by kernel_rfl) (fun _ _ _ h => h) (Or.inl ⟨by rfl, ?_⟩) (fun _ => hC0) ?_
          rotate_left
          · intro w hSw; clear hSw; go_simp; (try with_reducible rfl)
          (try simp only [List.getElem_toArray, List.getElem_cons_succ, List.getElem_cons_zero])
          (try simp only [Act.put, List.setIfInBounds_toArray, List.set_cons_zero, List.set_cons_succ])
          refine wpTill_take (i := 5) (v := ?_) rfl (by kernel_rfl) (by kernel_rfl) (by kernel_rfl) (by kernel_rfl) (by kernel_rfl) (by kernel_rfl) (fun _ _ _ h => h) (Or.inl ⟨by rfl, ?_⟩) hC0 ?_
          rotate_left
          · intro w hSw; (try dsimp only at hSw); obtain ⟨⟨z0, z1, z2, z3⟩, z4, z5, z6⟩ := hSw; go_simp; (try with_reducible rfl)
          (try simp only [List.getElem_toArray, List.getElem_cons_succ, List.getElem_cons_zero])
          (try simp only [Act.put, List.setIfInBounds_toArray, List.set_cons_zero, List.set_cons_succ])
          refine wpTill_pure (i := 6) (v := ?_) rfl (by kernel_rfl) (by kernel_rfl) (by kernel_rfl) (by kernel_rfl) (fun _ _ _ h => h) (Or.inl ⟨by rfl, ?_⟩) (fun _ => hC0) ?_
          rotate_left
          · intro w hSw; clear hSw; go_simp; (try with_reducible rfl)
          (try simp only [List.getElem_toArray, List.getElem_cons_succ, List.getElem_cons_zero])
          (try simp only [Act.put, List.setIfInBounds_toArray, List.set_cons_zero, List.set_cons_succ])
          refine wpTill_take (i := 7) (v := ?_) rfl (by kernel_rfl) (by kernel_rfl) (by kernel_rfl) (by kernel_rfl) (by kernel_rfl) (by kernel_rfl) (fun _ _ _ h => h) (Or.inl ⟨by rfl, ?_⟩) hC0 ?_
          rotate_left
          · intro w hSw; (try dsimp only at hSw); obtain ⟨⟨z0, z1, z2, z3⟩, z4, z5, z6⟩ := hSw; go_simp; (try with_reducible rfl)
          (try simp only [List.getElem_toArray, List.getElem_cons_succ, List.getElem_cons_zero])
          (try simp only [Act.put, List.setIfInBounds_toArray, List.set_cons_zero, List.set_cons_succ])
          refine wpTill_pure (i := 8) (v := ?_) rfl (by kernel_rfl) (by kernel_rfl) (by kernel_rfl) (by kernel_rfl) (fun _ _ _ h => h) (Or.inl ⟨by rfl, ?_⟩) (fun _ => hC0) ?_
          rotate_left
          · intro w hSw; clear hSw; go_simp; (try with_reducible rfl)
          (try simp only [List.getElem_toArray, List.getElem_cons_succ, List.getElem_cons_zero])
          (try simp only [Act.put, List.setIfInBounds_toArray, List.set_cons_zero, List.set_cons_succ])
          refine wpTill_one (k := 9) (by kernel_rfl) rfl (fun K hK => ?_)
          (try simp only [List.getElem_toArray, List.getElem_cons_succ, List.getElem_cons_zero])
          go_simp
          refine (unhide HME _ bd0).mono ?_
          rintro e xw_1 ⟨xv_1, rfl, hv_1, hb_1⟩
          have cc_1 := below_step bd0 hb_1
          have hC_1 : (fun w' : World => (w'.cell? ⟨bx, 0, none⟩ = some (.bool ta.s) ∧ w'.cell? ⟨bx, 1, none⟩ = some (.slice ta.a1 ta.n1 ta.c1) ∧ w'.cell? ⟨bx, 2, none⟩ = some (.slice ta.a2 ta.n2 ta.c2) ∧ w'.cell? ⟨bx, 3, none⟩ = some (.slice la.a la.n la.c)) ∧ w'.cell? ⟨g, 1, none⟩ = some (.bool t.s) ∧ w'.cell? ⟨g, 2, none⟩ = some (.slice t.a1 t.n1 t.c1) ∧ w'.cell? ⟨g, 3, none⟩ = some (.slice t.a2 t.n2 t.c2)) xw_1 := unhide HCC _ cc_1
          refine hK.out _ _ (fun _ => hC_1) ?_
          clear hK K
          (try simp only [Act.put, List.setIfInBounds_toArray, List.set_cons_zero, List.set_cons_succ])
          refine wpTill_one (k := 10) (by kernel_rfl) rfl (fun K hK => ?_)
          (try simp only [List.getElem_toArray, List.getElem_cons_succ, List.getElem_cons_zero])
          go_simp
          refine (mulR_any t.val _ _ _ _ ((unhide HWT).below cc_1) hv_1 _ (unhide HRW) (unhide HRM) (unhide HJJ)).mono ?_
          rintro e xw_2 ⟨xv_2, rfl, hv_2, hb_2⟩
          have cc_2 := below_step cc_1 hb_2
          have hC_2 : (fun w' : World => (w'.cell? ⟨bx, 0, none⟩ = some (.bool ta.s) ∧ w'.cell? ⟨bx, 1, none⟩ = some (.slice ta.a1 ta.n1 ta.c1) ∧ w'.cell? ⟨bx, 2, none⟩ = some (.slice ta.a2 ta.n2 ta.c2) ∧ w'.cell? ⟨bx, 3, none⟩ = some (.slice la.a la.n la.c)) ∧ w'.cell? ⟨g, 1, none⟩ = some (.bool t.s) ∧ w'.cell? ⟨g, 2, none⟩ = some (.slice t.a1 t.n1 t.c1) ∧ w'.cell? ⟨g, 3, none⟩ = some (.slice t.a2 t.n2 t.c2)) xw_2 := unhide HCC _ cc_2
          refine hK.out _ _ (fun _ => hC_2) ?_
          clear hK K
          (try simp only [Act.put, List.setIfInBounds_toArray, List.set_cons_zero, List.set_cons_succ])
          refine wpTill_one (k := 11) (by kernel_rfl) rfl (fun K hK => ?_)
          (try simp only [List.getElem_toArray, List.getElem_cons_succ, List.getElem_cons_zero])
          go_simp
          refine (addR_any ta.val _ _ _ _ ((unhide HGA).below cc_2) hv_2 _ (unhide HRG) (unhide HRX) (unhide HJJ)).mono ?_
          rintro e xw_3 ⟨xv_3, rfl, hv_3, hb_3⟩
          have cc_3 := below_step cc_2 hb_3
          have hC_3 : (fun w' : World => (w'.cell? ⟨bx, 0, none⟩ = some (.bool ta.s) ∧ w'.cell? ⟨bx, 1, none⟩ = some (.slice ta.a1 ta.n1 ta.c1) ∧ w'.cell? ⟨bx, 2, none⟩ = some (.slice ta.a2 ta.n2 ta.c2) ∧ w'.cell? ⟨bx, 3, none⟩ = some (.slice la.a la.n la.c)) ∧ w'.cell? ⟨g, 1, none⟩ = some (.bool t.s) ∧ w'.cell? ⟨g, 2, none⟩ = some (.slice t.a1 t.n1 t.c1) ∧ w'.cell? ⟨g, 3, none⟩ = some (.slice t.a2 t.n2 t.c2)) xw_3 := unhide HCC _ cc_3
          refine hK.out _ _ (fun _ => hC_3) ?_
          clear hK K
          (try simp only [Act.put, List.setIfInBounds_toArray, List.set_cons_zero, List.set_cons_succ])
          refine wpTill_pure (i := 12) (v := ?_) rfl (by kernel_rfl) (by kernel_rfl) (by kernel_rfl) (by kernel_rfl) (fun _ _ _ h => h) (Or.inl ⟨by rfl, ?_⟩) (fun _ => hC_3) ?_
          rotate_left
          · intro w hSw; clear hSw; go_simp; (try with_reducible rfl)
          (try simp only [List.getElem_toArray, List.getElem_cons_succ, List.getElem_cons_zero])
          (try simp only [Act.put, List.setIfInBounds_toArray, List.set_cons_zero, List.set_cons_succ])
          obtain ⟨t5, rfl, r5⟩ := tri_of hv_3
          simp only [Tri.val]
          have S8 := (unhide HS5).keep cc_3
          have ⟨⟨y0, y1, y2⟩, f0, f1, f2⟩ := S8.cells j (by rw [unhide HUL]; exact hltj)
          have FZ := S8.set j (by rw [unhide HUL]; exact hltj) t5 _ r5
          obtain ⟨W9, hW9⟩ : ∃ W, ((xw_3.setCell ⟨G3, j * 3, none⟩ (.bool t5.s)).setCell ⟨G3, j * 3 + 1, none⟩ (.slice t5.a1 t5.n1 t5.c1)).setCell ⟨G3, j * 3 + 2, none⟩ (.slice t5.a2 t5.n2 t5.c2) = W := ⟨_, rfl⟩
          rw [hW9, unhide HQV, fill_set] at FZ
          have HFZ := hide FZ
          clear S8 FZ r5 hv_1 hv_2 hv_3
          refine wpTill_one (k := 13) (by kernel_rfl) rfl (fun K hK => ?_)
          (try simp only [List.getElem_toArray, List.getElem_cons_succ, List.getElem_cons_zero])
          go_simp
          refine hK.out _ _ (fun h => absurd (h.symm.trans (by kernel_rfl)) Bool.false_ne_true) ?_
          clear hK K
          (try simp only [Act.put, List.setIfInBounds_toArray, List.set_cons_zero, List.set_cons_succ])
          refine wpTill_done (by kernel_rfl) ?_ _
          clear HCC HME HWT HGA
          clear y0 y1 y2 f0 f1 f2 hW9 hC0 hC_1 hC_2 hC_3 cc_1 cc_2 cc_3 bd0 hb_1 hb_2 hb_3
          go_wp2_with fail
          exact ⟨⟨j + 1, _, by go_num, hltj, by rw [List.length_set]; exact unhide HUL, unhide HFZ⟩, by simp [intOf]; omega⟩
        · obtain rfl : j = na := by omega
          have f1 : ¬ (j : Int) < (j : Int) := by omega
          have hlaw := T3.law (by omega)
          rw [hws] at hlaw
          have hlaw : LawIs wr (.slice (some ⟨G3, 0, none⟩) j j) (row (Mdp.qv M x s) j) := hlaw
          have hb3 := T3.bl
          have T5 := (unhide HT).keep hb3
          have HRQ : Hid (∀ u, u < j → RS ((row (Mdp.qv M x s) j)[u]!) (8 * (J + 2) + 5)) := fun u hu => by
            rw [row_get hu, ← unhide HM, ← unhide HXF]
            exact qv_RS (unhide HSM) (unhide HGM) (x := bf xs) (fun t ht => unhide HXR t ht) (unhide HLT) (by have := unhide HMN; omega)
          have FS1 := first_any (.slice (some ⟨G3, 0, none⟩) j j) (row (Mdp.qv M x s) j) 83 Mdp.gt wr hlaw (by rw [row_length]; omega) egStep (fun u u' hu hu' W va vb ha hb => by
            rw [row_length] at hu hu'
            exact step1_any va vb _ _ W ha hb _ (unhide HRQ u hu) (unhide HRQ u' hu') (by omega))
          have ham : Mdp.am Mdp.gt (bf (row (Mdp.qv M x s) j)) (row (Mdp.qv M x s) j).length = Mdp.bst M x s := by
            rw [row_length]
            have e : M.k s = j := by rw [← unhide HM]; exact (unhide HMN).symm
            unfold Mdp.bst
            rw [e]
            exact Mdp.am_congr _ (fun u hu => row_get hu)
          rw [ham] at FS1
          have HFS := hide FS1
          have hbl : Mdp.bst M x s < j := by
            have e : M.k s = j := by rw [← unhide HM]; exact (unhide HMN).symm
            unfold Mdp.bst
            rw [e]
            exact Mdp.am_lt _ _ (by omega)
          obtain ⟨p, hp⟩ : ∃ p, Mdp.bst M x s = p := ⟨_, rfl⟩
          rw [hp] at HFS hbl
          have HP := hide hp
          have HT5 := hide T5
          have HT3 := hide T3
          have HWL := hide hws
          clear T3 T5 hlaw hb3 FS1 ham hp hws
          go_wp2_with fail
          refine (unhide HFS).mono ?_
          rintro e w5 ⟨rfl, hb5⟩
          have T6 := (unhide HT5).keep hb5
          have T3 := (unhide HT3).keep hb5
          have ⟨⟨u0, u1, u2⟩, _⟩ := T3.cells p (by rw [unhide HWL]; exact hbl)
          have rp := T3.rat p (by rw [unhide HWL]; exact hbl)
          rw [fill_get hbl hbl] at rp
          obtain ⟨tp, htp⟩ : ∃ t, ws[p]! = t := ⟨_, rfl⟩
          rw [htp] at u0 u1 u2 rp
          have yc := T6.c.cell hlt
          have yf := T6.c.free s
          have hG12 := own_ne T6.c T6.a.row
          have hG23 := own_ne T6.c T3.row
          have S6 := T6.a.ints (j := s) (x := (p : Int)) T6.c (Ne.symm hG12) T6.lg
          have O6 := T6.c.set s (p : Int)
          have rp6 := rp.ints (j := s) (x := (p : Int)) T6.c
          have v0 : (w5.setCell ⟨G2, s, none⟩ (.int .i64 (p : Int))).cell? ⟨G3, p * 3, none⟩ = some (.bool tp.s) := by rw [cell_other (fun e => hG23 e.symm)]; exact u0
          have v1 : (w5.setCell ⟨G2, s, none⟩ (.int .i64 (p : Int))).cell? ⟨G3, p * 3 + 1, none⟩ = some (.slice tp.a1 tp.n1 tp.c1) := by rw [cell_other (fun e => hG23 e.symm)]; exact u1
          have v2 : (w5.setCell ⟨G2, s, none⟩ (.int .i64 (p : Int))).cell? ⟨G3, p * 3 + 2, none⟩ = some (.slice tp.a2 tp.n2 tp.c2) := by rw [cell_other (fun e => hG23 e.symm)]; exact u2
          obtain ⟨W6, hW6⟩ : ∃ W, w5.setCell ⟨G2, s, none⟩ (.int .i64 (p : Int)) = W := ⟨_, rfl⟩
          rw [hW6] at S6 O6 rp6 v0 v1 v2
          have z0 : W6.cell? ⟨G2, s, none⟩ = some (.int .i64 (p : Int)) := by rw [O6.cell hlt]; simp [updI]
          have ⟨⟨y0, y1, y2⟩, f0, f1', f2⟩ := S6.cells s (by rw [unhide HUS]; exact hlt)
          have SF := S6.set s (by rw [unhide HUS]; exact hlt) tp _ rp6
          have OF := O6.rowed S6.row (s * 3) (s * 3 + 1) (s * 3 + 2) (.bool tp.s) (.slice tp.a1 tp.n1 tp.c1) (.slice tp.a2 tp.n2 tp.c2)
          obtain ⟨W7, hW7⟩ : ∃ W, ((W6.setCell ⟨G1, s * 3, none⟩ (.bool tp.s)).setCell ⟨G1, s * 3 + 1, none⟩ (.slice tp.a1 tp.n1 tp.c1)).setCell ⟨G1, s * 3 + 2, none⟩ (.slice tp.a2 tp.n2 tp.c2) = W := ⟨_, rfl⟩
          rw [hW7] at SF OF
          have eT : Mdp.qv M x s p = Mdp.T M x s := by rw [← unhide HP]; rfl
          rw [eT, fill_set] at SF
          have HF : Hid (StepS W0 W7 G1 G2 n M (us.set s tp) x (s + 1)) := ⟨SF, OF.congr (fun i _ => by
            unfold updI
            by_cases e : i = s
            · subst e
              rw [if_pos rfl, if_pos (by omega), unhide HP]
            · rw [if_neg e]
              (try dsimp only)
              by_cases e2 : i < s
              · rw [if_pos e2, if_pos (by omega)]
              · rw [if_neg e2, if_neg (by omega)]), (unhide HT).lg⟩
          have p1 : (p : Int) < (j : Int) := by omega
          have p0 : (0 : Int) ≤ (p : Int) := by omega
          clear hb5 T6 T3 rp rp6 htp S6 O6 SF OF eT hG12 hG23 HFS HT5 HT3 u0 u1 u2
          go_wp2_with fail
          exact ⟨⟨s + 1, _, by go_num, hlt, by rw [List.length_set]; exact unhide HUS, unhide HF⟩, by simp [intOf]; omega⟩
    · obtain rfl : s = n := by omega
      have e1 : ¬ (s : Int) < (s : Int) := by omega
      have hlaw := T.a.law (by omega)
      rw [hus] at hlaw
      have hlaw : LawIs wr (.slice (some ⟨G1, 0, none⟩) s s) (row (Mdp.T M x) s) := hlaw
      have HL := hide hlaw
      have HO := hide (T.c.congr (g := fun i => ((Mdp.bst M x i : Nat) : Int)) (fun i hi => by rw [if_pos hi]))
      have HLG : Hid (w.heap.size ≤ G2) := Nat.le_trans (unhide HB0).size T.lg
      have HB := hide (below_step (unhide HB0) T.a.bl)
      clear T hlaw hus
      go_wp2
      go_ret2
      exact ⟨_, G2, rfl, unhide HL, unhide HO, unhide HLG, unhide HB⟩

end Go.Proofs.YtjlohghknejjoaaGreatDoor
/- Models: same, square. -/
namespace Go.Proofs.YtjlohghknejjoaaGreatDoor
open Go.RowKit Go.Sort Go.Shelf

/-- 1, if two are one. -/
def dl (i j : Nat) : Rat := if i = j then 1 else 0
theorem dl_RS (i j : Nat) : RS (dl i j) 1 := by
  unfold dl
  by_cases h : i = j
  · rw [if_pos h]; exact one_RS'
  · rw [if_neg h]; exact RS.zero

set_option maxHeartbeats 16000000 in
set_option maxRecDepth 100000 in
set_option linter.unusedSimpArgs false in
theorem same_any (i j : Nat) (w : World) (_hi : i ≤ 1000) (_hj : j ≤ 1000) : Calls Tryz.prog 79 #[.int .i64 (i : Int), .int .i64 (j : Int)] w fun e w' => ∃ v, e = .returned v ∧ RatIs w' v (dl i j) ∧ Below w.heap.size w w' := by
  have hX := BoxIs.new (w := w) (t := zTri) (q := 0) (rat_zero _)
  have hb0 := alloc_below w (.cells #[.bool false, .slice none 0 0, .slice none 0 0] 37)
  obtain ⟨W0, hW0⟩ : ∃ W, w.alloc (.cells #[.bool false, .slice none 0 0, .slice none 0 0] 37) = W := ⟨_, rfl⟩
  have hX' : BoxIs W0 w.heap.size zTri 0 := by rw [← hW0]; exact hX
  rw [hW0] at hb0
  have HX : Hid (∀ W, Below W0.heap.size W0 W → BoxIs W w.heap.size zTri 0) := fun W hW => hX'.keep hW
  have HB : Hid (∀ W, Below W0.heap.size W0 W → Below w.heap.size w W) := fun W hW => below_step hb0 hW
  have HG : Hid (w.heap.size ≤ w.heap.size) := Nat.le_refl _
  by_cases hij : i = j
  · have e1 : ((i : Int) == (j : Int)) = true := by rw [beq_iff_eq]; omega
    have HE : Hid (((1 : Int) : Rat) = dl i j) := by show _ = _; unfold dl; rw [if_pos hij]; rfl
    clear hij hX hX' hb0
    go_enter Tryz.func79, Tryz.ntmps79
    go_wp2_with fail
    clear hW0
    refine (whole_any 1 (by decide) (by decide) W0).mono ?_
    rintro e w3 ⟨v3, rfl, hv3, hb3⟩
    obtain ⟨t, rfl, hr3⟩ := tri_of hv3
    simp only [Tri.val]
    have Y := unhide HX _ hb3
    have ⟨l0, l1, l2⟩ := Y.free
    have ⟨y0, y1, y2⟩ := Y.cells _ (Below.refl _ _)
    have FIN := Y.set hr3
    have FB := (((unhide HB _ hb3).setCell (p := ⟨w.heap.size, 0, none⟩) (unhide HG) (.bool t.s)).setCell (p := ⟨w.heap.size, 1, none⟩) (unhide HG) (.slice t.a1 t.n1 t.c1)).setCell (p := ⟨w.heap.size, 2, none⟩) (unhide HG) (.slice t.a2 t.n2 t.c2)
    obtain ⟨Wf, hWf⟩ : ∃ W, ((w3.setCell ⟨w.heap.size, 0, none⟩ (.bool t.s)).setCell ⟨w.heap.size, 1, none⟩ (.slice t.a1 t.n1 t.c1)).setCell ⟨w.heap.size, 2, none⟩ (.slice t.a2 t.n2 t.c2) = W := ⟨_, rfl⟩
    rw [hWf] at FIN FB
    have HFIN := hide FIN
    have HFB := hide FB
    clear Y FIN FB
    have ⟨x0, x1, x2⟩ := (unhide HFIN).cells _ (Below.refl _ _)
    clear hv3 hr3 hb3
    go_wp2
    exact bodyPost_ret (v := .agg #[.bool t.s, .slice t.a1 t.n1 t.c1, .slice t.a2 t.n2 t.c2]) (by simp [results, Tryz.results79, go_sem, x0, x1, x2]) rfl ⟨_, rfl, by rw [← unhide HE]; exact (unhide HFIN).2, unhide HFB⟩
  · have e1 : ((i : Int) == (j : Int)) = false := by rw [beq_eq_false_iff_ne]; omega
    have HE : Hid ((0 : Rat) = dl i j) := by show _ = _; unfold dl; rw [if_neg hij]
    have ⟨l0, l1, l2⟩ := hX'.free
    have ⟨y0, y1, y2⟩ := hX'.cells _ (Below.refl _ _)
    have FIN := hX'.set (t' := zTri) (q' := 0) (rat_zero _)
    have FB := ((hb0.setCell (p := ⟨w.heap.size, 0, none⟩) (Nat.le_refl _) (.bool false)).setCell (p := ⟨w.heap.size, 1, none⟩) (Nat.le_refl _) (.slice none 0 0)).setCell (p := ⟨w.heap.size, 2, none⟩) (Nat.le_refl _) (.slice none 0 0)
    have FIN : BoxIs (((W0.setCell ⟨w.heap.size, 0, none⟩ (.bool false)).setCell ⟨w.heap.size, 1, none⟩ (.slice none 0 0)).setCell ⟨w.heap.size, 2, none⟩ (.slice none 0 0)) w.heap.size zTri 0 := FIN
    have y0 : W0.cell? ⟨w.heap.size, 0, none⟩ = some (.bool false) := y0
    have y1 : W0.cell? ⟨w.heap.size, 1, none⟩ = some (.slice none 0 0) := y1
    have y2 : W0.cell? ⟨w.heap.size, 2, none⟩ = some (.slice none 0 0) := y2
    obtain ⟨Wf, hWf⟩ : ∃ W, ((W0.setCell ⟨w.heap.size, 0, none⟩ (.bool false)).setCell ⟨w.heap.size, 1, none⟩ (.slice none 0 0)).setCell ⟨w.heap.size, 2, none⟩ (.slice none 0 0) = W := ⟨_, rfl⟩
    rw [hWf] at FIN FB
    have HFIN := hide FIN
    have HFB := hide FB
    have ⟨x0, x1, x2⟩ := FIN.cells _ (Below.refl _ _)
    have x0 : Wf.cell? ⟨w.heap.size, 0, none⟩ = some (.bool false) := x0
    have x1 : Wf.cell? ⟨w.heap.size, 1, none⟩ = some (.slice none 0 0) := x1
    have x2 : Wf.cell? ⟨w.heap.size, 2, none⟩ = some (.slice none 0 0) := x2
    clear hij hX hX' hb0 FIN FB
    go_enter Tryz.func79, Tryz.ntmps79
    go_wp2
    exact bodyPost_ret (v := .agg #[.bool false, .slice none 0 0, .slice none 0 0]) (by simp [results, Tryz.results79, go_sem, x0, x1, x2]) rfl ⟨_, rfl, by rw [← unhide HE]; exact (unhide HFIN).2, unhide HFB⟩

/-- What square says: so many rows of so many noughts. -/
def SqPost (w : World) (n : Nat) (e : Ending) (w' : World) : Prop := ∃ (G : Nat) (bs : Nat → Nat) (us : Nat → List Tri), e = .returned (.slice (some ⟨G, 0, none⟩) n n) ∧ MatAt w w' G n n n bs us (fun _ _ => 0)

set_option maxHeartbeats 16000000 in
set_option maxRecDepth 100000 in
set_option linter.unusedSimpArgs false in
theorem csquare_any (n : Nat) (w : World) (hn : n ≤ 100) : Calls Tryz.prog 78 #[.int .i64 (n : Int)] w (SqPost w n) := by
  have qmk := make_rows (n : Int) (by omega) (by omega) (inB n (fun _ => 0)) w
  rw [Int.toNat_natCast] at qmk
  have S0 := MatAt.start w w n n (fun _ => 0) (fun _ => []) (fun _ _ => 0) (Below.refl _ _)
  obtain ⟨W0, hW0⟩ : ∃ W, w.alloc (.cells (hdl n 0 (inB n (fun _ => 0))).toArray 29) = W := ⟨_, rfl⟩
  obtain ⟨G, hG⟩ : ∃ G, w.heap.size = G := ⟨_, rfl⟩
  rw [hW0, hG] at qmk S0
  have HS0 := hide S0
  clear S0 hW0 hG
  go_enter Tryz.func78, Tryz.ntmps78
  go_wp2_with fail
  clear qmk
  go_loopw [9] (fun vi wr => ∃ (k : Nat) (bs : Nat → Nat) (us : Nat → List Tri), vi = .int .i64 (k : Int) ∧ k ≤ n ∧ MatAt w wr G n k n bs us (fun _ _ => 0)) (fun vi _ => n - (intOf vi).toNat)
  case atStart => exact ⟨0, _, _, rfl, Nat.zero_le _, unhide HS0⟩
  case round =>
    obtain ⟨k, bs, us, rfl, hk, hM⟩ := hrel
    clear HS0
    by_cases hlt : k < n
    · have P1 := (hM.push hlt).congr (N := fun _ _ => 0) (fun a b _ _ => by by_cases e : a = k <;> simp [e])
      have qm2 := make_ratios (n : Int) (by omega) (by omega) wr
      rw [Int.toNat_natCast] at qm2
      have kz := hdl_cell0 (hM.keep (alloc_below wr (.cells (tcells (List.replicate n zTri)).toArray 37))).out (Nat.le_refl k) hlt
      have kf := hdl_free (hM.keep (alloc_below wr (.cells (tcells (List.replicate n zTri)).toArray 37))).out k
      obtain ⟨W1, hW1⟩ : ∃ W, wr.alloc (.cells (tcells (List.replicate n zTri)).toArray 37) = W := ⟨_, rfl⟩
      obtain ⟨g, hg⟩ : ∃ g, wr.heap.size = g := ⟨_, rfl⟩
      rw [hW1, hg] at P1 qm2
      rw [hW1] at kz kf
      obtain ⟨W2, hW2⟩ : ∃ W, W1.setCell ⟨G, k, none⟩ (.slice (some ⟨g, 0, none⟩) n n) = W := ⟨_, rfl⟩
      rw [hW2] at P1
      have HP := hide P1
      have e1 : (k : Int) < (n : Int) := by omega
      have e0 : (0 : Int) ≤ (k : Int) := by omega
      clear hM P1
      go_wp2_with fail
      exact ⟨⟨k + 1, _, _, by go_num, hlt, unhide HP⟩, by simp [intOf]; omega⟩
    · obtain rfl : k = n := by omega
      have e1 : ¬ (k : Int) < (k : Int) := by omega
      have HM := hide hM
      clear hM
      go_wp2
      go_ret
      exact ⟨G, bs, us, rfl, unhide HM⟩
end Go.Proofs.YtjlohghknejjoaaGreatDoor
/- Models: what a plan is worth. -/
namespace Go.Proofs.YtjlohghknejjoaaGreatDoor
open Go.RowKit Go.Sort Go.Shelf

/-- Another row of fractions is written: the matrix stays. -/
theorem MatAt.rowed {w wr : World} {G n c m g : Nat} {bs : Nat → Nat} {uss : Nat → List Tri} {M : Nat → Nat → Rat} {us : List Tri} (h : MatAt w wr G n c m bs uss M) (hg : wr.heap[g]? = some (.cells (tcells us).toArray 37)) (hge : w.heap.size ≤ g) (hne : ∀ i, i < c → bs i ≠ g) (i0 i1 i2 : Nat) (x0 x1 x2 : Value) :
    MatAt w (((wr.setCell ⟨g, i0, none⟩ x0).setCell ⟨g, i1, none⟩ x1).setCell ⟨g, i2, none⟩ x2) G n c m bs uss M := by
  have hG : G ≠ g := fun e => by
    have a := h.out
    rw [e, hg] at a
    injection a with a
    injection a with _ a
    exact absurd a (by decide)
  have far : ∀ k, k ≠ g → (((wr.setCell ⟨g, i0, none⟩ x0).setCell ⟨g, i1, none⟩ x1).setCell ⟨g, i2, none⟩ x2).heap[k]? = wr.heap[k]? := fun k hk => by rw [Below.heap_setCell _ _ _ _ hk, Below.heap_setCell _ _ _ _ hk, Below.heap_setCell _ _ _ _ hk]
  exact ⟨by rw [far _ hG]; exact h.out, h.gl, ((h.bl.setCell hge _).setCell hge _).setCell hge _, fun i hi => by rw [far _ (hne i hi)]; exact h.blk i hi, h.low, h.len, fun i j hi hj => (h.rat i j hi hj).rowed hg _ _ _ _ _ _, h.apart⟩
/-- The equations of a plan's worth, of which s rows and k places are written. -/
def vpm (M : Mdp.Md) (d : Nat → Nat) (s k : Nat) (i j : Nat) : Rat := if i < s ∨ (i = s ∧ j < k) then dl i j - M.b * M.p i (d i) j else 0
theorem vpm_next (M : Mdp.Md) (d : Nat → Nat) (s k i j : Nat) : upm (vpm M d s k) s k (dl s k - M.b * M.p s (d s) k) i j = vpm M d s (k + 1) i j := by
  unfold upm vpm
  by_cases h : i = s ∧ j = k
  · obtain ⟨rfl, rfl⟩ := h
    rw [if_pos ⟨rfl, rfl⟩, if_pos (Or.inr ⟨rfl, by omega⟩)]
  · rw [if_neg h]
    by_cases h2 : i < s ∨ (i = s ∧ j < k)
    · rw [if_pos h2, if_pos (h2.imp id (fun x => ⟨x.1, by omega⟩))]
    · rw [if_neg h2, if_neg (fun x => h2 (x.imp id (fun y => ⟨y.1, by have := y.2; by_cases e : j = k; exact absurd ⟨y.1, e⟩ h; omega⟩)))]
theorem vpm_row (M : Mdp.Md) (d : Nat → Nat) {s n : Nat} (i j : Nat) (hj : j < n) : vpm M d s n i j = vpm M d (s + 1) 0 i j := by
  unfold vpm
  by_cases h : i < s ∨ (i = s ∧ j < n)
  · rw [if_pos h, if_pos (Or.inl (by omega))]
  · rw [if_neg h, if_neg (fun x => h (by rcases x with x | x; by_cases e : i = s; exact Or.inr ⟨e, hj⟩; exact Or.inl (by omega); omega))]
theorem vpm_none (M : Mdp.Md) (d : Nat → Nat) (i j : Nat) : vpm M d 0 0 i j = 0 := by
  unfold vpm
  rw [if_neg (by omega)]
/-- How great the answers may be. -/
def XBn (n : Nat) : Nat := xb (sz 5 n) n
theorem xbn_small : ∀ n, n ≤ 8 → 2 * xb (sz 5 n) n + 40 * sz 5 n + 50 ≤ KK := by
  intro n hn
  match n, hn with
  | 0, _ => decide
  | 1, _ => decide
  | 2, _ => decide
  | 3, _ => decide
  | 4, _ => decide
  | 5, _ => decide
  | 6, _ => decide
  | 7, _ => decide
  | 8, _ => decide
theorem xbn_le : ∀ n, n ≤ 8 → 16 * XBn n + 200 ≤ KK := by
  intro n hn
  match n, hn with
  | 0, _ => decide
  | 1, _ => decide
  | 2, _ => decide
  | 3, _ => decide
  | 4, _ => decide
  | 5, _ => decide
  | 6, _ => decide
  | 7, _ => decide
  | 8, _ => decide
/-- What value says. -/
def ValPost (w : World) (n : Nat) (M : Mdp.Md) (d : Nat → Nat) (e : Ending) (w' : World) : Prop :=
  ∃ (v : Value) (x : Nat → Rat), e = .returned v ∧ LawIs w' v (row x n) ∧ Mdp.Val M d x ∧ (∀ i, RS (x i) (XBn n)) ∧ Below w.heap.size w w'

set_option maxHeartbeats 16000000 in
set_option maxRecDepth 100000 in
set_option linter.unusedSimpArgs false in
theorem value_any (v va : Value) (K : List (List (Rat × List Rat))) (b : Rat) (d : Nat → Nat) (w : World) (h : ModelIs w v K b) (sm : SmM K b) (gm : GoodM K b) (ha : NRow w va K.length (fun j => ((d j : Nat) : Int))) (hd : Mdp.Plan (mdl K b) d) :
    Calls Tryz.prog 50 #[v, va] w (ValPost w K.length (mdl K b) d) := by
  have KKe : KK = 1099511627776 := rfl
  obtain ⟨l, t, rfl, hS, hR⟩ := h
  have hln := states_len hS
  have X0 := MBox.new hS hR
  have b0 := alloc_below w (.cells #[.slice l.a l.n l.c, .bool t.s, .slice t.a1 t.n1 t.c1, .slice t.a2 t.n2 t.c2] 70)
  obtain ⟨W0, hW0⟩ : ∃ W, w.alloc (.cells #[.slice l.a l.n l.c, .bool t.s, .slice t.a1 t.n1 t.c1, .slice t.a2 t.n2 t.c2] 70) = W := ⟨_, rfl⟩
  obtain ⟨g, hg⟩ : ∃ g, w.heap.size = g := ⟨_, rfl⟩
  rw [hW0] at X0 b0
  rw [hg] at X0
  have ⟨c0, c1, c2, c3⟩ := X0.cells _ (Below.refl _ _)
  have HX0 := hide X0
  have HB0 := hide b0
  have HLN := hide hln
  obtain ⟨n, hn⟩ : ∃ n, K.length = n := ⟨_, rfl⟩
  have HN := hide hn
  rw [hn] at hln
  rw [hln] at c0
  unfold mval
  rw [hln] at hW0 ⊢
  have HSM := hide sm
  have HGM := hide gm
  have HPL := hide hd
  have hn8 := gm.n8
  have hn1 := gm.n1
  rw [hn] at hn8 hn1 ha ⊢
  obtain ⟨M, hM⟩ : ∃ M, mdl K b = M := ⟨_, rfl⟩
  rw [hM]
  have HM := hide hM
  have HMN : Hid (M.n = n) := by show M.n = n; rw [← hM]; exact hn
  have HMB : Hid (M.b = b) := by show M.b = b; rw [← hM]; rfl
  obtain ⟨aa, ca, rfl, x1, x2, x3⟩ := ha
  obtain ⟨bn, on, rfl, hbn, hcn⟩ := x3 (by omega)
  have hbn' : bn < W0.heap.size := Nat.lt_of_lt_of_le hbn b0.size
  have HCN : Hid (∀ W, Below W0.heap.size W0 W → ∀ j, j < n → W.cell? ⟨bn, on + j, none⟩ = some (.int .i64 ((d j : Nat) : Int))) := fun W hW j hj => by
    rw [(below_step b0 hW).cell (p := ⟨bn, on + j, none⟩) hbn]; exact hcn j hj
  have HSV : Hid (∀ W G bs us G2 gs, MatAt W0 W G n n n bs us (vpm M d n 0) → SumsAt W0 W G2 gs (fill (fun i => M.g i (d i)) n n) → gs.length = n → Calls Tryz.prog 80 #[.slice (some ⟨G, 0, none⟩) n n, .slice (some ⟨G2, 0, none⟩) n n] W (SolvePost W n (Mdp.veq M d) (XBn n))) := fun W G bs us G2 gs hMt hSm hgl => by
    have hlaw := hSm.law (by omega)
    rw [hgl] at hlaw
    have hae : ∀ i j, i < n → j < n + 1 → aug (mrows n n (vpm M d n 0)) (row (fun i => M.g i (d i)) n) n i j = Mdp.veq M d i j := fun i j hi hj => by
      unfold aug Mdp.veq
      rw [unhide HMN]
      by_cases e : j < n
      · rw [if_pos e, if_pos e, mrows_get hi, row_get e]
        unfold vpm dl
        rw [if_pos (Or.inl hi)]
      · rw [if_neg e, if_neg e, row_get hi]
    have hvr : ∀ i j, i < n → j < n + 1 → RS (Mdp.veq M d i j) 5 := fun i j hi hj => by
      have hiK : i < K.length := by rw [hn]; exact hi
      have hdi : d i < (K[i]!).length := hd i hiK
      unfold Mdp.veq
      rw [unhide HMN]
      by_cases e : j < n
      · rw [if_pos e, ← hM]
        have r1 := sm.rp i (d i) j hiK hdi (by rw [gm.nx i (d i) hiK hdi, hn]; exact e)
        exact RS.mono (RS.sub' (dl_RS i j) (sm.wb.mul r1)) (by omega)
      · rw [if_neg e, ← hM]
        exact (sm.rg i (d i) hiK hdi).mono (by omega)
    refine (solve_any _ _ (mrows n n (vpm M d n 0)) (row (fun i => M.g i (d i)) n) W n 5 (hMt.rows (by omega) (by omega)) hlaw (mrows_length _ _ _) (fun j hj => by rw [mrows_get hj, row_length]) (row_length _ _) (by omega) (fun i j hi hj => by rw [hae i j hi hj]; exact hvr i j hi hj) (xbn_small n hn8)).mono ?_
    rintro e w' (⟨v, x, rfl, hv, hx, hr, hb⟩ | ⟨⟨y, hy, i, hi, hy1⟩, rfl, hb⟩)
    · exact Or.inl ⟨v, x, rfl, hv, solved_congr hae hx, hr, hb⟩
    · exact Or.inr ⟨⟨y, (sat_congr hae y 0).1 hy, i, hi, hy1⟩, rfl, hb⟩
  clear hS hR X0 b0 sm gm x3 hM hn hd hcn
  go_enter Tryz.func50, Tryz.ntmps50
  go_wp2_with fail
  clear hW0 hg
  refine wp_region_hold (fun _ : World => True) (by kernel_rfl) ?_
  have bd0 : Below W0.heap.size W0 W0.drew := (Below.refl _ _).drew
  obtain ⟨Wx, hWx⟩ : ∃ W, W0.drew = W := ⟨_, rfl⟩
  rw [hWx] at bd0 ⊢
  have hC0 : (fun _ : World => True) Wx := trivial
  refine wpHold_take (i := 0) (v := ?_) rfl (by kernel_rfl) (by kernel_rfl) (by kernel_rfl) (fun _ _ _ h => h) (Or.inl ⟨by rfl, ?_⟩) hC0 ?_
  rotate_left
  · intro w hSw; clear hSw; go_simp; (try with_reducible rfl)
  (try simp only [List.getElem_toArray, List.getElem_cons_succ, List.getElem_cons_zero])
  (try simp only [Act.put, List.setIfInBounds_toArray, List.set_cons_zero, List.set_cons_succ])
  refine wpHold_take (i := 1) (v := ?_) rfl (by kernel_rfl) (by kernel_rfl) (by kernel_rfl) (fun _ _ _ h => h) (Or.inl ⟨by rfl, ?_⟩) hC0 ?_
  rotate_left
  · intro w hSw; clear hSw; go_simp; (try with_reducible rfl)
  (try simp only [List.getElem_toArray, List.getElem_cons_succ, List.getElem_cons_zero])
  (try simp only [Act.put, List.setIfInBounds_toArray, List.set_cons_zero, List.set_cons_succ])
  refine wpHold_take (i := 3) (v := ?_) rfl (by kernel_rfl) (by kernel_rfl) (by kernel_rfl) (fun _ _ _ h => h) (Or.inl ⟨by rfl, ?_⟩) hC0 ?_
  rotate_left
  · intro w hSw; clear hSw; go_simp; (try with_reducible rfl)
  (try simp only [List.getElem_toArray, List.getElem_cons_succ, List.getElem_cons_zero])
  (try simp only [Act.put, List.setIfInBounds_toArray, List.set_cons_zero, List.set_cons_succ])
  refine wpHold_take (i := 4) (v := ?_) rfl (by kernel_rfl) (by kernel_rfl) (by kernel_rfl) (fun _ _ _ h => h) (Or.inl ⟨by rfl, ?_⟩) hC0 ?_
  rotate_left
  · intro w hSw; clear hSw; go_simp; (try with_reducible rfl)
  (try simp only [List.getElem_toArray, List.getElem_cons_succ, List.getElem_cons_zero])
  (try simp only [Act.put, List.setIfInBounds_toArray, List.set_cons_zero, List.set_cons_succ])
  refine wpHold_listed (n := 4) (L' := (fun x : Bool × Bool × Bool => #[true, true, x.1, true, true, x.2.1, x.2.2, false]) (false, false, false)) (by kernel_rfl) (by kernel_rfl) ?_
  refine wpHold_name (fun a0 ha0 => ?_)
  refine two_any (fun x : Bool × Bool × Bool => #[true, true, x.1, true, true, x.2.1, x.2.2, false]) 1 2 5 6 (fun x y z na W => ∃ s1 s2 s3, na = ((a0.put (some 16) s1).put (some 19) s2).put (some 5) s3 ∧ (z = true → x = true ∧ s3 = s1) ∧ TwoK (fun W s1 => ∃ G bs us, s1 = .slice (some ⟨G, 0, none⟩) n n ∧ MatAt W0 W G n n n bs us (fun _ _ => 0)) (fun W s2 => ∃ G, s2 = .slice (some ⟨G, 0, none⟩) n n ∧ SumsAt W0 W G (List.replicate n zTri) (List.replicate n 0)) (fun W s1 s2 => ∃ G bs us G2, s1 = .slice (some ⟨G, 0, none⟩) n n ∧ s2 = .slice (some ⟨G2, 0, none⟩) n n ∧ MatAt W0 W G n n n bs us (fun _ _ => 0) ∧ SumsAt W0 W G2 (List.replicate n zTri) (List.replicate n 0) ∧ ∀ i, i < n → bs i ≠ G2) Wx x y W s1 s2) ?_ ?_ ?_ ?_ ?_ ?_ _ _ ⟨undef, undef, undef, by subst ha0; rfl, fun h => (by cases h), Below.refl _ _, fun h => (by cases h), fun h => (by cases h), fun h => (by cases h)⟩
  · clear ha0
    rintro ⟨x, y, z⟩ hs
    match x, y, z, hs with
    | false, false, false, _ => (show (_ : Bool) = _; kernel_rfl)
    | false, false, true, _ => (show (_ : Bool) = _; kernel_rfl)
    | false, true, false, _ => (show (_ : Bool) = _; kernel_rfl)
    | false, true, true, _ => (show (_ : Bool) = _; kernel_rfl)
    | true, false, false, _ => (show (_ : Bool) = _; kernel_rfl)
    | true, false, true, _ => (show (_ : Bool) = _; kernel_rfl)
    | true, true, false, _ => (show (_ : Bool) = _; kernel_rfl)
  · clear ha0
    rintro ⟨x, y, z⟩ hs
    match x, y, z, hs with
    | false, false, false, _ => (show (_ : Bool) = _; kernel_rfl)
    | false, false, true, _ => (show (_ : Bool) = _; kernel_rfl)
    | false, true, false, _ => (show (_ : Bool) = _; kernel_rfl)
    | false, true, true, _ => (show (_ : Bool) = _; kernel_rfl)
    | true, false, false, _ => (show (_ : Bool) = _; kernel_rfl)
    | true, false, true, _ => (show (_ : Bool) = _; kernel_rfl)
    | true, true, false, _ => (show (_ : Bool) = _; kernel_rfl)
  · rintro y z na wv ⟨s1, s2, s3, rfl, hz, J⟩
    have hz0 : z = false := by
      cases z with
      | false => rfl
      | true => exact absurd (hz rfl).1 (by decide)
    subst hz0
    subst ha0
    refine wpOp_step rfl (fun K hK => ?_)
    (try simp only [Act.put, List.setIfInBounds_toArray, List.set_cons_zero, List.set_cons_succ] at hK ⊢)
    (try simp only [List.getElem_toArray, List.getElem_cons_succ, List.getElem_cons_zero])
    go_simp
    refine (csquare_any n wv (by omega)).mono ?_
    rintro e wz ⟨G, bs, us, rfl, hM⟩
    have hb := hM.bl
    have hM' := hM.rebase (below_step bd0 J.bl)
    have hbz := below_step J.bl hb
    exact hK _ _ ⟨trivial, _, s2, s3, rfl, fun h => (by cases h), hbz, fun _ => ⟨G, bs, us, rfl, hM'⟩, fun h => by
      obtain ⟨G2, e1, e2⟩ := J.rb h
      exact ⟨G2, e1, e2.keep hb⟩, fun _ h => by
      obtain ⟨G2, e1, e2⟩ := J.rb h
      refine ⟨G, bs, us, G2, rfl, e1, hM', e2.keep hb, fun i hi e => ?_⟩
      have h1 := hM.low i hi
      have h2 := (Array.getElem?_eq_some_iff.1 e2.row).1
      omega⟩
  · rintro x z na wv ⟨s1, s2, s3, rfl, hz, J⟩
    subst ha0
    have qmk := make_ratios (n : Int) (by omega) (by omega) wv
    rw [Int.toNat_natCast] at qmk
    have hb := alloc_below wv (.cells (tcells (List.replicate n zTri)).toArray 37)
    refine wpOp_step rfl (fun K hK => ?_)
    (try simp only [Act.put, List.setIfInBounds_toArray, List.set_cons_zero, List.set_cons_succ] at hK ⊢)
    (try simp only [List.getElem_toArray, List.getElem_cons_succ, List.getElem_cons_zero])
    go_simp
    have hS := SumsAt.start W0 wv n (below_step bd0 J.bl)
    have hbz := below_step J.bl hb
    exact hK _ _ ⟨trivial, s1, _, s3, rfl, hz, hbz, fun h => by
      obtain ⟨G, bs, us, e1, e2⟩ := J.ra h
      exact ⟨G, bs, us, e1, e2.keep hb⟩, fun _ => ⟨_, rfl, hS⟩, fun h _ => by
      obtain ⟨G, bs, us, e1, e2⟩ := J.ra h
      refine ⟨G, bs, us, _, e1, rfl, e2.keep hb, hS, fun i hi e => ?_⟩
      have h1 := e2.lt hi
      omega⟩
  · rintro y na wv ⟨s1, s2, s3, rfl, hz, J⟩
    subst ha0
    refine wpOp_step rfl (fun K hK => ?_)
    (try simp only [Act.put, List.setIfInBounds_toArray, List.set_cons_zero, List.set_cons_succ] at hK ⊢)
    (try simp only [List.getElem_toArray, List.getElem_cons_succ, List.getElem_cons_zero])
    go_simp
    have hbz := J.bl
    exact hK _ _ ⟨trivial, s1, s2, s1, rfl, fun _ => ⟨by trivial, rfl⟩, J⟩
  rintro na wv ⟨s1, s2, s3, rfl, hz, J⟩
  obtain ⟨_, rfl⟩ := hz rfl
  subst ha0
  have hbz := J.bl
  have hCv : (fun _ : World => True) wv := trivial
  obtain ⟨G, bs, us0, G2, rfl, rfl, hM0, hS0, hNE⟩ := J.rab rfl rfl
  refine wpHold_take (i := 7) (v := ?_) rfl (by kernel_rfl) (by kernel_rfl) (by kernel_rfl) (fun _ _ _ h => h) (Or.inl ⟨by rfl, ?_⟩) hCv ?_
  rotate_left
  · intro w hSw; clear hSw; go_simp; (try with_reducible rfl)
  (try simp only [List.getElem_toArray, List.getElem_cons_succ, List.getElem_cons_zero])
  (try simp only [Act.put, List.setIfInBounds_toArray, List.set_cons_zero, List.set_cons_succ])
  refine wpHold_done (by kernel_rfl) ?_ _
  have HM0 := hide (hM0.congr (N := vpm M d 0 0) (fun i j _ _ => (vpm_none M d i j).symm))
  have HS0 : Hid (SumsAt W0 wv G2 (List.replicate n zTri) (fill (fun i => M.g i (d i)) n 0)) := by show SumsAt _ _ _ _ _; rw [← fill_zero]; exact hS0
  have HNE := hide hNE
  clear J hM0 hS0 hNE bd0 hWx hC0 hCv hbz hz
  go_wp2_with fail
  go_loopw [22] (fun vi wr => ∃ (s : Nat) (us : Nat → List Tri) (gs : List Tri), vi = .int .i64 (s : Int) ∧ s ≤ n ∧ gs.length = n ∧ MatAt W0 wr G n n n bs us (vpm M d s 0) ∧ SumsAt W0 wr G2 gs (fill (fun i => M.g i (d i)) n s)) (fun vi _ => n - (intOf vi).toNat)
  case atStart => exact ⟨0, _, _, rfl, Nat.zero_le _, List.length_replicate, unhide HM0, unhide HS0⟩
  case round =>
    obtain ⟨s, us, gv, rfl, hs, hgl, hMt, hSm⟩ := hrel
    clear HM0 HS0
    have HGL := hide hgl
    by_cases hlt : s < n
    · have e1 : (s : Int) < (n : Int) := by omega
      have e0 : (0 : Int) ≤ (s : Int) := by omega
      have hltK : s < K.length := by have := unhide HN; omega
      have hds : d s < (K[s]!).length := unhide HPL s hltK
      have hbM := hMt.bl
      obtain ⟨bk, ok, m, hla, hbk, k0, hA⟩ := (unhide HX0).2.1.at hltK
      have hmn := acts_len hA
      have ha8 := (unhide HGM).a8 s hltK
      obtain ⟨na, hna⟩ : ∃ x, m.n = x := ⟨_, rfl⟩
      rw [hna] at k0 hmn
      obtain ⟨ba, oa, ta, la, hma, hba, ⟨a0, a1, a2, a3⟩, hAct⟩ := hA.at hds
      rw [← hbM.cell (p := ⟨bk, ok + s, none⟩) hbk] at k0
      rw [← hbM.cell (p := ⟨ba, oa + d s * 4, none⟩) hba] at a0
      rw [← hbM.cell (p := ⟨ba, oa + d s * 4 + 1, none⟩) hba] at a1
      rw [← hbM.cell (p := ⟨ba, oa + d s * 4 + 2, none⟩) hba] at a2
      rw [← hbM.cell (p := ⟨ba, oa + d s * 4 + 3, none⟩) hba] at a3
      have kd := unhide HCN wr hbM s hlt
      have ⟨c0, _⟩ := (unhide HX0).cells wr hbM
      rw [hln] at c0
      have hnx := (unhide HGM).nx s (d s) hltK hds
      have hln2 := law_len hAct.2
      rw [hnx, unhide HN] at hln2
      have HAC := hide hAct
      have bA := alloc_below wr (.cells #[.bool ta.s, .slice ta.a1 ta.n1 ta.c1, .slice ta.a2 ta.n2 ta.c2, .slice la.a la.n la.c] 67)
      have hnew := heap_alloc_new wr (.cells #[.bool ta.s, .slice ta.a1 ta.n1 ta.c1, .slice ta.a2 ta.n2 ta.c2, .slice la.a la.n la.c] 67)
      have M2 := hMt.keep bA
      have S2 := hSm.keep bA
      have hact := hAct.1.below M2.bl
      obtain ⟨W2, hW2⟩ : ∃ W, wr.alloc (.cells #[.bool ta.s, .slice ta.a1 ta.n1 ta.c1, .slice ta.a2 ta.n2 ta.c2, .slice la.a la.n la.c] 67) = W := ⟨_, rfl⟩
      obtain ⟨bx, hbx⟩ : ∃ x, wr.heap.size = x := ⟨_, rfl⟩
      rw [hW2] at hnew M2 S2 hact
      rw [hbx] at hnew
      have q0 : W2.cell? ⟨bx, 0, none⟩ = some (.bool ta.s) := by simp [World.cell?, hnew]
      have q1 : W2.cell? ⟨bx, 1, none⟩ = some (.slice ta.a1 ta.n1 ta.c1) := by simp [World.cell?, hnew]
      have q2 : W2.cell? ⟨bx, 2, none⟩ = some (.slice ta.a2 ta.n2 ta.c2) := by simp [World.cell?, hnew]
      have ⟨⟨y0, y1, y2⟩, f0, f1, f2⟩ := S2.cells s (by rw [hgl]; exact hlt)
      have hbxG : bx ≠ G2 := fun e => by
        have := S2.row
        rw [← e, hnew] at this
        injection this with this
        injection this with _ this
        exact absurd this (by decide)
      have S3 := S2.set s (by rw [hgl]; exact hlt) ta _ hact
      have eg : ((K[s]!)[d s]!).1 = (fun i => M.g i (d i)) s := by rw [← unhide HM]; rfl
      rw [eg, fill_set] at S3
      have M3 := M2.rowed S2.row S2.gl (unhide HNE) (s * 3) (s * 3 + 1) (s * 3 + 2) (.bool ta.s) (.slice ta.a1 ta.n1 ta.c1) (.slice ta.a2 ta.n2 ta.c2)
      have q3 : (((W2.setCell ⟨G2, s * 3, none⟩ (.bool ta.s)).setCell ⟨G2, s * 3 + 1, none⟩ (.slice ta.a1 ta.n1 ta.c1)).setCell ⟨G2, s * 3 + 2, none⟩ (.slice ta.a2 ta.n2 ta.c2)).cell? ⟨bx, 3, none⟩ = some (.slice la.a la.n la.c) := by
        rw [cell_other hbxG, cell_other hbxG, cell_other hbxG]
        simp [World.cell?, hnew]
      rw [hln2] at q3
      rw [hln2] at a3 hW2
      obtain ⟨W3, hW3⟩ : ∃ W, ((W2.setCell ⟨G2, s * 3, none⟩ (.bool ta.s)).setCell ⟨G2, s * 3 + 1, none⟩ (.slice ta.a1 ta.n1 ta.c1)).setCell ⟨G2, s * 3 + 2, none⟩ (.slice ta.a2 ta.n2 ta.c2) = W := ⟨_, rfl⟩
      rw [hW3] at S3 M3 q3
      have HM3 := hide M3
      have HS3 := hide S3
      have HG3 : Hid ((gv.set s ta).length = n) := by show _ = _; rw [List.length_set]; exact hgl
      have HLT := hide hltK
      have HDS := hide hds
      have HNX := hide hnx
      have pd0 : (0 : Int) ≤ ((d s : Nat) : Int) := by omega
      have pd1 : ((d s : Nat) : Int) < (na : Int) := by omega
      obtain ⟨ds, hdsn⟩ : ∃ x, d s = x := ⟨_, rfl⟩
      rw [hdsn] at a0 a1 a2 a3 kd pd0 pd1
      rw [hma] at k0
      rw [hla] at c0 ⊢
      clear hMt hSm hbM hmn hna hA hAct bA hnew M2 S2 hact hbxG S3 M3 eg hnx hgl hltK hds hdsn hla hma hln2
      go_wp2_with fail
      clear q0 q1 q2 q3 y0 y1 y2 f0 f1 f2 hW2 hbx hW3 a0 a1 a2 a3 k0 c0 kd pd0 pd1
      go_loopw [43] (fun vj wv => ∃ (k : Nat) (us' : Nat → List Tri), vj = .int .i64 (k : Int) ∧ k ≤ n ∧ MatAt W0 wv G n n n bs us' (vpm M d s k) ∧ SumsAt W0 wv G2 (gv.set s ta) (fill (fun i => M.g i (d i)) n (s + 1))) (fun vj _ => n - (intOf vj).toNat)
      case atStart => exact ⟨0, _, rfl, Nat.zero_le _, unhide HM3, unhide HS3⟩
      case round =>
        obtain ⟨k, us', rfl, hk, hMt, hSm⟩ := hrel
        clear HM3 HS3
        by_cases hltk : k < n
        · have g1 : (k : Int) < (n : Int) := by omega
          have g0 : (0 : Int) ≤ (k : Int) := by omega
          have hbM := hMt.bl
          have hkq : k < (((K[s]!)[d s]!).2).length := by rw [unhide HNX, unhide HN]; exact hltk
          obtain ⟨al, cl', hle, l1, l2, l3⟩ := (unhide HAC).2
          obtain ⟨bl, ol, rfl, hbl, hcl⟩ := l3 (by omega)
          have ela : la.a = some ⟨bl, ol, none⟩ := by injection hle
          obtain ⟨xs_, xp1, xp2, xn1, xd1, xn2, xd2, xk0, xk1, xk2, xr⟩ := hcl k hkq
          obtain ⟨tx, rfl, rfl, rfl, rfl, rfl, rfl, rfl⟩ : ∃ t : Tri, xs_ = t.s ∧ xp1 = t.a1 ∧ xp2 = t.a2 ∧ xn1 = t.n1 ∧ xd1 = t.c1 ∧ xn2 = t.n2 ∧ xd2 = t.c2 := ⟨⟨xs_, xp1, xp2, xn1, xd1, xn2, xd2⟩, rfl, rfl, rfl, rfl, rfl, rfl, rfl⟩
          rw [← hbM.cell (p := ⟨bl, ol + k * 3, none⟩) hbl] at xk0
          rw [← hbM.cell (p := ⟨bl, ol + k * 3 + 1, none⟩) hbl] at xk1
          rw [← hbM.cell (p := ⟨bl, ol + k * 3 + 2, none⟩) hbl] at xk2
          have rsh := (unhide HSM).rp s (d s) k (unhide HLT) (unhide HDS) hkq
          have HVP : Hid (dl s k - b * (((K[s]!)[d s]!).2)[k]! = dl s k - M.b * M.p s (d s) k) := by
            show _ = _
            rw [← unhide HM]; rfl
          obtain ⟨sh, hsh⟩ : ∃ q, (((K[s]!)[d s]!).2)[k]! = q := ⟨_, rfl⟩
          rw [hsh] at xr rsh HVP
          have bA := alloc_below wr (.cells #[.bool tx.s, .slice tx.a1 tx.n1 tx.c1, .slice tx.a2 tx.n2 tx.c2] 37)
          have X5 := BoxIs.new (xr.below hbM)
          have M5 := hMt.keep bA
          have S5 := hSm.keep bA
          obtain ⟨W5, hW5⟩ : ∃ W, wr.alloc (.cells #[.bool tx.s, .slice tx.a1 tx.n1 tx.c1, .slice tx.a2 tx.n2 tx.c2] 37) = W := ⟨_, rfl⟩
          obtain ⟨gx, hgx⟩ : ∃ g, wr.heap.size = g := ⟨_, rfl⟩
          rw [hW5] at X5 M5 S5
          rw [hgx] at X5
          obtain ⟨gs, hgs⟩ : ∃ x, bs s = x := ⟨_, rfl⟩
          have HGS := hide hgs
          have HCC : Hid (∀ W, Below W5.heap.size W5 W → (fun w' : World => w'.cell? ⟨G, s, none⟩ = some (.slice (some ⟨gs, 0, none⟩) n n) ∧ (w'.cell? ⟨g, 1, none⟩ = some (.bool t.s) ∧ w'.cell? ⟨g, 2, none⟩ = some (.slice t.a1 t.n1 t.c1) ∧ w'.cell? ⟨g, 3, none⟩ = some (.slice t.a2 t.n2 t.c2)) ∧ w'.cell? ⟨gx, 0, none⟩ = some (.bool tx.s) ∧ w'.cell? ⟨gx, 1, none⟩ = some (.slice tx.a1 tx.n1 tx.c1) ∧ w'.cell? ⟨gx, 2, none⟩ = some (.slice tx.a2 tx.n2 tx.c2)) W) := fun W hW => by
            have hh := (M5.keep hW).head hlt hlt
            rw [hgs] at hh
            exact ⟨hh, ((unhide HX0).cells W (below_step M5.bl hW)).2, X5.cells W hW⟩
          have HWT := hide ((unhide HX0).2.2.below M5.bl)
          have HSX := hide X5.2
          have HM5 := hide M5
          have HS5 := hide S5
          have HRW := hide ((unhide HSM).wb.mono (show 1 ≤ 5 by omega))
          have HRS := hide (rsh.mono (show 1 ≤ 5 by omega))
          have HRD := hide ((dl_RS s k).mono (show 1 ≤ 5 by omega))
          have HRP := hide (((unhide HSM).wb.mul rsh).mono (show 1 + 1 ≤ 5 by omega))
          have ⟨q0, q1, q2⟩ := X5.cells _ (Below.refl _ _)
          rw [ela]
          clear hMt hSm hbM hle l3 hcl xr rsh hsh bA X5 M5 S5 hgs ela hkq
          go_wp2_with fail
          clear hW5 hgx xk0 xk1 xk2 q0 q1 q2
          refine wp_region_till (fun w' : World => w'.cell? ⟨G, s, none⟩ = some (.slice (some ⟨gs, 0, none⟩) n n) ∧ (w'.cell? ⟨g, 1, none⟩ = some (.bool t.s) ∧ w'.cell? ⟨g, 2, none⟩ = some (.slice t.a1 t.n1 t.c1) ∧ w'.cell? ⟨g, 3, none⟩ = some (.slice t.a2 t.n2 t.c2)) ∧ w'.cell? ⟨gx, 0, none⟩ = some (.bool tx.s) ∧ w'.cell? ⟨gx, 1, none⟩ = some (.slice tx.a1 tx.n1 tx.c1) ∧ w'.cell? ⟨gx, 2, none⟩ = some (.slice tx.a2 tx.n2 tx.c2)) 14 (by kernel_rfl) ?_
          have bd0 : Below W5.heap.size W5 W5.drew := (Below.refl _ _).drew
          have hC0 : (fun w' : World => w'.cell? ⟨G, s, none⟩ = some (.slice (some ⟨gs, 0, none⟩) n n) ∧ (w'.cell? ⟨g, 1, none⟩ = some (.bool t.s) ∧ w'.cell? ⟨g, 2, none⟩ = some (.slice t.a1 t.n1 t.c1) ∧ w'.cell? ⟨g, 3, none⟩ = some (.slice t.a2 t.n2 t.c2)) ∧ w'.cell? ⟨gx, 0, none⟩ = some (.bool tx.s) ∧ w'.cell? ⟨gx, 1, none⟩ = some (.slice tx.a1 tx.n1 tx.c1) ∧ w'.cell? ⟨gx, 2, none⟩ = some (.slice tx.a2 tx.n2 tx.c2)) W5.drew := unhide HCC _ bd0
          refine wpTill_pure (i := 0) (v := ?_) rfl (by kernel_rfl) (by kernel_rfl) (by kernel_rfl) (by kernel_rfl) (fun _ _ _ h => h) (Or.inl ⟨by rfl, ?_⟩) (fun _ => hC0) ?_
          rotate_left
          · intro w hSw; clear hSw; go_simp; (try with_reducible rfl)
          (try simp only [List.getElem_toArray, List.getElem_cons_succ, List.getElem_cons_zero])
          (try simp only [Act.put, List.setIfInBounds_toArray, List.set_cons_zero, List.set_cons_succ])
          refine wpTill_pure (i := 1) (v := ?_) rfl (by kernel_rfl) (by kernel_rfl) (by kernel_rfl) (by kernel_rfl) (fun _ _ _ h => h) (Or.inl ⟨by rfl, ?_⟩) (fun _ => hC0) ?_
          rotate_left
          · intro w hSw; clear hSw; go_simp; (try with_reducible rfl)
          (try simp only [List.getElem_toArray, List.getElem_cons_succ, List.getElem_cons_zero])
          (try simp only [Act.put, List.setIfInBounds_toArray, List.set_cons_zero, List.set_cons_succ])
          refine wpTill_pure (i := 2) (v := ?_) rfl (by kernel_rfl) (by kernel_rfl) (by kernel_rfl) (by kernel_rfl) (fun _ _ _ h => h) (Or.inl ⟨by rfl, ?_⟩) (fun _ => hC0) ?_
          rotate_left
          · intro w hSw; clear hSw; go_simp; (try with_reducible rfl)
          (try simp only [List.getElem_toArray, List.getElem_cons_succ, List.getElem_cons_zero])
          (try simp only [Act.put, List.setIfInBounds_toArray, List.set_cons_zero, List.set_cons_succ])
          refine wpTill_take (i := 3) (v := ?_) rfl (by kernel_rfl) (by kernel_rfl) (by kernel_rfl) (by kernel_rfl) (by kernel_rfl) (by kernel_rfl) (fun _ _ _ h => h) (Or.inl ⟨by rfl, ?_⟩) hC0 ?_
          rotate_left
          · intro w hSw; (try dsimp only at hSw); obtain ⟨z0, ⟨z1, z2, z3⟩, z4, z5, z6⟩ := hSw; go_simp; (try with_reducible rfl)
          (try simp only [List.getElem_toArray, List.getElem_cons_succ, List.getElem_cons_zero])
          (try simp only [Act.put, List.setIfInBounds_toArray, List.set_cons_zero, List.set_cons_succ])
          refine wpTill_pure (i := 4) (v := ?_) rfl (by kernel_rfl) (by kernel_rfl) (by kernel_rfl) (by kernel_rfl) (fun _ _ _ h => h) (Or.inl ⟨by rfl, ?_⟩) (fun _ => hC0) ?_
          rotate_left
          · intro w hSw; clear hSw; go_simp; (try with_reducible rfl)
          (try simp only [List.getElem_toArray, List.getElem_cons_succ, List.getElem_cons_zero])
          (try simp only [Act.put, List.setIfInBounds_toArray, List.set_cons_zero, List.set_cons_succ])
          refine wpTill_pure (i := 5) (v := ?_) rfl (by kernel_rfl) (by kernel_rfl) (by kernel_rfl) (by kernel_rfl) (fun _ _ _ h => h) (Or.inl ⟨by rfl, ?_⟩) (fun _ => hC0) ?_
          rotate_left
          · intro w hSw; clear hSw; go_simp; (try with_reducible rfl)
          (try simp only [List.getElem_toArray, List.getElem_cons_succ, List.getElem_cons_zero])
          (try simp only [Act.put, List.setIfInBounds_toArray, List.set_cons_zero, List.set_cons_succ])
          refine wpTill_pure (i := 6) (v := ?_) rfl (by kernel_rfl) (by kernel_rfl) (by kernel_rfl) (by kernel_rfl) (fun _ _ _ h => h) (Or.inl ⟨by rfl, ?_⟩) (fun _ => hC0) ?_
          rotate_left
          · intro w hSw; clear hSw; go_simp; (try with_reducible rfl)
          (try simp only [List.getElem_toArray, List.getElem_cons_succ, List.getElem_cons_zero])
          (try simp only [Act.put, List.setIfInBounds_toArray, List.set_cons_zero, List.set_cons_succ])
          refine wpTill_pure (i := 8) (v := ?_) rfl (by kernel_rfl) (by kernel_rfl) (by kernel_rfl) (by kernel_rfl) (fun _ _ _ h => h) (Or.inl ⟨by rfl, ?_⟩) (fun _ => hC0) ?_
          rotate_left
          · intro w hSw; clear hSw; go_simp; (try with_reducible rfl)
          (try simp only [List.getElem_toArray, List.getElem_cons_succ, List.getElem_cons_zero])
          (try simp only [Act.put, List.setIfInBounds_toArray, List.set_cons_zero, List.set_cons_succ])
          refine wpTill_take (i := 9) (v := ?_) rfl (by kernel_rfl) (by kernel_rfl) (by kernel_rfl) (by kernel_rfl) (by kernel_rfl) (by kernel_rfl) (fun _ _ _ h => h) (Or.inl ⟨by rfl, ?_⟩) hC0 ?_
          rotate_left
          · intro w hSw; (try dsimp only at hSw); obtain ⟨z0, ⟨z1, z2, z3⟩, z4, z5, z6⟩ := hSw; go_simp; (try with_reducible rfl)
          (try simp only [List.getElem_toArray, List.getElem_cons_succ, List.getElem_cons_zero])
          (try simp only [Act.put, List.setIfInBounds_toArray, List.set_cons_zero, List.set_cons_succ])
          refine wpTill_take (i := 10) (v := ?_) rfl (by kernel_rfl) (by kernel_rfl) (by kernel_rfl) (by kernel_rfl) (by kernel_rfl) (by kernel_rfl) (fun _ _ _ h => h) (Or.inl ⟨by rfl, ?_⟩) hC0 ?_
          rotate_left
          · intro w hSw; (try dsimp only at hSw); obtain ⟨z0, ⟨z1, z2, z3⟩, z4, z5, z6⟩ := hSw; go_simp; (try with_reducible rfl)
          (try simp only [List.getElem_toArray, List.getElem_cons_succ, List.getElem_cons_zero])
          (try simp only [Act.put, List.setIfInBounds_toArray, List.set_cons_zero, List.set_cons_succ])
          refine wpTill_one (k := 7) (by kernel_rfl) rfl (fun K hK => ?_)
          (try simp only [List.getElem_toArray, List.getElem_cons_succ, List.getElem_cons_zero])
          go_simp
          refine (same_any s k _ (by omega) (by omega)).mono ?_
          rintro e xw_1 ⟨xv_1, rfl, hv_1, hb_1⟩
          have cc_1 := below_step bd0 hb_1
          have hC_1 : (fun w' : World => w'.cell? ⟨G, s, none⟩ = some (.slice (some ⟨gs, 0, none⟩) n n) ∧ (w'.cell? ⟨g, 1, none⟩ = some (.bool t.s) ∧ w'.cell? ⟨g, 2, none⟩ = some (.slice t.a1 t.n1 t.c1) ∧ w'.cell? ⟨g, 3, none⟩ = some (.slice t.a2 t.n2 t.c2)) ∧ w'.cell? ⟨gx, 0, none⟩ = some (.bool tx.s) ∧ w'.cell? ⟨gx, 1, none⟩ = some (.slice tx.a1 tx.n1 tx.c1) ∧ w'.cell? ⟨gx, 2, none⟩ = some (.slice tx.a2 tx.n2 tx.c2)) xw_1 := unhide HCC _ cc_1
          refine hK.out _ _ (fun _ => hC_1) ?_
          clear hK K
          (try simp only [Act.put, List.setIfInBounds_toArray, List.set_cons_zero, List.set_cons_succ])
          refine wpTill_one (k := 11) (by kernel_rfl) rfl (fun K hK => ?_)
          (try simp only [List.getElem_toArray, List.getElem_cons_succ, List.getElem_cons_zero])
          go_simp
          refine (mulR_any t.val tx.val _ _ _ ((unhide HWT).below cc_1) ((unhide HSX).below cc_1) 5 (unhide HRW) (unhide HRS) (by rw [KKe]; omega)).mono ?_
          rintro e xw_2 ⟨xv_2, rfl, hv_2, hb_2⟩
          have cc_2 := below_step cc_1 hb_2
          have hC_2 : (fun w' : World => w'.cell? ⟨G, s, none⟩ = some (.slice (some ⟨gs, 0, none⟩) n n) ∧ (w'.cell? ⟨g, 1, none⟩ = some (.bool t.s) ∧ w'.cell? ⟨g, 2, none⟩ = some (.slice t.a1 t.n1 t.c1) ∧ w'.cell? ⟨g, 3, none⟩ = some (.slice t.a2 t.n2 t.c2)) ∧ w'.cell? ⟨gx, 0, none⟩ = some (.bool tx.s) ∧ w'.cell? ⟨gx, 1, none⟩ = some (.slice tx.a1 tx.n1 tx.c1) ∧ w'.cell? ⟨gx, 2, none⟩ = some (.slice tx.a2 tx.n2 tx.c2)) xw_2 := unhide HCC _ cc_2
          refine hK.out _ _ (fun _ => hC_2) ?_
          clear hK K
          (try simp only [Act.put, List.setIfInBounds_toArray, List.set_cons_zero, List.set_cons_succ])
          refine wpTill_one (k := 12) (by kernel_rfl) rfl (fun K hK => ?_)
          (try simp only [List.getElem_toArray, List.getElem_cons_succ, List.getElem_cons_zero])
          go_simp
          refine (subR_any _ _ _ _ _ (hv_1.below hb_2) hv_2 5 (unhide HRD) (unhide HRP) (by rw [KKe]; omega)).mono ?_
          rintro e xw_3 ⟨xv_3, rfl, hv_3, hb_3⟩
          have cc_3 := below_step cc_2 hb_3
          have hC_3 : (fun w' : World => w'.cell? ⟨G, s, none⟩ = some (.slice (some ⟨gs, 0, none⟩) n n) ∧ (w'.cell? ⟨g, 1, none⟩ = some (.bool t.s) ∧ w'.cell? ⟨g, 2, none⟩ = some (.slice t.a1 t.n1 t.c1) ∧ w'.cell? ⟨g, 3, none⟩ = some (.slice t.a2 t.n2 t.c2)) ∧ w'.cell? ⟨gx, 0, none⟩ = some (.bool tx.s) ∧ w'.cell? ⟨gx, 1, none⟩ = some (.slice tx.a1 tx.n1 tx.c1) ∧ w'.cell? ⟨gx, 2, none⟩ = some (.slice tx.a2 tx.n2 tx.c2)) xw_3 := unhide HCC _ cc_3
          refine hK.out _ _ (fun _ => hC_3) ?_
          clear hK K
          (try simp only [Act.put, List.setIfInBounds_toArray, List.set_cons_zero, List.set_cons_succ])
          refine wpTill_pure (i := 13) (v := ?_) rfl (by kernel_rfl) (by kernel_rfl) (by kernel_rfl) (by kernel_rfl) (fun _ _ _ h => h) (Or.inl ⟨by rfl, ?_⟩) (fun _ => hC_3) ?_
          rotate_left
          · intro w hSw; clear hSw; go_simp; (try with_reducible rfl)
          (try simp only [List.getElem_toArray, List.getElem_cons_succ, List.getElem_cons_zero])
          (try simp only [Act.put, List.setIfInBounds_toArray, List.set_cons_zero, List.set_cons_succ])
          obtain ⟨t5, rfl, r5⟩ := tri_of hv_3
          simp only [Tri.val]
          have S8 := (unhide HM5).keep cc_3
          have ⟨⟨y0, y1, y2⟩, f0, f1, f2⟩ := S8.cells (i := s) (j := k) hlt hltk
          have FZ := S8.set (i := s) (j := k) hlt hltk t5 _ r5
          have SF := (unhide HS5).keep cc_3
          have FS2 := SF.apart' (S8.blk s hlt) (Ne.symm (unhide HNE s hlt)) (S8.low s hlt) (k * 3) (k * 3 + 1) (k * 3 + 2) (.bool t5.s) (.slice t5.a1 t5.n1 t5.c1) (.slice t5.a2 t5.n2 t5.c2)
          rw [unhide HGS] at y0 y1 y2 f0 f1 f2 FZ FS2
          obtain ⟨W9, hW9⟩ : ∃ W, ((xw_3.setCell ⟨gs, k * 3, none⟩ (.bool t5.s)).setCell ⟨gs, k * 3 + 1, none⟩ (.slice t5.a1 t5.n1 t5.c1)).setCell ⟨gs, k * 3 + 2, none⟩ (.slice t5.a2 t5.n2 t5.c2) = W := ⟨_, rfl⟩
          rw [hW9, unhide HVP] at FZ
          rw [hW9] at FS2
          have FZ2 := FZ.congr (N := vpm M d s (k + 1)) (fun i j _ _ => vpm_next M d s k i j)
          have HFZ := hide FZ2
          have HFS := hide FS2
          clear S8 FZ FZ2 SF FS2 r5 hv_1 hv_2 hv_3
          refine wpTill_one (k := 14) (by kernel_rfl) rfl (fun K hK => ?_)
          (try simp only [List.getElem_toArray, List.getElem_cons_succ, List.getElem_cons_zero])
          go_simp
          refine hK.out _ _ (fun h => absurd (h.symm.trans (by kernel_rfl)) Bool.false_ne_true) ?_
          clear hK K
          (try simp only [Act.put, List.setIfInBounds_toArray, List.set_cons_zero, List.set_cons_succ])
          refine wpTill_done (by kernel_rfl) ?_ _
          clear HCC HWT HSX HM5 HS5
          clear y0 y1 y2 f0 f1 f2 hW9 hC0 hC_1 hC_2 hC_3 cc_1 cc_2 cc_3 bd0 hb_1 hb_2 hb_3
          go_wp2_with fail
          exact ⟨⟨k + 1, _, by go_num, hltk, unhide HFZ, unhide HFS⟩, by simp [intOf]; omega⟩
        · obtain rfl : k = n := by omega
          have g1 : ¬ (k : Int) < (k : Int) := by omega
          have HM6 := hide (hMt.congr (N := vpm M d (s + 1) 0) (fun i j _ hj => vpm_row M d i j hj))
          have HS6 := hide hSm
          clear hMt hSm
          go_wp2_with fail
          exact ⟨⟨s + 1, _, _, by go_num, hlt, unhide HG3, unhide HM6, unhide HS6⟩, by simp [intOf]; omega⟩
    · obtain rfl : s = n := by omega
      have e1 : ¬ (s : Int) < (s : Int) := by omega
      have HC := hide (unhide HSV wr G bs us G2 gv hMt hSm hgl)
      have HB := hide (below_step (unhide HB0) hMt.bl)
      clear hMt hSm hgl
      go_wp2_with fail
      refine (unhide HC).mono ?_
      rintro e w5 (⟨v5, x, rfl, hv5, hx5, hr5, hb5⟩ | ⟨⟨y, hy, i, hi, hy1⟩, rfl, hb5⟩)
      · have HV5 := hide hv5
        obtain ⟨a5, c5, rfl, _, _, _⟩ := hv5
        rw [row_length] at HV5 ⊢
        have HX5 := hide hx5
        have HR5 := hide hr5
        have HB5 := hide (below_step (unhide HB) hb5)
        clear hx5 hr5 hb5 HC
        go_wp2
        go_ret
        refine ⟨_, x, rfl, unhide HV5, Mdp.veq_val ?_, unhide HR5, unhide HB5⟩
        rw [unhide HMN]; exact (unhide HX5).1
      · exfalso
        have hok : Mdp.Ok M := by rw [← unhide HM]; exact (unhide HGM).ok
        have hpl : Mdp.Plan M d := by rw [← unhide HM]; exact unhide HPL
        have hy' : Lin.Sat M.n (Mdp.veq M d) y 0 := by rw [unhide HMN]; exact hy
        have := Mdp.veq_only hok hpl hy' i (by rw [unhide HMN]; exact hi)
        rw [hy1] at this
        exact absurd this (by decide)

end Go.Proofs.YtjlohghknejjoaaGreatDoor
