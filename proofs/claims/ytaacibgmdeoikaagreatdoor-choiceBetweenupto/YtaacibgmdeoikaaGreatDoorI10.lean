/- Models: raised, Bounds. -/
import Derived.Test.YtaacibgmdeoikaaGreatDoorIE
import Derived.Test.YtaacibgmdeoikaaGreatDoorO0
namespace Go.Proofs.YtaacibgmdeoikaaGreatDoor
open Go.RowKit Go.Sort Go.Shelf

theorem bf_row {f : Nat → Rat} {n u : Nat} (h : u < n) : bf (row f n) u = f u := row_get h
def rsd (qs : List Rat) (q : Rat) (i : Nat) : Rat := qs[i]! + q
def RowPost (w : World) (f : Nat → Rat) (n : Nat) (e : Ending) (w' : World) : Prop := ∃ v, e = .returned v ∧ LawIs w' v (row f n) ∧ Below w.heap.size w w'

set_option maxHeartbeats 16000000 in
set_option maxRecDepth 100000 in
set_option linter.unusedSimpArgs false in
theorem raised_any (v va : Value) (qs : List Rat) (q : Rat) (J : Nat) (w : World) (h : LawIs w v qs) (ha : RatIs w va q) (hq : ∀ j, j < qs.length → RS qs[j]! J) (hr : RS q J) (hJ : J + J + 1 ≤ KK) (hl : qs.length ≤ 1000) :
    Calls Tryz.prog 45 #[v, va] w (RowPost w (rsd qs q) qs.length) := by
  obtain ⟨a, c, rfl, h1, h2, h3⟩ := h
  obtain ⟨ta, rfl, ha'⟩ := tri_of ha
  obtain ⟨n, hn⟩ : ∃ n, qs.length = n := ⟨_, rfl⟩
  rw [hn] at h1 h3 hq hl ⊢
  have H3 := hide h3
  have HQ := hide hq
  have HR := hide hr
  have b0 := alloc_below w (.cells #[.bool ta.s, .slice ta.a1 ta.n1 ta.c1, .slice ta.a2 ta.n2 ta.c2] 33)
  have X0 := BoxIs.new ha'
  obtain ⟨W0, hW0⟩ : ∃ W, w.alloc (.cells #[.bool ta.s, .slice ta.a1 ta.n1 ta.c1, .slice ta.a2 ta.n2 ta.c2] 33) = W := ⟨_, rfl⟩
  obtain ⟨g, hg⟩ : ∃ g, w.heap.size = g := ⟨_, rfl⟩
  rw [hW0] at b0 X0
  rw [hg] at X0
  have HX0 := hide X0
  have HB0 := hide b0
  have qmk := make_ratios (n : Int) (by omega) (by omega) W0
  rw [Int.toNat_natCast] at qmk
  have S0 := SumsAt.start W0 W0 n (Below.refl _ _)
  obtain ⟨W1, hW1⟩ : ∃ W, W0.alloc (.cells (tcells (List.replicate n zTri)).toArray 33) = W := ⟨_, rfl⟩
  obtain ⟨G, hG⟩ : ∃ G, W0.heap.size = G := ⟨_, rfl⟩
  rw [hW1, hG] at qmk
  rw [hW1] at S0
  have HS0 : Hid (SumsAt W0 W1 G (List.replicate n zTri) (fill (rsd qs q) n 0)) := by show SumsAt _ _ _ _ _; rw [← hG, ← fill_zero]; exact S0
  simp only [Tri.val]
  clear h3 ha ha' hq hr b0 X0 S0 hn
  go_enter Tryz.func45, Tryz.ntmps45
  go_wp2_with fail
  clear qmk hW0 hg hW1 hG
  go_loopw [13] (fun vi wr => ∃ (i : Nat) (us : List Tri), vi = .int .i64 (i : Int) ∧ i ≤ n ∧ us.length = n ∧ SumsAt W0 wr G us (fill (rsd qs q) n i)) (fun vi _ => n - (intOf vi).toNat)
  case atStart => exact ⟨0, _, rfl, Nat.zero_le _, List.length_replicate, unhide HS0⟩
  case round =>
    obtain ⟨i, us, rfl, hi, hus, T⟩ := hrel
    clear HS0
    have HUS := hide hus
    by_cases hlt : i < n
    · have e1 : (i : Int) < (n : Int) := by omega
      have e0 : (0 : Int) ≤ (i : Int) := by omega
      have bw := below_step (unhide HB0) T.bl
      obtain ⟨b, o, rfl, hblt, hcs⟩ := unhide H3 (by omega)
      obtain ⟨xs_, xp1, xp2, xn1, xd1, xn2, xd2, xk0, xk1, xk2, xr⟩ := hcs i hlt
      obtain ⟨tx, rfl, rfl, rfl, rfl, rfl, rfl, rfl⟩ : ∃ t : Tri, xs_ = t.s ∧ xp1 = t.a1 ∧ xp2 = t.a2 ∧ xn1 = t.n1 ∧ xd1 = t.c1 ∧ xn2 = t.n2 ∧ xd2 = t.c2 := ⟨⟨xs_, xp1, xp2, xn1, xd1, xn2, xd2⟩, rfl, rfl, rfl, rfl, rfl, rfl, rfl⟩
      rw [← bw.cell (p := ⟨b, o + i * 3, none⟩) hblt] at xk0
      rw [← bw.cell (p := ⟨b, o + i * 3 + 1, none⟩) hblt] at xk1
      rw [← bw.cell (p := ⟨b, o + i * 3 + 2, none⟩) hblt] at xk2
      have bA := alloc_below wr (.cells #[.bool tx.s, .slice tx.a1 tx.n1 tx.c1, .slice tx.a2 tx.n2 tx.c2] 33)
      have X1 := BoxIs.new (xr.below bw)
      have T1 := T.keep bA
      obtain ⟨W2, hW2⟩ : ∃ W, wr.alloc (.cells #[.bool tx.s, .slice tx.a1 tx.n1 tx.c1, .slice tx.a2 tx.n2 tx.c2] 33) = W := ⟨_, rfl⟩
      obtain ⟨gx, hgx⟩ : ∃ x, wr.heap.size = x := ⟨_, rfl⟩
      rw [hW2] at X1 T1
      rw [hgx] at X1
      have X0 := (unhide HX0).keep T1.bl
      have ⟨c0, c1, c2⟩ := X1.cells _ (Below.refl _ _)
      have ⟨d0, d1, d2⟩ := X0.cells _ (Below.refl _ _)
      have HAD := hide (addR_any tx.val ta.val _ _ W2 X1.2 X0.2 J (unhide HQ i hlt) (unhide HR) hJ)
      have HT1 := hide T1
      clear T hus bw hcs xr bA X0 X1 T1
      go_wp2_with fail
      refine (unhide HAD).mono ?_
      rintro e w5 ⟨v5, rfl, hv5, hb5⟩
      obtain ⟨t5, rfl, r5⟩ := tri_of hv5
      simp only [Tri.val]
      have S8 := (unhide HT1).keep hb5
      have ⟨⟨y0, y1, y2⟩, f0, f1, f2⟩ := S8.cells i (by rw [unhide HUS]; exact hlt)
      have FZ := S8.set i (by rw [unhide HUS]; exact hlt) t5 _ r5
      obtain ⟨W9, hW9⟩ : ∃ W, ((w5.setCell ⟨G, i * 3, none⟩ (.bool t5.s)).setCell ⟨G, i * 3 + 1, none⟩ (.slice t5.a1 t5.n1 t5.c1)).setCell ⟨G, i * 3 + 2, none⟩ (.slice t5.a2 t5.n2 t5.c2) = W := ⟨_, rfl⟩
      rw [hW9] at FZ
      have FZ2 : SumsAt W0 W9 G (us.set i t5) ((fill (rsd qs q) n i).set i (rsd qs q i)) := FZ
      rw [fill_set] at FZ2
      have HFZ := hide FZ2
      clear hW2 hgx xk0 xk1 xk2 c0 c1 c2 d0 d1 d2 S8 FZ FZ2 r5 hv5 hb5 HAD HT1
      go_wp2_with fail
      exact ⟨⟨i + 1, _, by go_num, hlt, by rw [List.length_set]; exact unhide HUS, unhide HFZ⟩, by simp [intOf]; omega⟩
    · obtain rfl : i = n := by omega
      have e1 : ¬ (i : Int) < (i : Int) := by omega
      have hlaw := T.law (by omega)
      rw [hus] at hlaw
      have HL : Hid (LawIs wr (.slice (some ⟨G, 0, none⟩) i i) (row (rsd qs q) i)) := hlaw
      have HB := hide (below_step (unhide HB0) T.bl)
      clear T hlaw hus
      go_wp2
      go_ret
      exact ⟨_, rfl, unhide HL, unhide HB⟩

/-- 3 calls one behind the other, the last one with an error beside it, and a box. -/
structure BdJ (q1 q2 q3 : Rat) (w0 : World) (c : Nat) (l : Bool) (w : World) (s1 s2 s3 s4 : Value) : Prop where
  bl : Below w0.heap.size w0 w
  r1 : 1 ≤ c → RatIs w s1 q1
  r2 : 2 ≤ c → RatIs w s2 q2
  r3 : 3 ≤ c → ∃ v, s3 = .tuple #[v, .nilIface] ∧ RatIs w v q3
  al : l = true → ∃ b, s4 = .pointer (some ⟨b, 0, none⟩) ∧ BoxIs w b zTri 0 ∧ w0.heap.size ≤ b
/-- What Bounds says. -/
def BoundsPost (w : World) (K : List (List (Rat × List Rat))) (b : Rat) (xs : List Rat) (e : Ending) (w' : World) : Prop :=
  (GoodM K b ∧ xs.length = K.length ∧ ∃ (v1 v2 : Value) (lo hi : Rat), e = .returned (.tuple #[v1, v2, .nilIface]) ∧ LawIs w' v1 (row (rsd (row (Mdp.T (mdl K b) (bf xs)) K.length) (b / (((1 : Int) : Rat) - b) * lo)) K.length) ∧ LawIs w' v2 (row (rsd (row (Mdp.T (mdl K b) (bf xs)) K.length) (b / (((1 : Int) : Rat) - b) * hi)) K.length) ∧
    (∀ u, u < K.length → lo ≤ (fun i => Mdp.T (mdl K b) (bf xs) i - bf xs i) u) ∧ (∀ u, u < K.length → (fun i => Mdp.T (mdl K b) (bf xs) i - bf xs i) u ≤ hi) ∧ RS lo 401 ∧ RS hi 401 ∧ Below w.heap.size w w') ∨
  (¬ (mcode K b = 0 ∧ xs.length = K.length) ∧ ∃ k : Int, e = .returned (.tuple #[.slice none 0 0, .slice none 0 0, .iface 76 (.int .i64 k)]) ∧ Below w.heap.size w w')

set_option maxHeartbeats 16000000 in
set_option maxRecDepth 100000 in
set_option linter.unusedSimpArgs false in
theorem Bounds_any (v vx : Value) (K : List (List (Rat × List Rat))) (b : Rat) (xs : List Rat) (w : World) (h : ModelIs w v K b) (sm : SmM K b) (hx : LawIs w vx xs) (hxl : xs.length ≤ 1000) (hxr : ∀ j, j < xs.length → RS xs[j]! 1) :
    Calls Tryz.prog 19 #[v, vx] w (BoundsPost w K b xs) := by
  have KKe : KK = 1099511627776 := rfl
  obtain ⟨l, t, rfl, hS, hR⟩ := h
  have hln := states_len hS
  have X0 := MBox.new hS hR
  have b0 := alloc_below w (.cells #[.slice l.a l.n l.c, .bool t.s, .slice t.a1 t.n1 t.c1, .slice t.a2 t.n2 t.c2] 35)
  obtain ⟨W0, hW0⟩ : ∃ W, w.alloc (.cells #[.slice l.a l.n l.c, .bool t.s, .slice t.a1 t.n1 t.c1, .slice t.a2 t.n2 t.c2] 35) = W := ⟨_, rfl⟩
  obtain ⟨g, hg⟩ : ∃ g, w.heap.size = g := ⟨_, rfl⟩
  rw [hW0] at X0 b0
  rw [hg] at X0
  have ⟨c0, c1, c2, c3⟩ := X0.cells _ (Below.refl _ _)
  have HX0 := hide X0
  have HB0 := hide b0
  have HLN := hide hln
  obtain ⟨n, hn⟩ : ∃ n, K.length = n := ⟨_, rfl⟩
  have HN := hide hn
  rw [hn] at hln
  rw [hln] at c0
  unfold mval
  rw [hln] at hW0 ⊢
  have HCH := hide (Step_any (mval l t) vx K b xs 1 W0 (unhide HX0).model sm (hx.below b0) hxl hxr (by rw [KKe]; omega))
  unfold mval at HCH
  rw [hln] at HCH
  have HSM := hide sm
  have HX := hide hx
  have HXR := hide hxr
  obtain ⟨ax, cx, rfl, x1, x2, x3⟩ := hx
  clear hS hR X0 b0 sm x3 hxr hn
  go_enter Tryz.func19, Tryz.ntmps19
  go_wp2_with fail
  refine (unhide HCH).mono ?_
  rintro e w1 (⟨gm, gl, v1, G1, rfl, hv1, _, _, hb1⟩ | ⟨gn, k, rfl, hb1⟩)
  rotate_left
  · have HN2 := hide gn
    have HB1 := hide (below_step (unhide HB0) hb1)
    clear gn hb1 hW0 hg c0 c1 c2 c3 HCH
    go_wp2
    go_ret3
    exact Or.inr ⟨unhide HN2, k, rfl, unhide HB1⟩
  have HGM := hide gm
  have hn8 := gm.n8
  have hn1 := gm.n1
  rw [unhide HN] at gl hn8 hn1
  have HXL := hide gl
  have HBS := hide (Below.refl w1.heap.size w1)
  have HB1 := hide (below_step (unhide HB0) hb1)
  have HLX := hide ((unhide HX).below (unhide HB1))
  have HCW : Hid (∀ W, Below w1.heap.size w1 W → (fun w' : World => w'.cell? ⟨g, 1, none⟩ = some (.bool t.s) ∧ w'.cell? ⟨g, 2, none⟩ = some (.slice t.a1 t.n1 t.c1) ∧ w'.cell? ⟨g, 3, none⟩ = some (.slice t.a2 t.n2 t.c2)) W) := fun W hW => ((unhide HX0).cells W (below_step hb1 hW)).2
  have HWT := hide ((unhide HX0).2.2.below hb1)
  have hb01 : 0 ≤ b := gm.ok.b0
  have hb11 : b < 1 := gm.ok.b1
  have hnz : (((1 : Int) : Rat) - b).num ≠ 0 := fun x => by
    have := Rat.num_eq_zero.1 x
    have e1 : ((1 : Int) : Rat) = 1 := rfl
    rw [e1] at this
    grind
  have HNZ := hide hnz
  have HO1 := hide (onei_RS.mono (show 1 ≤ 10 by omega))
  have HWB := hide ((unhide HSM).wb.mono (show 1 ≤ 10 by omega))
  have HOW := hide ((onei_RS.sub' (unhide HSM).wb).mono (show 1 + 1 + 1 ≤ 10 by omega))
  have HK1 : Hid (10 + 10 + 1 ≤ KK) := by show _ ≤ _; rw [KKe]; omega
  have HK2 : Hid (200 + 200 + 1 ≤ KK) := by show _ ≤ _; rw [KKe]; omega
  have HRD := hide (((unhide HSM).wb.div' (onei_RS.sub' (unhide HSM).wb) hnz).mono (show 1 + (1 + 1 + 1) ≤ 10 by omega))
  have HRT : Hid (∀ s, s < n → RS (Mdp.T (mdl K b) (bf xs) s) 200) := fun s hs => by
    have hsK : s < K.length := by rw [unhide HN]; exact hs
    exact (qv_RS (unhide HSM) gm (x := bf xs) (J := 1) (fun t ht => unhide HXR t (by rw [gl, ← unhide HN]; exact ht)) hsK (Mdp.bst_plan gm.ok _ s hsK)).mono (by omega)
  obtain ⟨gr, hgr⟩ : ∃ f : Nat → Rat, (fun i => Mdp.T (mdl K b) (bf xs) i - bf xs i) = f := ⟨_, rfl⟩
  have HGR := hide hgr
  have HRG : Hid (∀ s, s < n → RS (gr s) 401) := fun s hs => by
    rw [← hgr]
    exact ((unhide HRT s hs).sub' ((unhide HXR s (by rw [gl]; exact hs)).mono (show 1 ≤ 200 by omega))).mono (by omega)
  rw [unhide HN] at hv1
  have HLA := hide hv1
  obtain ⟨aa, ca, rfl, y1, y2, y3⟩ := hv1
  rw [row_length] at HLA y1 ⊢
  rw [gl] at HLX x1 ⊢
  rw [unhide HN]
  clear gm hb1 hW0 hg c0 c1 c2 c3 HCH y3 hnz hb01 hb11 hgr
  go_wp2_with fail
  refine wp_region_hold (fun w' : World => w'.cell? ⟨g, 1, none⟩ = some (.bool t.s) ∧ w'.cell? ⟨g, 2, none⟩ = some (.slice t.a1 t.n1 t.c1) ∧ w'.cell? ⟨g, 3, none⟩ = some (.slice t.a2 t.n2 t.c2)) (by kernel_rfl) ?_
  have bd0 : Below w1.heap.size w1 w1.drew := (Below.refl _ _).drew
  obtain ⟨Wx, hWx⟩ : ∃ W, w1.drew = W := ⟨_, rfl⟩
  rw [hWx] at bd0 ⊢
  have hC0 : (fun w' : World => w'.cell? ⟨g, 1, none⟩ = some (.bool t.s) ∧ w'.cell? ⟨g, 2, none⟩ = some (.slice t.a1 t.n1 t.c1) ∧ w'.cell? ⟨g, 3, none⟩ = some (.slice t.a2 t.n2 t.c2)) Wx := unhide HCW _ bd0
  refine wpHold_take (i := 0) (v := ?_) rfl (by kernel_rfl) (by kernel_rfl) (by kernel_rfl) (fun _ _ _ h => h) (Or.inl ⟨by rfl, ?_⟩) hC0 ?_
  rotate_left
  · intro w hSw; clear hSw; go_simp; (try with_reducible rfl)
  (try simp only [List.getElem_toArray, List.getElem_cons_succ, List.getElem_cons_zero])
  (try simp only [Act.put, List.setIfInBounds_toArray, List.set_cons_zero, List.set_cons_succ])
  refine wpHold_take (i := 1) (v := ?_) rfl (by kernel_rfl) (by kernel_rfl) (by kernel_rfl) (fun _ _ _ h => h) (Or.inl ⟨by rfl, ?_⟩) hC0 ?_
  rotate_left
  · intro w hSw; (try dsimp only at hSw); obtain ⟨z0, z1, z2⟩ := hSw; go_simp; (try with_reducible rfl)
  (try simp only [List.getElem_toArray, List.getElem_cons_succ, List.getElem_cons_zero])
  (try simp only [Act.put, List.setIfInBounds_toArray, List.set_cons_zero, List.set_cons_succ])
  refine wpHold_take (i := 3) (v := ?_) rfl (by kernel_rfl) (by kernel_rfl) (by kernel_rfl) (fun _ _ _ h => h) (Or.inl ⟨by rfl, ?_⟩) hC0 ?_
  rotate_left
  · intro w hSw; clear hSw; go_simp; (try with_reducible rfl)
  (try simp only [List.getElem_toArray, List.getElem_cons_succ, List.getElem_cons_zero])
  (try simp only [Act.put, List.setIfInBounds_toArray, List.set_cons_zero, List.set_cons_succ])
  refine wpHold_take (i := 4) (v := ?_) rfl (by kernel_rfl) (by kernel_rfl) (by kernel_rfl) (fun _ _ _ h => h) (Or.inl ⟨by rfl, ?_⟩) hC0 ?_
  rotate_left
  · intro w hSw; (try dsimp only at hSw); obtain ⟨z0, z1, z2⟩ := hSw; go_simp; (try with_reducible rfl)
  (try simp only [List.getElem_toArray, List.getElem_cons_succ, List.getElem_cons_zero])
  (try simp only [Act.put, List.setIfInBounds_toArray, List.set_cons_zero, List.set_cons_succ])
  refine wpHold_listed (n := 9) (L' := (fun nc nl => #[true, true, decide (1 ≤ nc), true, true, decide (2 ≤ nc), decide (3 ≤ nc), false, false, false, nl, false, false]) 0 false) (by kernel_rfl) (by kernel_rfl) ?_
  refine wpHold_name (fun a0 ha0 => ?_)
  refine chain_fin 3 (fun nc nl => #[true, true, decide (1 ≤ nc), true, true, decide (2 ≤ nc), decide (3 ≤ nc), false, false, false, nl, false, false]) (fun nc => match nc with | 0 => 2 | 1 => 5 | _ => 6) 10 5 (fun nc nl na W => ∃ s1 s2 s3 s4, na = (((a0.put (some 27) s1).put (some 30) s2).put (some 31) s3).put (some 9) s4 ∧ BdJ (((1 : Int) : Rat)) (((1 : Int) : Rat) - b) (b / (((1 : Int) : Rat) - b)) Wx nc nl W s1 s2 s3 s4) ?_ ?_ ?_ ?_ ?_ ?_ ?_ 4 0 false (by omega) (by rfl) _ _ ⟨undef, undef, undef, undef, by subst ha0; rfl, Below.refl _ _, fun h => absurd h (by decide), fun h => absurd h (by decide), fun h => absurd h (by decide), fun h => by cases h⟩
  · clear ha0
    intro nc nl hnc
    match nc, hnc with
    | 0, _ => cases nl <;> (show (_ : Bool) = _; kernel_rfl)
    | 1, _ => cases nl <;> (show (_ : Bool) = _; kernel_rfl)
    | 2, _ => cases nl <;> (show (_ : Bool) = _; kernel_rfl)
  · clear ha0
    intro nc nl hnc
    match nc, hnc with
    | 0, _ => cases nl <;> (show (_ : Bool) = _; kernel_rfl)
    | 1, _ => cases nl <;> (show (_ : Bool) = _; kernel_rfl)
    | 2, _ => cases nl <;> (show (_ : Bool) = _; kernel_rfl)
  · clear ha0
    intro nc nl hnc
    match nc, hnc with
    | 0, _ => rfl
    | 1, _ => rfl
    | 2, _ => rfl
  · clear ha0
    intro nc hnc
    match nc, hnc with
    | 0, _ => rfl
    | 1, _ => rfl
    | 2, _ => rfl
  · rintro nc nl na wv hnc ⟨s1, s2, s3, s4, rfl, J⟩
    subst ha0
    match nc, hnc, J with
    | 0, _, J =>
      refine wpOp_step rfl (fun K hK => ?_)
      (try simp only [Act.put, List.setIfInBounds_toArray, List.set_cons_zero, List.set_cons_succ] at hK ⊢)
      (try simp only [List.getElem_toArray, List.getElem_cons_succ, List.getElem_cons_zero])
      go_simp
      refine (whole_any 1 (by decide) (by decide) _).mono ?_
      rintro e wz ⟨v, rfl, hv, hb⟩
      exact hK _ _ ⟨unhide HCW _ (below_step bd0 (below_step J.bl hb)), v, s2, s3, s4, rfl, below_step J.bl hb, fun _ => hv, fun h => absurd h (by decide), fun h => absurd h (by decide), fun h => by
        obtain ⟨b, e1, e2, e3⟩ := J.al h
        exact ⟨b, e1, e2.keep hb, e3⟩⟩
    | 1, _, J =>
      refine wpOp_step rfl (fun K hK => ?_)
      (try simp only [Act.put, List.setIfInBounds_toArray, List.set_cons_zero, List.set_cons_succ] at hK ⊢)
      (try simp only [List.getElem_toArray, List.getElem_cons_succ, List.getElem_cons_zero])
      go_simp
      refine (subR_any _ t.val _ _ _ (J.r1 (by decide)) ((unhide HWT).below (below_step bd0 J.bl)) 10 (unhide HO1) (unhide HWB) (unhide HK1)).mono ?_
      rintro e wz ⟨v, rfl, hv, hb⟩
      exact hK _ _ ⟨unhide HCW _ (below_step bd0 (below_step J.bl hb)), s1, v, s3, s4, rfl, below_step J.bl hb, fun _ => (J.r1 (by decide)).below hb, fun _ => hv, fun h => absurd h (by decide), fun h => by
        obtain ⟨b, e1, e2, e3⟩ := J.al h
        exact ⟨b, e1, e2.keep hb, e3⟩⟩
    | 2, _, J =>
      refine wpOp_step rfl (fun K hK => ?_)
      (try simp only [Act.put, List.setIfInBounds_toArray, List.set_cons_zero, List.set_cons_succ] at hK ⊢)
      (try simp only [List.getElem_toArray, List.getElem_cons_succ, List.getElem_cons_zero])
      go_simp
      refine (divR_any t.val _ _ _ _ ((unhide HWT).below (below_step bd0 J.bl)) (J.r2 (by decide)) 10 (unhide HWB) (unhide HOW) (unhide HK1) (unhide HNZ)).mono ?_
      rintro e wz ⟨v, rfl, hv, hb⟩
      exact hK _ _ ⟨unhide HCW _ (below_step bd0 (below_step J.bl hb)), s1, s2, .tuple #[v, .nilIface], s4, rfl, below_step J.bl hb, fun _ => (J.r1 (by decide)).below hb, fun _ => (J.r2 (by decide)).below hb, fun _ => ⟨v, rfl, hv⟩, fun h => by
        obtain ⟨b, e1, e2, e3⟩ := J.al h
        exact ⟨b, e1, e2.keep hb, e3⟩⟩
  · rintro nc na wv hnc ⟨s1, s2, s3, s4, rfl, J⟩
    subst ha0
    refine wpOp_step rfl (fun K hK => ?_)
    (try simp only [Act.put, List.setIfInBounds_toArray, List.set_cons_zero, List.set_cons_succ] at hK ⊢)
    (try simp only [List.getElem_toArray, List.getElem_cons_succ, List.getElem_cons_zero])
    go_simp
    have hb := alloc_below wv (.cells #[.bool false, .slice none 0 0, .slice none 0 0] 33)
    exact hK _ _ ⟨unhide HCW _ (below_step bd0 (below_step J.bl hb)), s1, s2, s3, .pointer (some ⟨wv.heap.size, 0, none⟩), rfl, below_step J.bl hb, fun h => (J.r1 h).below hb, fun h => (J.r2 h).below hb, fun h => by obtain ⟨v, e1, e2⟩ := J.r3 h; exact ⟨v, e1, e2.below hb⟩, fun _ => ⟨wv.heap.size, rfl, BoxIs.new (t := zTri) (rat_zero _), J.bl.size⟩⟩
  · rintro nl na wv ⟨s1, s2, s3, s4, rfl, J⟩
    subst ha0
    obtain ⟨v_, rfl, hv_⟩ := J.r3 (by decide)
    obtain ⟨ts, rfl, r0⟩ := tri_of hv_
    simp only [Tri.val]
    (try simp only [Act.put, List.setIfInBounds_toArray, List.set_cons_zero, List.set_cons_succ])
    have hCv : (fun w' : World => w'.cell? ⟨g, 1, none⟩ = some (.bool t.s) ∧ w'.cell? ⟨g, 2, none⟩ = some (.slice t.a1 t.n1 t.c1) ∧ w'.cell? ⟨g, 3, none⟩ = some (.slice t.a2 t.n2 t.c2)) wv := unhide HCW _ (below_step bd0 J.bl)
    clear hC0
    cases nl with
    | true =>
      obtain ⟨gs, rfl, B10, e10⟩ := J.al rfl
      refine wpHold_take (i := 7) (v := ?_) rfl (by kernel_rfl) (by kernel_rfl) (by kernel_rfl) (fun _ _ _ h => h) (Or.inl ⟨by rfl, ?_⟩) hCv ?_
      rotate_left
      · intro w hSw; clear hSw; go_simp; (try with_reducible rfl)
      (try simp only [List.getElem_toArray, List.getElem_cons_succ, List.getElem_cons_zero])
      (try simp only [Act.put, List.setIfInBounds_toArray, List.set_cons_zero, List.set_cons_succ])
      refine wpHold_take (i := 8) (v := ?_) rfl (by kernel_rfl) (by kernel_rfl) (by kernel_rfl) (fun _ _ _ h => h) (Or.inl ⟨by rfl, ?_⟩) hCv ?_
      rotate_left
      · intro w hSw; clear hSw; go_simp; (try with_reducible rfl)
      (try simp only [List.getElem_toArray, List.getElem_cons_succ, List.getElem_cons_zero])
      (try simp only [Act.put, List.setIfInBounds_toArray, List.set_cons_zero, List.set_cons_succ])
      refine wpHold_take (i := 9) (v := ?_) rfl (by kernel_rfl) (by kernel_rfl) (by kernel_rfl) (fun _ _ _ h => h) (Or.inl ⟨by rfl, ?_⟩) hCv ?_
      rotate_left
      · intro w hSw; clear hSw; go_simp; (try with_reducible rfl)
      (try simp only [List.getElem_toArray, List.getElem_cons_succ, List.getElem_cons_zero])
      (try simp only [Act.put, List.setIfInBounds_toArray, List.set_cons_zero, List.set_cons_succ])
      have ⟨l0, l1, l2⟩ := B10.free
      have ⟨k0, k1, k2⟩ := B10.cells _ (Below.refl _ _)
      have NB := B10.set r0
      have e10' : w1.heap.size ≤ gs := Nat.le_trans bd0.size e10
      have YB := (((below_step bd0 J.bl).setCell (p := ⟨gs, 0, none⟩) e10' (.bool ts.s)).setCell (p := ⟨gs, 1, none⟩) e10' (.slice ts.a1 ts.n1 ts.c1)).setCell (p := ⟨gs, 2, none⟩) e10' (.slice ts.a2 ts.n2 ts.c2)
      have HG_gs := hide e10'
      have hCn : (fun w' : World => w'.cell? ⟨g, 1, none⟩ = some (.bool t.s) ∧ w'.cell? ⟨g, 2, none⟩ = some (.slice t.a1 t.n1 t.c1) ∧ w'.cell? ⟨g, 3, none⟩ = some (.slice t.a2 t.n2 t.c2)) _ := unhide HCW _ YB
      obtain ⟨Wgs, hWy⟩ : ∃ W, ((wv.setCell ⟨gs, 0, none⟩ (.bool ts.s)).setCell ⟨gs, 1, none⟩ (.slice ts.a1 ts.n1 ts.c1)).setCell ⟨gs, 2, none⟩ (.slice ts.a2 ts.n2 ts.c2) = W := ⟨_, rfl⟩
      rw [hWy] at NB YB hCn
      have HX_gs := hide NB
      have HY_gs := hide YB
      clear J B10 YB NB e10' hCv
      refine wpHold_one (k := 11) (by kernel_rfl) rfl (fun K hK => ?_)
      (try simp only [List.getElem_toArray, List.getElem_cons_succ, List.getElem_cons_zero])
      go_simp
      refine hK.out _ _ hCn ?_
      clear hK K
      (try simp only [Act.put, List.setIfInBounds_toArray, List.set_cons_zero, List.set_cons_succ])
      refine wpHold_one (k := 12) (by kernel_rfl) rfl (fun K hK => ?_)
      (try simp only [List.getElem_toArray, List.getElem_cons_succ, List.getElem_cons_zero])
      go_simp
      refine hK.out _ _ hCn ?_
      clear hK K
      (try simp only [Act.put, List.setIfInBounds_toArray, List.set_cons_zero, List.set_cons_succ])
      refine wpHold_done (by kernel_rfl) ?_ _
      clear hCn l0 l1 l2 k0 k1 k2 hWy e10 bd0 hWx r0 hv_
      have HTB : Hid (∀ W, Below Wgs.heap.size Wgs W → BoxIs W gs ts (b / (((1 : Int) : Rat) - b))) := fun W hW => (unhide HX_gs).keep hW
      have HBX := hide (below_step (unhide HBS) (unhide HY_gs))
      have qmk := make_ratios (n : Int) (by omega) (by omega) Wgs
      rw [Int.toNat_natCast] at qmk
      have S0 := SumsAt.start Wgs Wgs n (Below.refl _ _)
      obtain ⟨W1, hW1⟩ : ∃ W, Wgs.alloc (.cells (tcells (List.replicate n zTri)).toArray 33) = W := ⟨_, rfl⟩
      obtain ⟨G, hG⟩ : ∃ G, Wgs.heap.size = G := ⟨_, rfl⟩
      rw [hW1, hG] at qmk
      rw [hW1] at S0
      have HS0 : Hid (SumsAt Wgs W1 G (List.replicate n zTri) (fill gr n 0)) := by show SumsAt _ _ _ _ _; rw [← hG, ← fill_zero]; exact S0
      clear S0 HX_gs HG_gs HY_gs
      go_wp2_with fail
      clear qmk hW1 hG
      go_loopw [42] (fun vi wr => ∃ (i : Nat) (us : List Tri), vi = .int .i64 (i : Int) ∧ i ≤ n ∧ us.length = n ∧ SumsAt Wgs wr G us (fill gr n i)) (fun vi _ => n - (intOf vi).toNat)
      case atStart => exact ⟨0, _, rfl, Nat.zero_le _, List.length_replicate, unhide HS0⟩
      case round =>
        obtain ⟨i, us, rfl, hi, hus, T⟩ := hrel
        clear HS0
        have HUS := hide hus
        have HT := hide T
        by_cases hlt : i < n
        · have e1 : (i : Int) < (n : Int) := by omega
          have e0 : (0 : Int) ≤ (i : Int) := by omega
          have bw := below_step (unhide HBX) T.bl
          obtain ⟨a7, c7, e7, _, _, h7⟩ := (unhide HLA).below bw
          obtain ⟨ba, oa, rfl, hba, hca⟩ := h7 (by rw [row_length]; omega)
          have ea7 : aa = some ⟨ba, oa, none⟩ := by injection e7
          obtain ⟨as_, ap1, ap2, an1, ad1, an2, ad2, ak0, ak1, ak2, ar⟩ := hca i (by rw [row_length]; exact hlt)
          obtain ⟨ta, rfl, rfl, rfl, rfl, rfl, rfl, rfl⟩ : ∃ t : Tri, as_ = t.s ∧ ap1 = t.a1 ∧ ap2 = t.a2 ∧ an1 = t.n1 ∧ ad1 = t.c1 ∧ an2 = t.n2 ∧ ad2 = t.c2 := ⟨⟨as_, ap1, ap2, an1, ad1, an2, ad2⟩, rfl, rfl, rfl, rfl, rfl, rfl, rfl⟩
          obtain ⟨a8, c8, e8, _, _, h8⟩ := (unhide HLX).below bw
          obtain ⟨bv, ov, rfl, hbv, hcv⟩ := h8 (by rw [unhide HXL]; omega)
          have ea8 : ax = some ⟨bv, ov, none⟩ := by injection e8
          obtain ⟨xs_, xp1, xp2, xn1, xd1, xn2, xd2, xk0, xk1, xk2, xr⟩ := hcv i (by rw [unhide HXL]; exact hlt)
          obtain ⟨tv, rfl, rfl, rfl, rfl, rfl, rfl, rfl⟩ : ∃ t : Tri, xs_ = t.s ∧ xp1 = t.a1 ∧ xp2 = t.a2 ∧ xn1 = t.n1 ∧ xd1 = t.c1 ∧ xn2 = t.n2 ∧ xd2 = t.c2 := ⟨⟨xs_, xp1, xp2, xn1, xd1, xn2, xd2⟩, rfl, rfl, rfl, rfl, rfl, rfl, rfl⟩
          rw [row_get hlt] at ar
          have HCC : Hid (∀ W, Below wr.heap.size wr W → (fun w' : World => (w'.cell? ⟨ba, oa + i * 3, none⟩ = some (.bool ta.s) ∧ w'.cell? ⟨ba, oa + i * 3 + 1, none⟩ = some (.slice ta.a1 ta.n1 ta.c1) ∧ w'.cell? ⟨ba, oa + i * 3 + 2, none⟩ = some (.slice ta.a2 ta.n2 ta.c2)) ∧ w'.cell? ⟨bv, ov + i * 3, none⟩ = some (.bool tv.s) ∧ w'.cell? ⟨bv, ov + i * 3 + 1, none⟩ = some (.slice tv.a1 tv.n1 tv.c1) ∧ w'.cell? ⟨bv, ov + i * 3 + 2, none⟩ = some (.slice tv.a2 tv.n2 tv.c2)) W) := fun W hW => by
            refine ⟨?_, ?_⟩
            · rw [hW.cell (p := ⟨ba, oa + i * 3, none⟩) hba, hW.cell (p := ⟨ba, oa + i * 3 + 1, none⟩) hba, hW.cell (p := ⟨ba, oa + i * 3 + 2, none⟩) hba]; exact ⟨ak0, ak1, ak2⟩
            · rw [hW.cell (p := ⟨bv, ov + i * 3, none⟩) hbv, hW.cell (p := ⟨bv, ov + i * 3 + 1, none⟩) hbv, hW.cell (p := ⟨bv, ov + i * 3 + 2, none⟩) hbv]; exact ⟨xk0, xk1, xk2⟩
          have HRA := hide ar
          have HRV := hide xr
          have HSA := hide (unhide HRT i hlt)
          have HSV := hide ((unhide HXR i (by rw [unhide HXL]; exact hlt)).mono (show 1 ≤ 200 by omega))
          have HGI : Hid (Mdp.T (mdl K b) (bf xs) i - xs[i]! = gr i) := by show _ = _; rw [← unhide HGR]; rfl
          rw [ea7, ea8]
          clear T hus bw e7 h7 hca ea7 ar ak0 ak1 ak2 e8 h8 hcv ea8 xr xk0 xk1 xk2
          go_wp2_with fail
          refine wp_region_till (fun w' : World => (w'.cell? ⟨ba, oa + i * 3, none⟩ = some (.bool ta.s) ∧ w'.cell? ⟨ba, oa + i * 3 + 1, none⟩ = some (.slice ta.a1 ta.n1 ta.c1) ∧ w'.cell? ⟨ba, oa + i * 3 + 2, none⟩ = some (.slice ta.a2 ta.n2 ta.c2)) ∧ w'.cell? ⟨bv, ov + i * 3, none⟩ = some (.bool tv.s) ∧ w'.cell? ⟨bv, ov + i * 3 + 1, none⟩ = some (.slice tv.a1 tv.n1 tv.c1) ∧ w'.cell? ⟨bv, ov + i * 3 + 2, none⟩ = some (.slice tv.a2 tv.n2 tv.c2)) 12 (by kernel_rfl) ?_
          have bd0 : Below wr.heap.size wr wr.drew := (Below.refl _ _).drew
          have hC0 : (fun w' : World => (w'.cell? ⟨ba, oa + i * 3, none⟩ = some (.bool ta.s) ∧ w'.cell? ⟨ba, oa + i * 3 + 1, none⟩ = some (.slice ta.a1 ta.n1 ta.c1) ∧ w'.cell? ⟨ba, oa + i * 3 + 2, none⟩ = some (.slice ta.a2 ta.n2 ta.c2)) ∧ w'.cell? ⟨bv, ov + i * 3, none⟩ = some (.bool tv.s) ∧ w'.cell? ⟨bv, ov + i * 3 + 1, none⟩ = some (.slice tv.a1 tv.n1 tv.c1) ∧ w'.cell? ⟨bv, ov + i * 3 + 2, none⟩ = some (.slice tv.a2 tv.n2 tv.c2)) wr.drew := unhide HCC _ bd0
          refine wpTill_pure (i := 0) (v := ?_) rfl (by kernel_rfl) (by kernel_rfl) (by kernel_rfl) (by kernel_rfl) (fun _ _ _ h => h) (Or.inl ⟨by rfl, ?_⟩) (fun _ => hC0) ?_
          rotate_left
          · intro w hSw; clear hSw; go_simp; (try with_reducible rfl)
          (try simp only [List.getElem_toArray, List.getElem_cons_succ, List.getElem_cons_zero])
          (try simp only [Act.put, List.setIfInBounds_toArray, List.set_cons_zero, List.set_cons_succ])
          refine wpTill_pure (i := 1) (v := ?_) rfl (by kernel_rfl) (by kernel_rfl) (by kernel_rfl) (by kernel_rfl) (fun _ _ _ h => h) (Or.inl ⟨by rfl, ?_⟩) (fun _ => hC0) ?_
          rotate_left
          · intro w hSw; clear hSw; go_simp; (try with_reducible rfl)
          (try simp only [List.getElem_toArray, List.getElem_cons_succ, List.getElem_cons_zero])
          (try simp only [Act.put, List.setIfInBounds_toArray, List.set_cons_zero, List.set_cons_succ])
          refine wpTill_pure (i := 2) (v := ?_) rfl (by kernel_rfl) (by kernel_rfl) (by kernel_rfl) (by kernel_rfl) (fun _ _ _ h => h) (Or.inl ⟨by rfl, ?_⟩) (fun _ => hC0) ?_
          rotate_left
          · intro w hSw; clear hSw; go_simp; (try with_reducible rfl)
          (try simp only [List.getElem_toArray, List.getElem_cons_succ, List.getElem_cons_zero])
          (try simp only [Act.put, List.setIfInBounds_toArray, List.set_cons_zero, List.set_cons_succ])
          refine wpTill_pure (i := 3) (v := ?_) rfl (by kernel_rfl) (by kernel_rfl) (by kernel_rfl) (by kernel_rfl) (fun _ _ _ h => h) (Or.inl ⟨by rfl, ?_⟩) (fun _ => hC0) ?_
          rotate_left
          · intro w hSw; clear hSw; go_simp; (try with_reducible rfl)
          (try simp only [List.getElem_toArray, List.getElem_cons_succ, List.getElem_cons_zero])
          (try simp only [Act.put, List.setIfInBounds_toArray, List.set_cons_zero, List.set_cons_succ])
          refine wpTill_pure (i := 4) (v := ?_) rfl (by kernel_rfl) (by kernel_rfl) (by kernel_rfl) (by kernel_rfl) (fun _ _ _ h => h) (Or.inl ⟨by rfl, ?_⟩) (fun _ => hC0) ?_
          rotate_left
          · intro w hSw; clear hSw; go_simp; (try with_reducible rfl)
          (try simp only [List.getElem_toArray, List.getElem_cons_succ, List.getElem_cons_zero])
          (try simp only [Act.put, List.setIfInBounds_toArray, List.set_cons_zero, List.set_cons_succ])
          refine wpTill_take (i := 5) (v := ?_) rfl (by kernel_rfl) (by kernel_rfl) (by kernel_rfl) (by kernel_rfl) (by kernel_rfl) (by kernel_rfl) (fun _ _ _ h => h) (Or.inl ⟨by rfl, ?_⟩) hC0 ?_
          rotate_left
          · intro w hSw; (try dsimp only at hSw); obtain ⟨⟨z0, z1, z2⟩, z3, z4, z5⟩ := hSw; go_simp; (try with_reducible rfl)
          (try simp only [List.getElem_toArray, List.getElem_cons_succ, List.getElem_cons_zero])
          (try simp only [Act.put, List.setIfInBounds_toArray, List.set_cons_zero, List.set_cons_succ])
          refine wpTill_pure (i := 6) (v := ?_) rfl (by kernel_rfl) (by kernel_rfl) (by kernel_rfl) (by kernel_rfl) (fun _ _ _ h => h) (Or.inl ⟨by rfl, ?_⟩) (fun _ => hC0) ?_
          rotate_left
          · intro w hSw; clear hSw; go_simp; (try with_reducible rfl)
          (try simp only [List.getElem_toArray, List.getElem_cons_succ, List.getElem_cons_zero])
          (try simp only [Act.put, List.setIfInBounds_toArray, List.set_cons_zero, List.set_cons_succ])
          refine wpTill_pure (i := 7) (v := ?_) rfl (by kernel_rfl) (by kernel_rfl) (by kernel_rfl) (by kernel_rfl) (fun _ _ _ h => h) (Or.inl ⟨by rfl, ?_⟩) (fun _ => hC0) ?_
          rotate_left
          · intro w hSw; clear hSw; go_simp; (try with_reducible rfl)
          (try simp only [List.getElem_toArray, List.getElem_cons_succ, List.getElem_cons_zero])
          (try simp only [Act.put, List.setIfInBounds_toArray, List.set_cons_zero, List.set_cons_succ])
          refine wpTill_pure (i := 8) (v := ?_) rfl (by kernel_rfl) (by kernel_rfl) (by kernel_rfl) (by kernel_rfl) (fun _ _ _ h => h) (Or.inl ⟨by rfl, ?_⟩) (fun _ => hC0) ?_
          rotate_left
          · intro w hSw; clear hSw; go_simp; (try with_reducible rfl)
          (try simp only [List.getElem_toArray, List.getElem_cons_succ, List.getElem_cons_zero])
          (try simp only [Act.put, List.setIfInBounds_toArray, List.set_cons_zero, List.set_cons_succ])
          refine wpTill_take (i := 9) (v := ?_) rfl (by kernel_rfl) (by kernel_rfl) (by kernel_rfl) (by kernel_rfl) (by kernel_rfl) (by kernel_rfl) (fun _ _ _ h => h) (Or.inl ⟨by rfl, ?_⟩) hC0 ?_
          rotate_left
          · intro w hSw; (try dsimp only at hSw); obtain ⟨⟨z0, z1, z2⟩, z3, z4, z5⟩ := hSw; go_simp; (try with_reducible rfl)
          (try simp only [List.getElem_toArray, List.getElem_cons_succ, List.getElem_cons_zero])
          (try simp only [Act.put, List.setIfInBounds_toArray, List.set_cons_zero, List.set_cons_succ])
          refine wpTill_one (k := 10) (by kernel_rfl) rfl (fun K hK => ?_)
          (try simp only [List.getElem_toArray, List.getElem_cons_succ, List.getElem_cons_zero])
          go_simp
          refine (subR_any ta.val tv.val _ _ _ ((unhide HRA).below bd0) ((unhide HRV).below bd0) 200 (unhide HSA) (unhide HSV) (unhide HK2)).mono ?_
          rintro e xw_1 ⟨xv_1, rfl, hv_1, hb_1⟩
          have cc_1 := below_step bd0 hb_1
          have hC_1 : (fun w' : World => (w'.cell? ⟨ba, oa + i * 3, none⟩ = some (.bool ta.s) ∧ w'.cell? ⟨ba, oa + i * 3 + 1, none⟩ = some (.slice ta.a1 ta.n1 ta.c1) ∧ w'.cell? ⟨ba, oa + i * 3 + 2, none⟩ = some (.slice ta.a2 ta.n2 ta.c2)) ∧ w'.cell? ⟨bv, ov + i * 3, none⟩ = some (.bool tv.s) ∧ w'.cell? ⟨bv, ov + i * 3 + 1, none⟩ = some (.slice tv.a1 tv.n1 tv.c1) ∧ w'.cell? ⟨bv, ov + i * 3 + 2, none⟩ = some (.slice tv.a2 tv.n2 tv.c2)) xw_1 := unhide HCC _ cc_1
          refine hK.out _ _ (fun _ => hC_1) ?_
          clear hK K
          (try simp only [Act.put, List.setIfInBounds_toArray, List.set_cons_zero, List.set_cons_succ])
          refine wpTill_pure (i := 11) (v := ?_) rfl (by kernel_rfl) (by kernel_rfl) (by kernel_rfl) (by kernel_rfl) (fun _ _ _ h => h) (Or.inl ⟨by rfl, ?_⟩) (fun _ => hC_1) ?_
          rotate_left
          · intro w hSw; clear hSw; go_simp; (try with_reducible rfl)
          (try simp only [List.getElem_toArray, List.getElem_cons_succ, List.getElem_cons_zero])
          (try simp only [Act.put, List.setIfInBounds_toArray, List.set_cons_zero, List.set_cons_succ])
          obtain ⟨t5, rfl, r5⟩ := tri_of hv_1
          simp only [Tri.val]
          have S8 := (unhide HT).keep cc_1
          have ⟨⟨y0, y1, y2⟩, f0, f1, f2⟩ := S8.cells i (by rw [unhide HUS]; exact hlt)
          have FZ := S8.set i (by rw [unhide HUS]; exact hlt) t5 _ r5
          obtain ⟨W9, hW9⟩ : ∃ W, ((xw_1.setCell ⟨G, i * 3, none⟩ (.bool t5.s)).setCell ⟨G, i * 3 + 1, none⟩ (.slice t5.a1 t5.n1 t5.c1)).setCell ⟨G, i * 3 + 2, none⟩ (.slice t5.a2 t5.n2 t5.c2) = W := ⟨_, rfl⟩
          rw [hW9, unhide HGI, fill_set] at FZ
          have HFZ := hide FZ
          clear S8 FZ r5 hv_1
          refine wpTill_one (k := 12) (by kernel_rfl) rfl (fun K hK => ?_)
          (try simp only [List.getElem_toArray, List.getElem_cons_succ, List.getElem_cons_zero])
          go_simp
          refine hK.out _ _ (fun h => absurd (h.symm.trans (by kernel_rfl)) Bool.false_ne_true) ?_
          clear hK K
          (try simp only [Act.put, List.setIfInBounds_toArray, List.set_cons_zero, List.set_cons_succ])
          refine wpTill_done (by kernel_rfl) ?_ _
          clear HCC HRA HRV HSA HSV y0 y1 y2 f0 f1 f2 hW9 hC0 hC_1 cc_1 bd0 hb_1
          go_wp2_with fail
          exact ⟨⟨i + 1, _, by go_num, hlt, by rw [List.length_set]; exact unhide HUS, unhide HFZ⟩, by simp [intOf]; omega⟩
        · obtain rfl : i = n := by omega
          have e1 : ¬ (i : Int) < (i : Int) := by omega
          have hlaw := T.law (by omega)
          rw [hus] at hlaw
          have hlaw : LawIs wr (.slice (some ⟨G, 0, none⟩) i i) (row gr i) := hlaw
          have HLG := hide hlaw
          have HBG := hide T.bl
          have hml := Mdp.am_lt Mdp.lt (bf (row gr i)) (n := i) (by omega)
          have hmg := Mdp.am_lt Mdp.gt (bf (row gr i)) (n := i) (by omega)
          have HF1 : Hid (∀ W, Below wr.heap.size wr W → Calls Tryz.prog 42 #[.slice (some ⟨G, 0, none⟩) i i, .func (.func 43) #[] #[]] W fun e w' => e = .returned (.int .i64 (Mdp.am Mdp.lt (bf (row gr i)) i : Nat)) ∧ Below W.heap.size W w') := fun W hW => by
            have := first_any (.slice (some ⟨G, 0, none⟩) i i) (row gr i) 43 Mdp.lt W ((unhide HLG).below hW) (by rw [row_length]; omega) (fun args w => by go_simp) (fun u u' hu hu' W va vb ha hb => by
              rw [row_length] at hu hu'
              exact bounds1_any va vb _ _ W ha hb 401 (by rw [row_get hu]; exact unhide HRG u hu) (by rw [row_get hu']; exact unhide HRG u' hu') (by rw [KKe]; omega))
            rw [row_length] at this
            exact this
          have HF2 : Hid (∀ W, Below wr.heap.size wr W → Calls Tryz.prog 42 #[.slice (some ⟨G, 0, none⟩) i i, .func (.func 44) #[] #[]] W fun e w' => e = .returned (.int .i64 (Mdp.am Mdp.gt (bf (row gr i)) i : Nat)) ∧ Below W.heap.size W w') := fun W hW => by
            have := first_any (.slice (some ⟨G, 0, none⟩) i i) (row gr i) 44 Mdp.gt W ((unhide HLG).below hW) (by rw [row_length]; omega) (fun args w => by go_simp) (fun u u' hu hu' W va vb ha hb => by
              rw [row_length] at hu hu'
              exact bounds2_any va vb _ _ W ha hb 401 (by rw [row_get hu]; exact unhide HRG u hu) (by rw [row_get hu']; exact unhide HRG u' hu') (by rw [KKe]; omega))
            rw [row_length] at this
            exact this
          have HAL : Hid (∀ u, u < i → gr (Mdp.am Mdp.lt (bf (row gr i)) i) ≤ gr u) := fun u hu => by
            have := Mdp.am_min (bf (row gr i)) hu
            rw [bf_row hu, bf_row hml] at this
            exact this
          have HAG : Hid (∀ u, u < i → gr u ≤ gr (Mdp.am Mdp.gt (bf (row gr i)) i)) := fun u hu => by
            have := Mdp.am_max (bf (row gr i)) hu
            rw [bf_row hu, bf_row hmg] at this
            exact this
          obtain ⟨pl, hpl⟩ : ∃ p, Mdp.am Mdp.lt (bf (row gr i)) i = p := ⟨_, rfl⟩
          obtain ⟨pg, hpg⟩ : ∃ p, Mdp.am Mdp.gt (bf (row gr i)) i = p := ⟨_, rfl⟩
          rw [hpl] at hml HF1 HAL
          rw [hpg] at hmg HF2 HAG
          have HPL := hide hml
          have HPG := hide hmg
          have ⟨⟨l0, l1, l2⟩, _⟩ := T.cells pl (by rw [hus]; exact hml)
          have ⟨⟨m0, m1, m2⟩, _⟩ := T.cells pg (by rw [hus]; exact hmg)
          have rl := T.rat pl (by rw [hus]; exact hml)
          have rg := T.rat pg (by rw [hus]; exact hmg)
          rw [fill_get hml hml] at rl
          rw [fill_get hmg hmg] at rg
          obtain ⟨tl, htl⟩ : ∃ t, us[pl]! = t := ⟨_, rfl⟩
          obtain ⟨tg, htg⟩ : ∃ t, us[pg]! = t := ⟨_, rfl⟩
          rw [htl] at l0 l1 l2 rl
          rw [htg] at m0 m1 m2 rg
          have hGl : G < wr.heap.size := (Array.getElem?_eq_some_iff.1 T.row).1
          have HCL : Hid (∀ W, Below wr.heap.size wr W → (W.cell? ⟨G, pl * 3, none⟩ = some (.bool tl.s) ∧ W.cell? ⟨G, pl * 3 + 1, none⟩ = some (.slice tl.a1 tl.n1 tl.c1) ∧ W.cell? ⟨G, pl * 3 + 2, none⟩ = some (.slice tl.a2 tl.n2 tl.c2)) ∧ (W.cell? ⟨G, pg * 3, none⟩ = some (.bool tg.s) ∧ W.cell? ⟨G, pg * 3 + 1, none⟩ = some (.slice tg.a1 tg.n1 tg.c1) ∧ W.cell? ⟨G, pg * 3 + 2, none⟩ = some (.slice tg.a2 tg.n2 tg.c2)) ∧ RatIs W tl.val (gr pl) ∧ RatIs W tg.val (gr pg)) := fun W hW => by
            rw [hW.cell (p := ⟨G, pl * 3, none⟩) hGl, hW.cell (p := ⟨G, pl * 3 + 1, none⟩) hGl, hW.cell (p := ⟨G, pl * 3 + 2, none⟩) hGl, hW.cell (p := ⟨G, pg * 3, none⟩) hGl, hW.cell (p := ⟨G, pg * 3 + 1, none⟩) hGl, hW.cell (p := ⟨G, pg * 3 + 2, none⟩) hGl]
            exact ⟨⟨l0, l1, l2⟩, ⟨m0, m1, m2⟩, rl.below hW, rg.below hW⟩
          have il0 : (0 : Int) ≤ (pl : Int) := by omega
          have il1 : (pl : Int) < (i : Int) := by omega
          have ig0 : (0 : Int) ≤ (pg : Int) := by omega
          have ig1 : (pg : Int) < (i : Int) := by omega
          clear T hus hlaw hml hmg hpl hpg l0 l1 l2 m0 m1 m2 rl rg htl htg hGl HT HUS
          go_wp2_with fail
          refine (unhide HF1 wr (Below.refl _ _)).mono ?_
          rintro e w5 ⟨rfl, hb5⟩
          have ⟨⟨l0, l1, l2⟩, _, rl, _⟩ := unhide HCL w5 hb5
          have bA := alloc_below w5 (.cells #[.bool tl.s, .slice tl.a1 tl.n1 tl.c1, .slice tl.a2 tl.n2 tl.c2] 33)
          have XL := BoxIs.new rl
          have B6 := below_step hb5 bA
          obtain ⟨W6, hW6⟩ : ∃ W, w5.alloc (.cells #[.bool tl.s, .slice tl.a1 tl.n1 tl.c1, .slice tl.a2 tl.n2 tl.c2] 33) = W := ⟨_, rfl⟩
          obtain ⟨gl, hgl⟩ : ∃ x, w5.heap.size = x := ⟨_, rfl⟩
          rw [hW6] at XL B6
          rw [hgl] at XL
          have HXL' := hide XL
          have HB6 := hide B6
          clear hb5 rl bA XL B6
          go_wp2_with fail
          clear hW6 hgl l0 l1 l2
          refine (unhide HF2 W6 (unhide HB6)).mono ?_
          rintro e w7 ⟨rfl, hb7⟩
          have ⟨_, ⟨m0, m1, m2⟩, _, rg⟩ := unhide HCL w7 (below_step (unhide HB6) hb7)
          have bA := alloc_below w7 (.cells #[.bool tg.s, .slice tg.a1 tg.n1 tg.c1, .slice tg.a2 tg.n2 tg.c2] 33)
          have XG := BoxIs.new rg
          have B8 := below_step (below_step (unhide HB6) hb7) bA
          have XL8 := (unhide HXL').keep (below_step hb7 bA)
          obtain ⟨W8, hW8⟩ : ∃ W, w7.alloc (.cells #[.bool tg.s, .slice tg.a1 tg.n1 tg.c1, .slice tg.a2 tg.n2 tg.c2] 33) = W := ⟨_, rfl⟩
          obtain ⟨gg, hgg⟩ : ∃ x, w7.heap.size = x := ⟨_, rfl⟩
          rw [hW8] at XG B8 XL8
          rw [hgg] at XG
          have HF8 : Hid (∀ W, Below W8.heap.size W8 W → BoxIs W gs ts (b / (((1 : Int) : Rat) - b)) ∧ BoxIs W gl tl (gr pl) ∧ BoxIs W gg tg (gr pg) ∧ LawIs W (.slice aa i ca) (row (Mdp.T (mdl K b) (bf xs)) i)) := fun W hW => ⟨unhide HTB _ (below_step (unhide HBG) (below_step B8 hW)), XL8.keep hW, XG.keep hW, (unhide HLA).below (below_step (unhide HBX) (below_step (unhide HBG) (below_step B8 hW)))⟩
          have HC8 : Hid (∀ W, Below W8.heap.size W8 W → (fun w' : World => (w'.cell? ⟨gs, 0, none⟩ = some (.bool ts.s) ∧ w'.cell? ⟨gs, 1, none⟩ = some (.slice ts.a1 ts.n1 ts.c1) ∧ w'.cell? ⟨gs, 2, none⟩ = some (.slice ts.a2 ts.n2 ts.c2)) ∧ (w'.cell? ⟨gl, 0, none⟩ = some (.bool tl.s) ∧ w'.cell? ⟨gl, 1, none⟩ = some (.slice tl.a1 tl.n1 tl.c1) ∧ w'.cell? ⟨gl, 2, none⟩ = some (.slice tl.a2 tl.n2 tl.c2)) ∧ w'.cell? ⟨gg, 0, none⟩ = some (.bool tg.s) ∧ w'.cell? ⟨gg, 1, none⟩ = some (.slice tg.a1 tg.n1 tg.c1) ∧ w'.cell? ⟨gg, 2, none⟩ = some (.slice tg.a2 tg.n2 tg.c2)) W) := fun W hW => by
            obtain ⟨q1, q2, q3, _⟩ := unhide HF8 W hW
            exact ⟨q1.cells _ (Below.refl _ _), q2.cells _ (Below.refl _ _), q3.cells _ (Below.refl _ _)⟩
          have HB8 := hide (below_step (unhide HB1) (below_step (unhide HBX) (below_step (unhide HBG) B8)))
          have HRA : Hid (∀ r, RS r 1000 → ∀ v W, Below W8.heap.size W8 W → RatIs W v r → Calls Tryz.prog 45 #[.slice aa i ca, v] W (RowPost W (rsd (row (Mdp.T (mdl K b) (bf xs)) i) r) i)) := fun r hr v W hW hv => by
            have := raised_any (.slice aa i ca) v (row (Mdp.T (mdl K b) (bf xs)) i) r 1000 W (unhide HF8 W hW).2.2.2 hv (fun j hj => by rw [row_length] at hj; rw [row_get hj]; exact (unhide HRT j hj).mono (by omega)) hr (by rw [KKe]; omega) (by rw [row_length]; omega)
            rw [row_length] at this
            exact this
          have HR1 := hide ((unhide HRD).mono (show 10 ≤ 500 by omega))
          have HR2 := hide ((unhide HRG pl (unhide HPL)).mono (show 401 ≤ 500 by omega))
          have HR3 := hide ((unhide HRG pg (unhide HPG)).mono (show 401 ≤ 500 by omega))
          have HR4 := hide (((unhide HRD).mul (unhide HRG pl (unhide HPL))).mono (show 10 + 401 ≤ 1000 by omega))
          have HR5 := hide (((unhide HRD).mul (unhide HRG pg (unhide HPG))).mono (show 10 + 401 ≤ 1000 by omega))
          clear hb7 rg bA XG B8 XL8
          go_wp2_with fail
          clear hW8 hgg m0 m1 m2
          refine wp_region_hold (fun w' : World => (w'.cell? ⟨gs, 0, none⟩ = some (.bool ts.s) ∧ w'.cell? ⟨gs, 1, none⟩ = some (.slice ts.a1 ts.n1 ts.c1) ∧ w'.cell? ⟨gs, 2, none⟩ = some (.slice ts.a2 ts.n2 ts.c2)) ∧ (w'.cell? ⟨gl, 0, none⟩ = some (.bool tl.s) ∧ w'.cell? ⟨gl, 1, none⟩ = some (.slice tl.a1 tl.n1 tl.c1) ∧ w'.cell? ⟨gl, 2, none⟩ = some (.slice tl.a2 tl.n2 tl.c2)) ∧ w'.cell? ⟨gg, 0, none⟩ = some (.bool tg.s) ∧ w'.cell? ⟨gg, 1, none⟩ = some (.slice tg.a1 tg.n1 tg.c1) ∧ w'.cell? ⟨gg, 2, none⟩ = some (.slice tg.a2 tg.n2 tg.c2)) (by kernel_rfl) ?_
          have bd0 : Below W8.heap.size W8 W8.drew := (Below.refl _ _).drew
          have hC0 : (fun w' : World => (w'.cell? ⟨gs, 0, none⟩ = some (.bool ts.s) ∧ w'.cell? ⟨gs, 1, none⟩ = some (.slice ts.a1 ts.n1 ts.c1) ∧ w'.cell? ⟨gs, 2, none⟩ = some (.slice ts.a2 ts.n2 ts.c2)) ∧ (w'.cell? ⟨gl, 0, none⟩ = some (.bool tl.s) ∧ w'.cell? ⟨gl, 1, none⟩ = some (.slice tl.a1 tl.n1 tl.c1) ∧ w'.cell? ⟨gl, 2, none⟩ = some (.slice tl.a2 tl.n2 tl.c2)) ∧ w'.cell? ⟨gg, 0, none⟩ = some (.bool tg.s) ∧ w'.cell? ⟨gg, 1, none⟩ = some (.slice tg.a1 tg.n1 tg.c1) ∧ w'.cell? ⟨gg, 2, none⟩ = some (.slice tg.a2 tg.n2 tg.c2)) W8.drew := unhide HC8 _ bd0
          refine wpHold_take (i := 0) (v := ?_) rfl (by kernel_rfl) (by kernel_rfl) (by kernel_rfl) (fun _ _ _ h => h) (Or.inl ⟨by rfl, ?_⟩) hC0 ?_
          rotate_left
          · intro w hSw; clear hSw; go_simp; (try with_reducible rfl)
          (try simp only [List.getElem_toArray, List.getElem_cons_succ, List.getElem_cons_zero])
          (try simp only [Act.put, List.setIfInBounds_toArray, List.set_cons_zero, List.set_cons_succ])
          refine wpHold_take (i := 1) (v := ?_) rfl (by kernel_rfl) (by kernel_rfl) (by kernel_rfl) (fun _ _ _ h => h) (Or.inl ⟨by rfl, ?_⟩) hC0 ?_
          rotate_left
          · intro w hSw; (try dsimp only at hSw); obtain ⟨⟨z0, z1, z2⟩, ⟨z3, z4, z5⟩, z6, z7, z8⟩ := hSw; go_simp; (try with_reducible rfl)
          (try simp only [List.getElem_toArray, List.getElem_cons_succ, List.getElem_cons_zero])
          (try simp only [Act.put, List.setIfInBounds_toArray, List.set_cons_zero, List.set_cons_succ])
          refine wpHold_take (i := 2) (v := ?_) rfl (by kernel_rfl) (by kernel_rfl) (by kernel_rfl) (fun _ _ _ h => h) (Or.inl ⟨by rfl, ?_⟩) hC0 ?_
          rotate_left
          · intro w hSw; (try dsimp only at hSw); obtain ⟨⟨z0, z1, z2⟩, ⟨z3, z4, z5⟩, z6, z7, z8⟩ := hSw; go_simp; (try with_reducible rfl)
          (try simp only [List.getElem_toArray, List.getElem_cons_succ, List.getElem_cons_zero])
          (try simp only [Act.put, List.setIfInBounds_toArray, List.set_cons_zero, List.set_cons_succ])
          refine wpHold_take (i := 5) (v := ?_) rfl (by kernel_rfl) (by kernel_rfl) (by kernel_rfl) (fun _ _ _ h => h) (Or.inl ⟨by rfl, ?_⟩) hC0 ?_
          rotate_left
          · intro w hSw; clear hSw; go_simp; (try with_reducible rfl)
          (try simp only [List.getElem_toArray, List.getElem_cons_succ, List.getElem_cons_zero])
          (try simp only [Act.put, List.setIfInBounds_toArray, List.set_cons_zero, List.set_cons_succ])
          refine wpHold_take (i := 6) (v := ?_) rfl (by kernel_rfl) (by kernel_rfl) (by kernel_rfl) (fun _ _ _ h => h) (Or.inl ⟨by rfl, ?_⟩) hC0 ?_
          rotate_left
          · intro w hSw; (try dsimp only at hSw); obtain ⟨⟨z0, z1, z2⟩, ⟨z3, z4, z5⟩, z6, z7, z8⟩ := hSw; go_simp; (try with_reducible rfl)
          (try simp only [List.getElem_toArray, List.getElem_cons_succ, List.getElem_cons_zero])
          (try simp only [Act.put, List.setIfInBounds_toArray, List.set_cons_zero, List.set_cons_succ])
          refine wpHold_take (i := 7) (v := ?_) rfl (by kernel_rfl) (by kernel_rfl) (by kernel_rfl) (fun _ _ _ h => h) (Or.inl ⟨by rfl, ?_⟩) hC0 ?_
          rotate_left
          · intro w hSw; (try dsimp only at hSw); obtain ⟨⟨z0, z1, z2⟩, ⟨z3, z4, z5⟩, z6, z7, z8⟩ := hSw; go_simp; (try with_reducible rfl)
          (try simp only [List.getElem_toArray, List.getElem_cons_succ, List.getElem_cons_zero])
          (try simp only [Act.put, List.setIfInBounds_toArray, List.set_cons_zero, List.set_cons_succ])
          refine wpHold_one (k := 3) (by kernel_rfl) rfl (fun K hK => ?_)
          (try simp only [List.getElem_toArray, List.getElem_cons_succ, List.getElem_cons_zero])
          go_simp
          refine (mulR_any ts.val tl.val _ _ _ (unhide HF8 _ bd0).1.2 (unhide HF8 _ bd0).2.1.2 500 (unhide HR1) (unhide HR2) (by rw [KKe]; omega)).mono ?_
          rintro e xw_1 ⟨xv_1, rfl, hv_1, hb_1⟩
          have cc_1 := below_step bd0 hb_1
          have hC_1 : (fun w' : World => (w'.cell? ⟨gs, 0, none⟩ = some (.bool ts.s) ∧ w'.cell? ⟨gs, 1, none⟩ = some (.slice ts.a1 ts.n1 ts.c1) ∧ w'.cell? ⟨gs, 2, none⟩ = some (.slice ts.a2 ts.n2 ts.c2)) ∧ (w'.cell? ⟨gl, 0, none⟩ = some (.bool tl.s) ∧ w'.cell? ⟨gl, 1, none⟩ = some (.slice tl.a1 tl.n1 tl.c1) ∧ w'.cell? ⟨gl, 2, none⟩ = some (.slice tl.a2 tl.n2 tl.c2)) ∧ w'.cell? ⟨gg, 0, none⟩ = some (.bool tg.s) ∧ w'.cell? ⟨gg, 1, none⟩ = some (.slice tg.a1 tg.n1 tg.c1) ∧ w'.cell? ⟨gg, 2, none⟩ = some (.slice tg.a2 tg.n2 tg.c2)) xw_1 := unhide HC8 _ cc_1
          refine hK.out _ _ hC_1 ?_
          clear hK K
          (try simp only [Act.put, List.setIfInBounds_toArray, List.set_cons_zero, List.set_cons_succ])
          refine wpHold_one (k := 4) (by kernel_rfl) rfl (fun K hK => ?_)
          (try simp only [List.getElem_toArray, List.getElem_cons_succ, List.getElem_cons_zero])
          go_simp
          refine (unhide HRA _ (unhide HR4) _ _ cc_1 hv_1).mono ?_
          rintro e xw_2 ⟨xv_2, rfl, hv_2, hb_2⟩
          have cc_2 := below_step cc_1 hb_2
          have hC_2 : (fun w' : World => (w'.cell? ⟨gs, 0, none⟩ = some (.bool ts.s) ∧ w'.cell? ⟨gs, 1, none⟩ = some (.slice ts.a1 ts.n1 ts.c1) ∧ w'.cell? ⟨gs, 2, none⟩ = some (.slice ts.a2 ts.n2 ts.c2)) ∧ (w'.cell? ⟨gl, 0, none⟩ = some (.bool tl.s) ∧ w'.cell? ⟨gl, 1, none⟩ = some (.slice tl.a1 tl.n1 tl.c1) ∧ w'.cell? ⟨gl, 2, none⟩ = some (.slice tl.a2 tl.n2 tl.c2)) ∧ w'.cell? ⟨gg, 0, none⟩ = some (.bool tg.s) ∧ w'.cell? ⟨gg, 1, none⟩ = some (.slice tg.a1 tg.n1 tg.c1) ∧ w'.cell? ⟨gg, 2, none⟩ = some (.slice tg.a2 tg.n2 tg.c2)) xw_2 := unhide HC8 _ cc_2
          refine hK.out _ _ hC_2 ?_
          clear hK K
          (try simp only [Act.put, List.setIfInBounds_toArray, List.set_cons_zero, List.set_cons_succ])
          refine wpHold_one (k := 8) (by kernel_rfl) rfl (fun K hK => ?_)
          (try simp only [List.getElem_toArray, List.getElem_cons_succ, List.getElem_cons_zero])
          go_simp
          refine (mulR_any ts.val tg.val _ _ _ (unhide HF8 _ cc_2).1.2 (unhide HF8 _ cc_2).2.2.1.2 500 (unhide HR1) (unhide HR3) (by rw [KKe]; omega)).mono ?_
          rintro e xw_3 ⟨xv_3, rfl, hv_3, hb_3⟩
          have cc_3 := below_step cc_2 hb_3
          have hC_3 : (fun w' : World => (w'.cell? ⟨gs, 0, none⟩ = some (.bool ts.s) ∧ w'.cell? ⟨gs, 1, none⟩ = some (.slice ts.a1 ts.n1 ts.c1) ∧ w'.cell? ⟨gs, 2, none⟩ = some (.slice ts.a2 ts.n2 ts.c2)) ∧ (w'.cell? ⟨gl, 0, none⟩ = some (.bool tl.s) ∧ w'.cell? ⟨gl, 1, none⟩ = some (.slice tl.a1 tl.n1 tl.c1) ∧ w'.cell? ⟨gl, 2, none⟩ = some (.slice tl.a2 tl.n2 tl.c2)) ∧ w'.cell? ⟨gg, 0, none⟩ = some (.bool tg.s) ∧ w'.cell? ⟨gg, 1, none⟩ = some (.slice tg.a1 tg.n1 tg.c1) ∧ w'.cell? ⟨gg, 2, none⟩ = some (.slice tg.a2 tg.n2 tg.c2)) xw_3 := unhide HC8 _ cc_3
          refine hK.out _ _ hC_3 ?_
          clear hK K
          (try simp only [Act.put, List.setIfInBounds_toArray, List.set_cons_zero, List.set_cons_succ])
          refine wpHold_one (k := 9) (by kernel_rfl) rfl (fun K hK => ?_)
          (try simp only [List.getElem_toArray, List.getElem_cons_succ, List.getElem_cons_zero])
          go_simp
          refine (unhide HRA _ (unhide HR5) _ _ cc_3 hv_3).mono ?_
          rintro e xw_4 ⟨xv_4, rfl, hv_4, hb_4⟩
          have cc_4 := below_step cc_3 hb_4
          have hC_4 : (fun w' : World => (w'.cell? ⟨gs, 0, none⟩ = some (.bool ts.s) ∧ w'.cell? ⟨gs, 1, none⟩ = some (.slice ts.a1 ts.n1 ts.c1) ∧ w'.cell? ⟨gs, 2, none⟩ = some (.slice ts.a2 ts.n2 ts.c2)) ∧ (w'.cell? ⟨gl, 0, none⟩ = some (.bool tl.s) ∧ w'.cell? ⟨gl, 1, none⟩ = some (.slice tl.a1 tl.n1 tl.c1) ∧ w'.cell? ⟨gl, 2, none⟩ = some (.slice tl.a2 tl.n2 tl.c2)) ∧ w'.cell? ⟨gg, 0, none⟩ = some (.bool tg.s) ∧ w'.cell? ⟨gg, 1, none⟩ = some (.slice tg.a1 tg.n1 tg.c1) ∧ w'.cell? ⟨gg, 2, none⟩ = some (.slice tg.a2 tg.n2 tg.c2)) xw_4 := unhide HC8 _ cc_4
          refine hK.out _ _ hC_4 ?_
          clear hK K
          (try simp only [Act.put, List.setIfInBounds_toArray, List.set_cons_zero, List.set_cons_succ])
          refine wpHold_take (i := 10) (v := ?_) rfl (by kernel_rfl) (by kernel_rfl) (by kernel_rfl) (fun _ _ _ h => h) (Or.inl ⟨by rfl, ?_⟩) hC_4 ?_
          rotate_left
          · intro w hSw; clear hSw; go_simp; (try with_reducible rfl)
          (try simp only [List.getElem_toArray, List.getElem_cons_succ, List.getElem_cons_zero])
          (try simp only [Act.put, List.setIfInBounds_toArray, List.set_cons_zero, List.set_cons_succ])
          refine wpHold_take (i := 11) (v := ?_) rfl (by kernel_rfl) (by kernel_rfl) (by kernel_rfl) (fun _ _ _ h => h) (Or.inl ⟨by rfl, ?_⟩) hC_4 ?_
          rotate_left
          · intro w hSw; clear hSw; go_simp; (try with_reducible rfl)
          (try simp only [List.getElem_toArray, List.getElem_cons_succ, List.getElem_cons_zero])
          (try simp only [Act.put, List.setIfInBounds_toArray, List.set_cons_zero, List.set_cons_succ])
          refine wpHold_take (i := 12) (v := ?_) rfl (by kernel_rfl) (by kernel_rfl) (by kernel_rfl) (fun _ _ _ h => h) (Or.inl ⟨by rfl, ?_⟩) hC_4 ?_
          rotate_left
          · intro w hSw; clear hSw; go_simp; (try with_reducible rfl)
          (try simp only [List.getElem_toArray, List.getElem_cons_succ, List.getElem_cons_zero])
          (try simp only [Act.put, List.setIfInBounds_toArray, List.set_cons_zero, List.set_cons_succ])
          refine wpHold_done (by kernel_rfl) ?_ _
          have HL1 := hide ((hv_2.below hb_3).below hb_4)
          have HL2 := hide hv_4
          obtain ⟨a1_, c1_, rfl, _, _, _⟩ := hv_2
          obtain ⟨a2_, c2_, rfl, _, _, _⟩ := hv_4
          rw [row_length] at HL1 HL2
          rw [row_length, row_length]
          have HB9 := hide (below_step (unhide HB8) cc_4)
          clear hC0 hC_1 hC_2 hC_3 hC_4 cc_1 cc_2 cc_3 cc_4 bd0 hb_1 hb_2 hb_3 hb_4 hv_1 hv_3
          go_wp2
          go_ret3
          exact Or.inl ⟨unhide HGM, by rw [unhide HXL]; exact (unhide HN).symm, _, _, gr pl, gr pg, rfl, by rw [unhide HN]; exact unhide HL1, by rw [unhide HN]; exact unhide HL2, by rw [unhide HN, unhide HGR]; exact unhide HAL, by rw [unhide HN, unhide HGR]; exact unhide HAG, unhide HRG pl (unhide HPL), unhide HRG pg (unhide HPG), unhide HB9⟩
    | false =>
      refine wpHold_take (i := 7) (v := ?_) rfl (by kernel_rfl) (by kernel_rfl) (by kernel_rfl) (fun _ _ _ h => h) (Or.inl ⟨by rfl, ?_⟩) hCv ?_
      rotate_left
      · intro w hSw; clear hSw; go_simp; (try with_reducible rfl)
      (try simp only [List.getElem_toArray, List.getElem_cons_succ, List.getElem_cons_zero])
      (try simp only [Act.put, List.setIfInBounds_toArray, List.set_cons_zero, List.set_cons_succ])
      refine wpHold_take (i := 8) (v := ?_) rfl (by kernel_rfl) (by kernel_rfl) (by kernel_rfl) (fun _ _ _ h => h) (Or.inl ⟨by rfl, ?_⟩) hCv ?_
      rotate_left
      · intro w hSw; clear hSw; go_simp; (try with_reducible rfl)
      (try simp only [List.getElem_toArray, List.getElem_cons_succ, List.getElem_cons_zero])
      (try simp only [Act.put, List.setIfInBounds_toArray, List.set_cons_zero, List.set_cons_succ])
      refine wpHold_take (i := 9) (v := ?_) rfl (by kernel_rfl) (by kernel_rfl) (by kernel_rfl) (fun _ _ _ h => h) (Or.inl ⟨by rfl, ?_⟩) hCv ?_
      rotate_left
      · intro w hSw; clear hSw; go_simp; (try with_reducible rfl)
      (try simp only [List.getElem_toArray, List.getElem_cons_succ, List.getElem_cons_zero])
      (try simp only [Act.put, List.setIfInBounds_toArray, List.set_cons_zero, List.set_cons_succ])
      have hbA := alloc_below wv (.cells #[.bool false, .slice none 0 0, .slice none 0 0] 33)
      have B10 := BoxIs.new (w := wv) (t := zTri) (q := 0) (rat_zero _)
      have B10' : BoxIs (wv.alloc (.cells #[.bool false, .slice none 0 0, .slice none 0 0] 33)) wv.heap.size zTri 0 := B10
      have rA := r0.below hbA
      have blA := below_step J.bl hbA
      have hCA : (fun w' : World => w'.cell? ⟨g, 1, none⟩ = some (.bool t.s) ∧ w'.cell? ⟨g, 2, none⟩ = some (.slice t.a1 t.n1 t.c1) ∧ w'.cell? ⟨g, 3, none⟩ = some (.slice t.a2 t.n2 t.c2)) _ := unhide HCW _ (below_step bd0 blA)
      have e10 : Wx.heap.size ≤ wv.heap.size := J.bl.size
      refine wpHold_one (k := 10) (by kernel_rfl) rfl (fun K hK => ?_)
      (try simp only [List.getElem_toArray, List.getElem_cons_succ, List.getElem_cons_zero])
      go_simp
      refine hK.out _ _ hCA ?_
      clear hK K
      (try simp only [Act.put, List.setIfInBounds_toArray, List.set_cons_zero, List.set_cons_succ])
      obtain ⟨wA, hwA⟩ : ∃ W, wv.alloc (.cells #[.bool false, .slice none 0 0, .slice none 0 0] 33) = W := ⟨_, rfl⟩
      obtain ⟨gs, hbn⟩ : ∃ b, wv.heap.size = b := ⟨_, rfl⟩
      rw [hwA] at B10' rA blA hCA
      rw [hbn] at B10' e10
      simp only [hwA, hbn]
      clear B10 hbA hwA hbn
      replace B10 := B10'
      clear B10'
      have ⟨l0, l1, l2⟩ := B10.free
      have ⟨k0, k1, k2⟩ := B10.cells _ (Below.refl _ _)
      have NB := B10.set rA
      have e10' : w1.heap.size ≤ gs := Nat.le_trans bd0.size e10
      have YB := (((below_step bd0 blA).setCell (p := ⟨gs, 0, none⟩) e10' (.bool ts.s)).setCell (p := ⟨gs, 1, none⟩) e10' (.slice ts.a1 ts.n1 ts.c1)).setCell (p := ⟨gs, 2, none⟩) e10' (.slice ts.a2 ts.n2 ts.c2)
      have HG_gs := hide e10'
      have hCn : (fun w' : World => w'.cell? ⟨g, 1, none⟩ = some (.bool t.s) ∧ w'.cell? ⟨g, 2, none⟩ = some (.slice t.a1 t.n1 t.c1) ∧ w'.cell? ⟨g, 3, none⟩ = some (.slice t.a2 t.n2 t.c2)) _ := unhide HCW _ YB
      obtain ⟨Wgs, hWy⟩ : ∃ W, ((wA.setCell ⟨gs, 0, none⟩ (.bool ts.s)).setCell ⟨gs, 1, none⟩ (.slice ts.a1 ts.n1 ts.c1)).setCell ⟨gs, 2, none⟩ (.slice ts.a2 ts.n2 ts.c2) = W := ⟨_, rfl⟩
      rw [hWy] at NB YB hCn
      have HX_gs := hide NB
      have HY_gs := hide YB
      clear J B10 YB NB e10' hCv
      refine wpHold_one (k := 11) (by kernel_rfl) rfl (fun K hK => ?_)
      (try simp only [List.getElem_toArray, List.getElem_cons_succ, List.getElem_cons_zero])
      go_simp
      refine hK.out _ _ hCn ?_
      clear hK K
      (try simp only [Act.put, List.setIfInBounds_toArray, List.set_cons_zero, List.set_cons_succ])
      refine wpHold_one (k := 12) (by kernel_rfl) rfl (fun K hK => ?_)
      (try simp only [List.getElem_toArray, List.getElem_cons_succ, List.getElem_cons_zero])
      go_simp
      refine hK.out _ _ hCn ?_
      clear hK K
      (try simp only [Act.put, List.setIfInBounds_toArray, List.set_cons_zero, List.set_cons_succ])
      refine wpHold_done (by kernel_rfl) ?_ _
      clear hCn l0 l1 l2 k0 k1 k2 hWy e10 bd0 hWx r0 hv_ hCA rA blA
      have HTB : Hid (∀ W, Below Wgs.heap.size Wgs W → BoxIs W gs ts (b / (((1 : Int) : Rat) - b))) := fun W hW => (unhide HX_gs).keep hW
      have HBX := hide (below_step (unhide HBS) (unhide HY_gs))
      have qmk := make_ratios (n : Int) (by omega) (by omega) Wgs
      rw [Int.toNat_natCast] at qmk
      have S0 := SumsAt.start Wgs Wgs n (Below.refl _ _)
      obtain ⟨W1, hW1⟩ : ∃ W, Wgs.alloc (.cells (tcells (List.replicate n zTri)).toArray 33) = W := ⟨_, rfl⟩
      obtain ⟨G, hG⟩ : ∃ G, Wgs.heap.size = G := ⟨_, rfl⟩
      rw [hW1, hG] at qmk
      rw [hW1] at S0
      have HS0 : Hid (SumsAt Wgs W1 G (List.replicate n zTri) (fill gr n 0)) := by show SumsAt _ _ _ _ _; rw [← hG, ← fill_zero]; exact S0
      clear S0 HX_gs HG_gs HY_gs
      go_wp2_with fail
      clear qmk hW1 hG
      go_loopw [42] (fun vi wr => ∃ (i : Nat) (us : List Tri), vi = .int .i64 (i : Int) ∧ i ≤ n ∧ us.length = n ∧ SumsAt Wgs wr G us (fill gr n i)) (fun vi _ => n - (intOf vi).toNat)
      case atStart => exact ⟨0, _, rfl, Nat.zero_le _, List.length_replicate, unhide HS0⟩
      case round =>
        obtain ⟨i, us, rfl, hi, hus, T⟩ := hrel
        clear HS0
        have HUS := hide hus
        have HT := hide T
        by_cases hlt : i < n
        · have e1 : (i : Int) < (n : Int) := by omega
          have e0 : (0 : Int) ≤ (i : Int) := by omega
          have bw := below_step (unhide HBX) T.bl
          obtain ⟨a7, c7, e7, _, _, h7⟩ := (unhide HLA).below bw
          obtain ⟨ba, oa, rfl, hba, hca⟩ := h7 (by rw [row_length]; omega)
          have ea7 : aa = some ⟨ba, oa, none⟩ := by injection e7
          obtain ⟨as_, ap1, ap2, an1, ad1, an2, ad2, ak0, ak1, ak2, ar⟩ := hca i (by rw [row_length]; exact hlt)
          obtain ⟨ta, rfl, rfl, rfl, rfl, rfl, rfl, rfl⟩ : ∃ t : Tri, as_ = t.s ∧ ap1 = t.a1 ∧ ap2 = t.a2 ∧ an1 = t.n1 ∧ ad1 = t.c1 ∧ an2 = t.n2 ∧ ad2 = t.c2 := ⟨⟨as_, ap1, ap2, an1, ad1, an2, ad2⟩, rfl, rfl, rfl, rfl, rfl, rfl, rfl⟩
          obtain ⟨a8, c8, e8, _, _, h8⟩ := (unhide HLX).below bw
          obtain ⟨bv, ov, rfl, hbv, hcv⟩ := h8 (by rw [unhide HXL]; omega)
          have ea8 : ax = some ⟨bv, ov, none⟩ := by injection e8
          obtain ⟨xs_, xp1, xp2, xn1, xd1, xn2, xd2, xk0, xk1, xk2, xr⟩ := hcv i (by rw [unhide HXL]; exact hlt)
          obtain ⟨tv, rfl, rfl, rfl, rfl, rfl, rfl, rfl⟩ : ∃ t : Tri, xs_ = t.s ∧ xp1 = t.a1 ∧ xp2 = t.a2 ∧ xn1 = t.n1 ∧ xd1 = t.c1 ∧ xn2 = t.n2 ∧ xd2 = t.c2 := ⟨⟨xs_, xp1, xp2, xn1, xd1, xn2, xd2⟩, rfl, rfl, rfl, rfl, rfl, rfl, rfl⟩
          rw [row_get hlt] at ar
          have HCC : Hid (∀ W, Below wr.heap.size wr W → (fun w' : World => (w'.cell? ⟨ba, oa + i * 3, none⟩ = some (.bool ta.s) ∧ w'.cell? ⟨ba, oa + i * 3 + 1, none⟩ = some (.slice ta.a1 ta.n1 ta.c1) ∧ w'.cell? ⟨ba, oa + i * 3 + 2, none⟩ = some (.slice ta.a2 ta.n2 ta.c2)) ∧ w'.cell? ⟨bv, ov + i * 3, none⟩ = some (.bool tv.s) ∧ w'.cell? ⟨bv, ov + i * 3 + 1, none⟩ = some (.slice tv.a1 tv.n1 tv.c1) ∧ w'.cell? ⟨bv, ov + i * 3 + 2, none⟩ = some (.slice tv.a2 tv.n2 tv.c2)) W) := fun W hW => by
            refine ⟨?_, ?_⟩
            · rw [hW.cell (p := ⟨ba, oa + i * 3, none⟩) hba, hW.cell (p := ⟨ba, oa + i * 3 + 1, none⟩) hba, hW.cell (p := ⟨ba, oa + i * 3 + 2, none⟩) hba]; exact ⟨ak0, ak1, ak2⟩
            · rw [hW.cell (p := ⟨bv, ov + i * 3, none⟩) hbv, hW.cell (p := ⟨bv, ov + i * 3 + 1, none⟩) hbv, hW.cell (p := ⟨bv, ov + i * 3 + 2, none⟩) hbv]; exact ⟨xk0, xk1, xk2⟩
          have HRA := hide ar
          have HRV := hide xr
          have HSA := hide (unhide HRT i hlt)
          have HSV := hide ((unhide HXR i (by rw [unhide HXL]; exact hlt)).mono (show 1 ≤ 200 by omega))
          have HGI : Hid (Mdp.T (mdl K b) (bf xs) i - xs[i]! = gr i) := by show _ = _; rw [← unhide HGR]; rfl
          rw [ea7, ea8]
          clear T hus bw e7 h7 hca ea7 ar ak0 ak1 ak2 e8 h8 hcv ea8 xr xk0 xk1 xk2
          go_wp2_with fail
          refine wp_region_till (fun w' : World => (w'.cell? ⟨ba, oa + i * 3, none⟩ = some (.bool ta.s) ∧ w'.cell? ⟨ba, oa + i * 3 + 1, none⟩ = some (.slice ta.a1 ta.n1 ta.c1) ∧ w'.cell? ⟨ba, oa + i * 3 + 2, none⟩ = some (.slice ta.a2 ta.n2 ta.c2)) ∧ w'.cell? ⟨bv, ov + i * 3, none⟩ = some (.bool tv.s) ∧ w'.cell? ⟨bv, ov + i * 3 + 1, none⟩ = some (.slice tv.a1 tv.n1 tv.c1) ∧ w'.cell? ⟨bv, ov + i * 3 + 2, none⟩ = some (.slice tv.a2 tv.n2 tv.c2)) 12 (by kernel_rfl) ?_
          have bd0 : Below wr.heap.size wr wr.drew := (Below.refl _ _).drew
          have hC0 : (fun w' : World => (w'.cell? ⟨ba, oa + i * 3, none⟩ = some (.bool ta.s) ∧ w'.cell? ⟨ba, oa + i * 3 + 1, none⟩ = some (.slice ta.a1 ta.n1 ta.c1) ∧ w'.cell? ⟨ba, oa + i * 3 + 2, none⟩ = some (.slice ta.a2 ta.n2 ta.c2)) ∧ w'.cell? ⟨bv, ov + i * 3, none⟩ = some (.bool tv.s) ∧ w'.cell? ⟨bv, ov + i * 3 + 1, none⟩ = some (.slice tv.a1 tv.n1 tv.c1) ∧ w'.cell? ⟨bv, ov + i * 3 + 2, none⟩ = some (.slice tv.a2 tv.n2 tv.c2)) wr.drew := unhide HCC _ bd0
          refine wpTill_pure (i := 0) (v := ?_) rfl (by kernel_rfl) (by kernel_rfl) (by kernel_rfl) (by kernel_rfl) (fun _ _ _ h => h) (Or.inl ⟨by rfl, ?_⟩) (fun _ => hC0) ?_
          rotate_left
          · intro w hSw; clear hSw; go_simp; (try with_reducible rfl)
          (try simp only [List.getElem_toArray, List.getElem_cons_succ, List.getElem_cons_zero])
          (try simp only [Act.put, List.setIfInBounds_toArray, List.set_cons_zero, List.set_cons_succ])
          refine wpTill_pure (i := 1) (v := ?_) rfl (by kernel_rfl) (by kernel_rfl) (by kernel_rfl) (by kernel_rfl) (fun _ _ _ h => h) (Or.inl ⟨by rfl, ?_⟩) (fun _ => hC0) ?_
          rotate_left
          · intro w hSw; clear hSw; go_simp; (try with_reducible rfl)
          (try simp only [List.getElem_toArray, List.getElem_cons_succ, List.getElem_cons_zero])
          (try simp only [Act.put, List.setIfInBounds_toArray, List.set_cons_zero, List.set_cons_succ])
          refine wpTill_pure (i := 2) (v := ?_) rfl (by kernel_rfl) (by kernel_rfl) (by kernel_rfl) (by kernel_rfl) (fun _ _ _ h => h) (Or.inl ⟨by rfl, ?_⟩) (fun _ => hC0) ?_
          rotate_left
          · intro w hSw; clear hSw; go_simp; (try with_reducible rfl)
          (try simp only [List.getElem_toArray, List.getElem_cons_succ, List.getElem_cons_zero])
          (try simp only [Act.put, List.setIfInBounds_toArray, List.set_cons_zero, List.set_cons_succ])
          refine wpTill_pure (i := 3) (v := ?_) rfl (by kernel_rfl) (by kernel_rfl) (by kernel_rfl) (by kernel_rfl) (fun _ _ _ h => h) (Or.inl ⟨by rfl, ?_⟩) (fun _ => hC0) ?_
          rotate_left
          · intro w hSw; clear hSw; go_simp; (try with_reducible rfl)
          (try simp only [List.getElem_toArray, List.getElem_cons_succ, List.getElem_cons_zero])
          (try simp only [Act.put, List.setIfInBounds_toArray, List.set_cons_zero, List.set_cons_succ])
          refine wpTill_pure (i := 4) (v := ?_) rfl (by kernel_rfl) (by kernel_rfl) (by kernel_rfl) (by kernel_rfl) (fun _ _ _ h => h) (Or.inl ⟨by rfl, ?_⟩) (fun _ => hC0) ?_
          rotate_left
          · intro w hSw; clear hSw; go_simp; (try with_reducible rfl)
          (try simp only [List.getElem_toArray, List.getElem_cons_succ, List.getElem_cons_zero])
          (try simp only [Act.put, List.setIfInBounds_toArray, List.set_cons_zero, List.set_cons_succ])
          refine wpTill_take (i := 5) (v := ?_) rfl (by kernel_rfl) (by kernel_rfl) (by kernel_rfl) (by kernel_rfl) (by kernel_rfl) (by kernel_rfl) (fun _ _ _ h => h) (Or.inl ⟨by rfl, ?_⟩) hC0 ?_
          rotate_left
          · intro w hSw; (try dsimp only at hSw); obtain ⟨⟨z0, z1, z2⟩, z3, z4, z5⟩ := hSw; go_simp; (try with_reducible rfl)
          (try simp only [List.getElem_toArray, List.getElem_cons_succ, List.getElem_cons_zero])
          (try simp only [Act.put, List.setIfInBounds_toArray, List.set_cons_zero, List.set_cons_succ])
          refine wpTill_pure (i := 6) (v := ?_) rfl (by kernel_rfl) (by kernel_rfl) (by kernel_rfl) (by kernel_rfl) (fun _ _ _ h => h) (Or.inl ⟨by rfl, ?_⟩) (fun _ => hC0) ?_
          rotate_left
          · intro w hSw; clear hSw; go_simp; (try with_reducible rfl)
          (try simp only [List.getElem_toArray, List.getElem_cons_succ, List.getElem_cons_zero])
          (try simp only [Act.put, List.setIfInBounds_toArray, List.set_cons_zero, List.set_cons_succ])
          refine wpTill_pure (i := 7) (v := ?_) rfl (by kernel_rfl) (by kernel_rfl) (by kernel_rfl) (by kernel_rfl) (fun _ _ _ h => h) (Or.inl ⟨by rfl, ?_⟩) (fun _ => hC0) ?_
          rotate_left
          · intro w hSw; clear hSw; go_simp; (try with_reducible rfl)
          (try simp only [List.getElem_toArray, List.getElem_cons_succ, List.getElem_cons_zero])
          (try simp only [Act.put, List.setIfInBounds_toArray, List.set_cons_zero, List.set_cons_succ])
          refine wpTill_pure (i := 8) (v := ?_) rfl (by kernel_rfl) (by kernel_rfl) (by kernel_rfl) (by kernel_rfl) (fun _ _ _ h => h) (Or.inl ⟨by rfl, ?_⟩) (fun _ => hC0) ?_
          rotate_left
          · intro w hSw; clear hSw; go_simp; (try with_reducible rfl)
          (try simp only [List.getElem_toArray, List.getElem_cons_succ, List.getElem_cons_zero])
          (try simp only [Act.put, List.setIfInBounds_toArray, List.set_cons_zero, List.set_cons_succ])
          refine wpTill_take (i := 9) (v := ?_) rfl (by kernel_rfl) (by kernel_rfl) (by kernel_rfl) (by kernel_rfl) (by kernel_rfl) (by kernel_rfl) (fun _ _ _ h => h) (Or.inl ⟨by rfl, ?_⟩) hC0 ?_
          rotate_left
          · intro w hSw; (try dsimp only at hSw); obtain ⟨⟨z0, z1, z2⟩, z3, z4, z5⟩ := hSw; go_simp; (try with_reducible rfl)
          (try simp only [List.getElem_toArray, List.getElem_cons_succ, List.getElem_cons_zero])
          (try simp only [Act.put, List.setIfInBounds_toArray, List.set_cons_zero, List.set_cons_succ])
          refine wpTill_one (k := 10) (by kernel_rfl) rfl (fun K hK => ?_)
          (try simp only [List.getElem_toArray, List.getElem_cons_succ, List.getElem_cons_zero])
          go_simp
          refine (subR_any ta.val tv.val _ _ _ ((unhide HRA).below bd0) ((unhide HRV).below bd0) 200 (unhide HSA) (unhide HSV) (unhide HK2)).mono ?_
          rintro e xw_1 ⟨xv_1, rfl, hv_1, hb_1⟩
          have cc_1 := below_step bd0 hb_1
          have hC_1 : (fun w' : World => (w'.cell? ⟨ba, oa + i * 3, none⟩ = some (.bool ta.s) ∧ w'.cell? ⟨ba, oa + i * 3 + 1, none⟩ = some (.slice ta.a1 ta.n1 ta.c1) ∧ w'.cell? ⟨ba, oa + i * 3 + 2, none⟩ = some (.slice ta.a2 ta.n2 ta.c2)) ∧ w'.cell? ⟨bv, ov + i * 3, none⟩ = some (.bool tv.s) ∧ w'.cell? ⟨bv, ov + i * 3 + 1, none⟩ = some (.slice tv.a1 tv.n1 tv.c1) ∧ w'.cell? ⟨bv, ov + i * 3 + 2, none⟩ = some (.slice tv.a2 tv.n2 tv.c2)) xw_1 := unhide HCC _ cc_1
          refine hK.out _ _ (fun _ => hC_1) ?_
          clear hK K
          (try simp only [Act.put, List.setIfInBounds_toArray, List.set_cons_zero, List.set_cons_succ])
          refine wpTill_pure (i := 11) (v := ?_) rfl (by kernel_rfl) (by kernel_rfl) (by kernel_rfl) (by kernel_rfl) (fun _ _ _ h => h) (Or.inl ⟨by rfl, ?_⟩) (fun _ => hC_1) ?_
          rotate_left
          · intro w hSw; clear hSw; go_simp; (try with_reducible rfl)
          (try simp only [List.getElem_toArray, List.getElem_cons_succ, List.getElem_cons_zero])
          (try simp only [Act.put, List.setIfInBounds_toArray, List.set_cons_zero, List.set_cons_succ])
          obtain ⟨t5, rfl, r5⟩ := tri_of hv_1
          simp only [Tri.val]
          have S8 := (unhide HT).keep cc_1
          have ⟨⟨y0, y1, y2⟩, f0, f1, f2⟩ := S8.cells i (by rw [unhide HUS]; exact hlt)
          have FZ := S8.set i (by rw [unhide HUS]; exact hlt) t5 _ r5
          obtain ⟨W9, hW9⟩ : ∃ W, ((xw_1.setCell ⟨G, i * 3, none⟩ (.bool t5.s)).setCell ⟨G, i * 3 + 1, none⟩ (.slice t5.a1 t5.n1 t5.c1)).setCell ⟨G, i * 3 + 2, none⟩ (.slice t5.a2 t5.n2 t5.c2) = W := ⟨_, rfl⟩
          rw [hW9, unhide HGI, fill_set] at FZ
          have HFZ := hide FZ
          clear S8 FZ r5 hv_1
          refine wpTill_one (k := 12) (by kernel_rfl) rfl (fun K hK => ?_)
          (try simp only [List.getElem_toArray, List.getElem_cons_succ, List.getElem_cons_zero])
          go_simp
          refine hK.out _ _ (fun h => absurd (h.symm.trans (by kernel_rfl)) Bool.false_ne_true) ?_
          clear hK K
          (try simp only [Act.put, List.setIfInBounds_toArray, List.set_cons_zero, List.set_cons_succ])
          refine wpTill_done (by kernel_rfl) ?_ _
          clear HCC HRA HRV HSA HSV y0 y1 y2 f0 f1 f2 hW9 hC0 hC_1 cc_1 bd0 hb_1
          go_wp2_with fail
          exact ⟨⟨i + 1, _, by go_num, hlt, by rw [List.length_set]; exact unhide HUS, unhide HFZ⟩, by simp [intOf]; omega⟩
        · obtain rfl : i = n := by omega
          have e1 : ¬ (i : Int) < (i : Int) := by omega
          have hlaw := T.law (by omega)
          rw [hus] at hlaw
          have hlaw : LawIs wr (.slice (some ⟨G, 0, none⟩) i i) (row gr i) := hlaw
          have HLG := hide hlaw
          have HBG := hide T.bl
          have hml := Mdp.am_lt Mdp.lt (bf (row gr i)) (n := i) (by omega)
          have hmg := Mdp.am_lt Mdp.gt (bf (row gr i)) (n := i) (by omega)
          have HF1 : Hid (∀ W, Below wr.heap.size wr W → Calls Tryz.prog 42 #[.slice (some ⟨G, 0, none⟩) i i, .func (.func 43) #[] #[]] W fun e w' => e = .returned (.int .i64 (Mdp.am Mdp.lt (bf (row gr i)) i : Nat)) ∧ Below W.heap.size W w') := fun W hW => by
            have := first_any (.slice (some ⟨G, 0, none⟩) i i) (row gr i) 43 Mdp.lt W ((unhide HLG).below hW) (by rw [row_length]; omega) (fun args w => by go_simp) (fun u u' hu hu' W va vb ha hb => by
              rw [row_length] at hu hu'
              exact bounds1_any va vb _ _ W ha hb 401 (by rw [row_get hu]; exact unhide HRG u hu) (by rw [row_get hu']; exact unhide HRG u' hu') (by rw [KKe]; omega))
            rw [row_length] at this
            exact this
          have HF2 : Hid (∀ W, Below wr.heap.size wr W → Calls Tryz.prog 42 #[.slice (some ⟨G, 0, none⟩) i i, .func (.func 44) #[] #[]] W fun e w' => e = .returned (.int .i64 (Mdp.am Mdp.gt (bf (row gr i)) i : Nat)) ∧ Below W.heap.size W w') := fun W hW => by
            have := first_any (.slice (some ⟨G, 0, none⟩) i i) (row gr i) 44 Mdp.gt W ((unhide HLG).below hW) (by rw [row_length]; omega) (fun args w => by go_simp) (fun u u' hu hu' W va vb ha hb => by
              rw [row_length] at hu hu'
              exact bounds2_any va vb _ _ W ha hb 401 (by rw [row_get hu]; exact unhide HRG u hu) (by rw [row_get hu']; exact unhide HRG u' hu') (by rw [KKe]; omega))
            rw [row_length] at this
            exact this
          have HAL : Hid (∀ u, u < i → gr (Mdp.am Mdp.lt (bf (row gr i)) i) ≤ gr u) := fun u hu => by
            have := Mdp.am_min (bf (row gr i)) hu
            rw [bf_row hu, bf_row hml] at this
            exact this
          have HAG : Hid (∀ u, u < i → gr u ≤ gr (Mdp.am Mdp.gt (bf (row gr i)) i)) := fun u hu => by
            have := Mdp.am_max (bf (row gr i)) hu
            rw [bf_row hu, bf_row hmg] at this
            exact this
          obtain ⟨pl, hpl⟩ : ∃ p, Mdp.am Mdp.lt (bf (row gr i)) i = p := ⟨_, rfl⟩
          obtain ⟨pg, hpg⟩ : ∃ p, Mdp.am Mdp.gt (bf (row gr i)) i = p := ⟨_, rfl⟩
          rw [hpl] at hml HF1 HAL
          rw [hpg] at hmg HF2 HAG
          have HPL := hide hml
          have HPG := hide hmg
          have ⟨⟨l0, l1, l2⟩, _⟩ := T.cells pl (by rw [hus]; exact hml)
          have ⟨⟨m0, m1, m2⟩, _⟩ := T.cells pg (by rw [hus]; exact hmg)
          have rl := T.rat pl (by rw [hus]; exact hml)
          have rg := T.rat pg (by rw [hus]; exact hmg)
          rw [fill_get hml hml] at rl
          rw [fill_get hmg hmg] at rg
          obtain ⟨tl, htl⟩ : ∃ t, us[pl]! = t := ⟨_, rfl⟩
          obtain ⟨tg, htg⟩ : ∃ t, us[pg]! = t := ⟨_, rfl⟩
          rw [htl] at l0 l1 l2 rl
          rw [htg] at m0 m1 m2 rg
          have hGl : G < wr.heap.size := (Array.getElem?_eq_some_iff.1 T.row).1
          have HCL : Hid (∀ W, Below wr.heap.size wr W → (W.cell? ⟨G, pl * 3, none⟩ = some (.bool tl.s) ∧ W.cell? ⟨G, pl * 3 + 1, none⟩ = some (.slice tl.a1 tl.n1 tl.c1) ∧ W.cell? ⟨G, pl * 3 + 2, none⟩ = some (.slice tl.a2 tl.n2 tl.c2)) ∧ (W.cell? ⟨G, pg * 3, none⟩ = some (.bool tg.s) ∧ W.cell? ⟨G, pg * 3 + 1, none⟩ = some (.slice tg.a1 tg.n1 tg.c1) ∧ W.cell? ⟨G, pg * 3 + 2, none⟩ = some (.slice tg.a2 tg.n2 tg.c2)) ∧ RatIs W tl.val (gr pl) ∧ RatIs W tg.val (gr pg)) := fun W hW => by
            rw [hW.cell (p := ⟨G, pl * 3, none⟩) hGl, hW.cell (p := ⟨G, pl * 3 + 1, none⟩) hGl, hW.cell (p := ⟨G, pl * 3 + 2, none⟩) hGl, hW.cell (p := ⟨G, pg * 3, none⟩) hGl, hW.cell (p := ⟨G, pg * 3 + 1, none⟩) hGl, hW.cell (p := ⟨G, pg * 3 + 2, none⟩) hGl]
            exact ⟨⟨l0, l1, l2⟩, ⟨m0, m1, m2⟩, rl.below hW, rg.below hW⟩
          have il0 : (0 : Int) ≤ (pl : Int) := by omega
          have il1 : (pl : Int) < (i : Int) := by omega
          have ig0 : (0 : Int) ≤ (pg : Int) := by omega
          have ig1 : (pg : Int) < (i : Int) := by omega
          clear T hus hlaw hml hmg hpl hpg l0 l1 l2 m0 m1 m2 rl rg htl htg hGl HT HUS
          go_wp2_with fail
          refine (unhide HF1 wr (Below.refl _ _)).mono ?_
          rintro e w5 ⟨rfl, hb5⟩
          have ⟨⟨l0, l1, l2⟩, _, rl, _⟩ := unhide HCL w5 hb5
          have bA := alloc_below w5 (.cells #[.bool tl.s, .slice tl.a1 tl.n1 tl.c1, .slice tl.a2 tl.n2 tl.c2] 33)
          have XL := BoxIs.new rl
          have B6 := below_step hb5 bA
          obtain ⟨W6, hW6⟩ : ∃ W, w5.alloc (.cells #[.bool tl.s, .slice tl.a1 tl.n1 tl.c1, .slice tl.a2 tl.n2 tl.c2] 33) = W := ⟨_, rfl⟩
          obtain ⟨gl, hgl⟩ : ∃ x, w5.heap.size = x := ⟨_, rfl⟩
          rw [hW6] at XL B6
          rw [hgl] at XL
          have HXL' := hide XL
          have HB6 := hide B6
          clear hb5 rl bA XL B6
          go_wp2_with fail
          clear hW6 hgl l0 l1 l2
          refine (unhide HF2 W6 (unhide HB6)).mono ?_
          rintro e w7 ⟨rfl, hb7⟩
          have ⟨_, ⟨m0, m1, m2⟩, _, rg⟩ := unhide HCL w7 (below_step (unhide HB6) hb7)
          have bA := alloc_below w7 (.cells #[.bool tg.s, .slice tg.a1 tg.n1 tg.c1, .slice tg.a2 tg.n2 tg.c2] 33)
          have XG := BoxIs.new rg
          have B8 := below_step (below_step (unhide HB6) hb7) bA
          have XL8 := (unhide HXL').keep (below_step hb7 bA)
          obtain ⟨W8, hW8⟩ : ∃ W, w7.alloc (.cells #[.bool tg.s, .slice tg.a1 tg.n1 tg.c1, .slice tg.a2 tg.n2 tg.c2] 33) = W := ⟨_, rfl⟩
          obtain ⟨gg, hgg⟩ : ∃ x, w7.heap.size = x := ⟨_, rfl⟩
          rw [hW8] at XG B8 XL8
          rw [hgg] at XG
          have HF8 : Hid (∀ W, Below W8.heap.size W8 W → BoxIs W gs ts (b / (((1 : Int) : Rat) - b)) ∧ BoxIs W gl tl (gr pl) ∧ BoxIs W gg tg (gr pg) ∧ LawIs W (.slice aa i ca) (row (Mdp.T (mdl K b) (bf xs)) i)) := fun W hW => ⟨unhide HTB _ (below_step (unhide HBG) (below_step B8 hW)), XL8.keep hW, XG.keep hW, (unhide HLA).below (below_step (unhide HBX) (below_step (unhide HBG) (below_step B8 hW)))⟩
          have HC8 : Hid (∀ W, Below W8.heap.size W8 W → (fun w' : World => (w'.cell? ⟨gs, 0, none⟩ = some (.bool ts.s) ∧ w'.cell? ⟨gs, 1, none⟩ = some (.slice ts.a1 ts.n1 ts.c1) ∧ w'.cell? ⟨gs, 2, none⟩ = some (.slice ts.a2 ts.n2 ts.c2)) ∧ (w'.cell? ⟨gl, 0, none⟩ = some (.bool tl.s) ∧ w'.cell? ⟨gl, 1, none⟩ = some (.slice tl.a1 tl.n1 tl.c1) ∧ w'.cell? ⟨gl, 2, none⟩ = some (.slice tl.a2 tl.n2 tl.c2)) ∧ w'.cell? ⟨gg, 0, none⟩ = some (.bool tg.s) ∧ w'.cell? ⟨gg, 1, none⟩ = some (.slice tg.a1 tg.n1 tg.c1) ∧ w'.cell? ⟨gg, 2, none⟩ = some (.slice tg.a2 tg.n2 tg.c2)) W) := fun W hW => by
            obtain ⟨q1, q2, q3, _⟩ := unhide HF8 W hW
            exact ⟨q1.cells _ (Below.refl _ _), q2.cells _ (Below.refl _ _), q3.cells _ (Below.refl _ _)⟩
          have HB8 := hide (below_step (unhide HB1) (below_step (unhide HBX) (below_step (unhide HBG) B8)))
          have HRA : Hid (∀ r, RS r 1000 → ∀ v W, Below W8.heap.size W8 W → RatIs W v r → Calls Tryz.prog 45 #[.slice aa i ca, v] W (RowPost W (rsd (row (Mdp.T (mdl K b) (bf xs)) i) r) i)) := fun r hr v W hW hv => by
            have := raised_any (.slice aa i ca) v (row (Mdp.T (mdl K b) (bf xs)) i) r 1000 W (unhide HF8 W hW).2.2.2 hv (fun j hj => by rw [row_length] at hj; rw [row_get hj]; exact (unhide HRT j hj).mono (by omega)) hr (by rw [KKe]; omega) (by rw [row_length]; omega)
            rw [row_length] at this
            exact this
          have HR1 := hide ((unhide HRD).mono (show 10 ≤ 500 by omega))
          have HR2 := hide ((unhide HRG pl (unhide HPL)).mono (show 401 ≤ 500 by omega))
          have HR3 := hide ((unhide HRG pg (unhide HPG)).mono (show 401 ≤ 500 by omega))
          have HR4 := hide (((unhide HRD).mul (unhide HRG pl (unhide HPL))).mono (show 10 + 401 ≤ 1000 by omega))
          have HR5 := hide (((unhide HRD).mul (unhide HRG pg (unhide HPG))).mono (show 10 + 401 ≤ 1000 by omega))
          clear hb7 rg bA XG B8 XL8
          go_wp2_with fail
          clear hW8 hgg m0 m1 m2
          refine wp_region_hold (fun w' : World => (w'.cell? ⟨gs, 0, none⟩ = some (.bool ts.s) ∧ w'.cell? ⟨gs, 1, none⟩ = some (.slice ts.a1 ts.n1 ts.c1) ∧ w'.cell? ⟨gs, 2, none⟩ = some (.slice ts.a2 ts.n2 ts.c2)) ∧ (w'.cell? ⟨gl, 0, none⟩ = some (.bool tl.s) ∧ w'.cell? ⟨gl, 1, none⟩ = some (.slice tl.a1 tl.n1 tl.c1) ∧ w'.cell? ⟨gl, 2, none⟩ = some (.slice tl.a2 tl.n2 tl.c2)) ∧ w'.cell? ⟨gg, 0, none⟩ = some (.bool tg.s) ∧ w'.cell? ⟨gg, 1, none⟩ = some (.slice tg.a1 tg.n1 tg.c1) ∧ w'.cell? ⟨gg, 2, none⟩ = some (.slice tg.a2 tg.n2 tg.c2)) (by kernel_rfl) ?_
          have bd0 : Below W8.heap.size W8 W8.drew := (Below.refl _ _).drew
          have hC0 : (fun w' : World => (w'.cell? ⟨gs, 0, none⟩ = some (.bool ts.s) ∧ w'.cell? ⟨gs, 1, none⟩ = some (.slice ts.a1 ts.n1 ts.c1) ∧ w'.cell? ⟨gs, 2, none⟩ = some (.slice ts.a2 ts.n2 ts.c2)) ∧ (w'.cell? ⟨gl, 0, none⟩ = some (.bool tl.s) ∧ w'.cell? ⟨gl, 1, none⟩ = some (.slice tl.a1 tl.n1 tl.c1) ∧ w'.cell? ⟨gl, 2, none⟩ = some (.slice tl.a2 tl.n2 tl.c2)) ∧ w'.cell? ⟨gg, 0, none⟩ = some (.bool tg.s) ∧ w'.cell? ⟨gg, 1, none⟩ = some (.slice tg.a1 tg.n1 tg.c1) ∧ w'.cell? ⟨gg, 2, none⟩ = some (.slice tg.a2 tg.n2 tg.c2)) W8.drew := unhide HC8 _ bd0
          refine wpHold_take (i := 0) (v := ?_) rfl (by kernel_rfl) (by kernel_rfl) (by kernel_rfl) (fun _ _ _ h => h) (Or.inl ⟨by rfl, ?_⟩) hC0 ?_
          rotate_left
          · intro w hSw; clear hSw; go_simp; (try with_reducible rfl)
          (try simp only [List.getElem_toArray, List.getElem_cons_succ, List.getElem_cons_zero])
          (try simp only [Act.put, List.setIfInBounds_toArray, List.set_cons_zero, List.set_cons_succ])
          refine wpHold_take (i := 1) (v := ?_) rfl (by kernel_rfl) (by kernel_rfl) (by kernel_rfl) (fun _ _ _ h => h) (Or.inl ⟨by rfl, ?_⟩) hC0 ?_
          rotate_left
          · intro w hSw; (try dsimp only at hSw); obtain ⟨⟨z0, z1, z2⟩, ⟨z3, z4, z5⟩, z6, z7, z8⟩ := hSw; go_simp; (try with_reducible rfl)
          (try simp only [List.getElem_toArray, List.getElem_cons_succ, List.getElem_cons_zero])
          (try simp only [Act.put, List.setIfInBounds_toArray, List.set_cons_zero, List.set_cons_succ])
          refine wpHold_take (i := 2) (v := ?_) rfl (by kernel_rfl) (by kernel_rfl) (by kernel_rfl) (fun _ _ _ h => h) (Or.inl ⟨by rfl, ?_⟩) hC0 ?_
          rotate_left
          · intro w hSw; (try dsimp only at hSw); obtain ⟨⟨z0, z1, z2⟩, ⟨z3, z4, z5⟩, z6, z7, z8⟩ := hSw; go_simp; (try with_reducible rfl)
          (try simp only [List.getElem_toArray, List.getElem_cons_succ, List.getElem_cons_zero])
          (try simp only [Act.put, List.setIfInBounds_toArray, List.set_cons_zero, List.set_cons_succ])
          refine wpHold_take (i := 5) (v := ?_) rfl (by kernel_rfl) (by kernel_rfl) (by kernel_rfl) (fun _ _ _ h => h) (Or.inl ⟨by rfl, ?_⟩) hC0 ?_
          rotate_left
          · intro w hSw; clear hSw; go_simp; (try with_reducible rfl)
          (try simp only [List.getElem_toArray, List.getElem_cons_succ, List.getElem_cons_zero])
          (try simp only [Act.put, List.setIfInBounds_toArray, List.set_cons_zero, List.set_cons_succ])
          refine wpHold_take (i := 6) (v := ?_) rfl (by kernel_rfl) (by kernel_rfl) (by kernel_rfl) (fun _ _ _ h => h) (Or.inl ⟨by rfl, ?_⟩) hC0 ?_
          rotate_left
          · intro w hSw; (try dsimp only at hSw); obtain ⟨⟨z0, z1, z2⟩, ⟨z3, z4, z5⟩, z6, z7, z8⟩ := hSw; go_simp; (try with_reducible rfl)
          (try simp only [List.getElem_toArray, List.getElem_cons_succ, List.getElem_cons_zero])
          (try simp only [Act.put, List.setIfInBounds_toArray, List.set_cons_zero, List.set_cons_succ])
          refine wpHold_take (i := 7) (v := ?_) rfl (by kernel_rfl) (by kernel_rfl) (by kernel_rfl) (fun _ _ _ h => h) (Or.inl ⟨by rfl, ?_⟩) hC0 ?_
          rotate_left
          · intro w hSw; (try dsimp only at hSw); obtain ⟨⟨z0, z1, z2⟩, ⟨z3, z4, z5⟩, z6, z7, z8⟩ := hSw; go_simp; (try with_reducible rfl)
          (try simp only [List.getElem_toArray, List.getElem_cons_succ, List.getElem_cons_zero])
          (try simp only [Act.put, List.setIfInBounds_toArray, List.set_cons_zero, List.set_cons_succ])
          refine wpHold_one (k := 3) (by kernel_rfl) rfl (fun K hK => ?_)
          (try simp only [List.getElem_toArray, List.getElem_cons_succ, List.getElem_cons_zero])
          go_simp
          refine (mulR_any ts.val tl.val _ _ _ (unhide HF8 _ bd0).1.2 (unhide HF8 _ bd0).2.1.2 500 (unhide HR1) (unhide HR2) (by rw [KKe]; omega)).mono ?_
          rintro e xw_1 ⟨xv_1, rfl, hv_1, hb_1⟩
          have cc_1 := below_step bd0 hb_1
          have hC_1 : (fun w' : World => (w'.cell? ⟨gs, 0, none⟩ = some (.bool ts.s) ∧ w'.cell? ⟨gs, 1, none⟩ = some (.slice ts.a1 ts.n1 ts.c1) ∧ w'.cell? ⟨gs, 2, none⟩ = some (.slice ts.a2 ts.n2 ts.c2)) ∧ (w'.cell? ⟨gl, 0, none⟩ = some (.bool tl.s) ∧ w'.cell? ⟨gl, 1, none⟩ = some (.slice tl.a1 tl.n1 tl.c1) ∧ w'.cell? ⟨gl, 2, none⟩ = some (.slice tl.a2 tl.n2 tl.c2)) ∧ w'.cell? ⟨gg, 0, none⟩ = some (.bool tg.s) ∧ w'.cell? ⟨gg, 1, none⟩ = some (.slice tg.a1 tg.n1 tg.c1) ∧ w'.cell? ⟨gg, 2, none⟩ = some (.slice tg.a2 tg.n2 tg.c2)) xw_1 := unhide HC8 _ cc_1
          refine hK.out _ _ hC_1 ?_
          clear hK K
          (try simp only [Act.put, List.setIfInBounds_toArray, List.set_cons_zero, List.set_cons_succ])
          refine wpHold_one (k := 4) (by kernel_rfl) rfl (fun K hK => ?_)
          (try simp only [List.getElem_toArray, List.getElem_cons_succ, List.getElem_cons_zero])
          go_simp
          refine (unhide HRA _ (unhide HR4) _ _ cc_1 hv_1).mono ?_
          rintro e xw_2 ⟨xv_2, rfl, hv_2, hb_2⟩
          have cc_2 := below_step cc_1 hb_2
          have hC_2 : (fun w' : World => (w'.cell? ⟨gs, 0, none⟩ = some (.bool ts.s) ∧ w'.cell? ⟨gs, 1, none⟩ = some (.slice ts.a1 ts.n1 ts.c1) ∧ w'.cell? ⟨gs, 2, none⟩ = some (.slice ts.a2 ts.n2 ts.c2)) ∧ (w'.cell? ⟨gl, 0, none⟩ = some (.bool tl.s) ∧ w'.cell? ⟨gl, 1, none⟩ = some (.slice tl.a1 tl.n1 tl.c1) ∧ w'.cell? ⟨gl, 2, none⟩ = some (.slice tl.a2 tl.n2 tl.c2)) ∧ w'.cell? ⟨gg, 0, none⟩ = some (.bool tg.s) ∧ w'.cell? ⟨gg, 1, none⟩ = some (.slice tg.a1 tg.n1 tg.c1) ∧ w'.cell? ⟨gg, 2, none⟩ = some (.slice tg.a2 tg.n2 tg.c2)) xw_2 := unhide HC8 _ cc_2
          refine hK.out _ _ hC_2 ?_
          clear hK K
          (try simp only [Act.put, List.setIfInBounds_toArray, List.set_cons_zero, List.set_cons_succ])
          refine wpHold_one (k := 8) (by kernel_rfl) rfl (fun K hK => ?_)
          (try simp only [List.getElem_toArray, List.getElem_cons_succ, List.getElem_cons_zero])
          go_simp
          refine (mulR_any ts.val tg.val _ _ _ (unhide HF8 _ cc_2).1.2 (unhide HF8 _ cc_2).2.2.1.2 500 (unhide HR1) (unhide HR3) (by rw [KKe]; omega)).mono ?_
          rintro e xw_3 ⟨xv_3, rfl, hv_3, hb_3⟩
          have cc_3 := below_step cc_2 hb_3
          have hC_3 : (fun w' : World => (w'.cell? ⟨gs, 0, none⟩ = some (.bool ts.s) ∧ w'.cell? ⟨gs, 1, none⟩ = some (.slice ts.a1 ts.n1 ts.c1) ∧ w'.cell? ⟨gs, 2, none⟩ = some (.slice ts.a2 ts.n2 ts.c2)) ∧ (w'.cell? ⟨gl, 0, none⟩ = some (.bool tl.s) ∧ w'.cell? ⟨gl, 1, none⟩ = some (.slice tl.a1 tl.n1 tl.c1) ∧ w'.cell? ⟨gl, 2, none⟩ = some (.slice tl.a2 tl.n2 tl.c2)) ∧ w'.cell? ⟨gg, 0, none⟩ = some (.bool tg.s) ∧ w'.cell? ⟨gg, 1, none⟩ = some (.slice tg.a1 tg.n1 tg.c1) ∧ w'.cell? ⟨gg, 2, none⟩ = some (.slice tg.a2 tg.n2 tg.c2)) xw_3 := unhide HC8 _ cc_3
          refine hK.out _ _ hC_3 ?_
          clear hK K
          (try simp only [Act.put, List.setIfInBounds_toArray, List.set_cons_zero, List.set_cons_succ])
          refine wpHold_one (k := 9) (by kernel_rfl) rfl (fun K hK => ?_)
          (try simp only [List.getElem_toArray, List.getElem_cons_succ, List.getElem_cons_zero])
          go_simp
          refine (unhide HRA _ (unhide HR5) _ _ cc_3 hv_3).mono ?_
          rintro e xw_4 ⟨xv_4, rfl, hv_4, hb_4⟩
          have cc_4 := below_step cc_3 hb_4
          have hC_4 : (fun w' : World => (w'.cell? ⟨gs, 0, none⟩ = some (.bool ts.s) ∧ w'.cell? ⟨gs, 1, none⟩ = some (.slice ts.a1 ts.n1 ts.c1) ∧ w'.cell? ⟨gs, 2, none⟩ = some (.slice ts.a2 ts.n2 ts.c2)) ∧ (w'.cell? ⟨gl, 0, none⟩ = some (.bool tl.s) ∧ w'.cell? ⟨gl, 1, none⟩ = some (.slice tl.a1 tl.n1 tl.c1) ∧ w'.cell? ⟨gl, 2, none⟩ = some (.slice tl.a2 tl.n2 tl.c2)) ∧ w'.cell? ⟨gg, 0, none⟩ = some (.bool tg.s) ∧ w'.cell? ⟨gg, 1, none⟩ = some (.slice tg.a1 tg.n1 tg.c1) ∧ w'.cell? ⟨gg, 2, none⟩ = some (.slice tg.a2 tg.n2 tg.c2)) xw_4 := unhide HC8 _ cc_4
          refine hK.out _ _ hC_4 ?_
          clear hK K
          (try simp only [Act.put, List.setIfInBounds_toArray, List.set_cons_zero, List.set_cons_succ])
          refine wpHold_take (i := 10) (v := ?_) rfl (by kernel_rfl) (by kernel_rfl) (by kernel_rfl) (fun _ _ _ h => h) (Or.inl ⟨by rfl, ?_⟩) hC_4 ?_
          rotate_left
          · intro w hSw; clear hSw; go_simp; (try with_reducible rfl)
          (try simp only [List.getElem_toArray, List.getElem_cons_succ, List.getElem_cons_zero])
          (try simp only [Act.put, List.setIfInBounds_toArray, List.set_cons_zero, List.set_cons_succ])
          refine wpHold_take (i := 11) (v := ?_) rfl (by kernel_rfl) (by kernel_rfl) (by kernel_rfl) (fun _ _ _ h => h) (Or.inl ⟨by rfl, ?_⟩) hC_4 ?_
          rotate_left
          · intro w hSw; clear hSw; go_simp; (try with_reducible rfl)
          (try simp only [List.getElem_toArray, List.getElem_cons_succ, List.getElem_cons_zero])
          (try simp only [Act.put, List.setIfInBounds_toArray, List.set_cons_zero, List.set_cons_succ])
          refine wpHold_take (i := 12) (v := ?_) rfl (by kernel_rfl) (by kernel_rfl) (by kernel_rfl) (fun _ _ _ h => h) (Or.inl ⟨by rfl, ?_⟩) hC_4 ?_
          rotate_left
          · intro w hSw; clear hSw; go_simp; (try with_reducible rfl)
          (try simp only [List.getElem_toArray, List.getElem_cons_succ, List.getElem_cons_zero])
          (try simp only [Act.put, List.setIfInBounds_toArray, List.set_cons_zero, List.set_cons_succ])
          refine wpHold_done (by kernel_rfl) ?_ _
          have HL1 := hide ((hv_2.below hb_3).below hb_4)
          have HL2 := hide hv_4
          obtain ⟨a1_, c1_, rfl, _, _, _⟩ := hv_2
          obtain ⟨a2_, c2_, rfl, _, _, _⟩ := hv_4
          rw [row_length] at HL1 HL2
          rw [row_length, row_length]
          have HB9 := hide (below_step (unhide HB8) cc_4)
          clear hC0 hC_1 hC_2 hC_3 hC_4 cc_1 cc_2 cc_3 cc_4 bd0 hb_1 hb_2 hb_3 hb_4 hv_1 hv_3
          go_wp2
          go_ret3
          exact Or.inl ⟨unhide HGM, by rw [unhide HXL]; exact (unhide HN).symm, _, _, gr pl, gr pg, rfl, by rw [unhide HN]; exact unhide HL1, by rw [unhide HN]; exact unhide HL2, by rw [unhide HN, unhide HGR]; exact unhide HAL, by rw [unhide HN, unhide HGR]; exact unhide HAG, unhide HRG pl (unhide HPL), unhide HRG pg (unhide HPG), unhide HB9⟩

end Go.Proofs.YtaacibgmdeoikaaGreatDoor
