/- Arms: what one gets for its time. -/
import Derived.Test.YtjlohghknejjoaaGreatDoorGT4
namespace Go.Proofs.YtjlohghknejjoaaGreatDoor
open Go.RowKit Go.Sort Go.Shelf

/-- What comes next, where the others are left out; s rows and k places are written. -/
def rpm (p : Nat → Nat → Rat) (C : Nat → Bool) (s k : Nat) (i j : Nat) : Rat := if i < s ∨ (i = s ∧ j < k) then (if C j = true then p i j else 0) else 0
theorem rpm_next (p : Nat → Nat → Rat) {C : Nat → Bool} {s k : Nat} (hc : C k = true) (i j : Nat) : upm (rpm p C s k) s k (p s k) i j = rpm p C s (k + 1) i j := by
  unfold upm rpm
  by_cases h : i = s ∧ j = k
  · obtain ⟨rfl, rfl⟩ := h
    rw [if_pos ⟨rfl, rfl⟩, if_pos (Or.inr ⟨rfl, by omega⟩), if_pos hc]
  · rw [if_neg h]
    by_cases h2 : i < s ∨ (i = s ∧ j < k)
    · rw [if_pos h2, if_pos (h2.imp id (fun x => ⟨x.1, by omega⟩))]
    · rw [if_neg h2, if_neg (fun x => h2 (x.imp id (fun y => ⟨y.1, by have := y.2; by_cases e : j = k; exact absurd ⟨y.1, e⟩ h; omega⟩)))]
theorem rpm_skip (p : Nat → Nat → Rat) {C : Nat → Bool} {s k : Nat} (hc : C k = false) (i j : Nat) : rpm p C s k i j = rpm p C s (k + 1) i j := by
  unfold rpm
  by_cases h : i = s ∧ j = k
  · obtain ⟨rfl, rfl⟩ := h
    rw [if_neg (by omega), if_pos (Or.inr ⟨rfl, by omega⟩), if_neg (by rw [hc]; decide)]
  · by_cases h2 : i < s ∨ (i = s ∧ j < k)
    · rw [if_pos h2, if_pos (h2.imp id (fun x => ⟨x.1, by omega⟩))]
    · rw [if_neg h2, if_neg (fun x => h2 (x.imp id (fun y => ⟨y.1, by have := y.2; by_cases e : j = k; exact absurd ⟨y.1, e⟩ h; omega⟩)))]
theorem rpm_row (p : Nat → Nat → Rat) (C : Nat → Bool) {s n : Nat} (i j : Nat) (hj : j < n) : rpm p C s n i j = rpm p C (s + 1) 0 i j := by
  unfold rpm
  by_cases h : i < s ∨ (i = s ∧ j < n)
  · rw [if_pos h, if_pos (Or.inl (by omega))]
  · rw [if_neg h, if_neg (fun x => h (by rcases x with x | x; by_cases e : i = s; exact Or.inr ⟨e, hj⟩; exact Or.inl (by omega); omega))]
theorem rpm_none (p : Nat → Nat → Rat) (C : Nat → Bool) (i j : Nat) : rpm p C 0 0 i j = 0 := by
  unfold rpm
  rw [if_neg (by omega)]
theorem rpm_all (p : Nat → Nat → Rat) (C : Nat → Bool) {n i : Nat} (hi : i < n) (j : Nat) : rpm p C n 0 i j = if C j = true then p i j else 0 := by
  unfold rpm
  rw [if_pos (Or.inl hi)]
/-- What rates says. -/
def RatesPost (w : World) (a : Git.Arm) (C : Nat → Bool) (e : Ending) (w' : World) : Prop :=
  ∃ (v : Value) (N D : Nat → Rat), e = .returned v ∧ LawIs w' v (row (fun i => N i / D i) a.n) ∧ Git.Whl a C a.r N ∧ Git.Whl a C (fun _ => 1) D ∧ (∀ i, i < a.n → RS (N i / D i) (2 * XBn a.n)) ∧ Below w.heap.size w w'

set_option maxHeartbeats 16000000 in
set_option maxRecDepth 100000 in
set_option linter.unusedSimpArgs false in
theorem rates_any (v vw vs : Value) (gs : List Rat) (P : List (List Rat)) (b : Rat) (C : Nat → Bool) (w : World) (h : ArmIs w v gs P) (hw : RatIs w vw b) (hC : BRow w vs gs.length C) (sm : SmA gs P) (gm : GoodAr gs P) (rb : RS b 1) (h0 : 0 ≤ b) (h1 : b < 1) :
    Calls Tryz.prog 30 #[v, vw, vs] w (RatesPost w (arm gs P b) C) := by
  have KKe : KK = 1099511627776 := rfl
  have hok := good_aok (b := b) gm h0 h1
  obtain ⟨n, hn⟩ : ∃ n, gs.length = n := ⟨_, rfl⟩
  obtain ⟨p, hpe⟩ : ∃ p : Nat → Nat → Rat, p = fun i j => (P[i]!)[j]! := ⟨_, rfl⟩
  obtain ⟨m, l, rfl, hT, hS⟩ := h
  have hln := rows_len hS
  have hmn := law_len hT
  have gpl := gm.pl
  rw [gpl] at hln
  rw [hn] at hln hmn gpl
  obtain ⟨t, rfl, hwt⟩ := tri_of hw
  have X0 := ArmBox.new hT hS
  have b0 := alloc_below w (.cells #[.slice m.a m.n m.c, .slice l.a l.n l.c] 32)
  obtain ⟨W1, hW1⟩ : ∃ W, w.alloc (.cells #[.slice m.a m.n m.c, .slice l.a l.n l.c] 32) = W := ⟨_, rfl⟩
  obtain ⟨ba, hba⟩ : ∃ x, w.heap.size = x := ⟨_, rfl⟩
  rw [hW1] at X0 b0
  rw [hba] at X0
  have hXW := BoxIs.new (w := W1) (hwt.below b0)
  have b1 := alloc_below W1 (.cells #[.bool t.s, .slice t.a1 t.n1 t.c1, .slice t.a2 t.n2 t.c2] 37)
  obtain ⟨W0, hW0⟩ : ∃ W, W1.alloc (.cells #[.bool t.s, .slice t.a1 t.n1 t.c1, .slice t.a2 t.n2 t.c2] 37) = W := ⟨_, rfl⟩
  obtain ⟨bw, hbw⟩ : ∃ x, W1.heap.size = x := ⟨_, rfl⟩
  rw [hW0] at hXW b1
  rw [hbw] at hXW
  have X1 := X0.keep b1
  have HXW := hide hXW
  have HXA := hide X1
  have HB0 := hide (below_step b0 b1)
  have hB0 := below_step b0 b1
  have HCC0 : Hid (∀ W, Below W0.heap.size W0 W → W.cell? ⟨ba, 0, none⟩ = some (.slice m.a n m.c) ∧ W.cell? ⟨ba, 1, none⟩ = some (.slice l.a n l.c)) := fun W hW => by
    have := (unhide HXA).cells W hW
    rw [hmn, hln] at this
    exact this
  obtain ⟨av, cs, rfl, s1, s2, s3⟩ := hC
  rw [hn] at s1 s3 ⊢
  have hn1 : 1 ≤ n := by have := gm.n1; omega
  have hn5 : n ≤ 5 := by have := gm.n5; omega
  obtain ⟨bs, os, rfl, hbs, hcs⟩ := s3 (by omega)
  have HCB : Hid (∀ W, Below W0.heap.size W0 W → ∀ j, j < n → W.cell? ⟨bs, os + j, none⟩ = some (.bool (C j))) := fun W hW j hj => by
    rw [(below_step hB0 hW).cell (p := ⟨bs, os + j, none⟩) hbs]; exact hcs j hj
  have HPR : Hid (∃ bp op, l.a = some ⟨bp, op, none⟩ ∧ bp < W0.heap.size ∧ ∀ s, s < n → ∃ mm : Sl, W0.cell? ⟨bp, op + s, none⟩ = some (.slice mm.a mm.n mm.c) ∧ (∃ bl ol, mm.a = some ⟨bl, ol, none⟩ ∧ bl < W0.heap.size ∧ ∀ j, j < n → ∃ s1 a1 a2 n1 c1 n2 c2, W0.cell? ⟨bl, ol + j * 3, none⟩ = some (.bool s1) ∧ W0.cell? ⟨bl, ol + j * 3 + 1, none⟩ = some (.slice a1 n1 c1) ∧ W0.cell? ⟨bl, ol + j * 3 + 2, none⟩ = some (.slice a2 n2 c2) ∧ RatIs W0 (.agg #[.bool s1, .slice a1 n1 c1, .slice a2 n2 c2]) (p s j)) ∧ mm.n = n) := by
    obtain ⟨a, c, e, _, _, r3⟩ := X1.2.2
    obtain ⟨bp, op, ea, hlt, hc⟩ := r3 (by omega)
    have e1 : l.a = a := by injection e
    refine ⟨bp, op, by rw [e1, ea], hlt, fun s hs => ?_⟩
    obtain ⟨mm, k0, hL⟩ := hc s (by omega)
    have hnx := gm.nx s (by omega)
    rw [hn] at hnx
    refine ⟨mm, k0, ?_, by rw [law_len hL, hnx]⟩
    obtain ⟨al, cl', hle, _, _, l3⟩ := hL
    obtain ⟨bl, ol, ea, hbl, hcl⟩ := l3 (by rw [hnx]; omega)
    rw [hnx] at hcl
    refine ⟨bl, ol, by rw [← ea]; injection hle, hbl, ?_⟩
    rw [hpe]
    exact hcl
  have hxs : 2 * xb (sz 5 n) n + 40 * sz 5 n + 50 ≤ KK := xbn_small n (by omega)
  have HXB : Hid (16 * XBn n + 200 ≤ KK) := xbn_le n (by omega)
  have hrp : ∀ i j, i < n → j < n → RS (p i j) 1 := fun i j hi hj => by
    rw [hpe]
    exact sm.rp i j (by omega) (by rw [gm.nx i (by omega)]; omega)
  have hnn : ∀ i j, i < n → j < n → 0 ≤ p i j := fun i j hi hj => by
    rw [hpe]
    exact gm.nn i j (by omega) (by omega)
  have hon : ∀ i, i < n → Bth.ps (fun j => p i j) n = 1 := fun i hi => by
    have := gm.one i (by omega)
    rw [hn] at this
    rw [hpe]
    exact this
  have hsub : ∀ i, i < n → Bth.ps (fun j => if C j = true then p i j else 0) n ≤ 1 := fun i hi => by
    have := Mdp.ps_le (f := fun j => if C j = true then p i j else 0) (g := fun j => p i j) n (fun j hj => by
      show (if C j = true then p i j else 0) ≤ _
      by_cases e : C j = true
      · rw [if_pos e]; exact Rat.le_refl
      · rw [if_neg e]; exact hnn i j hi hj)
    rw [hon i hi] at this
    exact this
  have hget : ∀ i j, i < n → j < n → ((mrows n n (rpm p C n 0))[i]!)[j]! = if C j = true then p i j else 0 := fun i j hi hj => by
    rw [mrows_get hi, row_get hj, rpm_all p C hi]
  have HFOR : Hid (∀ W G B us vb qs, OneMat W0 W G B n us (rpm p C n 0) → LawIs W vb qs → qs.length = n → (∀ i, i < n → RS qs[i]! 1) → ∀ W', Below W.heap.size W W' → Calls Tryz.prog 59 #[vb, .slice (some ⟨G, 0, none⟩) n n, .agg #[.bool t.s, .slice t.a1 t.n1 t.c1, .slice t.a2 t.n2 t.c2]] W' (ForPost W' n (fun i => qs[i]!) (fun i j => ((mrows n n (rpm p C n 0))[i]!)[j]!) b)) := fun W G B us vb qs hM hq hl hr W' hW => by
    refine forever_any vb _ t.val qs (mrows n n (rpm p C n 0)) b n W' (hq.below hW) ((hM.keep hW).rows (by omega)) ((hXW.2.below hM.sum.bl).below hW) hl (mrows_length _ _ _) (fun i hi => by rw [mrows_get hi, row_length]) rb hr (fun i j hi hj => ?_) h0 h1 (fun i j hi hj => ?_) (fun i hi => ?_) hn1 (by omega) hxs
    · rw [hget i j hi hj]
      by_cases e : C j = true
      · rw [if_pos e]; exact hrp i j hi hj
      · rw [if_neg e]; exact RS.zero
    · rw [hget i j hi hj]
      by_cases e : C j = true
      · rw [if_pos e]; exact hnn i j hi hj
      · rw [if_neg e]; exact Rat.le_refl
    · rw [Bth.ps_congr n (fun j hj => hget i j hi hj)]
      exact hsub i hi
  have HFA : Hid (∀ W G B us, OneMat W0 W G B n us (rpm p C n 0) → ∀ W', Below W.heap.size W W' → Calls Tryz.prog 59 #[.slice m.a n m.c, .slice (some ⟨G, 0, none⟩) n n, .agg #[.bool t.s, .slice t.a1 t.n1 t.c1, .slice t.a2 t.n2 t.c2]] W' (ForPost W' n (fun i => gs[i]!) (fun i j => ((mrows n n (rpm p C n 0))[i]!)[j]!) b)) := fun W G B us hM =>
    unhide HFOR W G B us _ gs hM (by have := X1.2.1.below hM.sum.bl; simp only [Sl.val] at this; rw [hmn] at this; exact this) hn (fun i hi => sm.rg i (by omega))
  have HFB : Hid (∀ W G B us G2 gv, OneMat W0 W G B n us (rpm p C n 0) → SumsAt W0 W G2 gv (fill (fun _ => 1) n n) → gv.length = n → ∀ W', Below W.heap.size W W' → Calls Tryz.prog 59 #[.slice (some ⟨G2, 0, none⟩) n n, .slice (some ⟨G, 0, none⟩) n n, .agg #[.bool t.s, .slice t.a1 t.n1 t.c1, .slice t.a2 t.n2 t.c2]] W' (ForPost W' n (fun i => (row (fun _ => 1) n)[i]!) (fun i j => ((mrows n n (rpm p C n 0))[i]!)[j]!) b)) := fun W G B us G2 gv hM hS hl =>
    unhide HFOR W G B us _ (row (fun _ => 1) n) hM (by have := hS.law (by omega); rw [hl] at this; exact this) (row_length _ _) (fun i hi => by rw [row_get hi]; exact one_RS')
  have hwc : ∀ (g : Nat → Rat) (x : Nat → Rat), (∀ i, i < n → x i = g i + b * Bth.ps (fun j => ((mrows n n (rpm p C n 0))[i]!)[j]! * x j) n) → ∀ i, i < n → x i = g i + b * Bth.ps (fun j => p i j * Git.inC C x j) n := fun g x hx i hi => by
    have e := hx i hi
    have e2 : Bth.ps (fun j => ((mrows n n (rpm p C n 0))[i]!)[j]! * x j) n = Bth.ps (fun j => p i j * Git.inC C x j) n := Bth.ps_congr n (fun j hj => by
      rw [hget i j hi hj]
      unfold Git.inC
      split
      · rfl
      · grind)
    rw [e2] at e
    exact e
  have HWN0 : Hid (∀ x, (∀ i, i < n → x i = gs[i]! + b * Bth.ps (fun j => ((mrows n n (rpm p C n 0))[i]!)[j]! * x j) n) → Git.Whl (arm gs P b) C (arm gs P b).r x) := fun x hx i hi => by
    have hi' : i < n := by rw [← hn]; exact hi
    have := hwc _ x hx i hi'
    rw [hpe, ← hn] at this
    exact this
  have HWD : Hid (∀ x, (∀ i, i < n → x i = (row (fun _ => 1) n)[i]! + b * Bth.ps (fun j => ((mrows n n (rpm p C n 0))[i]!)[j]! * x j) n) → Git.Whl (arm gs P b) C (fun _ => 1) x) := fun x hx i hi => by
    have hi' : i < n := by rw [← hn]; exact hi
    have := hwc _ x hx i hi'
    rw [row_get hi', hpe, ← hn] at this
    exact this
  have HOK := hide hok
  have HNA : Hid ((arm gs P b).n = n) := hn
  have HPE := hide hpe
  unfold aval
  rw [hmn, hln] at hW1 ⊢
  simp only [Tri.val]
  clear hT hS X0 X1 b0 b1 hXW hwt hw hB0 s3 hcs hok sm gm rb h0 h1 hrp hnn hon hsub hget hwc hpe hln hmn gpl HFOR hn
  go_enter Tryz.func30, Tryz.ntmps30
  go_wp2_with fail
  clear hW1 hba hW0 hbw
  refine wp_region_hold (fun w' : World => w'.cell? ⟨ba, 0, none⟩ = some (.slice m.a n m.c) ∧ w'.cell? ⟨ba, 1, none⟩ = some (.slice l.a n l.c)) (by kernel_rfl) ?_
  have bd0 : Below W0.heap.size W0 W0.drew := (Below.refl _ _).drew
  obtain ⟨Wx, hWx⟩ : ∃ W, W0.drew = W := ⟨_, rfl⟩
  rw [hWx] at bd0 ⊢
  have hC0 : (fun w' : World => w'.cell? ⟨ba, 0, none⟩ = some (.slice m.a n m.c) ∧ w'.cell? ⟨ba, 1, none⟩ = some (.slice l.a n l.c)) Wx := unhide HCC0 _ bd0
  refine wpHold_take (i := 0) (v := ?_) rfl (by kernel_rfl) (by kernel_rfl) (by kernel_rfl) (fun _ _ _ h => h) (Or.inl ⟨by rfl, ?_⟩) hC0 ?_
  rotate_left
  · intro w hSw; clear hSw; go_simp; (try with_reducible rfl)
  (try simp only [List.getElem_toArray, List.getElem_cons_succ, List.getElem_cons_zero])
  (try simp only [Act.put, List.setIfInBounds_toArray, List.set_cons_zero, List.set_cons_succ])
  refine wpHold_take (i := 1) (v := ?_) rfl (by kernel_rfl) (by kernel_rfl) (by kernel_rfl) (fun _ _ _ h => h) (Or.inl ⟨by rfl, ?_⟩) hC0 ?_
  rotate_left
  · intro w hSw; (try dsimp only at hSw); obtain ⟨z0, z1⟩ := hSw; go_simp; (try with_reducible rfl)
  (try simp only [List.getElem_toArray, List.getElem_cons_succ, List.getElem_cons_zero])
  (try simp only [Act.put, List.setIfInBounds_toArray, List.set_cons_zero, List.set_cons_succ])
  refine wpHold_take (i := 2) (v := ?_) rfl (by kernel_rfl) (by kernel_rfl) (by kernel_rfl) (fun _ _ _ h => h) (Or.inl ⟨by rfl, ?_⟩) hC0 ?_
  rotate_left
  · intro w hSw; clear hSw; go_simp; (try with_reducible rfl)
  (try simp only [List.getElem_toArray, List.getElem_cons_succ, List.getElem_cons_zero])
  (try simp only [Act.put, List.setIfInBounds_toArray, List.set_cons_zero, List.set_cons_succ])
  refine wpHold_take (i := 4) (v := ?_) rfl (by kernel_rfl) (by kernel_rfl) (by kernel_rfl) (fun _ _ _ h => h) (Or.inl ⟨by rfl, ?_⟩) hC0 ?_
  rotate_left
  · intro w hSw; clear hSw; go_simp; (try with_reducible rfl)
  (try simp only [List.getElem_toArray, List.getElem_cons_succ, List.getElem_cons_zero])
  (try simp only [Act.put, List.setIfInBounds_toArray, List.set_cons_zero, List.set_cons_succ])
  refine wpHold_take (i := 5) (v := ?_) rfl (by kernel_rfl) (by kernel_rfl) (by kernel_rfl) (fun _ _ _ h => h) (Or.inl ⟨by rfl, ?_⟩) hC0 ?_
  rotate_left
  · intro w hSw; (try dsimp only at hSw); obtain ⟨z0, z1⟩ := hSw; go_simp; (try with_reducible rfl)
  (try simp only [List.getElem_toArray, List.getElem_cons_succ, List.getElem_cons_zero])
  (try simp only [Act.put, List.setIfInBounds_toArray, List.set_cons_zero, List.set_cons_succ])
  refine wpHold_take (i := 6) (v := ?_) rfl (by kernel_rfl) (by kernel_rfl) (by kernel_rfl) (fun _ _ _ h => h) (Or.inl ⟨by rfl, ?_⟩) hC0 ?_
  rotate_left
  · intro w hSw; clear hSw; go_simp; (try with_reducible rfl)
  (try simp only [List.getElem_toArray, List.getElem_cons_succ, List.getElem_cons_zero])
  (try simp only [Act.put, List.setIfInBounds_toArray, List.set_cons_zero, List.set_cons_succ])
  refine wpHold_listed (n := 4) (L' := (fun x : Bool × Bool × Bool => #[true, true, true, x.1, true, true, true, x.2.1, x.2.2, false]) (false, false, false)) (by kernel_rfl) (by kernel_rfl) ?_
  refine wpHold_name (fun a0 ha0 => ?_)
  refine two_any (fun x : Bool × Bool × Bool => #[true, true, true, x.1, true, true, true, x.2.1, x.2.2, false]) 1 3 7 8 (fun x y z na W => ∃ s1 s2 s3, na = ((a0.put (some 20) s1).put (some 24) s2).put (some 7) s3 ∧ (z = true → x = true ∧ s3 = s1) ∧ TwoK (fun W s1 => ∃ G B us, s1 = .slice (some ⟨G, 0, none⟩) n n ∧ OneMat W0 W G B n us (fun _ _ => 0)) (fun W s2 => ∃ G, s2 = .slice (some ⟨G, 0, none⟩) n n ∧ SumsAt W0 W G (List.replicate n zTri) (List.replicate n 0)) (fun W s1 s2 => ∃ G B us G2, s1 = .slice (some ⟨G, 0, none⟩) n n ∧ s2 = .slice (some ⟨G2, 0, none⟩) n n ∧ OneMat W0 W G B n us (fun _ _ => 0) ∧ SumsAt W0 W G2 (List.replicate n zTri) (List.replicate n 0) ∧ B ≠ G2) Wx x y W s1 s2) ?_ ?_ ?_ ?_ ?_ ?_ _ _ ⟨undef, undef, undef, by subst ha0; rfl, fun h => (by cases h), Below.refl _ _, fun h => (by cases h), fun h => (by cases h), fun h => (by cases h)⟩
  · clear ha0
    rintro ⟨x, y, z⟩ hs
    match x, y, z, hs with
    | false, false, false, _ => (show (_ : Bool) = _; kernel_rfl)
    | false, false, true, _ => (show (_ : Bool) = _; kernel_rfl)
    | false, true, false, _ => (show (_ : Bool) = _; kernel_rfl)
    | false, true, true, _ => (show (_ : Bool) = _; kernel_rfl)
    | true, false, false, _ => (show (_ : Bool) = _; kernel_rfl)
    | true, false, true, _ => (show (_ : Bool) = _; kernel_rfl)
    | true, true, false, _ => (show (_ : Bool) = _; kernel_rfl)
  · clear ha0
    rintro ⟨x, y, z⟩ hs
    match x, y, z, hs with
    | false, false, false, _ => (show (_ : Bool) = _; kernel_rfl)
    | false, false, true, _ => (show (_ : Bool) = _; kernel_rfl)
    | false, true, false, _ => (show (_ : Bool) = _; kernel_rfl)
    | false, true, true, _ => (show (_ : Bool) = _; kernel_rfl)
    | true, false, false, _ => (show (_ : Bool) = _; kernel_rfl)
    | true, false, true, _ => (show (_ : Bool) = _; kernel_rfl)
    | true, true, false, _ => (show (_ : Bool) = _; kernel_rfl)
  · rintro y z na wv ⟨s1, s2, s3, rfl, hz, J⟩
    have hz0 : z = false := by
      cases z with
      | false => rfl
      | true => exact absurd (hz rfl).1 (by decide)
    subst hz0
    subst ha0
    refine wpOp_step rfl (fun K hK => ?_)
    (try simp only [Act.put, List.setIfInBounds_toArray, List.set_cons_zero, List.set_cons_succ] at hK ⊢)
    (try simp only [List.getElem_toArray, List.getElem_cons_succ, List.getElem_cons_zero])
    go_simp
    refine (bsquare_any n wv (by omega)).mono ?_
    rintro e wz ⟨G, B, us, rfl, hM⟩
    have hb := hM.sum.bl
    have hM' := hM.rebase (below_step bd0 J.bl)
    have hbz := below_step J.bl hb
    exact hK _ _ ⟨(unhide HCC0 _ (below_step bd0 hbz)), _, s2, s3, rfl, fun h => (by cases h), hbz, fun _ => ⟨G, B, us, rfl, hM'⟩, fun h => by
      obtain ⟨G2, e1, e2⟩ := J.rb h
      exact ⟨G2, e1, e2.keep hb⟩, fun _ h => by
      obtain ⟨G2, e1, e2⟩ := J.rb h
      refine ⟨G, B, us, G2, rfl, e1, hM', e2.keep hb, fun e => ?_⟩
      have h1 := hM.sum.gl
      have h2 := e2.lt
      omega⟩
  · rintro x z na wv ⟨s1, s2, s3, rfl, hz, J⟩
    subst ha0
    have qmk := make_ratios (n : Int) (by omega) (by omega) wv
    rw [Int.toNat_natCast] at qmk
    have hb := alloc_below wv (.cells (tcells (List.replicate n zTri)).toArray 37)
    refine wpOp_step rfl (fun K hK => ?_)
    (try simp only [Act.put, List.setIfInBounds_toArray, List.set_cons_zero, List.set_cons_succ] at hK ⊢)
    (try simp only [List.getElem_toArray, List.getElem_cons_succ, List.getElem_cons_zero])
    go_simp
    have hS := SumsAt.start W0 wv n (below_step bd0 J.bl)
    have hbz := below_step J.bl hb
    exact hK _ _ ⟨(unhide HCC0 _ (below_step bd0 hbz)), s1, _, s3, rfl, hz, hbz, fun h => by
      obtain ⟨G, B, us, e1, e2⟩ := J.ra h
      exact ⟨G, B, us, e1, e2.keep hb⟩, fun _ => ⟨_, rfl, hS⟩, fun h _ => by
      obtain ⟨G, B, us, e1, e2⟩ := J.ra h
      refine ⟨G, B, us, _, e1, rfl, e2.keep hb, hS, fun e => ?_⟩
      have h1 := e2.sum.lt
      omega⟩
  · rintro y na wv ⟨s1, s2, s3, rfl, hz, J⟩
    subst ha0
    refine wpOp_step rfl (fun K hK => ?_)
    (try simp only [Act.put, List.setIfInBounds_toArray, List.set_cons_zero, List.set_cons_succ] at hK ⊢)
    (try simp only [List.getElem_toArray, List.getElem_cons_succ, List.getElem_cons_zero])
    go_simp
    have hbz := J.bl
    exact hK _ _ ⟨(unhide HCC0 _ (below_step bd0 hbz)), s1, s2, s1, rfl, fun _ => ⟨by trivial, rfl⟩, J⟩
  rintro na wv ⟨s1, s2, s3, rfl, hz, J⟩
  obtain ⟨_, rfl⟩ := hz rfl
  subst ha0
  have hbz := J.bl
  have hCv : (fun w' : World => w'.cell? ⟨ba, 0, none⟩ = some (.slice m.a n m.c) ∧ w'.cell? ⟨ba, 1, none⟩ = some (.slice l.a n l.c)) wv := (unhide HCC0 _ (below_step bd0 hbz))
  obtain ⟨G, B, us0, G2, rfl, rfl, hM0, hS0, hNE⟩ := J.rab rfl rfl
  refine wpHold_take (i := 9) (v := ?_) rfl (by kernel_rfl) (by kernel_rfl) (by kernel_rfl) (fun _ _ _ h => h) (Or.inl ⟨by rfl, ?_⟩) hCv ?_
  rotate_left
  · intro w hSw; clear hSw; go_simp; (try with_reducible rfl)
  (try simp only [List.getElem_toArray, List.getElem_cons_succ, List.getElem_cons_zero])
  (try simp only [Act.put, List.setIfInBounds_toArray, List.set_cons_zero, List.set_cons_succ])
  refine wpHold_done (by kernel_rfl) ?_ _
  have HM0 := hide (hM0.congr (N := rpm p C 0 0) (fun i j _ _ => (rpm_none p C i j).symm))
  have HS0 : Hid (SumsAt W0 wv G2 (List.replicate n zTri) (fill (fun _ => 1) n 0)) := by show SumsAt _ _ _ _ _; rw [← fill_zero]; exact hS0
  have HNE := hide hNE
  have ⟨c0, c1⟩ := unhide HCC0 wv (hM0.sum.bl)
  clear J hM0 hS0 hNE bd0 hWx hC0 hCv hbz hz
  go_wp2_with fail
  clear c0 c1
  go_loopw [28] (fun vi wr => ∃ (s : Nat) (us gv : List Tri), vi = .int .i64 (s : Int) ∧ s ≤ n ∧ gv.length = n ∧ OneMat W0 wr G B n us (rpm p C s 0) ∧ SumsAt W0 wr G2 gv (fill (fun _ => 1) n s)) (fun vi _ => n - (intOf vi).toNat)
  case atStart => exact ⟨0, _, _, rfl, Nat.zero_le _, List.length_replicate, unhide HM0, unhide HS0⟩
  case round =>
    obtain ⟨s, us, gv, rfl, hs, hgl, hMt, hSm⟩ := hrel
    clear HM0 HS0
    by_cases hlt : s < n
    · have e1 : (s : Int) < (n : Int) := by omega
      have e0 : (0 : Int) ≤ (s : Int) := by omega
      have hbM := hMt.sum.bl
      obtain ⟨bp, op, ea, hbp, hcp⟩ := unhide HPR
      obtain ⟨mm, k0, hL, hmn⟩ := hcp s hlt
      rw [← hbM.cell (p := ⟨bp, op + s, none⟩) hbp] at k0
      obtain ⟨bl, ol, hma, hbl, hcl⟩ : ∃ bl ol, mm.a = some ⟨bl, ol, none⟩ ∧ bl < W0.heap.size ∧ ∀ j, j < n → ∃ s1 a1 a2 n1 c1 n2 c2, W0.cell? ⟨bl, ol + j * 3, none⟩ = some (.bool s1) ∧ W0.cell? ⟨bl, ol + j * 3 + 1, none⟩ = some (.slice a1 n1 c1) ∧ W0.cell? ⟨bl, ol + j * 3 + 2, none⟩ = some (.slice a2 n2 c2) ∧ RatIs W0 (.agg #[.bool s1, .slice a1 n1 c1, .slice a2 n2 c2]) (p s j) := hL
      rw [hma, hmn] at k0
      have HCL := hide hcl
      have HBL := hide hbl
      have HM1 := hide hMt
      have HS1 := hide hSm
      have HGL := hide hgl
      rw [ea]
      obtain ⟨ro, hro⟩ : ∃ x, s * n * 3 = x := ⟨_, rfl⟩
      have HRO := hide hro
      have HWH := hide (whole_any 1 (by decide) (by decide) wr)
      clear hMt hSm hbM hcp hcl hmn hro hgl hma
      go_wp2_with fail
      clear k0
      refine (unhide HWH).mono ?_
      rintro e w3 ⟨v3, rfl, hv3, hb3⟩
      obtain ⟨t3, rfl, r3⟩ := tri_of hv3
      simp only [Tri.val]
      have M3 := (unhide HM1).keep hb3
      have S3 := (unhide HS1).keep hb3
      have ⟨⟨y0, y1, y2⟩, f0, f1, f2⟩ := S3.cells s (by rw [unhide HGL]; exact hlt)
      have S4 := S3.set s (by rw [unhide HGL]; exact hlt) t3 _ r3
      rw [show ((1 : Int) : Rat) = (fun _ : Nat => (1 : Rat)) s from rfl, fill_set] at S4
      have M4 := M3.rowed S3.row (unhide HNE) S3.gl (s * 3) (s * 3 + 1) (s * 3 + 2) (.bool t3.s) (.slice t3.a1 t3.n1 t3.c1) (.slice t3.a2 t3.n2 t3.c2)
      obtain ⟨W4, hW4⟩ : ∃ W, ((w3.setCell ⟨G2, s * 3, none⟩ (.bool t3.s)).setCell ⟨G2, s * 3 + 1, none⟩ (.slice t3.a1 t3.n1 t3.c1)).setCell ⟨G2, s * 3 + 2, none⟩ (.slice t3.a2 t3.n2 t3.c2) = W := ⟨_, rfl⟩
      rw [hW4] at S4 M4
      have HM4 := hide M4
      have HS4 := hide S4
      have HG4 : Hid ((gv.set s t3).length = n) := by show _ = _; rw [List.length_set]; exact unhide HGL
      clear M3 S3 S4 M4 hv3 r3 hb3 HM1 HS1 HWH
      go_wp2_with fail
      clear y0 y1 y2 f0 f1 f2 hW4
      go_loopw [39] (fun vj wv => ∃ (k : Nat) (us' : List Tri), vj = .int .i64 (k : Int) ∧ k ≤ n ∧ OneMat W0 wv G B n us' (rpm p C s k) ∧ SumsAt W0 wv G2 (gv.set s t3) (fill (fun _ => 1) n (s + 1))) (fun vj _ => n - (intOf vj).toNat)
      case atStart => exact ⟨0, _, rfl, Nat.zero_le _, unhide HM4, unhide HS4⟩
      case round =>
        obtain ⟨k, us', rfl, hk, hMt, hSm⟩ := hrel
        clear HM4 HS4
        by_cases hltk : k < n
        · have g1 : (k : Int) < (n : Int) := by omega
          have g0 : (0 : Int) ≤ (k : Int) := by omega
          have hbM := hMt.sum.bl
          obtain ⟨xs_, xp1, xp2, xn1, xd1, xn2, xd2, xk0, xk1, xk2, xr⟩ := unhide HCL k hltk
          obtain ⟨tx, rfl, rfl, rfl, rfl, rfl, rfl, rfl⟩ : ∃ t : Tri, xs_ = t.s ∧ xp1 = t.a1 ∧ xp2 = t.a2 ∧ xn1 = t.n1 ∧ xd1 = t.c1 ∧ xn2 = t.n2 ∧ xd2 = t.c2 := ⟨⟨xs_, xp1, xp2, xn1, xd1, xn2, xd2⟩, rfl, rfl, rfl, rfl, rfl, rfl, rfl⟩
          rw [← hbM.cell (p := ⟨bl, ol + k * 3, none⟩) (unhide HBL)] at xk0
          rw [← hbM.cell (p := ⟨bl, ol + k * 3 + 1, none⟩) (unhide HBL)] at xk1
          rw [← hbM.cell (p := ⟨bl, ol + k * 3 + 2, none⟩) (unhide HBL)] at xk2
          have bA := alloc_below wr (.cells #[.bool tx.s, .slice tx.a1 tx.n1 tx.c1, .slice tx.a2 tx.n2 tx.c2] 37)
          have X5 := BoxIs.new (xr.below hbM)
          have M5 := hMt.keep bA
          have S5 := hSm.keep bA
          obtain ⟨W5, hW5⟩ : ∃ W, wr.alloc (.cells #[.bool tx.s, .slice tx.a1 tx.n1 tx.c1, .slice tx.a2 tx.n2 tx.c2] 37) = W := ⟨_, rfl⟩
          obtain ⟨gx, hgx⟩ : ∃ g, wr.heap.size = g := ⟨_, rfl⟩
          rw [hW5] at X5 M5 S5
          rw [hgx] at X5
          have kc := unhide HCB W5 M5.sum.bl k hltk
          have HSX := hide X5.2
          have HM5 := hide M5
          have HS5 := hide S5
          have ⟨q0, q1, q2⟩ := X5.cells _ (Below.refl _ _)
          by_cases hck : C k = true
          · have HCC : Hid (∀ W, Below W5.heap.size W5 W → (fun w' : World => w'.cell? ⟨G, s, none⟩ = some (.slice (some ⟨B, ro, none⟩) n n) ∧ w'.cell? ⟨gx, 0, none⟩ = some (.bool tx.s) ∧ w'.cell? ⟨gx, 1, none⟩ = some (.slice tx.a1 tx.n1 tx.c1) ∧ w'.cell? ⟨gx, 2, none⟩ = some (.slice tx.a2 tx.n2 tx.c2)) W) := fun W hW => by
              have hh := (M5.keep hW).head hlt
              rw [unhide HRO] at hh
              exact ⟨hh, X5.cells W hW⟩
            rw [hck] at kc
            clear hMt hSm hbM xr bA X5 M5 S5
            go_wp2_with fail
            clear hW5 hgx xk0 xk1 xk2 q0 q1 q2 kc
            refine wp_region_till (fun w' : World => w'.cell? ⟨G, s, none⟩ = some (.slice (some ⟨B, ro, none⟩) n n) ∧ w'.cell? ⟨gx, 0, none⟩ = some (.bool tx.s) ∧ w'.cell? ⟨gx, 1, none⟩ = some (.slice tx.a1 tx.n1 tx.c1) ∧ w'.cell? ⟨gx, 2, none⟩ = some (.slice tx.a2 tx.n2 tx.c2)) 7 (by kernel_rfl) ?_
            have bd0 : Below W5.heap.size W5 W5.drew := (Below.refl _ _).drew
            obtain ⟨Wd, hWd⟩ : ∃ W, W5.drew = W := ⟨_, rfl⟩
            rw [hWd] at bd0 ⊢
            have hC0 : (fun w' : World => w'.cell? ⟨G, s, none⟩ = some (.slice (some ⟨B, ro, none⟩) n n) ∧ w'.cell? ⟨gx, 0, none⟩ = some (.bool tx.s) ∧ w'.cell? ⟨gx, 1, none⟩ = some (.slice tx.a1 tx.n1 tx.c1) ∧ w'.cell? ⟨gx, 2, none⟩ = some (.slice tx.a2 tx.n2 tx.c2)) Wd := unhide HCC _ bd0
            refine wpTill_pure (i := 0) (v := ?_) rfl (by kernel_rfl) (by kernel_rfl) (by kernel_rfl) (by kernel_rfl) (fun _ _ _ h => h) (Or.inl ⟨by rfl, ?_⟩) (fun _ => hC0) ?_
            rotate_left
            · intro w hSw; clear hSw; go_simp; (try with_reducible rfl)
            (try simp only [List.getElem_toArray, List.getElem_cons_succ, List.getElem_cons_zero])
            (try simp only [Act.put, List.setIfInBounds_toArray, List.set_cons_zero, List.set_cons_succ])
            refine wpTill_pure (i := 1) (v := ?_) rfl (by kernel_rfl) (by kernel_rfl) (by kernel_rfl) (by kernel_rfl) (fun _ _ _ h => h) (Or.inl ⟨by rfl, ?_⟩) (fun _ => hC0) ?_
            rotate_left
            · intro w hSw; clear hSw; go_simp; (try with_reducible rfl)
            (try simp only [List.getElem_toArray, List.getElem_cons_succ, List.getElem_cons_zero])
            (try simp only [Act.put, List.setIfInBounds_toArray, List.set_cons_zero, List.set_cons_succ])
            refine wpTill_pure (i := 2) (v := ?_) rfl (by kernel_rfl) (by kernel_rfl) (by kernel_rfl) (by kernel_rfl) (fun _ _ _ h => h) (Or.inl ⟨by rfl, ?_⟩) (fun _ => hC0) ?_
            rotate_left
            · intro w hSw; clear hSw; go_simp; (try with_reducible rfl)
            (try simp only [List.getElem_toArray, List.getElem_cons_succ, List.getElem_cons_zero])
            (try simp only [Act.put, List.setIfInBounds_toArray, List.set_cons_zero, List.set_cons_succ])
            refine wpTill_take (i := 3) (v := ?_) rfl (by kernel_rfl) (by kernel_rfl) (by kernel_rfl) (by kernel_rfl) (by kernel_rfl) (by kernel_rfl) (fun _ _ _ h => h) (Or.inl ⟨by rfl, ?_⟩) hC0 ?_
            rotate_left
            · intro w hSw; (try dsimp only at hSw); obtain ⟨z0, z4, z5, z6⟩ := hSw; go_simp; (try with_reducible rfl)
            (try simp only [List.getElem_toArray, List.getElem_cons_succ, List.getElem_cons_zero])
            (try simp only [Act.put, List.setIfInBounds_toArray, List.set_cons_zero, List.set_cons_succ])
            refine wpTill_pure (i := 4) (v := ?_) rfl (by kernel_rfl) (by kernel_rfl) (by kernel_rfl) (by kernel_rfl) (fun _ _ _ h => h) (Or.inl ⟨by rfl, ?_⟩) (fun _ => hC0) ?_
            rotate_left
            · intro w hSw; clear hSw; go_simp; (try with_reducible rfl)
            (try simp only [List.getElem_toArray, List.getElem_cons_succ, List.getElem_cons_zero])
            (try simp only [Act.put, List.setIfInBounds_toArray, List.set_cons_zero, List.set_cons_succ])
            refine wpTill_take (i := 5) (v := ?_) rfl (by kernel_rfl) (by kernel_rfl) (by kernel_rfl) (by kernel_rfl) (by kernel_rfl) (by kernel_rfl) (fun _ _ _ h => h) (Or.inl ⟨by rfl, ?_⟩) hC0 ?_
            rotate_left
            · intro w hSw; (try dsimp only at hSw); obtain ⟨z0, z4, z5, z6⟩ := hSw; go_simp; (try with_reducible rfl)
            (try simp only [List.getElem_toArray, List.getElem_cons_succ, List.getElem_cons_zero])
            (try simp only [Act.put, List.setIfInBounds_toArray, List.set_cons_zero, List.set_cons_succ])
            refine wpTill_pure (i := 6) (v := ?_) rfl (by kernel_rfl) (by kernel_rfl) (by kernel_rfl) (by kernel_rfl) (fun _ _ _ h => h) (Or.inl ⟨by rfl, ?_⟩) (fun _ => hC0) ?_
            rotate_left
            · intro w hSw; clear hSw; go_simp; (try with_reducible rfl)
            (try simp only [List.getElem_toArray, List.getElem_cons_succ, List.getElem_cons_zero])
            (try simp only [Act.put, List.setIfInBounds_toArray, List.set_cons_zero, List.set_cons_succ])
            have S8 := (unhide HM5).keep bd0
            have ⟨⟨y0, y1, y2⟩, ⟨f0, f1, f2⟩, _⟩ := S8.cells (i := s) (j := k) hlt hltk
            have FZ := S8.set (i := s) (j := k) hlt hltk tx _ ((unhide HSX).below bd0)
            have SF := (unhide HS5).keep bd0
            have FS2 := SF.apart' S8.sum.row (Ne.symm (unhide HNE)) S8.sum.gl (s * n * 3 + k * 3) (s * n * 3 + k * 3 + 1) (s * n * 3 + k * 3 + 2) (.bool tx.s) (.slice tx.a1 tx.n1 tx.c1) (.slice tx.a2 tx.n2 tx.c2)
            rw [unhide HRO] at y0 y1 y2 f0 f1 f2 FZ FS2
            obtain ⟨W9, hW9⟩ : ∃ W, ((Wd.setCell ⟨B, ro + k * 3, none⟩ (.bool tx.s)).setCell ⟨B, ro + k * 3 + 1, none⟩ (.slice tx.a1 tx.n1 tx.c1)).setCell ⟨B, ro + k * 3 + 2, none⟩ (.slice tx.a2 tx.n2 tx.c2) = W := ⟨_, rfl⟩
            rw [hW9] at FZ FS2
            have HFZ := hide (FZ.congr (N := rpm p C s (k + 1)) (fun i j _ _ => rpm_next p hck i j))
            have HFS := hide FS2
            clear S8 FZ SF FS2
            refine wpTill_one (k := 7) (by kernel_rfl) rfl (fun K hK => ?_)
            (try simp only [List.getElem_toArray, List.getElem_cons_succ, List.getElem_cons_zero])
            go_simp
            refine hK.out _ _ (fun h => absurd (h.symm.trans (by kernel_rfl)) Bool.false_ne_true) ?_
            clear hK K
            (try simp only [Act.put, List.setIfInBounds_toArray, List.set_cons_zero, List.set_cons_succ])
            refine wpTill_done (by kernel_rfl) ?_ _
            clear HCC HSX HM5 HS5
            clear y0 y1 y2 f0 f1 f2 hW9 hC0 bd0 hWd
            go_wp2_with fail
            exact ⟨⟨k + 1, _, by go_num, hltk, unhide HFZ, unhide HFS⟩, by simp [intOf]; omega⟩
          · have hcf : C k = false := by simpa using hck
            rw [hcf] at kc
            have HFZ := hide (M5.congr (N := rpm p C s (k + 1)) (fun i j _ _ => rpm_skip p hcf i j))
            clear hMt hSm hbM xr bA X5 M5 S5
            go_wp2_with fail
            exact ⟨⟨k + 1, _, by go_num, hltk, unhide HFZ, unhide HS5⟩, by simp [intOf]; omega⟩
        · obtain rfl : k = n := by omega
          have g1 : ¬ (k : Int) < (k : Int) := by omega
          have HM6 := hide (hMt.congr (N := rpm p C (s + 1) 0) (fun i j _ hj => rpm_row p C i j hj))
          have HS6 := hide hSm
          clear hMt hSm
          go_wp2_with fail
          exact ⟨⟨s + 1, _, _, by go_num, hlt, unhide HG4, unhide HM6, unhide HS6⟩, by simp [intOf]; omega⟩
    · have es : s = n := by omega
      rw [es] at hMt hSm ⊢
      have e1 : ¬ (n : Int) < (n : Int) := by omega
      have HF1 := hide (unhide HFA wr G B us hMt)
      have HF2 := hide (unhide HFB wr G B us G2 gv hMt hSm hgl)
      have HCC : Hid (∀ W, Below wr.heap.size wr W → (fun w' : World => w'.cell? ⟨ba, 0, none⟩ = some (.slice m.a n m.c) ∧ w'.cell? ⟨bw, 0, none⟩ = some (.bool t.s) ∧ w'.cell? ⟨bw, 1, none⟩ = some (.slice t.a1 t.n1 t.c1) ∧ w'.cell? ⟨bw, 2, none⟩ = some (.slice t.a2 t.n2 t.c2)) W) := fun W hW => ⟨(unhide HCC0 W (below_step hMt.sum.bl hW)).1, (unhide HXW).cells W (below_step hMt.sum.bl hW)⟩
      have HB := hide hMt.sum.bl
      clear hMt hSm hgl hs hlt es
      go_wp2_with fail
      refine wp_region_hold (fun w' : World => w'.cell? ⟨ba, 0, none⟩ = some (.slice m.a n m.c) ∧ w'.cell? ⟨bw, 0, none⟩ = some (.bool t.s) ∧ w'.cell? ⟨bw, 1, none⟩ = some (.slice t.a1 t.n1 t.c1) ∧ w'.cell? ⟨bw, 2, none⟩ = some (.slice t.a2 t.n2 t.c2)) (by kernel_rfl) ?_
      have bd0 : Below wr.heap.size wr wr.drew := (Below.refl _ _).drew
      have hC0 : (fun w' : World => w'.cell? ⟨ba, 0, none⟩ = some (.slice m.a n m.c) ∧ w'.cell? ⟨bw, 0, none⟩ = some (.bool t.s) ∧ w'.cell? ⟨bw, 1, none⟩ = some (.slice t.a1 t.n1 t.c1) ∧ w'.cell? ⟨bw, 2, none⟩ = some (.slice t.a2 t.n2 t.c2)) wr.drew := unhide HCC _ bd0
      refine wpHold_take (i := 0) (v := ?_) rfl (by kernel_rfl) (by kernel_rfl) (by kernel_rfl) (fun _ _ _ h => h) (Or.inl ⟨by rfl, ?_⟩) hC0 ?_
      rotate_left
      · intro w hSw; clear hSw; go_simp; (try with_reducible rfl)
      (try simp only [List.getElem_toArray, List.getElem_cons_succ, List.getElem_cons_zero])
      (try simp only [Act.put, List.setIfInBounds_toArray, List.set_cons_zero, List.set_cons_succ])
      refine wpHold_take (i := 1) (v := ?_) rfl (by kernel_rfl) (by kernel_rfl) (by kernel_rfl) (fun _ _ _ h => h) (Or.inl ⟨by rfl, ?_⟩) hC0 ?_
      rotate_left
      · intro w hSw; (try dsimp only at hSw); obtain ⟨z0, z1, z2, z3⟩ := hSw; go_simp; (try with_reducible rfl)
      (try simp only [List.getElem_toArray, List.getElem_cons_succ, List.getElem_cons_zero])
      (try simp only [Act.put, List.setIfInBounds_toArray, List.set_cons_zero, List.set_cons_succ])
      refine wpHold_take (i := 2) (v := ?_) rfl (by kernel_rfl) (by kernel_rfl) (by kernel_rfl) (fun _ _ _ h => h) (Or.inl ⟨by rfl, ?_⟩) hC0 ?_
      rotate_left
      · intro w hSw; clear hSw; go_simp; (try with_reducible rfl)
      (try simp only [List.getElem_toArray, List.getElem_cons_succ, List.getElem_cons_zero])
      (try simp only [Act.put, List.setIfInBounds_toArray, List.set_cons_zero, List.set_cons_succ])
      refine wpHold_take (i := 3) (v := ?_) rfl (by kernel_rfl) (by kernel_rfl) (by kernel_rfl) (fun _ _ _ h => h) (Or.inl ⟨by rfl, ?_⟩) hC0 ?_
      rotate_left
      · intro w hSw; (try dsimp only at hSw); obtain ⟨z0, z1, z2, z3⟩ := hSw; go_simp; (try with_reducible rfl)
      (try simp only [List.getElem_toArray, List.getElem_cons_succ, List.getElem_cons_zero])
      (try simp only [Act.put, List.setIfInBounds_toArray, List.set_cons_zero, List.set_cons_succ])
      refine wpHold_take (i := 5) (v := ?_) rfl (by kernel_rfl) (by kernel_rfl) (by kernel_rfl) (fun _ _ _ h => h) (Or.inl ⟨by rfl, ?_⟩) hC0 ?_
      rotate_left
      · intro w hSw; clear hSw; go_simp; (try with_reducible rfl)
      (try simp only [List.getElem_toArray, List.getElem_cons_succ, List.getElem_cons_zero])
      (try simp only [Act.put, List.setIfInBounds_toArray, List.set_cons_zero, List.set_cons_succ])
      refine wpHold_take (i := 6) (v := ?_) rfl (by kernel_rfl) (by kernel_rfl) (by kernel_rfl) (fun _ _ _ h => h) (Or.inl ⟨by rfl, ?_⟩) hC0 ?_
      rotate_left
      · intro w hSw; clear hSw; go_simp; (try with_reducible rfl)
      (try simp only [List.getElem_toArray, List.getElem_cons_succ, List.getElem_cons_zero])
      (try simp only [Act.put, List.setIfInBounds_toArray, List.set_cons_zero, List.set_cons_succ])
      refine wpHold_take (i := 7) (v := ?_) rfl (by kernel_rfl) (by kernel_rfl) (by kernel_rfl) (fun _ _ _ h => h) (Or.inl ⟨by rfl, ?_⟩) hC0 ?_
      rotate_left
      · intro w hSw; (try dsimp only at hSw); obtain ⟨z0, z1, z2, z3⟩ := hSw; go_simp; (try with_reducible rfl)
      (try simp only [List.getElem_toArray, List.getElem_cons_succ, List.getElem_cons_zero])
      (try simp only [Act.put, List.setIfInBounds_toArray, List.set_cons_zero, List.set_cons_succ])
      refine wpHold_one (k := 4) (by kernel_rfl) rfl (fun K hK => ?_)
      (try simp only [List.getElem_toArray, List.getElem_cons_succ, List.getElem_cons_zero])
      go_simp
      refine (unhide HF1 _ bd0).mono ?_
      rintro e xw_1 ⟨xv_1, Nn, rfl, hv_1, hN_1, hr_1, hb_1⟩
      have cc_1 := below_step bd0 hb_1
      have hC_1 : (fun w' : World => w'.cell? ⟨ba, 0, none⟩ = some (.slice m.a n m.c) ∧ w'.cell? ⟨bw, 0, none⟩ = some (.bool t.s) ∧ w'.cell? ⟨bw, 1, none⟩ = some (.slice t.a1 t.n1 t.c1) ∧ w'.cell? ⟨bw, 2, none⟩ = some (.slice t.a2 t.n2 t.c2)) xw_1 := unhide HCC _ cc_1
      refine hK.out _ _ hC_1 ?_
      clear hK K
      (try simp only [Act.put, List.setIfInBounds_toArray, List.set_cons_zero, List.set_cons_succ])
      refine wpHold_one (k := 8) (by kernel_rfl) rfl (fun K hK => ?_)
      (try simp only [List.getElem_toArray, List.getElem_cons_succ, List.getElem_cons_zero])
      go_simp
      refine (unhide HF2 _ cc_1).mono ?_
      rintro e xw_2 ⟨xv_2, Dd, rfl, hv_2, hN_2, hr_2, hb_2⟩
      have cc_2 := below_step cc_1 hb_2
      have hC_2 : (fun w' : World => w'.cell? ⟨ba, 0, none⟩ = some (.slice m.a n m.c) ∧ w'.cell? ⟨bw, 0, none⟩ = some (.bool t.s) ∧ w'.cell? ⟨bw, 1, none⟩ = some (.slice t.a1 t.n1 t.c1) ∧ w'.cell? ⟨bw, 2, none⟩ = some (.slice t.a2 t.n2 t.c2)) xw_2 := unhide HCC _ cc_2
      refine hK.out _ _ hC_2 ?_
      clear hK K
      (try simp only [Act.put, List.setIfInBounds_toArray, List.set_cons_zero, List.set_cons_succ])
      have HV1 := hide (hv_1.below hb_2)
      have HV2 := hide hv_2
      obtain ⟨a1, c1, rfl, _⟩ := hv_1
      obtain ⟨a2, c2, rfl, _⟩ := hv_2
      rw [row_length] at HV1 HV2 ⊢
      rw [row_length]
      refine wpHold_one (k := 9) (by kernel_rfl) rfl (fun K hK => ?_)
      (try simp only [List.getElem_toArray, List.getElem_cons_succ, List.getElem_cons_zero])
      go_simp
      refine hK.out _ _ hC_2 ?_
      clear hK K
      (try simp only [Act.put, List.setIfInBounds_toArray, List.set_cons_zero, List.set_cons_succ])
      refine wpHold_one (k := 10) (by kernel_rfl) rfl (fun K hK => ?_)
      (try simp only [List.getElem_toArray, List.getElem_cons_succ, List.getElem_cons_zero])
      go_simp
      refine hK.out _ _ hC_2 ?_
      clear hK K
      (try simp only [Act.put, List.setIfInBounds_toArray, List.set_cons_zero, List.set_cons_succ])
      refine wpHold_done (by kernel_rfl) ?_ _
      have HW := hide (Git.whl_ge (unhide HOK) (unhide HWD Dd hN_2))
      have HWN := hide (unhide HWN0 Nn hN_1)
      have HWD1 := hide (unhide HWD Dd hN_2)
      have HRN := hide hr_1
      have HRD := hide hr_2
      have HB2 := hide (below_step (unhide HB) cc_2)
      have ⟨c0, _⟩ := unhide HCC0 xw_2 (below_step (unhide HB) cc_2)
      have qmk := make_ratios (n : Int) (by omega) (by omega) xw_2
      rw [Int.toNat_natCast] at qmk
      have S0 := SumsAt.start xw_2 xw_2 n (Below.refl _ _)
      obtain ⟨W6, hW6⟩ : ∃ W, xw_2.alloc (.cells (tcells (List.replicate n zTri)).toArray 37) = W := ⟨_, rfl⟩
      obtain ⟨G3, hG3⟩ : ∃ G, xw_2.heap.size = G := ⟨_, rfl⟩
      rw [hW6] at qmk S0
      rw [hG3] at qmk
      rw [show xw_2.heap.size = G3 from hG3] at S0
      obtain ⟨aa1, cc1, he1, _, _, z1⟩ := unhide HV1
      obtain ⟨b1, o1, ea1, hb1, hz1⟩ := z1 (by rw [row_length]; omega)
      injection he1 with he1 he1b he1c
      clear he1b he1c
      rw [← he1] at ea1
      obtain ⟨aa2, cc2, he2, _, _, z2⟩ := unhide HV2
      obtain ⟨b2, o2, ea2, hb2, hz2⟩ := z2 (by rw [row_length]; omega)
      injection he2 with he2 he2b he2c
      clear he2b he2c
      rw [← he2] at ea2
      rw [row_length] at hz1 hz2
      have HZ1 := hide hz1
      have HZ2 := hide hz2
      have HL1 := hide hb1
      have HL2 := hide hb2
      have HS0 : Hid (SumsAt xw_2 W6 G3 (List.replicate n zTri) (fill (fun i => Nn i / Dd i) n 0)) := by show SumsAt _ _ _ _ _; rw [← fill_zero]; exact S0
      have HDZ : Hid (∀ i, i < n → (Dd i).num ≠ 0) := fun i hi e => by
        have h1 := unhide HW i (by rw [unhide HNA]; exact hi)
        rw [Rat.num_eq_zero.1 e] at h1
        exact absurd h1 (by decide)
      rw [ea1, ea2]
      clear hN_1 hN_2 hr_1 hr_2 S0 hz1 hz2 hb1 hb2 z1 z2 he1 he2 cc_1 cc_2 hb_1 hb_2 hC0 hC_1 hC_2 bd0 HCC HV1 HV2 HF1 HF2 HB ea1 ea2
      go_wp2_with fail
      clear c0 qmk hW6 hG3
      go_loopw [72] (fun vi wr => ∃ (i : Nat) (us : List Tri), vi = .int .i64 (i : Int) ∧ i ≤ n ∧ us.length = n ∧ SumsAt xw_2 wr G3 us (fill (fun i => Nn i / Dd i) n i)) (fun vi _ => n - (intOf vi).toNat)
      case atStart => exact ⟨0, _, rfl, Nat.zero_le _, List.length_replicate, unhide HS0⟩
      case round =>
        obtain ⟨i, us2, rfl, hi, hul, hSm⟩ := hrel
        clear HS0
        by_cases hlt : i < n
        · have e1 : (i : Int) < (n : Int) := by omega
          have e0 : (0 : Int) ≤ (i : Int) := by omega
          have hbl := hSm.bl
          obtain ⟨xs_, xp1, xp2, xn1, xd1, xn2, xd2, xk01, xk11, xk21, xr1⟩ := unhide HZ1 i hlt
          obtain ⟨tx, rfl, rfl, rfl, rfl, rfl, rfl, rfl⟩ : ∃ t : Tri, xs_ = t.s ∧ xp1 = t.a1 ∧ xp2 = t.a2 ∧ xn1 = t.n1 ∧ xd1 = t.c1 ∧ xn2 = t.n2 ∧ xd2 = t.c2 := ⟨⟨xs_, xp1, xp2, xn1, xd1, xn2, xd2⟩, rfl, rfl, rfl, rfl, rfl, rfl, rfl⟩
          obtain ⟨xs_, xp1, xp2, xn1, xd1, xn2, xd2, xk02, xk12, xk22, xr2⟩ := unhide HZ2 i hlt
          obtain ⟨ty, rfl, rfl, rfl, rfl, rfl, rfl, rfl⟩ : ∃ t : Tri, xs_ = t.s ∧ xp1 = t.a1 ∧ xp2 = t.a2 ∧ xn1 = t.n1 ∧ xd1 = t.c1 ∧ xn2 = t.n2 ∧ xd2 = t.c2 := ⟨⟨xs_, xp1, xp2, xn1, xd1, xn2, xd2⟩, rfl, rfl, rfl, rfl, rfl, rfl, rfl⟩
          rw [row_get hlt] at xr1 xr2
          have HCC : Hid (∀ W, Below wr.heap.size wr W → (fun w' : World => (w'.cell? ⟨b1, o1 + i * 3, none⟩ = some (.bool tx.s) ∧ w'.cell? ⟨b1, o1 + i * 3 + 1, none⟩ = some (.slice tx.a1 tx.n1 tx.c1) ∧ w'.cell? ⟨b1, o1 + i * 3 + 2, none⟩ = some (.slice tx.a2 tx.n2 tx.c2)) ∧ (w'.cell? ⟨b2, o2 + i * 3, none⟩ = some (.bool ty.s) ∧ w'.cell? ⟨b2, o2 + i * 3 + 1, none⟩ = some (.slice ty.a1 ty.n1 ty.c1) ∧ w'.cell? ⟨b2, o2 + i * 3 + 2, none⟩ = some (.slice ty.a2 ty.n2 ty.c2))) W) := fun W hW => by
            have hh := below_step hbl hW
            refine ⟨⟨?_, ?_, ?_⟩, ?_, ?_, ?_⟩
            · rw [hh.cell (p := ⟨b1, o1 + i * 3, none⟩) (unhide HL1)]; exact xk01
            · rw [hh.cell (p := ⟨b1, o1 + i * 3 + 1, none⟩) (unhide HL1)]; exact xk11
            · rw [hh.cell (p := ⟨b1, o1 + i * 3 + 2, none⟩) (unhide HL1)]; exact xk21
            · rw [hh.cell (p := ⟨b2, o2 + i * 3, none⟩) (unhide HL2)]; exact xk02
            · rw [hh.cell (p := ⟨b2, o2 + i * 3 + 1, none⟩) (unhide HL2)]; exact xk12
            · rw [hh.cell (p := ⟨b2, o2 + i * 3 + 2, none⟩) (unhide HL2)]; exact xk22
          have HTX := hide (xr1.below hbl)
          have HTY := hide (xr2.below hbl)
          have HS5 := hide hSm
          have HUL := hide hul
          clear hSm hbl hul xk01 xk11 xk21 xk02 xk12 xk22 xr1 xr2
          go_wp2_with fail
          refine wp_region_till (fun w' : World => (w'.cell? ⟨b1, o1 + i * 3, none⟩ = some (.bool tx.s) ∧ w'.cell? ⟨b1, o1 + i * 3 + 1, none⟩ = some (.slice tx.a1 tx.n1 tx.c1) ∧ w'.cell? ⟨b1, o1 + i * 3 + 2, none⟩ = some (.slice tx.a2 tx.n2 tx.c2)) ∧ (w'.cell? ⟨b2, o2 + i * 3, none⟩ = some (.bool ty.s) ∧ w'.cell? ⟨b2, o2 + i * 3 + 1, none⟩ = some (.slice ty.a1 ty.n1 ty.c1) ∧ w'.cell? ⟨b2, o2 + i * 3 + 2, none⟩ = some (.slice ty.a2 ty.n2 ty.c2))) 15 (by kernel_rfl) ?_
          have bd0 : Below wr.heap.size wr wr.drew := (Below.refl _ _).drew
          obtain ⟨Wd, hWd⟩ : ∃ W, wr.drew = W := ⟨_, rfl⟩
          rw [hWd] at bd0 ⊢
          have hC0 : (fun w' : World => (w'.cell? ⟨b1, o1 + i * 3, none⟩ = some (.bool tx.s) ∧ w'.cell? ⟨b1, o1 + i * 3 + 1, none⟩ = some (.slice tx.a1 tx.n1 tx.c1) ∧ w'.cell? ⟨b1, o1 + i * 3 + 2, none⟩ = some (.slice tx.a2 tx.n2 tx.c2)) ∧ (w'.cell? ⟨b2, o2 + i * 3, none⟩ = some (.bool ty.s) ∧ w'.cell? ⟨b2, o2 + i * 3 + 1, none⟩ = some (.slice ty.a1 ty.n1 ty.c1) ∧ w'.cell? ⟨b2, o2 + i * 3 + 2, none⟩ = some (.slice ty.a2 ty.n2 ty.c2))) Wd := unhide HCC _ bd0
          refine wpTill_pure (i := 0) (v := ?_) rfl (by kernel_rfl) (by kernel_rfl) (by kernel_rfl) (by kernel_rfl) (fun _ _ _ h => h) (Or.inl ⟨by rfl, ?_⟩) (fun _ => hC0) ?_
          rotate_left
          · intro w hSw; clear hSw; go_simp; (try with_reducible rfl)
          (try simp only [List.getElem_toArray, List.getElem_cons_succ, List.getElem_cons_zero])
          (try simp only [Act.put, List.setIfInBounds_toArray, List.set_cons_zero, List.set_cons_succ])
          refine wpTill_pure (i := 1) (v := ?_) rfl (by kernel_rfl) (by kernel_rfl) (by kernel_rfl) (by kernel_rfl) (fun _ _ _ h => h) (Or.inl ⟨by rfl, ?_⟩) (fun _ => hC0) ?_
          rotate_left
          · intro w hSw; clear hSw; go_simp; (try with_reducible rfl)
          (try simp only [List.getElem_toArray, List.getElem_cons_succ, List.getElem_cons_zero])
          (try simp only [Act.put, List.setIfInBounds_toArray, List.set_cons_zero, List.set_cons_succ])
          refine wpTill_pure (i := 2) (v := ?_) rfl (by kernel_rfl) (by kernel_rfl) (by kernel_rfl) (by kernel_rfl) (fun _ _ _ h => h) (Or.inl ⟨by rfl, ?_⟩) (fun _ => hC0) ?_
          rotate_left
          · intro w hSw; clear hSw; go_simp; (try with_reducible rfl)
          (try simp only [List.getElem_toArray, List.getElem_cons_succ, List.getElem_cons_zero])
          (try simp only [Act.put, List.setIfInBounds_toArray, List.set_cons_zero, List.set_cons_succ])
          refine wpTill_pure (i := 3) (v := ?_) rfl (by kernel_rfl) (by kernel_rfl) (by kernel_rfl) (by kernel_rfl) (fun _ _ _ h => h) (Or.inl ⟨by rfl, ?_⟩) (fun _ => hC0) ?_
          rotate_left
          · intro w hSw; clear hSw; go_simp; (try with_reducible rfl)
          (try simp only [List.getElem_toArray, List.getElem_cons_succ, List.getElem_cons_zero])
          (try simp only [Act.put, List.setIfInBounds_toArray, List.set_cons_zero, List.set_cons_succ])
          refine wpTill_pure (i := 4) (v := ?_) rfl (by kernel_rfl) (by kernel_rfl) (by kernel_rfl) (by kernel_rfl) (fun _ _ _ h => h) (Or.inl ⟨by rfl, ?_⟩) (fun _ => hC0) ?_
          rotate_left
          · intro w hSw; clear hSw; go_simp; (try with_reducible rfl)
          (try simp only [List.getElem_toArray, List.getElem_cons_succ, List.getElem_cons_zero])
          (try simp only [Act.put, List.setIfInBounds_toArray, List.set_cons_zero, List.set_cons_succ])
          refine wpTill_take (i := 5) (v := ?_) rfl (by kernel_rfl) (by kernel_rfl) (by kernel_rfl) (by kernel_rfl) (by kernel_rfl) (by kernel_rfl) (fun _ _ _ h => h) (Or.inl ⟨by rfl, ?_⟩) hC0 ?_
          rotate_left
          · intro w hSw; (try dsimp only at hSw); obtain ⟨⟨z1, z2, z3⟩, z4, z5, z6⟩ := hSw; go_simp; (try with_reducible rfl)
          (try simp only [List.getElem_toArray, List.getElem_cons_succ, List.getElem_cons_zero])
          (try simp only [Act.put, List.setIfInBounds_toArray, List.set_cons_zero, List.set_cons_succ])
          refine wpTill_pure (i := 6) (v := ?_) rfl (by kernel_rfl) (by kernel_rfl) (by kernel_rfl) (by kernel_rfl) (fun _ _ _ h => h) (Or.inl ⟨by rfl, ?_⟩) (fun _ => hC0) ?_
          rotate_left
          · intro w hSw; clear hSw; go_simp; (try with_reducible rfl)
          (try simp only [List.getElem_toArray, List.getElem_cons_succ, List.getElem_cons_zero])
          (try simp only [Act.put, List.setIfInBounds_toArray, List.set_cons_zero, List.set_cons_succ])
          refine wpTill_pure (i := 7) (v := ?_) rfl (by kernel_rfl) (by kernel_rfl) (by kernel_rfl) (by kernel_rfl) (fun _ _ _ h => h) (Or.inl ⟨by rfl, ?_⟩) (fun _ => hC0) ?_
          rotate_left
          · intro w hSw; clear hSw; go_simp; (try with_reducible rfl)
          (try simp only [List.getElem_toArray, List.getElem_cons_succ, List.getElem_cons_zero])
          (try simp only [Act.put, List.setIfInBounds_toArray, List.set_cons_zero, List.set_cons_succ])
          refine wpTill_pure (i := 8) (v := ?_) rfl (by kernel_rfl) (by kernel_rfl) (by kernel_rfl) (by kernel_rfl) (fun _ _ _ h => h) (Or.inl ⟨by rfl, ?_⟩) (fun _ => hC0) ?_
          rotate_left
          · intro w hSw; clear hSw; go_simp; (try with_reducible rfl)
          (try simp only [List.getElem_toArray, List.getElem_cons_succ, List.getElem_cons_zero])
          (try simp only [Act.put, List.setIfInBounds_toArray, List.set_cons_zero, List.set_cons_succ])
          refine wpTill_take (i := 9) (v := ?_) rfl (by kernel_rfl) (by kernel_rfl) (by kernel_rfl) (by kernel_rfl) (by kernel_rfl) (by kernel_rfl) (fun _ _ _ h => h) (Or.inl ⟨by rfl, ?_⟩) hC0 ?_
          rotate_left
          · intro w hSw; (try dsimp only at hSw); obtain ⟨⟨z1, z2, z3⟩, z4, z5, z6⟩ := hSw; go_simp; (try with_reducible rfl)
          (try simp only [List.getElem_toArray, List.getElem_cons_succ, List.getElem_cons_zero])
          (try simp only [Act.put, List.setIfInBounds_toArray, List.set_cons_zero, List.set_cons_succ])
          refine wpTill_one (k := 10) (by kernel_rfl) rfl (fun K hK => ?_)
          (try simp only [List.getElem_toArray, List.getElem_cons_succ, List.getElem_cons_zero])
          go_simp
          refine (divR_any tx.val ty.val _ _ _ ((unhide HTX).below bd0) ((unhide HTY).below bd0) (XBn n) (unhide HRN i) (unhide HRD i) (by rw [KKe]; have := unhide HXB; rw [KKe] at this; omega) (unhide HDZ i hlt)).mono ?_
          rintro e xw_1 ⟨xv_1, rfl, hv_1, hb_1⟩
          have cc_1 := below_step bd0 hb_1
          have hC_1 : (fun w' : World => (w'.cell? ⟨b1, o1 + i * 3, none⟩ = some (.bool tx.s) ∧ w'.cell? ⟨b1, o1 + i * 3 + 1, none⟩ = some (.slice tx.a1 tx.n1 tx.c1) ∧ w'.cell? ⟨b1, o1 + i * 3 + 2, none⟩ = some (.slice tx.a2 tx.n2 tx.c2)) ∧ (w'.cell? ⟨b2, o2 + i * 3, none⟩ = some (.bool ty.s) ∧ w'.cell? ⟨b2, o2 + i * 3 + 1, none⟩ = some (.slice ty.a1 ty.n1 ty.c1) ∧ w'.cell? ⟨b2, o2 + i * 3 + 2, none⟩ = some (.slice ty.a2 ty.n2 ty.c2))) xw_1 := unhide HCC _ cc_1
          refine hK.out _ _ (fun _ => hC_1) ?_
          clear hK K
          (try simp only [Act.put, List.setIfInBounds_toArray, List.set_cons_zero, List.set_cons_succ])
          refine wpTill_pure (i := 11) (v := ?_) rfl (by kernel_rfl) (by kernel_rfl) (by kernel_rfl) (by kernel_rfl) (fun _ _ _ h => h) (Or.inl ⟨by rfl, ?_⟩) (fun _ => hC_1) ?_
          rotate_left
          · intro w hSw; clear hSw; go_simp; (try with_reducible rfl)
          (try simp only [List.getElem_toArray, List.getElem_cons_succ, List.getElem_cons_zero])
          (try simp only [Act.put, List.setIfInBounds_toArray, List.set_cons_zero, List.set_cons_succ])
          refine wpTill_pure (i := 12) (v := ?_) rfl (by kernel_rfl) (by kernel_rfl) (by kernel_rfl) (by kernel_rfl) (fun _ _ _ h => h) (Or.inl ⟨by rfl, ?_⟩) (fun _ => hC_1) ?_
          rotate_left
          · intro w hSw; clear hSw; go_simp; (try with_reducible rfl)
          (try simp only [List.getElem_toArray, List.getElem_cons_succ, List.getElem_cons_zero])
          (try simp only [Act.put, List.setIfInBounds_toArray, List.set_cons_zero, List.set_cons_succ])
          refine wpTill_pure (i := 13) (v := ?_) rfl (by kernel_rfl) (by kernel_rfl) (by kernel_rfl) (by kernel_rfl) (fun _ _ _ h => h) (Or.inl ⟨by rfl, ?_⟩) (fun _ => hC_1) ?_
          rotate_left
          · intro w hSw; clear hSw; go_simp; (try with_reducible rfl)
          (try simp only [List.getElem_toArray, List.getElem_cons_succ, List.getElem_cons_zero])
          (try simp only [Act.put, List.setIfInBounds_toArray, List.set_cons_zero, List.set_cons_succ])
          refine wpTill_pure (i := 14) (v := ?_) rfl (by kernel_rfl) (by kernel_rfl) (by kernel_rfl) (by kernel_rfl) (fun _ _ _ h => h) (Or.inl ⟨by rfl, ?_⟩) (fun _ => hC_1) ?_
          rotate_left
          · intro w hSw; clear hSw; go_simp; (try with_reducible rfl)
          (try simp only [List.getElem_toArray, List.getElem_cons_succ, List.getElem_cons_zero])
          (try simp only [Act.put, List.setIfInBounds_toArray, List.set_cons_zero, List.set_cons_succ])
          obtain ⟨t5, rfl, r5⟩ := tri_of hv_1
          simp only [Tri.val]
          have S8 := (unhide HS5).keep cc_1
          have ⟨⟨y0, y1, y2⟩, f0, f1, f2⟩ := S8.cells i (by rw [unhide HUL]; exact hlt)
          have FZ := S8.set i (by rw [unhide HUL]; exact hlt) t5 _ r5
          obtain ⟨W9, hW9⟩ : ∃ W, ((xw_1.setCell ⟨G3, i * 3, none⟩ (.bool t5.s)).setCell ⟨G3, i * 3 + 1, none⟩ (.slice t5.a1 t5.n1 t5.c1)).setCell ⟨G3, i * 3 + 2, none⟩ (.slice t5.a2 t5.n2 t5.c2) = W := ⟨_, rfl⟩
          rw [hW9, show Nn i / Dd i = (fun i => Nn i / Dd i) i from rfl, fill_set] at FZ
          have HFZ := hide FZ
          clear S8 FZ r5 hv_1
          refine wpTill_one (k := 15) (by kernel_rfl) rfl (fun K hK => ?_)
          (try simp only [List.getElem_toArray, List.getElem_cons_succ, List.getElem_cons_zero])
          go_simp
          refine hK.out _ _ (fun h => absurd (h.symm.trans (by kernel_rfl)) Bool.false_ne_true) ?_
          clear hK K
          (try simp only [Act.put, List.setIfInBounds_toArray, List.set_cons_zero, List.set_cons_succ])
          refine wpTill_done (by kernel_rfl) ?_ _
          clear HCC HTX HTY HS5
          clear y0 y1 y2 f0 f1 f2 hW9 hC0 hC_1 cc_1 bd0 hb_1 hWd
          go_wp2_with fail
          exact ⟨⟨i + 1, _, by go_num, hlt, by rw [List.length_set]; exact unhide HUL, unhide HFZ⟩, by simp [intOf]; omega⟩
        · obtain rfl : i = n := by omega
          have e1 : ¬ (i : Int) < (i : Int) := by omega
          have hL := hSm.law (by omega)
          rw [hul] at hL
          have HL := hide hL
          have HB9 := hide (below_step (below_step (unhide HB0) (unhide HB2)) hSm.bl)
          clear hSm hL hul
          go_wp2
          go_ret
          refine ⟨_, Nn, Dd, rfl, ?_, unhide HWN, unhide HWD1, fun j hj => ?_, unhide HB9⟩
          · rw [unhide HNA]; exact unhide HL
          · rw [unhide HNA] at hj ⊢
            exact RS.mono (RS.div' (unhide HRN j) (unhide HRD j) (unhide HDZ j hj)) (by omega)
end Go.Proofs.YtjlohghknejjoaaGreatDoor
