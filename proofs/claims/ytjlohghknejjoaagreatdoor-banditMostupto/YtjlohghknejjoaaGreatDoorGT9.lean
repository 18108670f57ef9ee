/- Arms: beginning anew. -/
import Derived.Test.YtjlohghknejjoaaGreatDoorGT7
namespace Go.Proofs.YtjlohghknejjoaaGreatDoor
open Go.RowKit Go.Sort Go.Shelf

def IndexPost (w : World) (gs : List Rat) (P : List (List Rat)) (b : Rat) (e : Ending) (w' : World) : Prop :=
  (wcode gs P b ≠ 0 ∧ e = .returned (.tuple #[.slice none 0 0, errV (wcode gs P b)]) ∧ Below w.heap.size w w') ∨
  (wcode gs P b = 0 ∧ ∃ (v : Value) (x : Nat → Rat), e = .returned (.tuple #[v, .nilIface]) ∧ LawIs w' v (row x gs.length) ∧ Git.Idx (arm gs P b) x ∧ (∀ i, i < gs.length → RS (x i) (2 * XBn gs.length)) ∧ Below w.heap.size w w')

set_option maxHeartbeats 16000000 in
set_option maxRecDepth 100000 in
set_option linter.unusedSimpArgs false in
theorem Index_any (v vw : Value) (gs : List Rat) (P : List (List Rat)) (b : Rat) (w : World) (h : ArmIs w v gs P) (hw : RatIs w vw b) (sm : SmA gs P) (rb : RS b 1) : Calls Tryz.prog 9 #[v, vw] w (IndexPost w gs P b) := by
  obtain ⟨m, l, rfl, hT, hS⟩ := h
  have hln := rows_len hS
  have hmn := law_len hT
  obtain ⟨n, hn⟩ : ∃ n, P.length = n := ⟨_, rfl⟩
  obtain ⟨k, hk⟩ : ∃ k, gs.length = k := ⟨_, rfl⟩
  rw [hn] at hln
  rw [hk] at hmn
  have HN := hide hn
  have HK := hide hk
  have HLN := hide hln
  have HMN := hide hmn
  obtain ⟨t, rfl, hwt⟩ := tri_of hw
  have X0 := ArmBox.new hT hS
  have b0 := alloc_below w (.cells #[.slice m.a m.n m.c, .slice l.a l.n l.c] 32)
  obtain ⟨W1, hW1⟩ : ∃ W, w.alloc (.cells #[.slice m.a m.n m.c, .slice l.a l.n l.c] 32) = W := ⟨_, rfl⟩
  obtain ⟨ba, hba⟩ : ∃ x, w.heap.size = x := ⟨_, rfl⟩
  rw [hW1] at X0 b0
  rw [hba] at X0
  have hXW := BoxIs.new (w := W1) (hwt.below b0)
  have b1 := alloc_below W1 (.cells #[.bool t.s, .slice t.a1 t.n1 t.c1, .slice t.a2 t.n2 t.c2] 37)
  obtain ⟨W0, hW0⟩ : ∃ W, W1.alloc (.cells #[.bool t.s, .slice t.a1 t.n1 t.c1, .slice t.a2 t.n2 t.c2] 37) = W := ⟨_, rfl⟩
  obtain ⟨bw, hbw⟩ : ∃ x, W1.heap.size = x := ⟨_, rfl⟩
  rw [hW0] at hXW b1
  rw [hbw] at hXW
  have HXW := hide hXW
  have HXA := hide (X0.keep b1)
  have HB0 := hide (below_step b0 b1)
  have HCA : Hid (∀ W, Below W0.heap.size W0 W → (fun w' : World => (w'.cell? ⟨ba, 0, none⟩ = some (.slice m.a k m.c) ∧ w'.cell? ⟨ba, 1, none⟩ = some (.slice l.a n l.c)) ∧ w'.cell? ⟨bw, 0, none⟩ = some (.bool t.s) ∧ w'.cell? ⟨bw, 1, none⟩ = some (.slice t.a1 t.n1 t.c1) ∧ w'.cell? ⟨bw, 2, none⟩ = some (.slice t.a2 t.n2 t.c2)) W) := fun W hW => by
    have h1 := (unhide HXA).cells W hW
    rw [hmn, hln] at h1
    exact ⟨h1, (unhide HXW).cells W hW⟩
  have HAR : Hid (∀ W, Below W0.heap.size W0 W → ArmIs W (.agg #[.slice m.a k m.c, .slice l.a n l.c]) gs P) := fun W hW => by
    have h1 := (unhide HXA).arm.below hW
    unfold aval at h1
    rw [hmn, hln] at h1
    exact h1
  have HRW : Hid (∀ W, Below W0.heap.size W0 W → RatIs W (.agg #[.bool t.s, .slice t.a1 t.n1 t.c1, .slice t.a2 t.n2 t.c2]) b) := fun W hW => (unhide HXW).2.below hW
  unfold aval
  rw [hmn, hln] at hW1 ⊢
  simp only [Tri.val]
  have ⟨⟨ca0, ca1⟩, cw0, cw1, cw2⟩ := unhide HCA W0 (Below.refl _ _)
  clear hT hS X0 b0 b1 hXW hwt hw hln hmn
  have HCK := hide (checkWorth_any _ _ gs P b W0 (unhide HAR W0 (Below.refl _ _)) (unhide HRW W0 (Below.refl _ _)) sm rb)
  have HIN : Hid (wcode gs P b = 0 → ∀ W, Below W0.heap.size W0 W → Calls Tryz.prog 23 #[.agg #[.slice m.a k m.c, .slice l.a n l.c], .agg #[.bool t.s, .slice t.a1 t.n1 t.c1, .slice t.a2 t.n2 t.c2]] W (IndPost W (arm gs P b))) := fun hz W hW => by
    have ⟨g1, g2, g3⟩ := wcode_zero hz
    exact indices_any _ _ gs P b W (unhide HAR W hW) (unhide HRW W hW) sm g1 rb g2 g3
  obtain ⟨z, hz⟩ : ∃ z, wcode gs P b = z := ⟨_, rfl⟩
  have HZ := hide hz
  rw [hz] at HCK HIN
  clear sm rb hz hn hk
  go_enter Tryz.func9, Tryz.ntmps9
  go_wp2_with fail
  refine (unhide HCK).mono ?_
  rintro e w1 ⟨rfl, hb1⟩
  have HB1 := hide (below_step (unhide HB0) hb1)
  have ⟨⟨x0, x1⟩, x2, x3, x4⟩ := unhide HCA w1 hb1
  have HBB := hide hb1
  clear hb1 hW1 hW0 hba hbw ca0 ca1 cw0 cw1 cw2 HCK HCA HRW HAR
  by_cases hk0 : z = 0
  rotate_left
  · have e5 : errV z = .iface 76 (.int .i64 z) := by unfold errV; rw [if_neg hk0]
    rw [e5]
    have HE5 := hide e5
    have HNZ := hide hk0
    clear hk0 e5
    go_wp2
    exact bodyPost_ret (v := .tuple #[.slice none 0 0, .iface 76 (.int .i64 z)]) (by simp [results, Tryz.results9, go_sem]) rfl (by unfold IndexPost; rw [unhide HZ]; exact Or.inl ⟨unhide HNZ, by rw [unhide HE5], unhide HB1⟩)
  subst hk0
  have HI1 := hide (unhide HIN rfl w1 (unhide HBB))
  have e5 : errV 0 = .nilIface := rfl
  rw [e5]
  clear HIN HBB
  go_wp2_with fail
  refine (unhide HI1).mono ?_
  rintro e w2 ⟨v2, x, rfl, hv2, hx2, hr2, hb2⟩
  have HV2 := hide hv2
  obtain ⟨a2, c2, rfl, _⟩ := hv2
  have ea : (arm gs P b).n = gs.length := rfl
  rw [row_length, ea] at HV2 ⊢
  rw [ea] at hr2
  have HX2 := hide hx2
  have HR2 := hide hr2
  have HB2 := hide (below_step (unhide HB1) hb2)
  clear hx2 hr2 hb2 HI1 x0 x1 x2 x3 x4 ea
  go_wp2
  exact bodyPost_ret (v := .tuple #[.slice a2 gs.length c2, .nilIface]) (by simp [results, Tryz.results9, go_sem]) rfl (Or.inr ⟨unhide HZ, _, x, rfl, unhide HV2, unhide HX2, unhide HR2, unhide HB2⟩)

def WhilePost (w : World) (a : Git.Arm) (C : Nat → Bool) (s : Nat) (e : Ending) (w' : World) : Prop :=
  ∃ (v : Value) (N D : Nat → Rat), e = .returned (.tuple #[v, .nilIface]) ∧ RatIs w' v (N s / D s) ∧ Git.Whl a C a.r N ∧ Git.Whl a C (fun _ => 1) D ∧ RS (N s / D s) (2 * XBn a.n) ∧ Below w.heap.size w w'

set_option maxHeartbeats 16000000 in
set_option maxRecDepth 100000 in
set_option linter.unusedSimpArgs false in
theorem While_any (v vw vs : Value) (gs : List Rat) (P : List (List Rat)) (b : Rat) (C : Nat → Bool) (s : Nat) (w : World) (h : ArmIs w v gs P) (hw : RatIs w vw b) (hC : BRow w vs gs.length C) (sm : SmA gs P) (rb : RS b 1) (hs : s < gs.length) (hz : wcode gs P b = 0) :
    Calls Tryz.prog 13 #[v, vw, .int .i64 (s : Int), vs] w (WhilePost w (arm gs P b) C s) := by
  obtain ⟨m, l, rfl, hT, hS⟩ := h
  have hln := rows_len hS
  have hmn := law_len hT
  obtain ⟨n, hn⟩ : ∃ n, P.length = n := ⟨_, rfl⟩
  obtain ⟨k, hk⟩ : ∃ k, gs.length = k := ⟨_, rfl⟩
  rw [hn] at hln
  rw [hk] at hmn
  have HN := hide hn
  have HK := hide hk
  have HLN := hide hln
  have HMN := hide hmn
  obtain ⟨t, rfl, hwt⟩ := tri_of hw
  have X0 := ArmBox.new hT hS
  have b0 := alloc_below w (.cells #[.slice m.a m.n m.c, .slice l.a l.n l.c] 32)
  obtain ⟨W1, hW1⟩ : ∃ W, w.alloc (.cells #[.slice m.a m.n m.c, .slice l.a l.n l.c] 32) = W := ⟨_, rfl⟩
  obtain ⟨ba, hba⟩ : ∃ x, w.heap.size = x := ⟨_, rfl⟩
  rw [hW1] at X0 b0
  rw [hba] at X0
  have hXW := BoxIs.new (w := W1) (hwt.below b0)
  have b1 := alloc_below W1 (.cells #[.bool t.s, .slice t.a1 t.n1 t.c1, .slice t.a2 t.n2 t.c2] 37)
  obtain ⟨W0, hW0⟩ : ∃ W, W1.alloc (.cells #[.bool t.s, .slice t.a1 t.n1 t.c1, .slice t.a2 t.n2 t.c2] 37) = W := ⟨_, rfl⟩
  obtain ⟨bw, hbw⟩ : ∃ x, W1.heap.size = x := ⟨_, rfl⟩
  rw [hW0] at hXW b1
  rw [hbw] at hXW
  have HXW := hide hXW
  have HXA := hide (X0.keep b1)
  have HB0 := hide (below_step b0 b1)
  have HCA : Hid (∀ W, Below W0.heap.size W0 W → (fun w' : World => (w'.cell? ⟨ba, 0, none⟩ = some (.slice m.a k m.c) ∧ w'.cell? ⟨ba, 1, none⟩ = some (.slice l.a n l.c)) ∧ w'.cell? ⟨bw, 0, none⟩ = some (.bool t.s) ∧ w'.cell? ⟨bw, 1, none⟩ = some (.slice t.a1 t.n1 t.c1) ∧ w'.cell? ⟨bw, 2, none⟩ = some (.slice t.a2 t.n2 t.c2)) W) := fun W hW => by
    have h1 := (unhide HXA).cells W hW
    rw [hmn, hln] at h1
    exact ⟨h1, (unhide HXW).cells W hW⟩
  have HAR : Hid (∀ W, Below W0.heap.size W0 W → ArmIs W (.agg #[.slice m.a k m.c, .slice l.a n l.c]) gs P) := fun W hW => by
    have h1 := (unhide HXA).arm.below hW
    unfold aval at h1
    rw [hmn, hln] at h1
    exact h1
  have HRW : Hid (∀ W, Below W0.heap.size W0 W → RatIs W (.agg #[.bool t.s, .slice t.a1 t.n1 t.c1, .slice t.a2 t.n2 t.c2]) b) := fun W hW => (unhide HXW).2.below hW
  unfold aval
  rw [hmn, hln] at hW1 ⊢
  simp only [Tri.val]
  have ⟨⟨ca0, ca1⟩, cw0, cw1, cw2⟩ := unhide HCA W0 (Below.refl _ _)
  clear hT hS X0 b0 b1 hXW hwt hw hln hmn
  have hX := BoxIs.new (w := W0) (t := zTri) (q := 0) (rat_zero _)
  have hbr := alloc_below W0 (.cells #[.bool false, .slice none 0 0, .slice none 0 0] 37)
  obtain ⟨W2, hW2⟩ : ∃ W, W0.alloc (.cells #[.bool false, .slice none 0 0, .slice none 0 0] 37) = W := ⟨_, rfl⟩
  obtain ⟨br, hbrn⟩ : ∃ x, W0.heap.size = x := ⟨_, rfl⟩
  have hX' : BoxIs W2 br zTri 0 := by rw [← hW2, ← hbrn]; exact hX
  rw [hW2] at hbr
  have ⟨g1, g2, g3⟩ := wcode_zero hz
  have HCK := hide (checkState_any _ _ gs P b s W2 (unhide HAR W2 hbr) (unhide HRW W2 hbr) sm rb hs hz)
  have HRA : Hid (∀ W, Below W2.heap.size W2 W → Calls Tryz.prog 30 #[.agg #[.slice m.a k m.c, .slice l.a n l.c], .agg #[.bool t.s, .slice t.a1 t.n1 t.c1, .slice t.a2 t.n2 t.c2], vs] W (RatesPost W (arm gs P b) C)) := fun W hW => rates_any _ _ vs gs P b C W (unhide HAR W (below_step hbr hW)) (unhide HRW W (below_step hbr hW)) (((hC.below (unhide HB0)).below hbr).below hW) sm g1 rb g2 g3
  have HX : Hid (∀ W, Below W2.heap.size W2 W → BoxIs W br zTri 0) := fun W hW => hX'.keep hW
  have HB : Hid (∀ W, Below W2.heap.size W2 W → Below w.heap.size w W) := fun W hW => below_step (below_step (unhide HB0) hbr) hW
  have HG : Hid (w.heap.size ≤ br) := by show _ ≤ _; rw [← hbrn]; exact (unhide HB0).size
  have HC2 : Hid (∀ W, Below W2.heap.size W2 W → (fun w' : World => (w'.cell? ⟨ba, 0, none⟩ = some (.slice m.a k m.c) ∧ w'.cell? ⟨ba, 1, none⟩ = some (.slice l.a n l.c)) ∧ w'.cell? ⟨bw, 0, none⟩ = some (.bool t.s) ∧ w'.cell? ⟨bw, 1, none⟩ = some (.slice t.a1 t.n1 t.c1) ∧ w'.cell? ⟨bw, 2, none⟩ = some (.slice t.a2 t.n2 t.c2)) W) := fun W hW => unhide HCA W (below_step hbr hW)
  obtain ⟨av, cs, rfl, hC1, hC2, hC3⟩ := hC
  clear hC1 hC2 hC3
  rw [hk] at hs HRA ⊢
  have ⟨⟨d0, d1⟩, d2, d3, d4⟩ := unhide HC2 W2 (Below.refl _ _)
  have ea : (arm gs P b).n = k := hk
  have HEA := hide ea
  have s0 : (0 : Int) ≤ (s : Int) := by omega
  have s1 : (s : Int) < (k : Int) := by omega
  have e3 : ((k : Int) == (k : Int)) = true := by rw [beq_iff_eq]
  have HSK := hide hs
  clear sm rb hz g1 g2 g3 hX hX' hbr ea hn hk
  go_enter Tryz.func13, Tryz.ntmps13
  go_wp2_with fail
  refine (unhide HCK).mono ?_
  rintro e w1 ⟨rfl, hb1⟩
  have ⟨⟨x0, x1⟩, x2, x3, x4⟩ := unhide HC2 w1 hb1
  have HR1 := hide (unhide HRA w1 hb1)
  have HBB := hide hb1
  clear hb1 hW1 hW0 hW2 hba hbw hbrn ca0 ca1 cw0 cw1 cw2 d0 d1 d2 d3 d4 HCK HCA HC2 HRW HAR HRA
  go_wp2_with fail
  refine (unhide HR1).mono ?_
  rintro e w3 ⟨v3, N, D, rfl, hv3, hN, hD, hr3, hb3⟩
  rw [unhide HEA] at hv3 hr3
  obtain ⟨aa1, cc1, rfl, _, _, z1⟩ := hv3
  rw [row_length] at z1 ⊢
  obtain ⟨b1, o1, rfl, hb1, hz1⟩ := z1 (by omega)
  obtain ⟨xs_, xp1, xp2, xn1, xd1, xn2, xd2, k0, k1, k2, xr⟩ := hz1 s hs
  obtain ⟨ty, rfl, rfl, rfl, rfl, rfl, rfl, rfl⟩ : ∃ t : Tri, xs_ = t.s ∧ xp1 = t.a1 ∧ xp2 = t.a2 ∧ xn1 = t.n1 ∧ xd1 = t.c1 ∧ xn2 = t.n2 ∧ xd2 = t.c2 := ⟨⟨xs_, xp1, xp2, xn1, xd1, xn2, xd2⟩, rfl, rfl, rfl, rfl, rfl, rfl, rfl⟩
  rw [row_get hs] at xr
  have HN3 := hide hN
  have HD3 := hide hD
  have HR3 := hide (hr3 s hs)
  have hbw3 := below_step (unhide HBB) hb3
  have Y := unhide HX _ hbw3
  have ⟨l0, l1, l2⟩ := Y.free
  have ⟨y0, y1, y2⟩ := Y.cells _ (Below.refl _ _)
  have FIN := Y.set xr
  have FB := (((unhide HB _ hbw3).setCell (p := ⟨br, 0, none⟩) (unhide HG) (.bool ty.s)).setCell (p := ⟨br, 1, none⟩) (unhide HG) (.slice ty.a1 ty.n1 ty.c1)).setCell (p := ⟨br, 2, none⟩) (unhide HG) (.slice ty.a2 ty.n2 ty.c2)
  obtain ⟨Wf, hWf⟩ : ∃ W, ((w3.setCell ⟨br, 0, none⟩ (.bool ty.s)).setCell ⟨br, 1, none⟩ (.slice ty.a1 ty.n1 ty.c1)).setCell ⟨br, 2, none⟩ (.slice ty.a2 ty.n2 ty.c2) = W := ⟨_, rfl⟩
  rw [hWf] at FIN FB
  have HFIN := hide FIN
  have HFB := hide FB
  clear Y FIN FB
  have ⟨u0, u1, u2⟩ := (unhide HFIN).cells _ (Below.refl _ _)
  clear z1 hz1 hb1 hN hD hr3 hb3 hbw3 xr HR1
  go_wp2
  exact bodyPost_ret (v := .tuple #[.agg #[.bool ty.s, .slice ty.a1 ty.n1 ty.c1, .slice ty.a2 ty.n2 ty.c2], .nilIface]) (by simp [results, Tryz.results13, go_sem, u0, u1, u2]) rfl ⟨_, N, D, rfl, (unhide HFIN).2, unhide HN3, unhide HD3, by rw [unhide HEA]; exact unhide HR3, unhide HFB⟩

end Go.Proofs.YtjlohghknejjoaaGreatDoor
namespace Go.Proofs.YtjlohghknejjoaaGreatDoor
open Go.RowKit Go.Sort Go.Shelf

/-- Two acts in a block of their own. -/
def acl2 (ta : Tri) (la : Sl) (tb : Tri) (lb : Sl) : Array Value := #[.bool ta.s, .slice ta.a1 ta.n1 ta.c1, .slice ta.a2 ta.n2 ta.c2, .slice la.a la.n la.c, .bool tb.s, .slice tb.a1 tb.n1 tb.c1, .slice tb.a2 tb.n2 tb.c2, .slice lb.a lb.n lb.c]
structure AgAt (w wr : World) (v : Value) (ps : List Sl) (ks : List (List (Rat × List Rat))) : Prop where
  own : wr.ownsRow w.heap.size 71 1 v ps.length (sv ps)
  no : ∀ g, v.ownBlock = some g → Wordless wr g
  rat : ∀ j, j < ps.length → ∃ b ta la tb lb, ps[j]! = (some ⟨b, 0, none⟩, 2, 2) ∧ wr.heap[b]? = some (.cells (acl2 ta la tb lb) 67) ∧ ActIs w ta la (ks[j]!)[0]! ∧ ActIs w tb lb (ks[j]!)[1]!
  bl : Below w.heap.size w wr
theorem AgAt.keep {w wr w' : World} {v : Value} {ps : List Sl} {ks : List (List (Rat × List Rat))} (h : AgAt w wr v ps ks) (hb : Below wr.heap.size wr w') : AgAt w w' v ps ks := by
  refine ⟨?_, fun g hg => (h.no g hg).below (ownsSt_block h.own g hg).2 hb, fun j hj => ?_, below_step h.bl hb⟩
  · refine ⟨h.own.1, ?_⟩
    rcases h.own.2 with h2 | ⟨g, cap, cur, hv, hbg, hh, hr⟩
    · exact Or.inl h2
    · exact Or.inr ⟨g, cap, cur, hv, hbg, by rw [hb.block g (Array.getElem?_eq_some_iff.1 hh).1]; exact hh, hr⟩
  · obtain ⟨b, ta, la, tb, lb, e, hh, r⟩ := h.rat j hj
    exact ⟨b, ta, la, tb, lb, e, by rw [hb.block b (Array.getElem?_eq_some_iff.1 hh).1]; exact hh, r⟩
theorem AgAt.start (w wr : World) (ks : List (List (Rat × List Rat))) (hb : Below w.heap.size w wr) : AgAt w wr (.slice none 0 0) [] ks :=
  ⟨⟨rfl, Or.inl ⟨rfl, rfl⟩⟩, fun g hg => (by cases hg), fun j hj => absurd hj (Nat.not_lt_zero _), hb⟩
theorem own_type {w : World} {B : Nat} {v : Value} {n : Nat} {xs : List Value} (h : w.ownsRow B 71 1 v n xs) {g : Nat} (hg : v.ownBlock = some g) {cs : Array Value} {T : TypeId} (hT : T ≠ 71) : w.heap[g]? ≠ some (.cells cs T) := fun e => by
  rcases h.2 with ⟨rfl, _⟩ | ⟨g', cap, cur, rfl, _, hh, _⟩
  · cases hg
  · have : g' = g := Option.some.inj hg
    subst this
    rw [e] at hh
    injection hh with hh
    injection hh with _ hh
    exact hT hh
theorem AgAt.push {w wr w' : World} {g cap : Nat} {v : Value} {ps : List Sl} {p : Sl} {ks : List (List (Rat × List Rat))} (h : AgAt w wr v ps ks)
    (hp : ∃ b ta la tb lb, p = (some ⟨b, 0, none⟩, 2, 2) ∧ wr.heap[b]? = some (.cells (acl2 ta la tb lb) 67) ∧ ActIs w ta la (ks[ps.length]!)[0]! ∧ ActIs w tb lb (ks[ps.length]!)[1]!)
    (own : w'.ownsRow w.heap.size 71 1 (.slice (some ⟨g, 0, none⟩) (ps.length + 1) cap) (ps.length + 1) (sv ps ++ [p.val])) (hg : wr.grownBy w' v.ownBlock) (hn : Wordless w' g) (hb : Below w.heap.size w w') : AgAt w w' (.slice (some ⟨g, 0, none⟩) (ps.length + 1) cap) (ps ++ [p]) ks := by
  have far : ∀ (b : Nat) (cs : Array Value), wr.heap[b]? = some (.cells cs 67) → w'.heap[b]? = some (.cells cs 67) := fun b cs e => by
    rw [hg.block b (Array.getElem?_eq_some_iff.1 e).1 (fun x => own_type h.own x.symm (by decide) e)]; exact e
  refine ⟨?_, fun g' e => ?_, fun j hj => ?_, hb⟩
  · rw [List.length_append]
    have e : sv (ps ++ [p]) = sv ps ++ [p.val] := by simp [sv]
    rw [e]
    exact own
  · have : g = g' := Option.some.inj e
    rw [← this]; exact hn
  · rw [List.length_append] at hj
    by_cases c : j < ps.length
    · obtain ⟨b, ta, la, tb, lb, e, hh, r⟩ := h.rat j c
      refine ⟨b, ta, la, tb, lb, ?_, far b _ hh, r⟩
      rw [← e, List.getElem!_eq_getElem?_getD, List.getElem?_append_left c, ← List.getElem!_eq_getElem?_getD]
    · obtain rfl : j = ps.length := by simp at hj; omega
      obtain ⟨b, ta, la, tb, lb, e, hh, r⟩ := hp
      refine ⟨b, ta, la, tb, lb, ?_, far b _ hh, r⟩
      rw [List.getElem!_eq_getElem?_getD, List.getElem?_append_right (Nat.le_refl _), Nat.sub_self]
      exact e
theorem AgAt.touch {w wr : World} {v x : Value} {ps : List Sl} {ks : List (List (Rat × List Rat))} {go : Nat} {cs : Array Value} (h : AgAt w wr v ps ks) (hg : wr.heap[go]? = some (.cells cs 70)) (hge : w.heap.size ≤ go) (i : Nat) : AgAt w (wr.setCell ⟨go, i, none⟩ x) v ps ks := by
  have hne : ∀ g, v.ownBlock = some g → g ≠ go := fun g e => by
    rintro rfl
    exact own_type h.own e (by decide) hg
  refine ⟨⟨h.own.1, ?_⟩, fun g hgv => ?_, fun j hj => ?_, h.bl.setCell hge _⟩
  · rcases h.own.2 with h2 | ⟨g, cap, cur, hv, hbg, hh, hr⟩
    · exact Or.inl h2
    · refine Or.inr ⟨g, cap, cur, hv, hbg, ?_, hr⟩
      rw [Below.heap_setCell _ _ _ _ (hne g (by rw [hv]; rfl))]; exact hh
  · intro i k y e
    refine h.no g hgv i k y ?_
    rw [← e]
    exact (cell_other (by exact hne g hgv)).symm
  · obtain ⟨b, ta, la, tb, lb, e, hh, r⟩ := h.rat j hj
    refine ⟨b, ta, la, tb, lb, e, ?_, r⟩
    rw [Below.heap_setCell _ _ _ _ (fun x => by
      rw [x, hg] at hh
      injection hh with hh
      injection hh with _ hh
      exact absurd hh (by decide))]
    exact hh
theorem AgAt.states {w wr : World} {v : Value} {ps : List Sl} {ks : List (List (Rat × List Rat))} (h : AgAt w wr v ps ks) (hl : ps.length = ks.length) (h2 : ∀ j, j < ks.length → (ks[j]!).length = 2) : StatesAre wr v ks := by
  rcases h.own.2 with ⟨rfl, e⟩ | ⟨g, cap, cur, rfl, hb, hh, hc1, hc2, hs, ht⟩
  · exact ⟨none, 0, by rw [← hl, e], by omega, by decide, fun hp => by omega⟩
  · refine ⟨_, cap, by rw [hl], by omega, by unfold maxLen at hc2; exact hc2, fun _ => ⟨g, 0, rfl, (Array.getElem?_eq_some_iff.1 hh).1, fun j hj => ⟨ps[j]!, ?_, ?_⟩⟩⟩
    · simp only [World.cell?, hh, Nat.zero_add]
      have e : (cur.toList.take (ps.length * 1))[j]? = (sv ps)[j]? := by rw [ht]
      rw [List.getElem?_take_of_lt (by omega), sv_get ps j (by omega)] at e
      simpa [Sl.val] using e
    · obtain ⟨b, ta, la, tb, lb, e, hk, r1, r2⟩ := h.rat j (by omega)
      rw [e]
      refine ⟨some ⟨b, 0, none⟩, 2, by rw [h2 j hj]; rfl, by rw [h2 j hj]; exact Nat.le_refl _, by decide, fun _ => ⟨b, 0, rfl, (Array.getElem?_eq_some_iff.1 hk).1, fun i hi => ?_⟩⟩
      rw [h2 j hj] at hi
      match i, hi with
      | 0, _ => exact ⟨ta, la, ⟨by simp [World.cell?, hk, acl2], by simp [World.cell?, hk, acl2], by simp [World.cell?, hk, acl2], by simp [World.cell?, hk, acl2]⟩, r1.below h.bl⟩
      | 1, _ => exact ⟨tb, lb, ⟨by simp [World.cell?, hk, acl2], by simp [World.cell?, hk, acl2], by simp [World.cell?, hk, acl2], by simp [World.cell?, hk, acl2]⟩, r2.below h.bl⟩
/-- The model: go on, or begin anew in s. -/
def agK (gs : List Rat) (P : List (List Rat)) (s : Nat) : List (List (Rat × List Rat)) := (List.range gs.length).map fun i => [(gs[i]!, P[i]!), (gs[s]!, P[s]!)]
theorem agK_length (gs : List Rat) (P : List (List Rat)) (s : Nat) : (agK gs P s).length = gs.length := by simp [agK]
theorem agK_get {gs : List Rat} {P : List (List Rat)} {s i : Nat} (h : i < gs.length) : (agK gs P s)[i]! = [(gs[i]!, P[i]!), (gs[s]!, P[s]!)] := by simp [agK, h]
theorem acode_shc {gs : List Rat} {P : List (List Rat)} (h : acode gs P = 0) : ∀ i, i < gs.length → shc gs.length P[i]! = 0 := by
  unfold acode at h
  by_cases a : 1 ≤ gs.length ∧ gs.length ≤ 5
  rotate_left
  · rw [if_neg a] at h; exact absurd h (by decide)
  rw [if_pos a] at h
  by_cases c : P.length = gs.length
  rotate_left
  · rw [if_neg c] at h; exact absurd h (by decide)
  rw [if_pos c, c] at h
  exact rcd_zero h
theorem wcode_acode {gs : List Rat} {P : List (List Rat)} {b : Rat} (h : wcode gs P b = 0) : acode gs P = 0 := by
  unfold wcode at h
  by_cases e : acode gs P = 0
  · exact e
  · rw [if_neg e] at h; exact h
theorem agK_code {gs : List Rat} {P : List (List Rat)} {b : Rat} {s : Nat} (h : wcode gs P b = 0) (hs : s < gs.length) : mcode (agK gs P s) b = 0 := by
  have ⟨g1, g2, g3⟩ := wcode_zero h
  have hsh := acode_shc (wcode_acode h)
  have n1 := g1.n1
  have n5 := g1.n5
  unfold mcode
  rw [agK_length, if_pos ⟨n1, by omega⟩, if_neg (fun x => x.elim (fun y => absurd g2 (Rat.not_le.2 y)) (fun y => absurd g3 (Rat.not_lt.2 y)))]
  have key : ∀ j, j ≤ gs.length → scd gs.length (agK gs P s) j = 0 := fun j => by
    induction j with
    | zero => intro _; rfl
    | succ j ih =>
      intro hj
      show (if scd gs.length (agK gs P s) j = 0 then _ else _) = _
      rw [if_pos (ih (by omega)), agK_get (by omega)]
      unfold stc
      rw [if_pos ⟨by simp, by simp⟩]
      show (if (if (0 : Int) = 0 then shc gs.length P[j]! else 0) = 0 then shc gs.length P[s]! else _) = 0
      rw [if_pos rfl, hsh j (by omega), if_pos rfl, hsh s hs]
  exact key _ (Nat.le_refl _)
theorem agK_sm {gs : List Rat} {P : List (List Rat)} {b : Rat} {s : Nat} (sm : SmA gs P) (gm : GoodAr gs P) (rb : RS b 1) (hs : s < gs.length) : SmM (agK gs P s) b := by
  have hp := gm.pl
  have n5 := gm.n5
  have two : ∀ i a, i < gs.length → a < ((agK gs P s)[i]!).length → ∃ j, j < gs.length ∧ ((agK gs P s)[i]!)[a]! = (gs[j]!, P[j]!) := fun i a hi ha => by
    rw [agK_get hi] at ha ⊢
    match a, ha with
    | 0, _ => exact ⟨i, hi, rfl⟩
    | 1, _ => exact ⟨s, hs, rfl⟩
  refine ⟨rb, by rw [agK_length]; omega, fun i hi => ?_, fun i a hi ha => ?_, fun i a hi ha => ?_, fun i a u hi ha hu => ?_⟩
  · rw [agK_length] at hi
    rw [agK_get hi]; exact (by decide : (2 : Nat) ≤ 1000)
  · rw [agK_length] at hi
    obtain ⟨j, hj, e⟩ := two i a hi ha
    rw [e]
    exact sm.nn j (by omega)
  · rw [agK_length] at hi
    obtain ⟨j, hj, e⟩ := two i a hi ha
    rw [e]
    exact sm.rg j hj
  · rw [agK_length] at hi
    obtain ⟨j, hj, e⟩ := two i a hi ha
    rw [e] at hu ⊢
    exact sm.rp j u (by omega) hu
theorem agK_best {gs : List Rat} {P : List (List Rat)} {b : Rat} {s : Nat} (gm : GoodM (agK gs P s) b) {x : Nat → Rat} (hx : ∀ i, i < (agK gs P s).length → Mdp.T (mdl (agK gs P s) b) x i = x i) : ∀ i, i < (arm gs P b).n → x i = Git.gr ((arm gs P b).r i + b * Git.pm (arm gs P b) x i) ((arm gs P b).r s + b * Git.pm (arm gs P b) x s) := by
  intro i hi
  have hi : i < gs.length := hi
  have e0 : Mdp.qv (mdl (agK gs P s) b) x i 0 = (arm gs P b).r i + b * Git.pm (arm gs P b) x i := by
    show (((agK gs P s)[i]!)[0]!).1 + b * Bth.ps (fun t => ((((agK gs P s)[i]!)[0]!).2)[t]! * x t) (agK gs P s).length = _
    rw [agK_length, agK_get hi]
    rfl
  have e1 : Mdp.qv (mdl (agK gs P s) b) x i 1 = (arm gs P b).r s + b * Git.pm (arm gs P b) x s := by
    show (((agK gs P s)[i]!)[1]!).1 + b * Bth.ps (fun t => ((((agK gs P s)[i]!)[1]!).2)[t]! * x t) (agK gs P s).length = _
    rw [agK_length, agK_get hi]
    rfl
  have hl : (mdl (agK gs P s) b).k i = 2 := by
    show ((agK gs P s)[i]!).length = 2
    rw [agK_get hi]; rfl
  have hi' : i < (agK gs P s).length := by rw [agK_length]; exact hi
  have h0 := Mdp.T_ge (m := mdl (agK gs P s) b) x (s := i) (a := 0) (by rw [hl]; decide)
  have h1 := Mdp.T_ge (m := mdl (agK gs P s) b) x (s := i) (a := 1) (by rw [hl]; decide)
  have hT := hx i hi'
  rw [hT, e0] at h0
  rw [hT, e1] at h1
  have hb := Mdp.bst_plan gm.ok x i hi'
  rw [hl] at hb
  unfold Mdp.T at hT
  unfold Git.gr
  rcases (by omega : Mdp.bst (mdl (agK gs P s) b) x i = 0 ∨ Mdp.bst (mdl (agK gs P s) b) x i = 1) with e | e
  · rw [e, e0] at hT
    split
    · grind
    · exact hT.symm
  · rw [e, e1] at hT
    split
    · exact hT.symm
    · grind
def AgainPost (w : World) (a : Git.Arm) (s : Nat) (e : Ending) (w' : World) : Prop :=
  ∃ (v : Value) (q : Rat), e = .returned (.tuple #[v, .nilIface]) ∧ RatIs w' v q ∧ (∀ x, Git.Idx a x → q = x s) ∧ RS q (XBn a.n + 5) ∧ Below w.heap.size w w'

end Go.Proofs.YtjlohghknejjoaaGreatDoor
