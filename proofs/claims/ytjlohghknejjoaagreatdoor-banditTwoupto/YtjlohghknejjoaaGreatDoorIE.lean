/- Models: acts that may be; Value, Step. -/
import Derived.Test.YtjlohghknejjoaaGreatDoorIB
import Derived.Test.YtjlohghknejjoaaGreatDoorID
import Derived.Test.YtjlohghknejjoaaGreatDoorMA
namespace Go.Proofs.YtjlohghknejjoaaGreatDoor
open Go.RowKit Go.Sort Go.Shelf

theorem errV_no {k : Int} (h : k ≠ 0) : errV k = .iface 76 (.int .i64 k) := by unfold errV; rw [if_neg h]

end Go.Proofs.YtjlohghknejjoaaGreatDoor
/- Models: two rows alike; the best plan. -/
namespace Go.Proofs.YtjlohghknejjoaaGreatDoor
open Go.RowKit Go.Sort Go.Shelf

/-- Two rows are alike. -/
def AllEq (qs xs : List Rat) : Prop := ∀ i, i < qs.length → qs[i]! = xs[i]!

set_option maxHeartbeats 16000000 in
set_option maxRecDepth 100000 in
set_option linter.unusedSimpArgs false in
theorem eqf_any (v vx : Value) (qs xs : List Rat) (w : World) (h : LawIs w v qs) (hx : LawIs w vx xs) (hl : xs.length = qs.length) (J : Nat) (hJ : J ≤ KK) (hq : ∀ j, j < qs.length → RS qs[j]! J) (hxr : ∀ j, j < qs.length → RS xs[j]! J) :
    Calls Tryz.prog 52 #[v, vx, .func (.func 53) #[] #[]] w (AskPost w (AllEq qs xs)) := by
  obtain ⟨a, c, rfl, h1, h2, h3⟩ := h
  obtain ⟨ax, cx, rfl, x1, x2, x3⟩ := hx
  rw [hl] at x1 x3 ⊢
  have H3 := hide h3
  have X3 := hide x3
  have HQ := hide hq
  have HXR := hide hxr
  have egB : ∀ (args : Array Value) (w : World), (callFunc 53 args).run Tryz.prog w = .ok (.enter 53 args) w := fun args w => by go_simp
  clear h3 x3 hq hxr hl
  go_enter Tryz.func52, Tryz.ntmps52
  have e9 : ((qs.length : Int) == (qs.length : Int)) = true := by rw [beq_iff_eq]
  go_wp2_with fail
  clear e9
  go_loopw [17] (fun vi wr => ∃ i : Nat, vi = .int .i64 (i : Int) ∧ i ≤ qs.length ∧ Below w.heap.size w wr ∧ ∀ j, j < i → qs[j]! = xs[j]!) (fun vi _ => qs.length - (intOf vi).toNat)
  case atStart => exact ⟨0, rfl, Nat.zero_le _, Below.refl _ _, fun j hj => absurd hj (Nat.not_lt_zero _)⟩
  case round =>
    obtain ⟨i, rfl, hi, hb, hz⟩ := hrel
    have HB := hide hb
    have HZ := hide hz
    by_cases hlt : i < qs.length
    · have e1 : (i : Int) < (qs.length : Int) := by omega
      have e0 : (0 : Int) ≤ (i : Int) := by omega
      obtain ⟨bv, ov, rfl, hvlt, hcv⟩ := unhide X3 (by omega)
      obtain ⟨xs_, xp1, xp2, xn1, xd1, xn2, xd2, xk0, xk1, xk2, xr⟩ := hcv i hlt
      obtain ⟨tv, rfl, rfl, rfl, rfl, rfl, rfl, rfl⟩ : ∃ t : Tri, xs_ = t.s ∧ xp1 = t.a1 ∧ xp2 = t.a2 ∧ xn1 = t.n1 ∧ xd1 = t.c1 ∧ xn2 = t.n2 ∧ xd2 = t.c2 := ⟨⟨xs_, xp1, xp2, xn1, xd1, xn2, xd2⟩, rfl, rfl, rfl, rfl, rfl, rfl, rfl⟩
      obtain ⟨b, o, rfl, hblt, hcs⟩ := unhide H3 (by omega)
      obtain ⟨s', p1, p2, m1, d1, m2, d2, k0, k1, k2, rr⟩ := hcs i hlt
      obtain ⟨tx, rfl, rfl, rfl, rfl, rfl, rfl, rfl⟩ : ∃ t : Tri, s' = t.s ∧ p1 = t.a1 ∧ p2 = t.a2 ∧ m1 = t.n1 ∧ d1 = t.c1 ∧ m2 = t.n2 ∧ d2 = t.c2 := ⟨⟨s', p1, p2, m1, d1, m2, d2⟩, rfl, rfl, rfl, rfl, rfl, rfl, rfl⟩
      rw [← hb.cell (p := ⟨b, o + i * 3, none⟩) hblt] at k0
      rw [← hb.cell (p := ⟨b, o + i * 3 + 1, none⟩) hblt] at k1
      rw [← hb.cell (p := ⟨b, o + i * 3 + 2, none⟩) hblt] at k2
      have b1 := alloc_below wr (.cells #[.bool tx.s, .slice tx.a1 tx.n1 tx.c1, .slice tx.a2 tx.n2 tx.c2] 37)
      have X0 := BoxIs.new (rr.below hb)
      have bw := below_step hb b1
      obtain ⟨W1, hW1⟩ : ∃ W, wr.alloc (.cells #[.bool tx.s, .slice tx.a1 tx.n1 tx.c1, .slice tx.a2 tx.n2 tx.c2] 37) = W := ⟨_, rfl⟩
      obtain ⟨g0, hg0⟩ : ∃ g, wr.heap.size = g := ⟨_, rfl⟩
      rw [hW1] at b1 X0 bw
      rw [hg0] at X0
      rw [← bw.cell (p := ⟨bv, ov + i * 3, none⟩) hvlt] at xk0
      rw [← bw.cell (p := ⟨bv, ov + i * 3 + 1, none⟩) hvlt] at xk1
      rw [← bw.cell (p := ⟨bv, ov + i * 3 + 2, none⟩) hvlt] at xk2
      have b2 := alloc_below W1 (.cells #[.bool tv.s, .slice tv.a1 tv.n1 tv.c1, .slice tv.a2 tv.n2 tv.c2] 37)
      have X1 := BoxIs.new (xr.below bw)
      obtain ⟨W2, hW2⟩ : ∃ W, W1.alloc (.cells #[.bool tv.s, .slice tv.a1 tv.n1 tv.c1, .slice tv.a2 tv.n2 tv.c2] 37) = W := ⟨_, rfl⟩
      obtain ⟨g1, hg1⟩ : ∃ g, W1.heap.size = g := ⟨_, rfl⟩
      rw [hW2] at b2 X1
      rw [hg1] at X1
      have Y0 := X0.keep b2
      have ⟨c0, c1, c2⟩ := Y0.cells _ (Below.refl _ _)
      have ⟨d0, d1, d2⟩ := X1.cells _ (Below.refl _ _)
      have HCL := hide (best1_any tx.val tv.val _ _ W2 Y0.2 X1.2 J (unhide HQ i hlt) (unhide HXR i hlt) hJ)
      have HB2 := hide (below_step bw b2)
      clear hb hz hcv hcs rr xr b1 b2 X0 X1 Y0 bw
      go_wp2_with fail
      refine (unhide HCL).mono ?_
      rintro e w3 ⟨rfl, hb3⟩
      have HB3 := hide (below_step (unhide HB2) hb3)
      clear hW1 hW2 hg0 hg1 c0 c1 c2 d0 d1 d2 k0 k1 k2 xk0 xk1 xk2 hb3 HCL
      by_cases he : qs[i]! = xs[i]!
      · rw [decide_eq_true he]
        have HE := hide he
        clear he
        go_wp2_with fail
        refine ⟨⟨i + 1, by go_num, hlt, unhide HB3, fun j hj => ?_⟩, by simp [intOf]; omega⟩
        by_cases e : j = i
        · rw [e]; exact unhide HE
        · exact unhide HZ j (by omega)
      · rw [decide_eq_false he]
        have HE := hide he
        clear he
        go_wp2
        go_ret
        exact ⟨Or.inr ⟨fun x => unhide HE (x i hlt), rfl⟩, unhide HB3⟩
    · obtain rfl : i = qs.length := by omega
      have e1 : ¬ (qs.length : Int) < (qs.length : Int) := by omega
      clear hb hz
      go_wp2
      go_ret
      exact ⟨Or.inl ⟨unhide HZ, rfl⟩, unhide HB⟩

/-- What Best says. -/
def BestPost (w : World) (K : List (List (Rat × List Rat))) (b : Rat) (e : Ending) (w' : World) : Prop :=
  (GoodM K b ∧ ∃ (v : Value) (G : Nat) (x : Nat → Rat), e = .returned (.tuple #[.slice (some ⟨G, 0, none⟩) K.length K.length, v, .nilIface]) ∧ LawIs w' v (row x K.length) ∧ OwnI w' G K.length (fun s => ((Mdp.bst (mdl K b) x s : Nat) : Int)) ∧ (∀ s, s < K.length → Mdp.T (mdl K b) x s = x s) ∧ (∀ i, RS (x i) (XBn K.length)) ∧ Below w.heap.size w w') ∨
  (mcode K b ≠ 0 ∧ ∃ k : Int, e = .returned (.tuple #[.slice none 0 0, .slice none 0 0, .iface 76 (.int .i64 k)]) ∧ Below w.heap.size w w')
theorem nrow_one {w : World} {v : Value} {n : Nat} {f g : Nat → Int} (hf : NRow w v n f) (hg : NRow w v n g) : ∀ j, j < n → f j = g j := by
  intro j hj
  obtain ⟨a, c, e, _, _, h3⟩ := hf
  obtain ⟨a', c', e', _, _, h3'⟩ := hg
  obtain ⟨b, o, ea, _, hc⟩ := h3 (by omega)
  obtain ⟨b', o', ea', _, hc'⟩ := h3' (by omega)
  rw [e] at e'
  have e1 : a = a' := by injection e'
  rw [ea, ea'] at e1
  injection e1 with e1
  injection e1 with e1 e2
  subst e1 e2
  have := (hc j hj).symm.trans (hc' j hj)
  injection this with this
  injection this
/-- A number that falls from plan to plan, read from memory. -/
theorem falls_mem {m : Mdp.Md} (h : Mdp.Ok m) : ∃ mu : Value → World → Nat, ∀ (v v' : Value) (w w' : World) (d e : Nat → Nat) (x y : Nat → Rat), NRow w v m.n (fun j => ((d j : Nat) : Int)) → NRow w' v' m.n (fun j => ((e j : Nat) : Int)) → Mdp.Plan m d → Mdp.Plan m e → Mdp.Val m d x → Mdp.Val m e y → Bth.ps x m.n < Bth.ps y m.n → mu v' w' < mu v w := by
  obtain ⟨mu, hmu⟩ := Mdp.falls h
  have : ∀ v : Value, ∃ f : World → Nat, ∀ w (d : Nat → Nat), NRow w v m.n (fun j => ((d j : Nat) : Int)) → f w = mu ((List.range m.n).map d) := fun v => by
    have : ∀ w : World, ∃ r : Nat, ∀ d : Nat → Nat, NRow w v m.n (fun j => ((d j : Nat) : Int)) → r = mu ((List.range m.n).map d) := fun w => by
      by_cases c : ∃ d : Nat → Nat, NRow w v m.n (fun j => ((d j : Nat) : Int))
      · obtain ⟨d0, h0⟩ := c
        refine ⟨mu ((List.range m.n).map d0), fun d hd => ?_⟩
        have := nrow_one h0 hd
        congr 1
        exact List.map_congr_left (fun j hj => by have := this j (List.mem_range.1 hj); omega)
      · exact ⟨0, fun d hd => absurd ⟨d, hd⟩ c⟩
    exact Classical.skolem.1 this
  obtain ⟨F, hF⟩ := Classical.skolem.1 this
  refine ⟨F, fun v v' w w' d e x y h1 h2 h3 h4 h5 h6 h7 => ?_⟩
  rw [hF v w d h1, hF v' w' e h2]
  have get : ∀ (d : Nat → Nat) (s : Nat), s < m.n → ((List.range m.n).map d)[s]! = d s := fun d s hs => by simp [hs]
  have vl : ∀ (d : Nat → Nat) (x : Nat → Rat), Mdp.Val m d x → Mdp.Val m (fun s => ((List.range m.n).map d)[s]!) x := fun d x hx s hs => by
    show x s = Mdp.qv m x s (((List.range m.n).map d)[s]!)
    rw [get d s hs]; exact hx s hs
  have pl : ∀ d : Nat → Nat, Mdp.Plan m d → Mdp.Plan m (fun s => ((List.range m.n).map d)[s]!) := fun d hd s hs => by
    show ((List.range m.n).map d)[s]! < m.k s
    rw [get d s hs]; exact hd s hs
  exact hmu _ _ x y (by simp) (by simp) (pl d h3) (pl e h4) (vl d x h5) (vl e y h6) h7

set_option maxHeartbeats 16000000 in
set_option maxRecDepth 100000 in
set_option linter.unusedSimpArgs false in
theorem Best_any (v : Value) (K : List (List (Rat × List Rat))) (b : Rat) (w : World) (h : ModelIs w v K b) (sm : SmM K b) : Calls Tryz.prog 27 #[v] w (BestPost w K b) := by
  obtain ⟨l, t, rfl, hS, hR⟩ := h
  have hln := states_len hS
  have X0 := MBox.new hS hR
  have b0 := alloc_below w (.cells #[.slice l.a l.n l.c, .bool t.s, .slice t.a1 t.n1 t.c1, .slice t.a2 t.n2 t.c2] 70)
  obtain ⟨W0, hW0⟩ : ∃ W, w.alloc (.cells #[.slice l.a l.n l.c, .bool t.s, .slice t.a1 t.n1 t.c1, .slice t.a2 t.n2 t.c2] 70) = W := ⟨_, rfl⟩
  obtain ⟨g, hg⟩ : ∃ g, w.heap.size = g := ⟨_, rfl⟩
  rw [hW0] at X0 b0
  rw [hg] at X0
  have ⟨c0, c1, c2, c3⟩ := X0.cells _ (Below.refl _ _)
  have HX0 := hide X0
  have HB0 := hide b0
  have HLN := hide hln
  obtain ⟨n, hn⟩ : ∃ n, K.length = n := ⟨_, rfl⟩
  have HN := hide hn
  rw [hn] at hln
  rw [hln] at c0
  unfold mval
  rw [hln] at hW0 ⊢
  have HCH := hide (mcheck_any (mval l t) K b W0 (unhide HX0).model sm)
  have HVV : Hid (∀ W va d, Below W0.heap.size W0 W → GoodM K b → NRow W va K.length (fun j => ((d j : Nat) : Int)) → Mdp.Plan (mdl K b) d → Calls Tryz.prog 50 #[mval l t, va] W (ValPost W K.length (mdl K b) d)) := fun W va d hW g1 g2 g3 =>
    value_any (mval l t) va K b d W ((unhide HX0).keep hW).model sm g1 g2 g3
  have HST : Hid (∀ W vx x, Below W0.heap.size W0 W → GoodM K b → LawIs W vx (row x K.length) → (∀ i, RS (x i) (XBn K.length)) → Calls Tryz.prog 51 #[mval l t, vx] W (StepPost W K.length (mdl K b) (bf (row x K.length)))) := fun W vx x hW g1 g2 g3 =>
    step_any (mval l t) vx K b (row x K.length) (XBn K.length) W ((unhide HX0).keep hW).model sm g1 g2 (row_length _ _) (fun j hj => by rw [row_get hj]; exact g3 j) (xbn_le _ g1.n8)
  have HRT : Hid (∀ x, GoodM K b → (∀ i, RS (x i) (XBn K.length)) → ∀ s, s < K.length → RS (Mdp.T (mdl K b) (bf (row x K.length)) s) (8 * (XBn K.length + 2) + 5)) := fun x g1 g3 s hs =>
    qv_RS sm g1 (x := bf (row x K.length)) (fun t ht => by show RS (row x K.length)[t]! _; rw [row_get ht]; exact g3 t) hs (Mdp.bst_plan g1.ok _ s hs)
  unfold mval at HCH HVV HST
  rw [hln] at HCH HVV HST
  have hnk := sm.nk
  rw [hn] at hnk
  clear hS hR X0 b0 sm hn
  go_enter Tryz.func27, Tryz.ntmps27
  go_wp2_with fail
  refine (unhide HCH).mono ?_
  rintro e w1 ⟨rfl, hb1⟩
  have HB1 := hide (below_step (unhide HB0) hb1)
  have HBS := hide hb1
  have ⟨k0, k1, k2, k3⟩ := (unhide HX0).cells w1 hb1
  rw [hln] at k0
  clear hb1 hW0 hg c0 c1 c2 c3 HCH
  by_cases hmc : mcode K b = 0
  rotate_left
  · rw [errV_no hmc]
    have HN2 := hide hmc
    obtain ⟨kk, hkk⟩ : ∃ k, mcode K b = k := ⟨_, rfl⟩
    rw [hkk]
    clear hmc hkk k0 k1 k2 k3
    go_wp2
    go_ret3
    exact Or.inr ⟨unhide HN2, kk, rfl, unhide HB1⟩
  have hgm := good_of hmc
  have HGM := hide hgm
  rw [hmc]
  have e5 : errV 0 = .nilIface := rfl
  rw [e5]
  have hn8 := hgm.n8
  have hn1 := hgm.n1
  rw [unhide HN] at hn8 hn1
  obtain ⟨mu, hmu⟩ := falls_mem hgm.ok
  have hmn : (mdl K b).n = n := unhide HN
  rw [hmn] at hmu
  have HMU := hide hmu
  have qmk := make_ints n (by omega) w1
  have hO0 := make_own w1 n
  have bO := alloc_below w1 (.cells (lrow (fun _ => 0) n).toArray 3)
  obtain ⟨W2, hW2⟩ : ∃ W, w1.alloc (.cells (lrow (fun _ => 0) n).toArray 3) = W := ⟨_, rfl⟩
  obtain ⟨G0, hG0⟩ : ∃ G, w1.heap.size = G := ⟨_, rfl⟩
  rw [hW2] at qmk hO0 bO
  rw [hG0] at qmk hO0
  have HNR : Hid (NRow W2 (.slice (some ⟨G0, 0, none⟩) n n) n (fun j => (((fun _ => 0 : Nat → Nat) j : Nat) : Int))) := hO0.nrow (by omega)
  have HP0 : Hid (Mdp.Plan (mdl K b) (fun _ => 0)) := fun s hs => hgm.a1 s hs
  have HB2 := hide (below_step (unhide HBS) bO)
  clear hmc e5 hgm hmu hmn hO0 bO HB1 HBS
  go_wp2_with fail
  clear k0 k1 k2 k3 hW2 hG0 qmk
  go_loopw [6] (fun va wr => ∃ d : Nat → Nat, NRow wr va n (fun j => ((d j : Nat) : Int)) ∧ Mdp.Plan (mdl K b) d ∧ Below W0.heap.size W0 wr) (fun va wr => mu va wr)
  case atStart => exact ⟨fun _ => 0, unhide HNR, unhide HP0, unhide HB2⟩
  case round =>
    obtain ⟨d, hN, hP, hb⟩ := hrel
    clear HNR HP0 HB2
    have ⟨k0, k1, k2, k3⟩ := (unhide HX0).cells wr hb
    rw [hln] at k0
    have HC1 := hide (unhide HVV wr u6 d hb (unhide HGM) (by rw [unhide HN]; exact hN) hP)
    have HNd := hide hN
    have HPd := hide hP
    have HB := hide hb
    obtain ⟨a6, c6, e6, _⟩ := hN
    clear hP hb
    subst e6
    go_wp2_with fail
    refine (unhide HC1).mono ?_
    rintro e w3 ⟨v3, x, rfl, hv3, hval, hr, hb3⟩
    have HV3 := hide hv3
    have HVL := hide hval
    have HR := hide hr
    have HB3 := hide (below_step (unhide HB) hb3)
    have ⟨q0, q1, q2, q3⟩ := (unhide HX0).cells w3 (unhide HB3)
    rw [hln] at q0
    have HC2 := hide (unhide HST w3 v3 x (unhide HB3) (unhide HGM) hv3 hr)
    obtain ⟨a5, c5, rfl, _, _, _⟩ := hv3
    rw [row_length] at HV3 HC2 ⊢
    rw [unhide HN] at HV3 HC2 ⊢
    clear hval hr hb3 HC1 k0 k1 k2 k3
    go_wp2_with fail
    refine (unhide HC2).mono ?_
    rintro e w4 ⟨v4, G4, rfl, hv4, hO, hG, hb4⟩
    have HV4 := hide hv4
    have HO := hide hO
    have HB4 := hide (below_step (unhide HB3) hb4)
    have HV3' := hide ((unhide HV3).below hb4)
    have hxx : ∀ t, t < n → bf (row x n) t = x t := fun t ht => row_get ht
    have HXX := hide hxx
    have HTT : Hid (∀ s, Mdp.T (mdl K b) (bf (row x n)) s = Mdp.T (mdl K b) x s) := fun s => Mdp.T_congr (fun t ht => hxx t (by have e : (mdl K b).n = n := unhide HN; rw [← e]; exact ht)) s
    have HBB : Hid (∀ s, Mdp.bst (mdl K b) (bf (row x n)) s = Mdp.bst (mdl K b) x s) := fun s => Mdp.bst_congr (fun t ht => hxx t (by have e : (mdl K b).n = n := unhide HN; rw [← e]; exact ht)) s
    have hrt := unhide HRT x (unhide HGM) (unhide HR)
    rw [unhide HN] at hrt
    have hxb := xbn_le n hn8
    have HC3 := hide (eqf_any v4 (.slice a5 n c5) (row (Mdp.T (mdl K b) (bf (row x n))) n) (row x n) w4 hv4 (unhide HV3') (by rw [row_length, row_length]) (8 * (XBn n + 2) + 5) (by omega) (fun j hj => by rw [row_length] at hj; rw [row_get hj]; exact hrt j hj) (fun j hj => by rw [row_length] at hj; rw [row_get hj]; exact (unhide HR j).mono (by rw [unhide HN]; omega)))
    obtain ⟨a7, c7, rfl, _, _, _⟩ := hv4
    rw [row_length] at HV4 HC3 ⊢
    clear hO hG hb4 HC2 HV3 hxx hrt hxb q0 q1 q2 q3
    go_wp2_with fail
    refine (unhide HC3).mono ?_
    rintro e w5 ⟨(⟨heq, rfl⟩ | ⟨hne, rfl⟩), hb5⟩
    · have HFX : Hid (∀ s, s < n → Mdp.T (mdl K b) x s = x s) := fun s hs => by
        have := heq s (by rw [row_length]; exact hs)
        rw [row_get hs, row_get hs] at this
        rw [← unhide HTT s]; exact this
      have HV5 := hide ((unhide HV3').below hb5)
      have HO5 := hide (((unhide HO).keep hb5).congr (g := fun s => ((Mdp.bst (mdl K b) x s : Nat) : Int)) (fun s _ => by rw [unhide HBB s]))
      have HB5 := hide (below_step (unhide HB0) (below_step (unhide HB4) hb5))
      clear heq hb5 HC3
      go_wp2
      go_ret3
      refine Or.inl ⟨unhide HGM, .slice a5 n c5, G4, x, by rw [unhide HN]; rfl, ?_, ?_, ?_, unhide HR, unhide HB5⟩
      · rw [unhide HN]; exact unhide HV5
      · rw [unhide HN]; exact unhide HO5
      · rw [unhide HN]; exact unhide HFX
    · have HNR : Hid (NRow w5 (.slice (some ⟨G4, 0, none⟩) n n) n (fun j => ((Mdp.bst (mdl K b) x j : Nat) : Int))) := (((unhide HO).keep hb5).congr (g := fun s => ((Mdp.bst (mdl K b) x s : Nat) : Int)) (fun s _ => by rw [unhide HBB s])).nrow (by omega)
      have HP5 := hide (Mdp.bst_plan (unhide HGM).ok x)
      have HB5 := hide (below_step (unhide HB4) hb5)
      have HNX : Hid (¬ ∀ s, s < (mdl K b).n → Mdp.T (mdl K b) x s = x s) := fun c => hne (fun s hs => by
        rw [row_length] at hs
        rw [row_get hs, row_get hs, unhide HTT s]
        exact c s (by have e : (mdl K b).n = n := unhide HN; rw [e]; exact hs))
      clear hne hb5 HC3
      go_wp2_with fail
      refine ⟨⟨_, unhide HNR, unhide HP5, unhide HB5⟩, ?_⟩
      obtain ⟨y, hy⟩ := Mdp.val_ex (unhide HGM).ok (unhide HP5)
      have hg := Mdp.grows (unhide HGM).ok (unhide HPd) (unhide HVL) hy (unhide HNX)
      exact unhide HMU _ _ _ _ _ _ x y (unhide HNd) (unhide HNR) (unhide HPd) (unhide HP5) (unhide HVL) hy (by have e : (mdl K b).n = n := unhide HN; rw [e] at hg; exact hg)
end Go.Proofs.YtjlohghknejjoaaGreatDoor
