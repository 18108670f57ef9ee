/- ChoiceStays: the walk. -/
import Derived.Test.YtaacibgmdeoikaaGreatDoorIG
import Derived.Test.YtaacibgmdeoikaaGreatDoorIF
import Derived.Test.YtaacibgmdeoikaaGreatDoorS0
namespace Go.Proofs.YtaacibgmdeoikaaGreatDoor
open Go.RowKit Go.Sort Go.Shelf

/-- What the last loops hold: the row of what comes next, the gain, the worth. -/
structure StayS (w9 wr : World) (GN gg gw : Nat) (us : List Tri) (ns : List Rat) (tg tw : Tri) (gq wq : Rat) : Prop where
  n : SumsAt w9 wr GN us ns
  g : BoxIs wr gg tg gq
  h : BoxIs wr gw tw wq
  gl : w9.heap.size ≤ gg
  hl : w9.heap.size ≤ gw
  n1 : gg ≠ GN
  n2 : gw ≠ GN
  n3 : gg ≠ gw
section
variable {w9 wr w' : World} {GN gg gw : Nat} {us : List Tri} {ns : List Rat} {tg tw : Tri} {gq wq : Rat}
theorem StayS.keep (h : StayS w9 wr GN gg gw us ns tg tw gq wq) (hb : Below wr.heap.size wr w') : StayS w9 w' GN gg gw us ns tg tw gq wq := ⟨h.n.keep hb, h.g.keep hb, h.h.keep hb, h.gl, h.hl, h.n1, h.n2, h.n3⟩
theorem StayS.setG (h : StayS w9 wr GN gg gw us ns tg tw gq wq) (t : Tri) (q : Rat) (r : RatIs wr t.val q) : StayS w9 (((wr.setCell ⟨gg, 0, none⟩ (.bool t.s)).setCell ⟨gg, 1, none⟩ (.slice t.a1 t.n1 t.c1)).setCell ⟨gg, 2, none⟩ (.slice t.a2 t.n2 t.c2)) GN gg gw us ns t tw q wq :=
  ⟨h.n.boxed h.g h.n1 h.gl _ _ _, h.g.set r, h.h.other h.g (Ne.symm h.n3) _ _ _, h.gl, h.hl, h.n1, h.n2, h.n3⟩
theorem StayS.setH (h : StayS w9 wr GN gg gw us ns tg tw gq wq) (t : Tri) (q : Rat) (r : RatIs wr t.val q) : StayS w9 (((wr.setCell ⟨gw, 0, none⟩ (.bool t.s)).setCell ⟨gw, 1, none⟩ (.slice t.a1 t.n1 t.c1)).setCell ⟨gw, 2, none⟩ (.slice t.a2 t.n2 t.c2)) GN gg gw us ns tg t gq q :=
  ⟨h.n.boxed h.h h.n2 h.hl _ _ _, h.g.other h.h h.n3 _ _ _, h.h.set r, h.gl, h.hl, h.n1, h.n2, h.n3⟩
theorem StayS.setN (h : StayS w9 wr GN gg gw us ns tg tw gq wq) (k : Nat) (hk : k < us.length) (t : Tri) (q : Rat) (r : RatIs wr t.val q) : StayS w9 (((wr.setCell ⟨GN, k * 3, none⟩ (.bool t.s)).setCell ⟨GN, k * 3 + 1, none⟩ (.slice t.a1 t.n1 t.c1)).setCell ⟨GN, k * 3 + 2, none⟩ (.slice t.a2 t.n2 t.c2)) GN gg gw (us.set k t) (ns.set k q) tg tw gq wq :=
  ⟨h.n.set k hk t q r, h.g.rowed h.n.row h.n1 _ _ _ _ _ _, h.h.rowed h.n.row h.n2 _ _ _ _ _ _, h.gl, h.hl, h.n1, h.n2, h.n3⟩
end
/-- What comes next, of which i states and k places are written. -/
def nxv (M : Mdp.Md) (d : Nat → Nat) (x : Nat → Rat) (i k t : Nat) : Rat := Bth.ps (fun j => x j * M.p j (d j) t) (if t < k then i + 1 else i)
theorem nrow_set {M : Mdp.Md} {d : Nat → Nat} {x : Nat → Rat} {i k n : Nat} (hk : k < n) {q : Rat} (hq : q = M.p i (d i) k) : (row (nxv M d x i k) n).set k (nxv M d x i k k + x i * q) = row (nxv M d x i (k + 1)) n := by
  refine row_eq (by rw [List.length_set, row_length]) (fun t ht => ?_)
  by_cases e : t = k
  · subst e
    have : ((row (nxv M d x i t) n).set t (nxv M d x i t t + x i * q))[t]! = nxv M d x i t t + x i * q := by simp [row_length, ht]
    rw [this, hq]
    unfold nxv
    rw [if_neg (by omega), if_pos (by omega)]
    rfl
  · have : ((row (nxv M d x i k) n).set k (nxv M d x i k k + x i * q))[t]! = (row (nxv M d x i k) n)[t]! := by simp [show ¬ k = t from fun x => e x.symm]
    rw [this, row_get ht]
    unfold nxv
    by_cases c : t < k
    · rw [if_pos c, if_pos (by omega)]
    · rw [if_neg c, if_neg (by omega)]
theorem nxv_next (M : Mdp.Md) (d : Nat → Nat) (x : Nat → Rat) (i : Nat) {n t : Nat} (ht : t < n) : nxv M d x i n t = nxv M d x (i + 1) 0 t := by
  unfold nxv
  rw [if_pos ht, if_neg (by omega)]
/-- The same before the round of state i. -/
def StayI (w9 wr : World) (GN gg gw np : Nat) (M : Mdp.Md) (d : Nat → Nat) (x y : Nat → Rat) (i : Nat) : Prop := ∃ (us : List Tri) (tg tw : Tri), us.length = np ∧ StayS w9 wr GN gg gw us (row (nxv M d x i 0) np) tg tw (Bth.ps (fun j => x j * M.g j (d j)) i) (Bth.ps (fun j => x j * y j) i)
theorem sum_RS {f : Nat → Rat} {J n : Nat} (h : ∀ j, j < n → RS (f j) J) : ∀ k, k ≤ n → RS (Bth.ps f k) (k * (J + 1) + 1)
  | 0, _ => RS.zero.mono (by omega)
  | k + 1, hk => RS.mono ((sum_RS h k (by omega)).add (h k (by omega))) (by rw [Nat.succ_mul]; omega)
theorem sum7_RS {F : Nat → Rat} {J J' n k : Nat} (h7 : n ≤ 7) (hk : k ≤ n) (hJ : 7 * (J + 1) + 1 ≤ J') (hF : ∀ j, j < n → RS (F j) J) : RS (Bth.ps F k) J' :=
  (sum_RS hF k hk).mono (Nat.le_trans (Nat.succ_le_succ (Nat.mul_le_mul_right _ (Nat.le_trans hk h7))) hJ)
theorem ChAt.at {W : World} {gc np : Nat} {lm : Sl} {tm : Tri} {K : List (List (Rat × List Rat))} {b : Rat} (h : ChAt W gc np lm tm K b) : StatesAre W (Sl.val (lm.a, np, lm.c)) K ∧ RatIs W tm.val b := by
  obtain ⟨l, t, e, h1, h2⟩ := h.mod
  unfold mval at e
  injection e with e
  have e := congrArg Array.toList e
  simp only [List.cons.injEq, Value.slice.injEq, Value.bool.injEq] at e
  obtain ⟨⟨a1, a2, a3⟩, e1, ⟨e2, e3, e4⟩, ⟨e5, e6, e7⟩, _⟩ := e
  have e8 : tm.val = t.val := by simp only [Tri.val, e1, e2, e3, e4, e5, e6, e7]
  have e9 : Sl.val (lm.a, np, lm.c) = l.val := by
    show Value.slice lm.a np lm.c = Value.slice l.a l.n l.c
    rw [a1, a2, a3]
  rw [e8, e9]; exact ⟨h1, h2⟩

set_option maxHeartbeats 16000000 in
set_option maxRecDepth 100000 in
set_option linter.unusedSimpArgs false in
theorem choiceStays_any (v vp : Value) (ps : List (List ((Int × Int) × List (Int × Int)))) (wx wy : Int) (nl : Nat) (fp : Nat → Int) (w : World) (htab : Tab w) (h : PModelIs w v ps wx wy) (sm : SmB ps) (hp : NRow w vp nl fp) :
    Calls Tryz.prog 6 #[v, vp] w fun e w' => e = .returned (.bool true) ∧ Below w.heap.size w w' := by
  obtain ⟨ap, cp, rfl, hp1, hp2, hp3⟩ := hp
  have HP3 := hide hp3
  clear hp3
  have KKe : KK = 1099511627776 := rfl
  have HTB := hide htab
  have HPM := hide h
  have HSMB := hide sm
  obtain ⟨lp, rfl, hP, hx, hy⟩ := h
  have hln := psts_len hP
  obtain ⟨np, hnp⟩ : ∃ n, ps.length = n := ⟨_, rfl⟩
  rw [hnp] at hln
  have HNP := hide hnp
  have hnb := sm.n
  rw [hnp] at hnb
  unfold pmv at HPM ⊢
  rw [hln] at HPM ⊢
  have b0 := alloc_below w (.cells #[.slice lp.a np lp.c, .int .i64 wx, .int .i64 wy] 26)
  have N0 := heap_alloc_new w (.cells #[.slice lp.a np lp.c, .int .i64 wx, .int .i64 wy] 26)
  obtain ⟨W0, hW0⟩ : ∃ W, w.alloc (.cells #[.slice lp.a np lp.c, .int .i64 wx, .int .i64 wy] 26) = W := ⟨_, rfl⟩
  obtain ⟨gi, hgi⟩ : ∃ g, w.heap.size = g := ⟨_, rfl⟩
  rw [hW0] at b0 N0
  rw [hgi] at N0
  have hgil : gi < W0.heap.size := (Array.getElem?_eq_some_iff.1 N0).1
  have HGI : Hid (∀ W, Below W0.heap.size W0 W → W.cell? ⟨gi, 0, none⟩ = some (.slice lp.a np lp.c) ∧ W.cell? ⟨gi, 1, none⟩ = some (.int .i64 wx) ∧ W.cell? ⟨gi, 2, none⟩ = some (.int .i64 wy)) := fun W hW => by
    have h' := heap_kept N0 hW
    simp [World.cell?, h']
  have HB0 := hide b0
  have ⟨i0, i1, i2⟩ := unhide HGI W0 (Below.refl _ _)
  have HSL := hide (small_any _ ps wx wy W0 ((unhide HPM).below b0) sm)
  have HKL : Hid ((kOf ps).length = np) := by show _ = np; rw [kOf_length]; exact hnp
  clear hP hx hy sm htab b0 N0 hgil hnp hln
  go_enter Tryz.func6, Tryz.ntmps6
  go_wp2_with fail
  refine (unhide HSL).mono ?_
  rintro e w1 ⟨(⟨hsm, rfl⟩ | ⟨hsm, rfl⟩), hb1⟩
  rotate_left
  · have HB1 := hide (below_step (unhide HB0) hb1)
    clear hsm hb1 hW0 hgi i0 i1 i2 HSL
    go_wp2
    go_ret
    exact ⟨rfl, unhide HB1⟩
  have HB1 := hide (below_step (unhide HB0) hb1)
  have HW01 := hide hb1
  have ⟨j0, j1, j2⟩ := unhide HGI w1 hb1
  have hn70 : np ≤ 70 := by have := hsm; unfold totM at this; have := unhide HNP; omega
  have HSM70 := hide hsm
  have hsp : SmPM ps := small_sm hsm
  have HSM := hide (smM_of (unhide HPM) hsp)
  have HCO := hide (choice_any _ ps wx wy w1 ((unhide HPM).below (unhide HB1)) hsp)
  have HSP := hide hsp
  clear hsm hsp hb1 hW0 hgi i0 i1 i2 HSL hnb
  by_cases hl : nl < np
  · have e1 : (nl : Int) < (np : Int) := by omega
    clear hl
    go_wp2
    go_ret
    exact ⟨rfl, unhide HB1⟩
  have e1 : ¬ (nl : Int) < (np : Int) := by omega
  have HNL := hide hl
  clear hl
  go_wp2_with fail
  clear e1
  refine (unhide HCO).mono ?_
  rintro e w2 ⟨v2, rfl, hv2, hb2⟩
  obtain ⟨lm, tm, rfl, hCh⟩ := ChAt.new (np := np) hv2 (unhide HKL)
  have bA := alloc_below w2 (.cells #[.slice lm.a np lm.c, .bool tm.s, .slice tm.a1 tm.n1 tm.c1, .slice tm.a2 tm.n2 tm.c2] 35)
  have hB2 := below_step hb2 bA
  obtain ⟨W2, hW2⟩ : ∃ W, w2.alloc (.cells #[.slice lm.a np lm.c, .bool tm.s, .slice tm.a1 tm.n1 tm.c1, .slice tm.a2 tm.n2 tm.c2] 35) = W := ⟨_, rfl⟩
  obtain ⟨gc, hgc⟩ : ∃ g, w2.heap.size = g := ⟨_, rfl⟩
  rw [hW2] at hCh hB2
  rw [hgc] at hCh
  have HCH := hide hCh
  have HB2 := hide (below_step (unhide HB1) hB2)
  have HW0 := hide (below_step (unhide HW01) hB2)
  clear hv2 hb2 hCh bA hB2 HCO HW01
  have ⟨k0_, k1_, k2_⟩ := unhide HGI W2 (unhide HW0)
  have qmk := make_ints np (by omega) W2
  have hO0 := make_own W2 np
  have bO := alloc_below W2 (.cells (lrow (fun _ => 0) np).toArray 3)
  obtain ⟨W3, hW3⟩ : ∃ W, W2.alloc (.cells (lrow (fun _ => 0) np).toArray 3) = W := ⟨_, rfl⟩
  obtain ⟨GO, hGO⟩ : ∃ G, W2.heap.size = G := ⟨_, rfl⟩
  rw [hW3] at qmk hO0 bO
  rw [hGO] at qmk hO0
  have HO3 := hide hO0
  have HBO := hide bO
  have HGO : Hid (W2.heap.size ≤ GO) := by show _ ≤ _; omega
  clear hO0 bO
  go_wp2_with fail
  clear qmk hW3 hGO hW2 hgc j0 j1 j2 k0_ k1_ k2_
  go_loopw [7] (fun vi wr => ∃ (i : Nat) (f : Nat → Int), vi = .int .i64 (i : Int) ∧ i ≤ np ∧ OwnI wr GO np f ∧ InA (kOf ps) f i ∧ Below W2.heap.size W2 wr) (fun vi _ => np - (intOf vi).toNat)
  case atStart => exact ⟨0, fun _ => 0, rfl, Nat.zero_le _, unhide HO3, fun j hj => absurd hj (Nat.not_lt_zero _), unhide HBO⟩
  case round =>
    obtain ⟨i, f, rfl, hi, hO, hIA, hB⟩ := hrel
    clear HO3 HBO
    have HO := hide hO
    have HIA2 := hide hIA
    have HBB := hide hB
    by_cases hlt : i < np
    · have e1 : (i : Int) < (np : Int) := by omega
      have hlt2 : i < nl := by have := unhide HNL; omega
      have e2 : (i : Int) < (nl : Int) := by omega
      have e0 : (0 : Int) ≤ (i : Int) := by omega
      have hltP : i < ps.length := by have := unhide HNP; omega
      obtain ⟨bp, op, rfl, hbp, hcp⟩ := unhide HP3 (by omega)
      have kp := hcp i hlt2
      have hwB := below_step (unhide HB2) hB
      rw [← hwB.cell (p := ⟨bp, op + i, none⟩) hbp] at kp
      obtain ⟨pv, hpv⟩ : ∃ p, fp i = p := ⟨_, rfl⟩
      rw [hpv] at kp
      obtain ⟨lp', ep, hP', _, _⟩ := (unhide HPM).below hwB
      have el : lp' = (lp.a, np, lp.c) := by
        unfold pmv at ep
        injection ep with ep
        have ep := congrArg Array.toList ep
        simp only [List.cons.injEq, Value.slice.injEq] at ep
        obtain ⟨⟨ea, en, ec⟩, _⟩ := ep
        obtain ⟨x1, x2, x3⟩ := lp'
        (try simp only at ea en ec)
        rw [ea, en, ec]
      subst el
      obtain ⟨as2, cs2, es2, _, _, h32⟩ := hP'
      obtain ⟨bs, os, rfl, hbs, hcs⟩ := h32 (by omega)
      have els : lp.a = some ⟨bs, os, none⟩ := by injection es2
      obtain ⟨lr, k0, hcl⟩ := hcs i hltP
      have hcn := cls_len hcl
      have hnr8 := (unhide HSP).a i hltP
      rw [← hcn] at hnr8
      have HNR : Hid (((kOf ps)[i]!).length = lr.n) := by show _ = _; rw [kOf_get hltP, csOf_length, hcn]
      obtain ⟨nr, hnr⟩ : ∃ n, lr.n = n := ⟨_, rfl⟩
      rw [hnr] at k0 hnr8 HNR
      have ⟨j0, _, _⟩ := unhide HGI wr (below_step (unhide HW0) hB)
      rw [els] at j0
      have hbpl : bp < wr.heap.size := Nat.lt_of_lt_of_le hbp hwB.size
      have hgil : gi < wr.heap.size := World.block_lt_of_cell? wr _ j0
      have HCC : Hid (∀ W, Below wr.heap.size wr W → (fun w' : World => w'.cell? ⟨bp, op + i, none⟩ = some (.int .i64 pv) ∧ w'.cell? ⟨gi, 0, none⟩ = some (.slice (some ⟨bs, os, none⟩) np lp.c) ∧ w'.cell? ⟨bs, os + i, none⟩ = some (.slice lr.a nr lr.c)) W) := fun W hW => by
        refine ⟨?_, ?_, ?_⟩
        · rw [hW.cell (p := ⟨bp, op + i, none⟩) hbpl]; exact kp
        · rw [hW.cell (p := ⟨gi, 0, none⟩) hgil]; exact j0
        · rw [hW.cell (p := ⟨bs, os + i, none⟩) hbs]; exact k0
      by_cases hz : nr = 0
      · have e5 : ((nr : Int) == 0) = true := by rw [beq_iff_eq]; omega
        have HBR := hide hwB
        clear hO hIA hB hcp kp hwB hpv ep es2 h32 hcs hcl hcn hnr hbpl hgil els hz HCC
        go_wp2
        go_ret
        exact ⟨rfl, unhide HBR⟩
      have e5 : ((nr : Int) == 0) = false := by rw [beq_eq_false_iff_ne]; omega
      have HZ := hide hz
      clear hO hIA hB hcp kp hwB hpv ep es2 h32 hcs hcl hcn hnr hbpl hgil els hz
      go_wp2_with fail
      clear e5 k0 j0
      have hnr0 : 0 < nr := by have := unhide HZ; omega
      refine wp_region_till (fun w' : World => w'.cell? ⟨bp, op + i, none⟩ = some (.int .i64 pv) ∧ w'.cell? ⟨gi, 0, none⟩ = some (.slice (some ⟨bs, os, none⟩) np lp.c) ∧ w'.cell? ⟨bs, os + i, none⟩ = some (.slice lr.a nr lr.c)) 14 (by kernel_rfl) ?_
      have bd0 : Below wr.heap.size wr wr.drew := (Below.refl _ _).drew
      have hC0 : (fun w' : World => w'.cell? ⟨bp, op + i, none⟩ = some (.int .i64 pv) ∧ w'.cell? ⟨gi, 0, none⟩ = some (.slice (some ⟨bs, os, none⟩) np lp.c) ∧ w'.cell? ⟨bs, os + i, none⟩ = some (.slice lr.a nr lr.c)) wr.drew := unhide HCC _ bd0
      refine wpTill_pure (i := 0) (v := ?_) rfl (by kernel_rfl) (by kernel_rfl) (by kernel_rfl) (by kernel_rfl) (fun _ _ _ h => h) (Or.inl ⟨by rfl, ?_⟩) (fun _ => hC0) ?_
      rotate_left
      · intro w hSw; clear hSw; go_simp; (try with_reducible rfl)
      (try simp only [List.getElem_toArray, List.getElem_cons_succ, List.getElem_cons_zero])
      (try simp only [Act.put, List.setIfInBounds_toArray, List.set_cons_zero, List.set_cons_succ])
      refine wpTill_pure (i := 1) (v := ?_) rfl (by kernel_rfl) (by kernel_rfl) (by kernel_rfl) (by kernel_rfl) (fun _ _ _ h => h) (Or.inl ⟨by rfl, ?_⟩) (fun _ => hC0) ?_
      rotate_left
      · intro w hSw; clear hSw; go_simp; (try with_reducible rfl)
      (try simp only [List.getElem_toArray, List.getElem_cons_succ, List.getElem_cons_zero])
      (try simp only [Act.put, List.setIfInBounds_toArray, List.set_cons_zero, List.set_cons_succ])
      refine wpTill_pure (i := 2) (v := ?_) rfl (by kernel_rfl) (by kernel_rfl) (by kernel_rfl) (by kernel_rfl) (fun _ _ _ h => h) (Or.inl ⟨by rfl, ?_⟩) (fun _ => hC0) ?_
      rotate_left
      · intro w hSw; clear hSw; go_simp; (try with_reducible rfl)
      (try simp only [List.getElem_toArray, List.getElem_cons_succ, List.getElem_cons_zero])
      (try simp only [Act.put, List.setIfInBounds_toArray, List.set_cons_zero, List.set_cons_succ])
      refine wpTill_pure (i := 3) (v := ?_) rfl (by kernel_rfl) (by kernel_rfl) (by kernel_rfl) (by kernel_rfl) (fun _ _ _ h => h) (Or.inl ⟨by rfl, ?_⟩) (fun _ => hC0) ?_
      rotate_left
      · intro w hSw; clear hSw; go_simp; (try with_reducible rfl)
      (try simp only [List.getElem_toArray, List.getElem_cons_succ, List.getElem_cons_zero])
      (try simp only [Act.put, List.setIfInBounds_toArray, List.set_cons_zero, List.set_cons_succ])
      refine wpTill_pure (i := 4) (v := ?_) rfl (by kernel_rfl) (by kernel_rfl) (by kernel_rfl) (by kernel_rfl) (fun _ _ _ h => h) (Or.inl ⟨by rfl, ?_⟩) (fun _ => hC0) ?_
      rotate_left
      · intro w hSw; clear hSw; go_simp; (try with_reducible rfl)
      (try simp only [List.getElem_toArray, List.getElem_cons_succ, List.getElem_cons_zero])
      (try simp only [Act.put, List.setIfInBounds_toArray, List.set_cons_zero, List.set_cons_succ])
      refine wpTill_take (i := 5) (v := ?_) rfl (by kernel_rfl) (by kernel_rfl) (by kernel_rfl) (by kernel_rfl) (by kernel_rfl) (by kernel_rfl) (fun _ _ _ h => h) (Or.inl ⟨by rfl, ?_⟩) hC0 ?_
      rotate_left
      · intro w hSw; (try dsimp only at hSw); obtain ⟨z0, z1, z2⟩ := hSw; go_simp; (try with_reducible rfl)
      (try simp only [List.getElem_toArray, List.getElem_cons_succ, List.getElem_cons_zero])
      (try simp only [Act.put, List.setIfInBounds_toArray, List.set_cons_zero, List.set_cons_succ])
      refine wpTill_pure (i := 6) (v := ?_) rfl (by kernel_rfl) (by kernel_rfl) (by kernel_rfl) (by kernel_rfl) (fun _ _ _ h => h) (Or.inl ⟨by rfl, ?_⟩) (fun _ => hC0) ?_
      rotate_left
      · intro w hSw; clear hSw; go_simp; (try with_reducible rfl)
      (try simp only [List.getElem_toArray, List.getElem_cons_succ, List.getElem_cons_zero])
      (try simp only [Act.put, List.setIfInBounds_toArray, List.set_cons_zero, List.set_cons_succ])
      refine wpTill_take (i := 7) (v := ?_) rfl (by kernel_rfl) (by kernel_rfl) (by kernel_rfl) (by kernel_rfl) (by kernel_rfl) (by kernel_rfl) (fun _ _ _ h => h) (Or.inl ⟨by rfl, ?_⟩) hC0 ?_
      rotate_left
      · intro w hSw; (try dsimp only at hSw); obtain ⟨z0, z1, z2⟩ := hSw; go_simp; (try with_reducible rfl)
      (try simp only [List.getElem_toArray, List.getElem_cons_succ, List.getElem_cons_zero])
      (try simp only [Act.put, List.setIfInBounds_toArray, List.set_cons_zero, List.set_cons_succ])
      refine wpTill_pure (i := 8) (v := ?_) rfl (by kernel_rfl) (by kernel_rfl) (by kernel_rfl) (by kernel_rfl) (fun _ _ _ h => h) (Or.inl ⟨by rfl, ?_⟩) (fun _ => hC0) ?_
      rotate_left
      · intro w hSw; clear hSw; go_simp; (try with_reducible rfl)
      (try simp only [List.getElem_toArray, List.getElem_cons_succ, List.getElem_cons_zero])
      (try simp only [Act.put, List.setIfInBounds_toArray, List.set_cons_zero, List.set_cons_succ])
      refine wpTill_pure (i := 9) (v := ?_) rfl (by kernel_rfl) (by kernel_rfl) (by kernel_rfl) (by kernel_rfl) (fun _ _ _ h => h) (Or.inl ⟨by rfl, ?_⟩) (fun _ => hC0) ?_
      rotate_left
      · intro w hSw; clear hSw; go_simp; (try with_reducible rfl)
      (try simp only [List.getElem_toArray, List.getElem_cons_succ, List.getElem_cons_zero])
      (try simp only [Act.put, List.setIfInBounds_toArray, List.set_cons_zero, List.set_cons_succ])
      refine wpTill_take (i := 10) (v := ?_) rfl (by kernel_rfl) (by kernel_rfl) (by kernel_rfl) (by kernel_rfl) (by kernel_rfl) (by kernel_rfl) (fun _ _ _ h => h) (Or.inl ⟨by rfl, ?_⟩) hC0 ?_
      rotate_left
      · intro w hSw; (try dsimp only at hSw); obtain ⟨z0, z1, z2⟩ := hSw; go_simp; (try with_reducible rfl)
      (try simp only [List.getElem_toArray, List.getElem_cons_succ, List.getElem_cons_zero])
      (try simp only [Act.put, List.setIfInBounds_toArray, List.set_cons_zero, List.set_cons_succ])
      refine wpTill_pure (i := 11) (v := ?_) rfl (by kernel_rfl) (by kernel_rfl) (by kernel_rfl) (by kernel_rfl) (fun _ _ _ h => h) (Or.inl ⟨by rfl, ?_⟩) (fun _ => hC0) ?_
      rotate_left
      · intro w hSw; clear hSw; go_simp; (try with_reducible rfl)
      (try simp only [List.getElem_toArray, List.getElem_cons_succ, List.getElem_cons_zero])
      (try simp only [Act.put, List.setIfInBounds_toArray, List.set_cons_zero, List.set_cons_succ])
      refine wpTill_one (k := 12) (by kernel_rfl) rfl (fun K hK => ?_)
      (try simp only [List.getElem_toArray, List.getElem_cons_succ, List.getElem_cons_zero])
      go_simp
      refine (pick_any pv nr (by omega) (by omega) _).mono ?_
      rintro e wp ⟨pk, rfl, hpk, rfl⟩
      refine hK.out _ _ (fun _ => hC0) ?_
      clear hK K
      (try simp only [Act.put, List.setIfInBounds_toArray, List.set_cons_zero, List.set_cons_succ])
      refine wpTill_pure (i := 13) (v := ?_) rfl (by kernel_rfl) (by kernel_rfl) (by kernel_rfl) (by kernel_rfl) (fun _ _ _ h => h) (Or.inl ⟨by rfl, ?_⟩) (fun _ => hC0) ?_
      rotate_left
      · intro w hSw; clear hSw; go_simp; (try with_reducible rfl)
      (try simp only [List.getElem_toArray, List.getElem_cons_succ, List.getElem_cons_zero])
      (try simp only [Act.put, List.setIfInBounds_toArray, List.set_cons_zero, List.set_cons_succ])
      have O8 := (unhide HO).keep bd0
      have y0 := O8.cell hlt
      have yf := O8.free i
      have FZ := O8.set i (pk : Int)
      have FB := (below_step (unhide HBB) bd0).setCell (p := ⟨GO, i, none⟩) (unhide HGO) (.int .i64 (pk : Int))
      obtain ⟨W9, hW9⟩ : ∃ W, wr.drew.setCell ⟨GO, i, none⟩ (.int .i64 (pk : Int)) = W := ⟨_, rfl⟩
      rw [hW9] at FZ FB
      have HFZ := hide FZ
      have HFB := hide FB
      have HPK := hide hpk
      clear O8 FZ FB hpk
      refine wpTill_one (k := 14) (by kernel_rfl) rfl (fun K hK => ?_)
      (try simp only [List.getElem_toArray, List.getElem_cons_succ, List.getElem_cons_zero])
      go_simp
      refine hK.out _ _ (fun h => absurd (h.symm.trans (by kernel_rfl)) Bool.false_ne_true) ?_
      clear hK K
      (try simp only [Act.put, List.setIfInBounds_toArray, List.set_cons_zero, List.set_cons_succ])
      refine wpTill_done (by kernel_rfl) ?_ _
      clear hC0 bd0 y0 yf hW9 HCC HO HBB
      go_wp2_with fail
      refine ⟨⟨i + 1, _, by go_num, hlt, unhide HFZ, fun j hj => ?_, unhide HFB⟩, by simp [intOf]; omega⟩
      unfold updI
      by_cases e : j = i
      · rw [if_pos e, e, unhide HNR]
        have := unhide HPK
        omega
      · rw [if_neg e]; exact unhide HIA2 j (by omega)
    · obtain rfl : np = i := by omega
      have e1 : ¬ (np : Int) < (np : Int) := by omega
      have HC3 := hide ((unhide HCH).keep hB)
      have HB3 := hide (below_step (unhide HB2) hB)
      have ⟨m0, m1, m2, m3⟩ := (unhide HC3).cells
      have hI64 : ∀ j, j < np → I64 (f j) := fun j hj => by
        have h1 := hIA j hj
        have h2 := (unhide HSM).na j (by rw [unhide HKL]; exact hj)
        exact ⟨by omega, by omega⟩
      have HI64 := hide hI64
      have HOF := hide (Often_any _ _ (kOf ps) (pq (wx, wy)) np f wr (unhide HC3).mod (unhide HSM) (hO.nrow (by omega)) (by omega) hI64)
      clear hO hIA hB hI64
      go_wp2_with fail
      refine (unhide HOF).mono ?_
      clear HOF
      rintro e w3 (⟨gm, -, -, (⟨v3, x, rfl, hv3, hsat, hr3, hb3⟩ | ⟨k3, rfl, hb3⟩)⟩ | ⟨-, k3, rfl, hb3⟩)
      rotate_left
      iterate 2
        · have HB4 := hide (below_step (unhide HB3) hb3)
          clear hb3 m0 m1 m2 m3 HC3
          go_wp2_with fail
          refine (chosen_any w3 (tab_below (unhide HTB) (unhide HB4))).mono ?_
          rintro e w4 ⟨rfl, hb4⟩
          have HB5 := hide (below_step (unhide HB4) hb4)
          clear hb4
          go_wp2_with fail
          refine (chosen_any w4 (tab_below (unhide HTB) (unhide HB5))).mono ?_
          rintro e w5 ⟨rfl, hb5⟩
          have HB6 := hide (below_step (unhide HB5) hb5)
          clear hb5
          go_wp2
          go_ret
          exact ⟨rfl, unhide HB6⟩
      have HGM := hide gm
      have hn8 := gm.n8
      have hn1 := gm.n1
      rw [unhide HKL] at hn8 hn1 hv3 hsat hr3
      have hn7 : np ≤ 7 := small_seven (unhide HNP) (unhide HSM70) gm
      have HX7 := hide (xbn_seven np hn7)
      have HV3 := hide hv3
      have HSAT := hide hsat
      have HR3 : Hid (∀ j, RS (x j) 2000000000) := fun j => (hr3 j).mono (unhide HX7)
      obtain ⟨ap3, cp3, rfl, _, _, _⟩ := hv3
      rw [row_length] at HV3 ⊢
      have HB4 := hide (below_step (unhide HB3) hb3)
      have HC4 := hide ((unhide HC3).keep hb3)
      have HO4 := hide ((unhide HO).keep hb3)
      clear gm hsat hr3 hb3 m0 m1 m2 m3 HC3 HB3 HO
      go_wp2_with fail
      refine (chosen_any w3 (tab_below (unhide HTB) (unhide HB4))).mono ?_
      rintro e w4 ⟨rfl, hb4⟩
      have HB5 := hide (below_step (unhide HB4) hb4)
      have HC5 := hide ((unhide HC4).keep hb4)
      have HO5 := hide ((unhide HO4).keep hb4)
      have HV5 := hide ((unhide HV3).below hb4)
      have ⟨m0, m1, m2, m3⟩ := (unhide HC5).cells
      have HVL := hide (Value_any _ _ (kOf ps) (pq (wx, wy)) np f w4 (unhide HC5).mod (unhide HSM) ((unhide HO5).nrow (by omega)) (by omega) (unhide HI64))
      clear hb4 HB4 HC4 HO4 HV3
      go_wp2_with fail
      refine (unhide HVL).mono ?_
      clear HVL
      rintro e w5 (⟨-, -, -, v5, y, rfl, hv5, hval, hr5, hb5⟩ | ⟨gn, -⟩)
      rotate_left
      · exact absurd ⟨good_code (unhide HGM), (unhide HKL).symm, unhide HIA2⟩ gn
      rw [unhide HKL] at hv5 hr5
      have HY5 := hide hv5
      have HVAL := hide hval
      have HR5 : Hid (∀ j, RS (y j) 2000000000) := fun j => (hr5 j).mono (unhide HX7)
      obtain ⟨av5, cv5, rfl, _, _, _⟩ := hv5
      rw [row_length] at HY5 ⊢
      have HB6 := hide (below_step (unhide HB5) hb5)
      have HC6 := hide ((unhide HC5).keep hb5)
      have HO6 := hide ((unhide HO5).keep hb5)
      have HV6 := hide ((unhide HV5).below hb5)
      obtain ⟨d, hd⟩ : ∃ d : Nat → Nat, (fun j => (f j).toNat) = d := ⟨_, rfl⟩
      have HDE := hide hd
      rw [hd] at HSAT HVAL
      obtain ⟨M, hM⟩ : ∃ M, mdl (kOf ps) (pq (wx, wy)) = M := ⟨_, rfl⟩
      have HM := hide hM
      have HMN : Hid (M.n = np) := by show M.n = np; rw [← hM]; exact unhide HKL
      have HPLAN : Hid (Mdp.Plan M d) := by
        show Mdp.Plan M d
        rw [← hM, ← hd]
        exact plan_of (by rw [unhide HKL]; exact unhide HIA2)
      rw [hM] at HSAT HVAL
      have qmk := make_ratios (np : Int) (by omega) (by omega) w5
      rw [Int.toNat_natCast] at qmk
      have S0 := SumsAt.start w5 w5 np (Below.refl _ _)
      have e9 : ((np : Int) == (np : Int)) = true := by rw [beq_iff_eq]
      obtain ⟨W6, hW6⟩ : ∃ W, w5.alloc (.cells (tcells (List.replicate np zTri)).toArray 33) = W := ⟨_, rfl⟩
      obtain ⟨GN, hGN⟩ : ∃ G, w5.heap.size = G := ⟨_, rfl⟩
      rw [hW6, hGN] at qmk
      rw [hW6] at S0
      have HS0 : Hid (SumsAt w5 W6 GN (List.replicate np zTri) (List.replicate np 0)) := by show SumsAt _ _ _ _ _; rw [← hGN]; exact S0
      clear hval hr5 hb5 hd hM S0 m0 m1 m2 m3 HB5 HC5 HO5 HV5
      go_wp2_with fail
      clear qmk hW6
      refine (whole_any 0 (by decide) (by decide) W6).mono ?_
      rintro e w7 ⟨v7, rfl, hv7, hb7⟩
      obtain ⟨t7, rfl, r7⟩ := tri_of hv7
      simp only [Tri.val]
      go_wp2_with fail
      refine (whole_any 0 (by decide) (by decide) w7).mono ?_
      rintro e w8 ⟨v8, rfl, hv8, hb8⟩
      obtain ⟨t8, rfl, r8⟩ := tri_of hv8
      simp only [Tri.val]
      have b1 := alloc_below w8 (.cells #[.bool false, .slice none 0 0, .slice none 0 0] 33)
      have X1 := BoxIs.new (w := w8) (t := zTri) (q := 0) (rat_zero _)
      have X1 : BoxIs (w8.alloc (.cells #[.bool false, .slice none 0 0, .slice none 0 0] 33)) w8.heap.size zTri 0 := X1
      obtain ⟨A1, hA1⟩ : ∃ W, w8.alloc (.cells #[.bool false, .slice none 0 0, .slice none 0 0] 33) = W := ⟨_, rfl⟩
      obtain ⟨gg, hgg⟩ : ∃ g, w8.heap.size = g := ⟨_, rfl⟩
      obtain ⟨gw, hgw⟩ : ∃ g, gg + 1 = g := ⟨_, rfl⟩
      have s1 : A1.heap.size = gw := by rw [← hA1, alloc_size, hgg, hgw]
      rw [hA1] at b1 X1
      rw [hgg] at X1
      have b2 := alloc_below A1 (.cells #[.bool false, .slice none 0 0, .slice none 0 0] 33)
      have X2 := BoxIs.new (w := A1) (t := zTri) (q := 0) (rat_zero _)
      have X2 : BoxIs (A1.alloc (.cells #[.bool false, .slice none 0 0, .slice none 0 0] 33)) A1.heap.size zTri 0 := X2
      obtain ⟨A2, hA2⟩ : ∃ W, A1.alloc (.cells #[.bool false, .slice none 0 0, .slice none 0 0] 33) = W := ⟨_, rfl⟩
      rw [hA2] at b2 X2
      rw [s1] at X2
      have X1' := X1.keep b2
      have SA := (unhide HS0).keep (below_step hb7 (below_step hb8 (below_step b1 b2)))
      have hGNl : GN < W6.heap.size := (Array.getElem?_eq_some_iff.1 (unhide HS0).row).1
      have hs7 := hb7.size
      have hs8 := hb8.size
      have hw5 : w5.heap.size ≤ GN := (unhide HS0).gl
      have ST0 : StayS w5 A2 GN gg gw (List.replicate np zTri) (List.replicate np 0) zTri zTri 0 0 := ⟨SA, X1', X2, by omega, by omega, by omega, by omega, by omega⟩
      have r7' := r7.below (below_step hb8 (below_step b1 b2))
      have r8' := r8.below (below_step b1 b2)
      have ⟨l0, l1, l2⟩ := X1'.free
      have ⟨y0, y1, y2⟩ : A2.cell? ⟨gg, 0, none⟩ = some (.bool false) ∧ A2.cell? ⟨gg, 1, none⟩ = some (.slice none 0 0) ∧ A2.cell? ⟨gg, 2, none⟩ = some (.slice none 0 0) := X1'.cells _ (Below.refl _ _)
      have ST1 := ST0.setG t7 _ r7'
      have r8'' := r8'.boxSet X1' (.bool t7.s) (.slice t7.a1 t7.n1 t7.c1) (.slice t7.a2 t7.n2 t7.c2)
      obtain ⟨A3, hA3⟩ : ∃ W, ((A2.setCell ⟨gg, 0, none⟩ (.bool t7.s)).setCell ⟨gg, 1, none⟩ (.slice t7.a1 t7.n1 t7.c1)).setCell ⟨gg, 2, none⟩ (.slice t7.a2 t7.n2 t7.c2) = W := ⟨_, rfl⟩
      rw [hA3] at ST1 r8''
      have ⟨n0, n1, n2⟩ := ST1.h.free
      have ⟨x0, x1', x2'⟩ : A3.cell? ⟨gw, 0, none⟩ = some (.bool false) ∧ A3.cell? ⟨gw, 1, none⟩ = some (.slice none 0 0) ∧ A3.cell? ⟨gw, 2, none⟩ = some (.slice none 0 0) := ST1.h.cells _ (Below.refl _ _)
      have ST2 := ST1.setH t8 _ r8''
      obtain ⟨A4, hA4⟩ : ∃ W, ((A3.setCell ⟨gw, 0, none⟩ (.bool t8.s)).setCell ⟨gw, 1, none⟩ (.slice t8.a1 t8.n1 t8.c1)).setCell ⟨gw, 2, none⟩ (.slice t8.a2 t8.n2 t8.c2) = W := ⟨_, rfl⟩
      rw [hA4] at ST2
      have hz0 : List.replicate np (0 : Rat) = row (nxv M d x 0 0) np := row_eq (by simp) (fun t ht => by
        have : (List.replicate np (0 : Rat))[t]! = 0 := by simp [ht]
        rw [this]
        unfold nxv
        rw [if_neg (by omega)]
        rfl)
      rw [hz0] at ST2
      have HST : Hid (StayS w5 A4 GN gg gw (List.replicate np zTri) (row (nxv M d x 0 0) np) t7 t8 (Bth.ps (fun j => x j * M.g j (d j)) 0) (Bth.ps (fun j => x j * y j) 0)) := ST2
      have HF : Hid (∀ j, j < np → f j = ((d j : Nat) : Int)) := fun j hj => by
        have h1 := unhide HIA2 j hj
        rw [← unhide HDE]
        show f j = (((f j).toNat : Nat) : Int)
        omega
      have HDL : Hid (∀ j, j < np → d j < ((kOf ps)[j]!).length) := fun j hj => by
        have := unhide HPLAN j (by rw [unhide HMN]; exact hj)
        rw [← unhide HM] at this
        exact this
      have HJJ : Hid (30000000000 + 30000000000 + 1 ≤ KK) := by show _ ≤ _; rw [KKe]; omega
      have HGR : Hid (∀ j, j < np → RS (M.g j (d j)) 1) := fun j hj => by
        rw [← unhide HM]
        exact (unhide HSM).rg j (d j) (by rw [unhide HKL]; exact hj) (unhide HDL j hj)
      have HPRS : Hid (∀ j t, j < np → t < np → RS (M.p j (d j) t) 1) := fun j t hj ht => by
        rw [← unhide HM]
        have hjK : j < (kOf ps).length := by rw [unhide HKL]; exact hj
        exact (unhide HSM).rp j (d j) t hjK (unhide HDL j hj) (by rw [(unhide HGM).nx j (d j) hjK (unhide HDL j hj), unhide HKL]; exact ht)
      have HSUM : Hid (∀ (F : Nat → Rat) k, k ≤ np → (∀ j, j < np → RS (F j) 4000000000) → RS (Bth.ps F k) 30000000000) := fun F k hk hF => sum7_RS hn7 hk (by omega) hF
      clear hv7 hb7 r7 hv8 hb8 r8 b1 X1 b2 X2 X1' SA hGNl hs7 hs8 hw5 ST0 r7' r8' ST1 r8'' ST2 hz0 HS0
      go_wp2_with fail
      clear hA1 hA2 hA3 hA4 hgg hgw s1 l0 l1 l2 y0 y1 y2 n0 n1 n2 x0 x1' x2' e9 hGN
      go_loopw [14] (fun vi wr => ∃ i : Nat, vi = .int .i64 (i : Int) ∧ i ≤ np ∧ StayI w5 wr GN gg gw np M d x y i) (fun vi _ => np - (intOf vi).toNat)
      case atStart => exact ⟨0, rfl, Nat.zero_le _, _, _, _, List.length_replicate, unhide HST⟩
      case round =>
        obtain ⟨i, rfl, hi, us, tg, tw, hus, S⟩ := hrel
        clear HST
        have HUS := hide hus
        have HS := hide S
        by_cases hlt : i < np
        · have g1 : (i : Int) < (np : Int) := by omega
          have g0 : (0 : Int) ≤ (i : Int) := by omega
          have hb := S.n.bl
          have HBR := hide hb
          have hiK : i < (kOf ps).length := by rw [unhide HKL]; exact hlt
          have hdl := unhide HDL i hlt
          obtain ⟨bk, ok, m, hla, hbk, k0, hA⟩ := (unhide HC6).at.1.at hiK
          have hla : lm.a = some ⟨bk, ok, none⟩ := hla
          have HLA := hide hla
          have hmn := acts_len hA
          have ha8 := (unhide HGM).a8 i hiK
          obtain ⟨na, hna⟩ : ∃ x, m.n = x := ⟨_, rfl⟩
          rw [hna] at k0 hmn
          obtain ⟨ba, oa, ta, la, hma, hba, ⟨a0, a1, a2, a3⟩, hAct⟩ := hA.at hdl
          have hnx := (unhide HGM).nx i (d i) hiK hdl
          have hln2 := law_len hAct.2
          rw [hnx, unhide HKL] at hln2
          rw [hln2] at a3
          rw [hma] at k0
          have kd := (unhide HO6).cell hlt
          rw [unhide HF i hlt] at kd
          have ⟨c0, _⟩ := (unhide HC6).cells
          rw [hla] at c0
          have pd0 : (0 : Int) ≤ ((d i : Nat) : Int) := by omega
          have pd1 : ((d i : Nat) : Int) < (na : Int) := by omega
          have hgcl : gc < w5.heap.size := World.block_lt_of_cell? w5 _ c0
          have HAC := hide hAct
          have HGE : Hid (((kOf ps)[i]!)[d i]!.1 = M.g i (d i)) := by show _ = _; rw [← unhide HM]; rfl
          have HPE : Hid (∀ t, ((((kOf ps)[i]!)[d i]!).2)[t]! = M.p i (d i) t) := fun t => by rw [← unhide HM]; rfl
          have HNXT : Hid (((((kOf ps)[i]!)[d i]!).2).length = np) := by show _ = np; rw [hnx]; exact unhide HKL
          obtain ⟨ds, hds⟩ : ∃ n, d i = n := ⟨_, rfl⟩
          rw [hds] at a0 a1 a2 a3 kd pd0 pd1
          have hGOl := (unhide HO6).lt
          have HCC : Hid (∀ W, Below wr.heap.size wr W → (fun w' : World => w'.cell? ⟨gc, 0, none⟩ = some (.slice (some ⟨bk, ok, none⟩) np lm.c) ∧ w'.cell? ⟨bk, ok + i, none⟩ = some (.slice (some ⟨ba, oa, none⟩) na m.c) ∧ w'.cell? ⟨GO, i, none⟩ = some (.int .i64 (ds : Int)) ∧ w'.cell? ⟨ba, oa + ds * 4, none⟩ = some (.bool ta.s) ∧ w'.cell? ⟨ba, oa + ds * 4 + 1, none⟩ = some (.slice ta.a1 ta.n1 ta.c1) ∧ w'.cell? ⟨ba, oa + ds * 4 + 2, none⟩ = some (.slice ta.a2 ta.n2 ta.c2) ∧ w'.cell? ⟨ba, oa + ds * 4 + 3, none⟩ = some (.slice la.a np la.c)) W) := fun W hW => by
            have bc := below_step hb hW
            refine ⟨?_, ?_, ?_, ?_, ?_, ?_, ?_⟩
            · rw [bc.cell (p := ⟨gc, 0, none⟩) hgcl]; exact c0
            · rw [bc.cell (p := ⟨bk, ok + i, none⟩) hbk]; exact k0
            · rw [bc.cell (p := ⟨GO, i, none⟩) hGOl]; exact kd
            · rw [bc.cell (p := ⟨ba, oa + ds * 4, none⟩) hba]; exact a0
            · rw [bc.cell (p := ⟨ba, oa + ds * 4 + 1, none⟩) hba]; exact a1
            · rw [bc.cell (p := ⟨ba, oa + ds * 4 + 2, none⟩) hba]; exact a2
            · rw [bc.cell (p := ⟨ba, oa + ds * 4 + 3, none⟩) hba]; exact a3
          clear S hus hb hmn hna hA hAct hnx hln2 hds hdl hiK c0 k0 kd a0 a1 a2 a3 hgcl hGOl hma
          go_wp2_with fail
          refine wp_region_till (fun w' : World => w'.cell? ⟨gc, 0, none⟩ = some (.slice (some ⟨bk, ok, none⟩) np lm.c) ∧ w'.cell? ⟨bk, ok + i, none⟩ = some (.slice (some ⟨ba, oa, none⟩) na m.c) ∧ w'.cell? ⟨GO, i, none⟩ = some (.int .i64 (ds : Int)) ∧ w'.cell? ⟨ba, oa + ds * 4, none⟩ = some (.bool ta.s) ∧ w'.cell? ⟨ba, oa + ds * 4 + 1, none⟩ = some (.slice ta.a1 ta.n1 ta.c1) ∧ w'.cell? ⟨ba, oa + ds * 4 + 2, none⟩ = some (.slice ta.a2 ta.n2 ta.c2) ∧ w'.cell? ⟨ba, oa + ds * 4 + 3, none⟩ = some (.slice la.a np la.c)) 12 (by kernel_rfl) ?_
          have bd0 : Below wr.heap.size wr wr.drew := (Below.refl _ _).drew
          have hC0 : (fun w' : World => w'.cell? ⟨gc, 0, none⟩ = some (.slice (some ⟨bk, ok, none⟩) np lm.c) ∧ w'.cell? ⟨bk, ok + i, none⟩ = some (.slice (some ⟨ba, oa, none⟩) na m.c) ∧ w'.cell? ⟨GO, i, none⟩ = some (.int .i64 (ds : Int)) ∧ w'.cell? ⟨ba, oa + ds * 4, none⟩ = some (.bool ta.s) ∧ w'.cell? ⟨ba, oa + ds * 4 + 1, none⟩ = some (.slice ta.a1 ta.n1 ta.c1) ∧ w'.cell? ⟨ba, oa + ds * 4 + 2, none⟩ = some (.slice ta.a2 ta.n2 ta.c2) ∧ w'.cell? ⟨ba, oa + ds * 4 + 3, none⟩ = some (.slice la.a np la.c)) wr.drew := unhide HCC _ bd0
          refine wpTill_pure (i := 0) (v := ?_) rfl (by kernel_rfl) (by kernel_rfl) (by kernel_rfl) (by kernel_rfl) (fun _ _ _ h => h) (Or.inl ⟨by rfl, ?_⟩) (fun _ => hC0) ?_
          rotate_left
          · intro w hSw; clear hSw; go_simp; (try with_reducible rfl)
          (try simp only [List.getElem_toArray, List.getElem_cons_succ, List.getElem_cons_zero])
          (try simp only [Act.put, List.setIfInBounds_toArray, List.set_cons_zero, List.set_cons_succ])
          refine wpTill_take (i := 1) (v := ?_) rfl (by kernel_rfl) (by kernel_rfl) (by kernel_rfl) (by kernel_rfl) (by kernel_rfl) (by kernel_rfl) (fun _ _ _ h => h) (Or.inl ⟨by rfl, ?_⟩) hC0 ?_
          rotate_left
          · intro w hSw; (try dsimp only at hSw); obtain ⟨z0, z1, z2, z3, z4, z5, z6⟩ := hSw; go_simp; (try with_reducible rfl)
          (try simp only [List.getElem_toArray, List.getElem_cons_succ, List.getElem_cons_zero])
          (try simp only [Act.put, List.setIfInBounds_toArray, List.set_cons_zero, List.set_cons_succ])
          refine wpTill_pure (i := 2) (v := ?_) rfl (by kernel_rfl) (by kernel_rfl) (by kernel_rfl) (by kernel_rfl) (fun _ _ _ h => h) (Or.inl ⟨by rfl, ?_⟩) (fun _ => hC0) ?_
          rotate_left
          · intro w hSw; clear hSw; go_simp; (try with_reducible rfl)
          (try simp only [List.getElem_toArray, List.getElem_cons_succ, List.getElem_cons_zero])
          (try simp only [Act.put, List.setIfInBounds_toArray, List.set_cons_zero, List.set_cons_succ])
          refine wpTill_pure (i := 3) (v := ?_) rfl (by kernel_rfl) (by kernel_rfl) (by kernel_rfl) (by kernel_rfl) (fun _ _ _ h => h) (Or.inl ⟨by rfl, ?_⟩) (fun _ => hC0) ?_
          rotate_left
          · intro w hSw; clear hSw; go_simp; (try with_reducible rfl)
          (try simp only [List.getElem_toArray, List.getElem_cons_succ, List.getElem_cons_zero])
          (try simp only [Act.put, List.setIfInBounds_toArray, List.set_cons_zero, List.set_cons_succ])
          refine wpTill_take (i := 4) (v := ?_) rfl (by kernel_rfl) (by kernel_rfl) (by kernel_rfl) (by kernel_rfl) (by kernel_rfl) (by kernel_rfl) (fun _ _ _ h => h) (Or.inl ⟨by rfl, ?_⟩) hC0 ?_
          rotate_left
          · intro w hSw; (try dsimp only at hSw); obtain ⟨z0, z1, z2, z3, z4, z5, z6⟩ := hSw; go_simp; (try with_reducible rfl)
          (try simp only [List.getElem_toArray, List.getElem_cons_succ, List.getElem_cons_zero])
          (try simp only [Act.put, List.setIfInBounds_toArray, List.set_cons_zero, List.set_cons_succ])
          refine wpTill_pure (i := 5) (v := ?_) rfl (by kernel_rfl) (by kernel_rfl) (by kernel_rfl) (by kernel_rfl) (fun _ _ _ h => h) (Or.inl ⟨by rfl, ?_⟩) (fun _ => hC0) ?_
          rotate_left
          · intro w hSw; clear hSw; go_simp; (try with_reducible rfl)
          (try simp only [List.getElem_toArray, List.getElem_cons_succ, List.getElem_cons_zero])
          (try simp only [Act.put, List.setIfInBounds_toArray, List.set_cons_zero, List.set_cons_succ])
          refine wpTill_pure (i := 6) (v := ?_) rfl (by kernel_rfl) (by kernel_rfl) (by kernel_rfl) (by kernel_rfl) (fun _ _ _ h => h) (Or.inl ⟨by rfl, ?_⟩) (fun _ => hC0) ?_
          rotate_left
          · intro w hSw; clear hSw; go_simp; (try with_reducible rfl)
          (try simp only [List.getElem_toArray, List.getElem_cons_succ, List.getElem_cons_zero])
          (try simp only [Act.put, List.setIfInBounds_toArray, List.set_cons_zero, List.set_cons_succ])
          refine wpTill_pure (i := 7) (v := ?_) rfl (by kernel_rfl) (by kernel_rfl) (by kernel_rfl) (by kernel_rfl) (fun _ _ _ h => h) (Or.inl ⟨by rfl, ?_⟩) (fun _ => hC0) ?_
          rotate_left
          · intro w hSw; clear hSw; go_simp; (try with_reducible rfl)
          (try simp only [List.getElem_toArray, List.getElem_cons_succ, List.getElem_cons_zero])
          (try simp only [Act.put, List.setIfInBounds_toArray, List.set_cons_zero, List.set_cons_succ])
          refine wpTill_take (i := 8) (v := ?_) rfl (by kernel_rfl) (by kernel_rfl) (by kernel_rfl) (by kernel_rfl) (by kernel_rfl) (by kernel_rfl) (fun _ _ _ h => h) (Or.inl ⟨by rfl, ?_⟩) hC0 ?_
          rotate_left
          · intro w hSw; (try dsimp only at hSw); obtain ⟨z0, z1, z2, z3, z4, z5, z6⟩ := hSw; go_simp; (try with_reducible rfl)
          (try simp only [List.getElem_toArray, List.getElem_cons_succ, List.getElem_cons_zero])
          (try simp only [Act.put, List.setIfInBounds_toArray, List.set_cons_zero, List.set_cons_succ])
          refine wpTill_pure (i := 9) (v := ?_) rfl (by kernel_rfl) (by kernel_rfl) (by kernel_rfl) (by kernel_rfl) (fun _ _ _ h => h) (Or.inl ⟨by rfl, ?_⟩) (fun _ => hC0) ?_
          rotate_left
          · intro w hSw; clear hSw; go_simp; (try with_reducible rfl)
          (try simp only [List.getElem_toArray, List.getElem_cons_succ, List.getElem_cons_zero])
          (try simp only [Act.put, List.setIfInBounds_toArray, List.set_cons_zero, List.set_cons_succ])
          refine wpTill_take (i := 10) (v := ?_) rfl (by kernel_rfl) (by kernel_rfl) (by kernel_rfl) (by kernel_rfl) (by kernel_rfl) (by kernel_rfl) (fun _ _ _ h => h) (Or.inl ⟨by rfl, ?_⟩) hC0 ?_
          rotate_left
          · intro w hSw; (try dsimp only at hSw); obtain ⟨z0, z1, z2, z3, z4, z5, z6⟩ := hSw; go_simp; (try with_reducible rfl)
          (try simp only [List.getElem_toArray, List.getElem_cons_succ, List.getElem_cons_zero])
          (try simp only [Act.put, List.setIfInBounds_toArray, List.set_cons_zero, List.set_cons_succ])
          have bA := alloc_below wr.drew (.cells #[.bool false, .slice none 0 0, .slice none 0 0, .slice none 0 0] 62)
          have cc_1 := below_step bd0 bA
          have hC_1 : (fun w' : World => w'.cell? ⟨gc, 0, none⟩ = some (.slice (some ⟨bk, ok, none⟩) np lm.c) ∧ w'.cell? ⟨bk, ok + i, none⟩ = some (.slice (some ⟨ba, oa, none⟩) na m.c) ∧ w'.cell? ⟨GO, i, none⟩ = some (.int .i64 (ds : Int)) ∧ w'.cell? ⟨ba, oa + ds * 4, none⟩ = some (.bool ta.s) ∧ w'.cell? ⟨ba, oa + ds * 4 + 1, none⟩ = some (.slice ta.a1 ta.n1 ta.c1) ∧ w'.cell? ⟨ba, oa + ds * 4 + 2, none⟩ = some (.slice ta.a2 ta.n2 ta.c2) ∧ w'.cell? ⟨ba, oa + ds * 4 + 3, none⟩ = some (.slice la.a np la.c)) (wr.drew.alloc (.cells #[.bool false, .slice none 0 0, .slice none 0 0, .slice none 0 0] 62)) := unhide HCC _ cc_1
          refine wpTill_one (k := 11) (by kernel_rfl) rfl (fun K hK => ?_)
          (try simp only [List.getElem_toArray, List.getElem_cons_succ, List.getElem_cons_zero])
          go_simp
          refine hK.out _ _ (fun _ => hC_1) ?_
          clear hK K
          (try simp only [Act.put, List.setIfInBounds_toArray, List.set_cons_zero, List.set_cons_succ])
          refine wpTill_one (k := 12) (by kernel_rfl) rfl (fun K hK => ?_)
          (try simp only [List.getElem_toArray, List.getElem_cons_succ, List.getElem_cons_zero])
          go_simp
          refine hK.out _ _ (fun h => absurd (h.symm.trans (by kernel_rfl)) Bool.false_ne_true) ?_
          clear hK K
          (try simp only [Act.put, List.setIfInBounds_toArray, List.set_cons_zero, List.set_cons_succ])
          refine wpTill_done (by kernel_rfl) ?_ _
          have bA := (alloc_below wr (.cells #[.bool ta.s, .slice ta.a1 ta.n1 ta.c1, .slice ta.a2 ta.n2 ta.c2, .slice la.a np la.c] 62)).drew
          have nA := heap_alloc_new wr (.cells #[.bool ta.s, .slice ta.a1 ta.n1 ta.c1, .slice ta.a2 ta.n2 ta.c2, .slice la.a np la.c] 62)
          have nA : (wr.alloc (.cells #[.bool ta.s, .slice ta.a1 ta.n1 ta.c1, .slice ta.a2 ta.n2 ta.c2, .slice la.a np la.c] 62)).drew.heap[wr.heap.size]? = some (.cells #[.bool ta.s, .slice ta.a1 ta.n1 ta.c1, .slice ta.a2 ta.n2 ta.c2, .slice la.a np la.c] 62) := nA
          obtain ⟨W3, hW3⟩ : ∃ W, (wr.alloc (.cells #[.bool ta.s, .slice ta.a1 ta.n1 ta.c1, .slice ta.a2 ta.n2 ta.c2, .slice la.a np la.c] 62)).drew = W := ⟨_, rfl⟩
          obtain ⟨ga, hga⟩ : ∃ g, wr.heap.size = g := ⟨_, rfl⟩
          rw [hW3] at bA nA
          rw [hga] at nA
          have HBF := hide bA
          have HGF := hide nA
          have HGAW : Hid (wr.heap.size ≤ ga) := by show _ ≤ _; omega
          simp only [hW3, hga]
          clear hC0 hC_1 cc_1 bd0 bA nA hga hW3 HCC
          have hS3 := (unhide HS).keep (unhide HBF)
          have HS3 := hide hS3
          have hb3 := hS3.n.bl
          have HNAG : Hid (ga ≠ gg) := by
            show ga ≠ gg
            have h1 := (unhide HS).g.lt
            have h2 := unhide HGAW
            omega
          have HNAW : Hid (ga ≠ gw) := by
            show ga ≠ gw
            have h1 := (unhide HS).h.lt
            have h2 := unhide HGAW
            omega
          have HNAN : Hid (ga ≠ GN) := by
            show ga ≠ GN
            have h1 := (Array.getElem?_eq_some_iff.1 (unhide HS).n.row).1
            have h2 := unhide HGAW
            omega
          obtain ⟨a_x, c_x, e_x, _, _, h_x⟩ := (unhide HV6)
          obtain ⟨bp, op, rfl, hl_x, hc_x⟩ := h_x (by rw [row_length]; omega)
          have ea_x : ap3 = some ⟨bp, op, none⟩ := by injection e_x
          obtain ⟨x_s, x_p1, x_p2, x_n1, x_d1, x_n2, x_d2, kx0, kx1, kx2, r_x⟩ := hc_x i (by rw [row_length]; exact hlt)
          obtain ⟨tp, rfl, rfl, rfl, rfl, rfl, rfl, rfl⟩ : ∃ t : Tri, x_s = t.s ∧ x_p1 = t.a1 ∧ x_p2 = t.a2 ∧ x_n1 = t.n1 ∧ x_d1 = t.c1 ∧ x_n2 = t.n2 ∧ x_d2 = t.c2 := ⟨⟨x_s, x_p1, x_p2, x_n1, x_d1, x_n2, x_d2⟩, rfl, rfl, rfl, rfl, rfl, rfl, rfl⟩
          rw [row_get hlt] at r_x
          obtain ⟨a_y, c_y, e_y, _, _, h_y⟩ := (unhide HY5)
          obtain ⟨bv, ov, rfl, hl_y, hc_y⟩ := h_y (by rw [row_length]; omega)
          have ea_y : av5 = some ⟨bv, ov, none⟩ := by injection e_y
          obtain ⟨y_s, y_p1, y_p2, y_n1, y_d1, y_n2, y_d2, ky0, ky1, ky2, r_y⟩ := hc_y i (by rw [row_length]; exact hlt)
          obtain ⟨tv, rfl, rfl, rfl, rfl, rfl, rfl, rfl⟩ : ∃ t : Tri, y_s = t.s ∧ y_p1 = t.a1 ∧ y_p2 = t.a2 ∧ y_n1 = t.n1 ∧ y_d1 = t.c1 ∧ y_n2 = t.n2 ∧ y_d2 = t.c2 := ⟨⟨y_s, y_p1, y_p2, y_n1, y_d1, y_n2, y_d2⟩, rfl, rfl, rfl, rfl, rfl, rfl, rfl⟩
          rw [row_get hlt] at r_y
          have r_g := (unhide HAC).1
          rw [unhide HGE] at r_g
          have HRP5 := hide r_x
          have HLX := hide hl_x
          have HKX := hide (And.intro kx0 (And.intro kx1 kx2))
          have HRP := hide (r_x.below hb3)
          have HRV := hide (r_y.below hb3)
          have HRG := hide (r_g.below hb3)
          have HSX : Hid (RS (x i) 30000000000) := (unhide HR3 i).mono (by omega)
          have HSY : Hid (RS (y i) 30000000000) := (unhide HR5 i).mono (by omega)
          have HSG : Hid (RS (M.g i (d i)) 30000000000) := (unhide HGR i hlt).mono (by omega)
          have HSXG : Hid (RS (x i * M.g i (d i)) 30000000000) := ((unhide HR3 i).mul (unhide HGR i hlt)).mono (by omega)
          have HSXY : Hid (RS (x i * y i) 30000000000) := ((unhide HR3 i).mul (unhide HR5 i)).mono (by omega)
          have HSGA : Hid (RS (Bth.ps (fun j => x j * M.g j (d j)) i) 30000000000) := unhide HSUM _ i (by omega) (fun j hj => ((unhide HR3 j).mul (unhide HGR j hj)).mono (by omega))
          have HSWO : Hid (RS (Bth.ps (fun j => x j * y j) i) 30000000000) := unhide HSUM _ i (by omega) (fun j hj => ((unhide HR3 j).mul (unhide HR5 j)).mono (by omega))
          have HC25 : Hid (∀ W, Below W3.heap.size W3 W → (fun w' : World => (w'.cell? ⟨gg, 0, none⟩ = some (.bool tg.s) ∧ w'.cell? ⟨gg, 1, none⟩ = some (.slice tg.a1 tg.n1 tg.c1) ∧ w'.cell? ⟨gg, 2, none⟩ = some (.slice tg.a2 tg.n2 tg.c2)) ∧ (w'.cell? ⟨gw, 0, none⟩ = some (.bool tw.s) ∧ w'.cell? ⟨gw, 1, none⟩ = some (.slice tw.a1 tw.n1 tw.c1) ∧ w'.cell? ⟨gw, 2, none⟩ = some (.slice tw.a2 tw.n2 tw.c2)) ∧ (w'.cell? ⟨bp, op + i * 3, none⟩ = some (.bool tp.s) ∧ w'.cell? ⟨bp, op + i * 3 + 1, none⟩ = some (.slice tp.a1 tp.n1 tp.c1) ∧ w'.cell? ⟨bp, op + i * 3 + 2, none⟩ = some (.slice tp.a2 tp.n2 tp.c2)) ∧ (w'.cell? ⟨bv, ov + i * 3, none⟩ = some (.bool tv.s) ∧ w'.cell? ⟨bv, ov + i * 3 + 1, none⟩ = some (.slice tv.a1 tv.n1 tv.c1) ∧ w'.cell? ⟨bv, ov + i * 3 + 2, none⟩ = some (.slice tv.a2 tv.n2 tv.c2)) ∧ w'.cell? ⟨ga, 0, none⟩ = some (.bool ta.s) ∧ w'.cell? ⟨ga, 1, none⟩ = some (.slice ta.a1 ta.n1 ta.c1) ∧ w'.cell? ⟨ga, 2, none⟩ = some (.slice ta.a2 ta.n2 ta.c2)) W) := fun W hW => by
            have bc := below_step hb3 hW
            have e := heap_kept (unhide HGF) hW
            refine ⟨hS3.g.cells W hW, hS3.h.cells W hW, ?_, ?_, ?_⟩
            · rw [bc.cell (p := ⟨bp, op + i * 3, none⟩) hl_x, bc.cell (p := ⟨bp, op + i * 3 + 1, none⟩) hl_x, bc.cell (p := ⟨bp, op + i * 3 + 2, none⟩) hl_x]; exact ⟨kx0, kx1, kx2⟩
            · rw [bc.cell (p := ⟨bv, ov + i * 3, none⟩) hl_y, bc.cell (p := ⟨bv, ov + i * 3 + 1, none⟩) hl_y, bc.cell (p := ⟨bv, ov + i * 3 + 2, none⟩) hl_y]; exact ⟨ky0, ky1, ky2⟩
            · simp [World.cell?, e]
          subst ea_x ea_y
          clear hla hS3 hb3 e_x h_x hc_x kx0 kx1 kx2 r_x hl_x e_y h_y hc_y ky0 ky1 ky2 r_y hl_y r_g
          go_wp2_with fail
          refine wp_region_till (fun w' : World => (w'.cell? ⟨gg, 0, none⟩ = some (.bool tg.s) ∧ w'.cell? ⟨gg, 1, none⟩ = some (.slice tg.a1 tg.n1 tg.c1) ∧ w'.cell? ⟨gg, 2, none⟩ = some (.slice tg.a2 tg.n2 tg.c2)) ∧ (w'.cell? ⟨gw, 0, none⟩ = some (.bool tw.s) ∧ w'.cell? ⟨gw, 1, none⟩ = some (.slice tw.a1 tw.n1 tw.c1) ∧ w'.cell? ⟨gw, 2, none⟩ = some (.slice tw.a2 tw.n2 tw.c2)) ∧ (w'.cell? ⟨bp, op + i * 3, none⟩ = some (.bool tp.s) ∧ w'.cell? ⟨bp, op + i * 3 + 1, none⟩ = some (.slice tp.a1 tp.n1 tp.c1) ∧ w'.cell? ⟨bp, op + i * 3 + 2, none⟩ = some (.slice tp.a2 tp.n2 tp.c2)) ∧ (w'.cell? ⟨bv, ov + i * 3, none⟩ = some (.bool tv.s) ∧ w'.cell? ⟨bv, ov + i * 3 + 1, none⟩ = some (.slice tv.a1 tv.n1 tv.c1) ∧ w'.cell? ⟨bv, ov + i * 3 + 2, none⟩ = some (.slice tv.a2 tv.n2 tv.c2)) ∧ w'.cell? ⟨ga, 0, none⟩ = some (.bool ta.s) ∧ w'.cell? ⟨ga, 1, none⟩ = some (.slice ta.a1 ta.n1 ta.c1) ∧ w'.cell? ⟨ga, 2, none⟩ = some (.slice ta.a2 ta.n2 ta.c2)) 20 (by kernel_rfl) ?_
          have bd0 : Below W3.heap.size W3 W3.drew := (Below.refl _ _).drew
          have hC0 : (fun w' : World => (w'.cell? ⟨gg, 0, none⟩ = some (.bool tg.s) ∧ w'.cell? ⟨gg, 1, none⟩ = some (.slice tg.a1 tg.n1 tg.c1) ∧ w'.cell? ⟨gg, 2, none⟩ = some (.slice tg.a2 tg.n2 tg.c2)) ∧ (w'.cell? ⟨gw, 0, none⟩ = some (.bool tw.s) ∧ w'.cell? ⟨gw, 1, none⟩ = some (.slice tw.a1 tw.n1 tw.c1) ∧ w'.cell? ⟨gw, 2, none⟩ = some (.slice tw.a2 tw.n2 tw.c2)) ∧ (w'.cell? ⟨bp, op + i * 3, none⟩ = some (.bool tp.s) ∧ w'.cell? ⟨bp, op + i * 3 + 1, none⟩ = some (.slice tp.a1 tp.n1 tp.c1) ∧ w'.cell? ⟨bp, op + i * 3 + 2, none⟩ = some (.slice tp.a2 tp.n2 tp.c2)) ∧ (w'.cell? ⟨bv, ov + i * 3, none⟩ = some (.bool tv.s) ∧ w'.cell? ⟨bv, ov + i * 3 + 1, none⟩ = some (.slice tv.a1 tv.n1 tv.c1) ∧ w'.cell? ⟨bv, ov + i * 3 + 2, none⟩ = some (.slice tv.a2 tv.n2 tv.c2)) ∧ w'.cell? ⟨ga, 0, none⟩ = some (.bool ta.s) ∧ w'.cell? ⟨ga, 1, none⟩ = some (.slice ta.a1 ta.n1 ta.c1) ∧ w'.cell? ⟨ga, 2, none⟩ = some (.slice ta.a2 ta.n2 ta.c2)) W3.drew := unhide HC25 _ bd0
          refine wpTill_take (i := 0) (v := ?_) rfl (by kernel_rfl) (by kernel_rfl) (by kernel_rfl) (by kernel_rfl) (by kernel_rfl) (by kernel_rfl) (fun _ _ _ h => h) (Or.inl ⟨by rfl, ?_⟩) hC0 ?_
          rotate_left
          · intro w hSw; (try dsimp only at hSw); obtain ⟨⟨z0, z1, z2⟩, ⟨z3, z4, z5⟩, ⟨z6, z7, z8⟩, ⟨z9, z10, z11⟩, z12, z13, z14⟩ := hSw; go_simp; (try with_reducible rfl)
          (try simp only [List.getElem_toArray, List.getElem_cons_succ, List.getElem_cons_zero])
          (try simp only [Act.put, List.setIfInBounds_toArray, List.set_cons_zero, List.set_cons_succ])
          refine wpTill_pure (i := 1) (v := ?_) rfl (by kernel_rfl) (by kernel_rfl) (by kernel_rfl) (by kernel_rfl) (fun _ _ _ h => h) (Or.inl ⟨by rfl, ?_⟩) (fun _ => hC0) ?_
          rotate_left
          · intro w hSw; clear hSw; go_simp; (try with_reducible rfl)
          (try simp only [List.getElem_toArray, List.getElem_cons_succ, List.getElem_cons_zero])
          (try simp only [Act.put, List.setIfInBounds_toArray, List.set_cons_zero, List.set_cons_succ])
          refine wpTill_pure (i := 2) (v := ?_) rfl (by kernel_rfl) (by kernel_rfl) (by kernel_rfl) (by kernel_rfl) (fun _ _ _ h => h) (Or.inl ⟨by rfl, ?_⟩) (fun _ => hC0) ?_
          rotate_left
          · intro w hSw; clear hSw; go_simp; (try with_reducible rfl)
          (try simp only [List.getElem_toArray, List.getElem_cons_succ, List.getElem_cons_zero])
          (try simp only [Act.put, List.setIfInBounds_toArray, List.set_cons_zero, List.set_cons_succ])
          refine wpTill_pure (i := 3) (v := ?_) rfl (by kernel_rfl) (by kernel_rfl) (by kernel_rfl) (by kernel_rfl) (fun _ _ _ h => h) (Or.inl ⟨by rfl, ?_⟩) (fun _ => hC0) ?_
          rotate_left
          · intro w hSw; clear hSw; go_simp; (try with_reducible rfl)
          (try simp only [List.getElem_toArray, List.getElem_cons_succ, List.getElem_cons_zero])
          (try simp only [Act.put, List.setIfInBounds_toArray, List.set_cons_zero, List.set_cons_succ])
          refine wpTill_take (i := 4) (v := ?_) rfl (by kernel_rfl) (by kernel_rfl) (by kernel_rfl) (by kernel_rfl) (by kernel_rfl) (by kernel_rfl) (fun _ _ _ h => h) (Or.inl ⟨by rfl, ?_⟩) hC0 ?_
          rotate_left
          · intro w hSw; (try dsimp only at hSw); obtain ⟨⟨z0, z1, z2⟩, ⟨z3, z4, z5⟩, ⟨z6, z7, z8⟩, ⟨z9, z10, z11⟩, z12, z13, z14⟩ := hSw; go_simp; (try with_reducible rfl)
          (try simp only [List.getElem_toArray, List.getElem_cons_succ, List.getElem_cons_zero])
          (try simp only [Act.put, List.setIfInBounds_toArray, List.set_cons_zero, List.set_cons_succ])
          refine wpTill_pure (i := 5) (v := ?_) rfl (by kernel_rfl) (by kernel_rfl) (by kernel_rfl) (by kernel_rfl) (fun _ _ _ h => h) (Or.inl ⟨by rfl, ?_⟩) (fun _ => hC0) ?_
          rotate_left
          · intro w hSw; clear hSw; go_simp; (try with_reducible rfl)
          (try simp only [List.getElem_toArray, List.getElem_cons_succ, List.getElem_cons_zero])
          (try simp only [Act.put, List.setIfInBounds_toArray, List.set_cons_zero, List.set_cons_succ])
          refine wpTill_take (i := 6) (v := ?_) rfl (by kernel_rfl) (by kernel_rfl) (by kernel_rfl) (by kernel_rfl) (by kernel_rfl) (by kernel_rfl) (fun _ _ _ h => h) (Or.inl ⟨by rfl, ?_⟩) hC0 ?_
          rotate_left
          · intro w hSw; (try dsimp only at hSw); obtain ⟨⟨z0, z1, z2⟩, ⟨z3, z4, z5⟩, ⟨z6, z7, z8⟩, ⟨z9, z10, z11⟩, z12, z13, z14⟩ := hSw; go_simp; (try with_reducible rfl)
          (try simp only [List.getElem_toArray, List.getElem_cons_succ, List.getElem_cons_zero])
          (try simp only [Act.put, List.setIfInBounds_toArray, List.set_cons_zero, List.set_cons_succ])
          refine wpTill_deep (i := 9) (v := ?_) [19, 20, 21] rfl (by kernel_rfl) (by kernel_rfl) (by kernel_rfl) (by kernel_rfl) (by kernel_rfl) (by kernel_rfl) (by kernel_rfl) (fun _ _ _ h => h) (Or.inl ⟨by rfl, ?_⟩) hC0 ?_
          rotate_left
          · intro w hSw; (try dsimp only at hSw); obtain ⟨⟨z0, z1, z2⟩, ⟨z3, z4, z5⟩, ⟨z6, z7, z8⟩, ⟨z9, z10, z11⟩, z12, z13, z14⟩ := hSw; go_simp; (try with_reducible rfl)
          (try simp only [List.getElem_toArray, List.getElem_cons_succ, List.getElem_cons_zero])
          (try simp only [Act.put, List.setIfInBounds_toArray, List.set_cons_zero, List.set_cons_succ])
          refine wpTill_pure (i := 10) (v := ?_) rfl (by kernel_rfl) (by kernel_rfl) (by kernel_rfl) (by kernel_rfl) (fun _ _ _ h => h) (Or.inl ⟨by rfl, ?_⟩) (fun _ => hC0) ?_
          rotate_left
          · intro w hSw; clear hSw; go_simp; (try with_reducible rfl)
          (try simp only [List.getElem_toArray, List.getElem_cons_succ, List.getElem_cons_zero])
          (try simp only [Act.put, List.setIfInBounds_toArray, List.set_cons_zero, List.set_cons_succ])
          refine wpTill_pure (i := 11) (v := ?_) rfl (by kernel_rfl) (by kernel_rfl) (by kernel_rfl) (by kernel_rfl) (fun _ _ _ h => h) (Or.inl ⟨by rfl, ?_⟩) (fun _ => hC0) ?_
          rotate_left
          · intro w hSw; clear hSw; go_simp; (try with_reducible rfl)
          (try simp only [List.getElem_toArray, List.getElem_cons_succ, List.getElem_cons_zero])
          (try simp only [Act.put, List.setIfInBounds_toArray, List.set_cons_zero, List.set_cons_succ])
          refine wpTill_pure (i := 12) (v := ?_) rfl (by kernel_rfl) (by kernel_rfl) (by kernel_rfl) (by kernel_rfl) (fun _ _ _ h => h) (Or.inl ⟨by rfl, ?_⟩) (fun _ => hC0) ?_
          rotate_left
          · intro w hSw; clear hSw; go_simp; (try with_reducible rfl)
          (try simp only [List.getElem_toArray, List.getElem_cons_succ, List.getElem_cons_zero])
          (try simp only [Act.put, List.setIfInBounds_toArray, List.set_cons_zero, List.set_cons_succ])
          refine wpTill_deep (i := 13) (v := ?_) [18, 19, 20, 21] rfl (by kernel_rfl) (by kernel_rfl) (by kernel_rfl) (by kernel_rfl) (by kernel_rfl) (by kernel_rfl) (by kernel_rfl) (fun _ _ _ h => h) (Or.inl ⟨by rfl, ?_⟩) hC0 ?_
          rotate_left
          · intro w hSw; (try dsimp only at hSw); obtain ⟨⟨z0, z1, z2⟩, ⟨z3, z4, z5⟩, ⟨z6, z7, z8⟩, ⟨z9, z10, z11⟩, z12, z13, z14⟩ := hSw; go_simp; (try with_reducible rfl)
          (try simp only [List.getElem_toArray, List.getElem_cons_succ, List.getElem_cons_zero])
          (try simp only [Act.put, List.setIfInBounds_toArray, List.set_cons_zero, List.set_cons_succ])
          refine wpTill_pure (i := 14) (v := ?_) rfl (by kernel_rfl) (by kernel_rfl) (by kernel_rfl) (by kernel_rfl) (fun _ _ _ h => h) (Or.inl ⟨by rfl, ?_⟩) (fun _ => hC0) ?_
          rotate_left
          · intro w hSw; clear hSw; go_simp; (try with_reducible rfl)
          (try simp only [List.getElem_toArray, List.getElem_cons_succ, List.getElem_cons_zero])
          (try simp only [Act.put, List.setIfInBounds_toArray, List.set_cons_zero, List.set_cons_succ])
          refine wpTill_pure (i := 15) (v := ?_) rfl (by kernel_rfl) (by kernel_rfl) (by kernel_rfl) (by kernel_rfl) (fun _ _ _ h => h) (Or.inl ⟨by rfl, ?_⟩) (fun _ => hC0) ?_
          rotate_left
          · intro w hSw; clear hSw; go_simp; (try with_reducible rfl)
          (try simp only [List.getElem_toArray, List.getElem_cons_succ, List.getElem_cons_zero])
          (try simp only [Act.put, List.setIfInBounds_toArray, List.set_cons_zero, List.set_cons_succ])
          refine wpTill_pure (i := 16) (v := ?_) rfl (by kernel_rfl) (by kernel_rfl) (by kernel_rfl) (by kernel_rfl) (fun _ _ _ h => h) (Or.inl ⟨by rfl, ?_⟩) (fun _ => hC0) ?_
          rotate_left
          · intro w hSw; clear hSw; go_simp; (try with_reducible rfl)
          (try simp only [List.getElem_toArray, List.getElem_cons_succ, List.getElem_cons_zero])
          (try simp only [Act.put, List.setIfInBounds_toArray, List.set_cons_zero, List.set_cons_succ])
          refine wpTill_deep (i := 17) (v := ?_) [18, 19, 20, 21] rfl (by kernel_rfl) (by kernel_rfl) (by kernel_rfl) (by kernel_rfl) (by kernel_rfl) (by kernel_rfl) (by kernel_rfl) (fun _ _ _ h => h) (Or.inl ⟨by rfl, ?_⟩) hC0 ?_
          rotate_left
          · intro w hSw; (try dsimp only at hSw); obtain ⟨⟨z0, z1, z2⟩, ⟨z3, z4, z5⟩, ⟨z6, z7, z8⟩, ⟨z9, z10, z11⟩, z12, z13, z14⟩ := hSw; go_simp; (try with_reducible rfl)
          (try simp only [List.getElem_toArray, List.getElem_cons_succ, List.getElem_cons_zero])
          (try simp only [Act.put, List.setIfInBounds_toArray, List.set_cons_zero, List.set_cons_succ])
          refine wpTill_one (k := 7) (by kernel_rfl) rfl (fun K hK => ?_)
          (try simp only [List.getElem_toArray, List.getElem_cons_succ, List.getElem_cons_zero])
          go_simp
          refine (mulR_any tp.val ta.val _ _ _ ((unhide HRP).below bd0) ((unhide HRG).below bd0) 30000000000 (unhide HSX) (unhide HSG) (unhide HJJ)).mono ?_
          rintro e xw_1 ⟨xv_1, rfl, hv_1, hb_1⟩
          have cc_1 := below_step bd0 hb_1
          have hC_1 : (fun w' : World => (w'.cell? ⟨gg, 0, none⟩ = some (.bool tg.s) ∧ w'.cell? ⟨gg, 1, none⟩ = some (.slice tg.a1 tg.n1 tg.c1) ∧ w'.cell? ⟨gg, 2, none⟩ = some (.slice tg.a2 tg.n2 tg.c2)) ∧ (w'.cell? ⟨gw, 0, none⟩ = some (.bool tw.s) ∧ w'.cell? ⟨gw, 1, none⟩ = some (.slice tw.a1 tw.n1 tw.c1) ∧ w'.cell? ⟨gw, 2, none⟩ = some (.slice tw.a2 tw.n2 tw.c2)) ∧ (w'.cell? ⟨bp, op + i * 3, none⟩ = some (.bool tp.s) ∧ w'.cell? ⟨bp, op + i * 3 + 1, none⟩ = some (.slice tp.a1 tp.n1 tp.c1) ∧ w'.cell? ⟨bp, op + i * 3 + 2, none⟩ = some (.slice tp.a2 tp.n2 tp.c2)) ∧ (w'.cell? ⟨bv, ov + i * 3, none⟩ = some (.bool tv.s) ∧ w'.cell? ⟨bv, ov + i * 3 + 1, none⟩ = some (.slice tv.a1 tv.n1 tv.c1) ∧ w'.cell? ⟨bv, ov + i * 3 + 2, none⟩ = some (.slice tv.a2 tv.n2 tv.c2)) ∧ w'.cell? ⟨ga, 0, none⟩ = some (.bool ta.s) ∧ w'.cell? ⟨ga, 1, none⟩ = some (.slice ta.a1 ta.n1 ta.c1) ∧ w'.cell? ⟨ga, 2, none⟩ = some (.slice ta.a2 ta.n2 ta.c2)) xw_1 := unhide HC25 _ cc_1
          refine hK.out _ _ (fun _ => hC_1) ?_
          clear hK K
          (try simp only [Act.put, List.setIfInBounds_toArray, List.set_cons_zero, List.set_cons_succ])
          refine wpTill_one (k := 8) (by kernel_rfl) rfl (fun K hK => ?_)
          (try simp only [List.getElem_toArray, List.getElem_cons_succ, List.getElem_cons_zero])
          go_simp
          refine (addR_any tg.val _ _ _ _ ((unhide HS3).g.2.below cc_1) hv_1 30000000000 (unhide HSGA) (unhide HSXG) (unhide HJJ)).mono ?_
          rintro e xw_2 ⟨xv_2, rfl, hv_2, hb_2⟩
          have cc_2 := below_step cc_1 hb_2
          have hC_2 : (fun w' : World => (w'.cell? ⟨gg, 0, none⟩ = some (.bool tg.s) ∧ w'.cell? ⟨gg, 1, none⟩ = some (.slice tg.a1 tg.n1 tg.c1) ∧ w'.cell? ⟨gg, 2, none⟩ = some (.slice tg.a2 tg.n2 tg.c2)) ∧ (w'.cell? ⟨gw, 0, none⟩ = some (.bool tw.s) ∧ w'.cell? ⟨gw, 1, none⟩ = some (.slice tw.a1 tw.n1 tw.c1) ∧ w'.cell? ⟨gw, 2, none⟩ = some (.slice tw.a2 tw.n2 tw.c2)) ∧ (w'.cell? ⟨bp, op + i * 3, none⟩ = some (.bool tp.s) ∧ w'.cell? ⟨bp, op + i * 3 + 1, none⟩ = some (.slice tp.a1 tp.n1 tp.c1) ∧ w'.cell? ⟨bp, op + i * 3 + 2, none⟩ = some (.slice tp.a2 tp.n2 tp.c2)) ∧ (w'.cell? ⟨bv, ov + i * 3, none⟩ = some (.bool tv.s) ∧ w'.cell? ⟨bv, ov + i * 3 + 1, none⟩ = some (.slice tv.a1 tv.n1 tv.c1) ∧ w'.cell? ⟨bv, ov + i * 3 + 2, none⟩ = some (.slice tv.a2 tv.n2 tv.c2)) ∧ w'.cell? ⟨ga, 0, none⟩ = some (.bool ta.s) ∧ w'.cell? ⟨ga, 1, none⟩ = some (.slice ta.a1 ta.n1 ta.c1) ∧ w'.cell? ⟨ga, 2, none⟩ = some (.slice ta.a2 ta.n2 ta.c2)) xw_2 := unhide HC25 _ cc_2
          refine hK.out _ _ (fun _ => hC_2) ?_
          clear hK K
          (try simp only [Act.put, List.setIfInBounds_toArray, List.set_cons_zero, List.set_cons_succ])
          refine wpTill_one (k := 18) (by kernel_rfl) rfl (fun K hK => ?_)
          (try simp only [List.getElem_toArray, List.getElem_cons_succ, List.getElem_cons_zero])
          go_simp
          refine (mulR_any tp.val tv.val _ _ _ ((unhide HRP).below cc_2) ((unhide HRV).below cc_2) 30000000000 (unhide HSX) (unhide HSY) (unhide HJJ)).mono ?_
          rintro e xw_3 ⟨xv_3, rfl, hv_3, hb_3⟩
          have cc_3 := below_step cc_2 hb_3
          have hC_3 : (fun w' : World => (w'.cell? ⟨gg, 0, none⟩ = some (.bool tg.s) ∧ w'.cell? ⟨gg, 1, none⟩ = some (.slice tg.a1 tg.n1 tg.c1) ∧ w'.cell? ⟨gg, 2, none⟩ = some (.slice tg.a2 tg.n2 tg.c2)) ∧ (w'.cell? ⟨gw, 0, none⟩ = some (.bool tw.s) ∧ w'.cell? ⟨gw, 1, none⟩ = some (.slice tw.a1 tw.n1 tw.c1) ∧ w'.cell? ⟨gw, 2, none⟩ = some (.slice tw.a2 tw.n2 tw.c2)) ∧ (w'.cell? ⟨bp, op + i * 3, none⟩ = some (.bool tp.s) ∧ w'.cell? ⟨bp, op + i * 3 + 1, none⟩ = some (.slice tp.a1 tp.n1 tp.c1) ∧ w'.cell? ⟨bp, op + i * 3 + 2, none⟩ = some (.slice tp.a2 tp.n2 tp.c2)) ∧ (w'.cell? ⟨bv, ov + i * 3, none⟩ = some (.bool tv.s) ∧ w'.cell? ⟨bv, ov + i * 3 + 1, none⟩ = some (.slice tv.a1 tv.n1 tv.c1) ∧ w'.cell? ⟨bv, ov + i * 3 + 2, none⟩ = some (.slice tv.a2 tv.n2 tv.c2)) ∧ w'.cell? ⟨ga, 0, none⟩ = some (.bool ta.s) ∧ w'.cell? ⟨ga, 1, none⟩ = some (.slice ta.a1 ta.n1 ta.c1) ∧ w'.cell? ⟨ga, 2, none⟩ = some (.slice ta.a2 ta.n2 ta.c2)) xw_3 := unhide HC25 _ cc_3
          refine hK.out _ _ (fun _ => hC_3) ?_
          clear hK K
          (try simp only [Act.put, List.setIfInBounds_toArray, List.set_cons_zero, List.set_cons_succ])
          refine wpTill_one (k := 19) (by kernel_rfl) rfl (fun K hK => ?_)
          (try simp only [List.getElem_toArray, List.getElem_cons_succ, List.getElem_cons_zero])
          go_simp
          refine (addR_any tw.val _ _ _ _ ((unhide HS3).h.2.below cc_3) hv_3 30000000000 (unhide HSWO) (unhide HSXY) (unhide HJJ)).mono ?_
          rintro e xw_4 ⟨xv_4, rfl, hv_4, hb_4⟩
          have cc_4 := below_step cc_3 hb_4
          have hC_4 : (fun w' : World => (w'.cell? ⟨gg, 0, none⟩ = some (.bool tg.s) ∧ w'.cell? ⟨gg, 1, none⟩ = some (.slice tg.a1 tg.n1 tg.c1) ∧ w'.cell? ⟨gg, 2, none⟩ = some (.slice tg.a2 tg.n2 tg.c2)) ∧ (w'.cell? ⟨gw, 0, none⟩ = some (.bool tw.s) ∧ w'.cell? ⟨gw, 1, none⟩ = some (.slice tw.a1 tw.n1 tw.c1) ∧ w'.cell? ⟨gw, 2, none⟩ = some (.slice tw.a2 tw.n2 tw.c2)) ∧ (w'.cell? ⟨bp, op + i * 3, none⟩ = some (.bool tp.s) ∧ w'.cell? ⟨bp, op + i * 3 + 1, none⟩ = some (.slice tp.a1 tp.n1 tp.c1) ∧ w'.cell? ⟨bp, op + i * 3 + 2, none⟩ = some (.slice tp.a2 tp.n2 tp.c2)) ∧ (w'.cell? ⟨bv, ov + i * 3, none⟩ = some (.bool tv.s) ∧ w'.cell? ⟨bv, ov + i * 3 + 1, none⟩ = some (.slice tv.a1 tv.n1 tv.c1) ∧ w'.cell? ⟨bv, ov + i * 3 + 2, none⟩ = some (.slice tv.a2 tv.n2 tv.c2)) ∧ w'.cell? ⟨ga, 0, none⟩ = some (.bool ta.s) ∧ w'.cell? ⟨ga, 1, none⟩ = some (.slice ta.a1 ta.n1 ta.c1) ∧ w'.cell? ⟨ga, 2, none⟩ = some (.slice ta.a2 ta.n2 ta.c2)) xw_4 := unhide HC25 _ cc_4
          refine hK.out _ _ (fun _ => hC_4) ?_
          clear hK K
          (try simp only [Act.put, List.setIfInBounds_toArray, List.set_cons_zero, List.set_cons_succ])
          obtain ⟨t5, rfl, r5⟩ := tri_of (hv_2.below (below_step hb_3 hb_4))
          obtain ⟨t6, rfl, r6⟩ := tri_of hv_4
          simp only [Tri.val]
          have S8 := (unhide HS3).keep cc_4
          have ⟨l0, l1, l2⟩ := S8.g.free
          have ⟨y0, y1, y2⟩ := S8.g.cells _ (Below.refl _ _)
          have S9 := S8.setG t5 _ r5
          have r6' := r6.boxSet S8.g (.bool t5.s) (.slice t5.a1 t5.n1 t5.c1) (.slice t5.a2 t5.n2 t5.c2)
          obtain ⟨W5, hW5⟩ : ∃ W, ((xw_4.setCell ⟨gg, 0, none⟩ (.bool t5.s)).setCell ⟨gg, 1, none⟩ (.slice t5.a1 t5.n1 t5.c1)).setCell ⟨gg, 2, none⟩ (.slice t5.a2 t5.n2 t5.c2) = W := ⟨_, rfl⟩
          rw [hW5] at S9 r6'
          have ⟨n0, n1, n2⟩ := S9.h.free
          have ⟨x0, x1', x2'⟩ := S9.h.cells _ (Below.refl _ _)
          have S10 := S9.setH t6 _ r6'
          obtain ⟨W6, hW6⟩ : ∃ W, ((W5.setCell ⟨gw, 0, none⟩ (.bool t6.s)).setCell ⟨gw, 1, none⟩ (.slice t6.a1 t6.n1 t6.c1)).setCell ⟨gw, 2, none⟩ (.slice t6.a2 t6.n2 t6.c2) = W := ⟨_, rfl⟩
          rw [hW6] at S10
          have HS6 := hide S10
          have GA6 : W6.heap[ga]? = some (.cells #[.bool ta.s, .slice ta.a1 ta.n1 ta.c1, .slice ta.a2 ta.n2 ta.c2, .slice la.a np la.c] 62) := by
            rw [← hW6, Below.heap_setCell _ _ _ _ (unhide HNAW), Below.heap_setCell _ _ _ _ (unhide HNAW), Below.heap_setCell _ _ _ _ (unhide HNAW), ← hW5, Below.heap_setCell _ _ _ _ (unhide HNAG), Below.heap_setCell _ _ _ _ (unhide HNAG), Below.heap_setCell _ _ _ _ (unhide HNAG)]
            exact heap_kept (unhide HGF) cc_4
          have HGA6 := hide GA6
          clear S8 S9 S10 r5 r6 r6' hv_1 hv_2 hv_3 hv_4 GA6
          refine wpTill_one (k := 20) (by kernel_rfl) rfl (fun K hK => ?_)
          (try simp only [List.getElem_toArray, List.getElem_cons_succ, List.getElem_cons_zero])
          go_simp
          refine hK.out _ _ (fun h => absurd (h.symm.trans (by kernel_rfl)) Bool.false_ne_true) ?_
          clear hK K
          (try simp only [Act.put, List.setIfInBounds_toArray, List.set_cons_zero, List.set_cons_succ])
          refine wpTill_one (k := 21) (by kernel_rfl) rfl (fun K hK => ?_)
          (try simp only [List.getElem_toArray, List.getElem_cons_succ, List.getElem_cons_zero])
          go_simp
          refine hK.out _ _ (fun h => absurd (h.symm.trans (by kernel_rfl)) Bool.false_ne_true) ?_
          clear hK K
          (try simp only [Act.put, List.setIfInBounds_toArray, List.set_cons_zero, List.set_cons_succ])
          refine wpTill_done (by kernel_rfl) ?_ _
          have HS7 : Hid (StayS w5 W6 GN gg gw us (row (nxv M d x i 0) np) t5 t6 (Bth.ps (fun j => x j * M.g j (d j)) (i + 1)) (Bth.ps (fun j => x j * y j) (i + 1))) := unhide HS6
          clear hC0 bd0 hC_1 hC_2 hC_3 hC_4 cc_1 cc_2 cc_3 cc_4 hb_1 hb_2 hb_3 hb_4 l0 l1 l2 y0 y1 y2 n0 n1 n2 x0 x1' x2' hW5 hW6 HC25 HS6 HS3 HRP HRV HRG HSGA HSWO HSXG HSXY HSG HSY HBF HGAW HGF HS HBR
          go_wp2_with fail
          go_loopw [16] (fun vk wv => ∃ (k : Nat) (us : List Tri), vk = .int .i64 (k : Int) ∧ k ≤ np ∧ us.length = np ∧ StayS w5 wv GN gg gw us (row (nxv M d x i k) np) t5 t6 (Bth.ps (fun j => x j * M.g j (d j)) (i + 1)) (Bth.ps (fun j => x j * y j) (i + 1)) ∧ wv.heap[ga]? = some (.cells #[.bool ta.s, .slice ta.a1 ta.n1 ta.c1, .slice ta.a2 ta.n2 ta.c2, .slice la.a np la.c] 62)) (fun vi _ => np - (intOf vi).toNat)
          case atStart => exact ⟨0, us, rfl, Nat.zero_le _, unhide HUS, unhide HS7, unhide HGA6⟩
          case round =>
            obtain ⟨k, us2, rfl, hk, hus, S, GA⟩ := hrel
            clear HS7 HGA6 HUS
            by_cases hltk : k < np
            · have k1 : (k : Int) < (np : Int) := by omega
              have k0 : (0 : Int) ≤ (k : Int) := by omega
              have HUL := hide hus
              have HS9 := hide S
              have HGA := hide GA
              have hb := S.n.bl
              have r_n := S.n.rat k (by rw [hus]; exact hltk)
              obtain ⟨tn, htn⟩ : ∃ t, us2[k]! = t := ⟨_, rfl⟩
              rw [htn, row_get hltk] at r_n
              obtain ⟨a_s, c_s, e_s, _, _, h_s⟩ := (unhide HAC).2
              obtain ⟨bl, ol, rfl, hl_s, hc_s⟩ := h_s (by rw [unhide HNXT]; omega)
              have e_s : Value.slice la.a la.n la.c = _ := e_s
              have ea_s : la.a = some ⟨bl, ol, none⟩ := by injection e_s
              obtain ⟨s_s, s_p1, s_p2, s_n1, s_d1, s_n2, s_d2, ks0, ks1, ks2, r_s⟩ := hc_s k (by rw [unhide HNXT]; exact hltk)
              obtain ⟨ts, rfl, rfl, rfl, rfl, rfl, rfl, rfl⟩ : ∃ t : Tri, s_s = t.s ∧ s_p1 = t.a1 ∧ s_p2 = t.a2 ∧ s_n1 = t.n1 ∧ s_d1 = t.c1 ∧ s_n2 = t.n2 ∧ s_d2 = t.c2 := ⟨⟨s_s, s_p1, s_p2, s_n1, s_d1, s_n2, s_d2⟩, rfl, rfl, rfl, rfl, rfl, rfl, rfl⟩
              rw [unhide HPE k] at r_s
              have HRP2 := hide ((unhide HRP5).below hb)
              have HRS2 := hide (r_s.below hb)
              have HRN := hide r_n
              have HSS : Hid (RS (M.p i (d i) k) 30000000000) := (unhide HPRS i k hlt hltk).mono (by omega)
              have HSXS : Hid (RS (x i * M.p i (d i) k) 30000000000) := ((unhide HR3 i).mul (unhide HPRS i k hlt hltk)).mono (by omega)
              have HSN : Hid (RS (nxv M d x i k k) 30000000000) := by
                show RS (nxv M d x i k k) 30000000000
                unfold nxv
                rw [if_neg (by omega)]
                exact unhide HSUM _ i (by omega) (fun j hj => ((unhide HR3 j).mul (unhide HPRS j k hj hltk)).mono (by omega))
              have HC29 : Hid (∀ W, Below wr.heap.size wr W → (fun w' : World => (w'.cell? ⟨GN, k * 3, none⟩ = some (.bool tn.s) ∧ w'.cell? ⟨GN, k * 3 + 1, none⟩ = some (.slice tn.a1 tn.n1 tn.c1) ∧ w'.cell? ⟨GN, k * 3 + 2, none⟩ = some (.slice tn.a2 tn.n2 tn.c2)) ∧ (w'.cell? ⟨bp, op + i * 3, none⟩ = some (.bool tp.s) ∧ w'.cell? ⟨bp, op + i * 3 + 1, none⟩ = some (.slice tp.a1 tp.n1 tp.c1) ∧ w'.cell? ⟨bp, op + i * 3 + 2, none⟩ = some (.slice tp.a2 tp.n2 tp.c2)) ∧ w'.cell? ⟨ga, 3, none⟩ = some (.slice (some ⟨bl, ol, none⟩) np la.c) ∧ (w'.cell? ⟨bl, ol + k * 3, none⟩ = some (.bool ts.s) ∧ w'.cell? ⟨bl, ol + k * 3 + 1, none⟩ = some (.slice ts.a1 ts.n1 ts.c1) ∧ w'.cell? ⟨bl, ol + k * 3 + 2, none⟩ = some (.slice ts.a2 ts.n2 ts.c2))) W) := fun W hW => by
                have bc := below_step hb hW
                have e := heap_kept GA hW
                have hcn := ((S.n.keep hW).cells k (by rw [hus]; exact hltk)).1
                rw [htn] at hcn
                have ⟨kx0, kx1, kx2⟩ := unhide HKX
                refine ⟨hcn, ?_, ?_, ?_⟩
                · rw [bc.cell (p := ⟨bp, op + i * 3, none⟩) (unhide HLX), bc.cell (p := ⟨bp, op + i * 3 + 1, none⟩) (unhide HLX), bc.cell (p := ⟨bp, op + i * 3 + 2, none⟩) (unhide HLX)]; exact ⟨kx0, kx1, kx2⟩
                · rw [← ea_s]; simp [World.cell?, e]
                · rw [bc.cell (p := ⟨bl, ol + k * 3, none⟩) hl_s, bc.cell (p := ⟨bl, ol + k * 3 + 1, none⟩) hl_s, bc.cell (p := ⟨bl, ol + k * 3 + 2, none⟩) hl_s]; exact ⟨ks0, ks1, ks2⟩
              clear hus S GA hb r_n htn e_s h_s hc_s ea_s ks0 ks1 ks2 r_s hl_s
              go_wp2_with fail
              refine wp_region_till (fun w' : World => (w'.cell? ⟨GN, k * 3, none⟩ = some (.bool tn.s) ∧ w'.cell? ⟨GN, k * 3 + 1, none⟩ = some (.slice tn.a1 tn.n1 tn.c1) ∧ w'.cell? ⟨GN, k * 3 + 2, none⟩ = some (.slice tn.a2 tn.n2 tn.c2)) ∧ (w'.cell? ⟨bp, op + i * 3, none⟩ = some (.bool tp.s) ∧ w'.cell? ⟨bp, op + i * 3 + 1, none⟩ = some (.slice tp.a1 tp.n1 tp.c1) ∧ w'.cell? ⟨bp, op + i * 3 + 2, none⟩ = some (.slice tp.a2 tp.n2 tp.c2)) ∧ w'.cell? ⟨ga, 3, none⟩ = some (.slice (some ⟨bl, ol, none⟩) np la.c) ∧ (w'.cell? ⟨bl, ol + k * 3, none⟩ = some (.bool ts.s) ∧ w'.cell? ⟨bl, ol + k * 3 + 1, none⟩ = some (.slice ts.a1 ts.n1 ts.c1) ∧ w'.cell? ⟨bl, ol + k * 3 + 2, none⟩ = some (.slice ts.a2 ts.n2 ts.c2))) 18 (by kernel_rfl) ?_
              have bd0 : Below wr.heap.size wr wr.drew := (Below.refl _ _).drew
              have hC0 : (fun w' : World => (w'.cell? ⟨GN, k * 3, none⟩ = some (.bool tn.s) ∧ w'.cell? ⟨GN, k * 3 + 1, none⟩ = some (.slice tn.a1 tn.n1 tn.c1) ∧ w'.cell? ⟨GN, k * 3 + 2, none⟩ = some (.slice tn.a2 tn.n2 tn.c2)) ∧ (w'.cell? ⟨bp, op + i * 3, none⟩ = some (.bool tp.s) ∧ w'.cell? ⟨bp, op + i * 3 + 1, none⟩ = some (.slice tp.a1 tp.n1 tp.c1) ∧ w'.cell? ⟨bp, op + i * 3 + 2, none⟩ = some (.slice tp.a2 tp.n2 tp.c2)) ∧ w'.cell? ⟨ga, 3, none⟩ = some (.slice (some ⟨bl, ol, none⟩) np la.c) ∧ (w'.cell? ⟨bl, ol + k * 3, none⟩ = some (.bool ts.s) ∧ w'.cell? ⟨bl, ol + k * 3 + 1, none⟩ = some (.slice ts.a1 ts.n1 ts.c1) ∧ w'.cell? ⟨bl, ol + k * 3 + 2, none⟩ = some (.slice ts.a2 ts.n2 ts.c2))) wr.drew := unhide HC29 _ bd0
              refine wpTill_pure (i := 0) (v := ?_) rfl (by kernel_rfl) (by kernel_rfl) (by kernel_rfl) (by kernel_rfl) (fun _ _ _ h => h) (Or.inl ⟨by rfl, ?_⟩) (fun _ => hC0) ?_
              rotate_left
              · intro w hSw; clear hSw; go_simp; (try with_reducible rfl)
              (try simp only [List.getElem_toArray, List.getElem_cons_succ, List.getElem_cons_zero])
              (try simp only [Act.put, List.setIfInBounds_toArray, List.set_cons_zero, List.set_cons_succ])
              refine wpTill_pure (i := 1) (v := ?_) rfl (by kernel_rfl) (by kernel_rfl) (by kernel_rfl) (by kernel_rfl) (fun _ _ _ h => h) (Or.inl ⟨by rfl, ?_⟩) (fun _ => hC0) ?_
              rotate_left
              · intro w hSw; clear hSw; go_simp; (try with_reducible rfl)
              (try simp only [List.getElem_toArray, List.getElem_cons_succ, List.getElem_cons_zero])
              (try simp only [Act.put, List.setIfInBounds_toArray, List.set_cons_zero, List.set_cons_succ])
              refine wpTill_pure (i := 2) (v := ?_) rfl (by kernel_rfl) (by kernel_rfl) (by kernel_rfl) (by kernel_rfl) (fun _ _ _ h => h) (Or.inl ⟨by rfl, ?_⟩) (fun _ => hC0) ?_
              rotate_left
              · intro w hSw; clear hSw; go_simp; (try with_reducible rfl)
              (try simp only [List.getElem_toArray, List.getElem_cons_succ, List.getElem_cons_zero])
              (try simp only [Act.put, List.setIfInBounds_toArray, List.set_cons_zero, List.set_cons_succ])
              refine wpTill_pure (i := 3) (v := ?_) rfl (by kernel_rfl) (by kernel_rfl) (by kernel_rfl) (by kernel_rfl) (fun _ _ _ h => h) (Or.inl ⟨by rfl, ?_⟩) (fun _ => hC0) ?_
              rotate_left
              · intro w hSw; clear hSw; go_simp; (try with_reducible rfl)
              (try simp only [List.getElem_toArray, List.getElem_cons_succ, List.getElem_cons_zero])
              (try simp only [Act.put, List.setIfInBounds_toArray, List.set_cons_zero, List.set_cons_succ])
              refine wpTill_pure (i := 4) (v := ?_) rfl (by kernel_rfl) (by kernel_rfl) (by kernel_rfl) (by kernel_rfl) (fun _ _ _ h => h) (Or.inl ⟨by rfl, ?_⟩) (fun _ => hC0) ?_
              rotate_left
              · intro w hSw; clear hSw; go_simp; (try with_reducible rfl)
              (try simp only [List.getElem_toArray, List.getElem_cons_succ, List.getElem_cons_zero])
              (try simp only [Act.put, List.setIfInBounds_toArray, List.set_cons_zero, List.set_cons_succ])
              refine wpTill_take (i := 5) (v := ?_) rfl (by kernel_rfl) (by kernel_rfl) (by kernel_rfl) (by kernel_rfl) (by kernel_rfl) (by kernel_rfl) (fun _ _ _ h => h) (Or.inl ⟨by rfl, ?_⟩) hC0 ?_
              rotate_left
              · intro w hSw; (try dsimp only at hSw); obtain ⟨⟨z0, z1, z2⟩, ⟨z3, z4, z5⟩, z6, z7, z8, z9⟩ := hSw; go_simp; (try with_reducible rfl)
              (try simp only [List.getElem_toArray, List.getElem_cons_succ, List.getElem_cons_zero])
              (try simp only [Act.put, List.setIfInBounds_toArray, List.set_cons_zero, List.set_cons_succ])
              refine wpTill_pure (i := 6) (v := ?_) rfl (by kernel_rfl) (by kernel_rfl) (by kernel_rfl) (by kernel_rfl) (fun _ _ _ h => h) (Or.inl ⟨by rfl, ?_⟩) (fun _ => hC0) ?_
              rotate_left
              · intro w hSw; clear hSw; go_simp; (try with_reducible rfl)
              (try simp only [List.getElem_toArray, List.getElem_cons_succ, List.getElem_cons_zero])
              (try simp only [Act.put, List.setIfInBounds_toArray, List.set_cons_zero, List.set_cons_succ])
              refine wpTill_pure (i := 7) (v := ?_) rfl (by kernel_rfl) (by kernel_rfl) (by kernel_rfl) (by kernel_rfl) (fun _ _ _ h => h) (Or.inl ⟨by rfl, ?_⟩) (fun _ => hC0) ?_
              rotate_left
              · intro w hSw; clear hSw; go_simp; (try with_reducible rfl)
              (try simp only [List.getElem_toArray, List.getElem_cons_succ, List.getElem_cons_zero])
              (try simp only [Act.put, List.setIfInBounds_toArray, List.set_cons_zero, List.set_cons_succ])
              refine wpTill_pure (i := 8) (v := ?_) rfl (by kernel_rfl) (by kernel_rfl) (by kernel_rfl) (by kernel_rfl) (fun _ _ _ h => h) (Or.inl ⟨by rfl, ?_⟩) (fun _ => hC0) ?_
              rotate_left
              · intro w hSw; clear hSw; go_simp; (try with_reducible rfl)
              (try simp only [List.getElem_toArray, List.getElem_cons_succ, List.getElem_cons_zero])
              (try simp only [Act.put, List.setIfInBounds_toArray, List.set_cons_zero, List.set_cons_succ])
              refine wpTill_take (i := 9) (v := ?_) rfl (by kernel_rfl) (by kernel_rfl) (by kernel_rfl) (by kernel_rfl) (by kernel_rfl) (by kernel_rfl) (fun _ _ _ h => h) (Or.inl ⟨by rfl, ?_⟩) hC0 ?_
              rotate_left
              · intro w hSw; (try dsimp only at hSw); obtain ⟨⟨z0, z1, z2⟩, ⟨z3, z4, z5⟩, z6, z7, z8, z9⟩ := hSw; go_simp; (try with_reducible rfl)
              (try simp only [List.getElem_toArray, List.getElem_cons_succ, List.getElem_cons_zero])
              (try simp only [Act.put, List.setIfInBounds_toArray, List.set_cons_zero, List.set_cons_succ])
              refine wpTill_pure (i := 10) (v := ?_) rfl (by kernel_rfl) (by kernel_rfl) (by kernel_rfl) (by kernel_rfl) (fun _ _ _ h => h) (Or.inl ⟨by rfl, ?_⟩) (fun _ => hC0) ?_
              rotate_left
              · intro w hSw; clear hSw; go_simp; (try with_reducible rfl)
              (try simp only [List.getElem_toArray, List.getElem_cons_succ, List.getElem_cons_zero])
              (try simp only [Act.put, List.setIfInBounds_toArray, List.set_cons_zero, List.set_cons_succ])
              refine wpTill_take (i := 11) (v := ?_) rfl (by kernel_rfl) (by kernel_rfl) (by kernel_rfl) (by kernel_rfl) (by kernel_rfl) (by kernel_rfl) (fun _ _ _ h => h) (Or.inl ⟨by rfl, ?_⟩) hC0 ?_
              rotate_left
              · intro w hSw; (try dsimp only at hSw); obtain ⟨⟨z0, z1, z2⟩, ⟨z3, z4, z5⟩, z6, z7, z8, z9⟩ := hSw; go_simp; (try with_reducible rfl)
              (try simp only [List.getElem_toArray, List.getElem_cons_succ, List.getElem_cons_zero])
              (try simp only [Act.put, List.setIfInBounds_toArray, List.set_cons_zero, List.set_cons_succ])
              refine wpTill_pure (i := 12) (v := ?_) rfl (by kernel_rfl) (by kernel_rfl) (by kernel_rfl) (by kernel_rfl) (fun _ _ _ h => h) (Or.inl ⟨by rfl, ?_⟩) (fun _ => hC0) ?_
              rotate_left
              · intro w hSw; clear hSw; go_simp; (try with_reducible rfl)
              (try simp only [List.getElem_toArray, List.getElem_cons_succ, List.getElem_cons_zero])
              (try simp only [Act.put, List.setIfInBounds_toArray, List.set_cons_zero, List.set_cons_succ])
              refine wpTill_pure (i := 13) (v := ?_) rfl (by kernel_rfl) (by kernel_rfl) (by kernel_rfl) (by kernel_rfl) (fun _ _ _ h => h) (Or.inl ⟨by rfl, ?_⟩) (fun _ => hC0) ?_
              rotate_left
              · intro w hSw; clear hSw; go_simp; (try with_reducible rfl)
              (try simp only [List.getElem_toArray, List.getElem_cons_succ, List.getElem_cons_zero])
              (try simp only [Act.put, List.setIfInBounds_toArray, List.set_cons_zero, List.set_cons_succ])
              refine wpTill_take (i := 14) (v := ?_) rfl (by kernel_rfl) (by kernel_rfl) (by kernel_rfl) (by kernel_rfl) (by kernel_rfl) (by kernel_rfl) (fun _ _ _ h => h) (Or.inl ⟨by rfl, ?_⟩) hC0 ?_
              rotate_left
              · intro w hSw; (try dsimp only at hSw); obtain ⟨⟨z0, z1, z2⟩, ⟨z3, z4, z5⟩, z6, z7, z8, z9⟩ := hSw; go_simp; (try with_reducible rfl)
              (try simp only [List.getElem_toArray, List.getElem_cons_succ, List.getElem_cons_zero])
              (try simp only [Act.put, List.setIfInBounds_toArray, List.set_cons_zero, List.set_cons_succ])
              refine wpTill_one (k := 15) (by kernel_rfl) rfl (fun K hK => ?_)
              (try simp only [List.getElem_toArray, List.getElem_cons_succ, List.getElem_cons_zero])
              go_simp
              refine (mulR_any tp.val ts.val _ _ _ ((unhide HRP2).below bd0) ((unhide HRS2).below bd0) 30000000000 (unhide HSX) (unhide HSS) (unhide HJJ)).mono ?_
              rintro e xw_1 ⟨xv_1, rfl, hv_1, hb_1⟩
              have cc_1 := below_step bd0 hb_1
              have hC_1 : (fun w' : World => (w'.cell? ⟨GN, k * 3, none⟩ = some (.bool tn.s) ∧ w'.cell? ⟨GN, k * 3 + 1, none⟩ = some (.slice tn.a1 tn.n1 tn.c1) ∧ w'.cell? ⟨GN, k * 3 + 2, none⟩ = some (.slice tn.a2 tn.n2 tn.c2)) ∧ (w'.cell? ⟨bp, op + i * 3, none⟩ = some (.bool tp.s) ∧ w'.cell? ⟨bp, op + i * 3 + 1, none⟩ = some (.slice tp.a1 tp.n1 tp.c1) ∧ w'.cell? ⟨bp, op + i * 3 + 2, none⟩ = some (.slice tp.a2 tp.n2 tp.c2)) ∧ w'.cell? ⟨ga, 3, none⟩ = some (.slice (some ⟨bl, ol, none⟩) np la.c) ∧ (w'.cell? ⟨bl, ol + k * 3, none⟩ = some (.bool ts.s) ∧ w'.cell? ⟨bl, ol + k * 3 + 1, none⟩ = some (.slice ts.a1 ts.n1 ts.c1) ∧ w'.cell? ⟨bl, ol + k * 3 + 2, none⟩ = some (.slice ts.a2 ts.n2 ts.c2))) xw_1 := unhide HC29 _ cc_1
              refine hK.out _ _ (fun _ => hC_1) ?_
              clear hK K
              (try simp only [Act.put, List.setIfInBounds_toArray, List.set_cons_zero, List.set_cons_succ])
              refine wpTill_one (k := 16) (by kernel_rfl) rfl (fun K hK => ?_)
              (try simp only [List.getElem_toArray, List.getElem_cons_succ, List.getElem_cons_zero])
              go_simp
              refine (addR_any tn.val _ _ _ _ ((unhide HRN).below cc_1) hv_1 30000000000 (unhide HSN) (unhide HSXS) (unhide HJJ)).mono ?_
              rintro e xw_2 ⟨xv_2, rfl, hv_2, hb_2⟩
              have cc_2 := below_step cc_1 hb_2
              have hC_2 : (fun w' : World => (w'.cell? ⟨GN, k * 3, none⟩ = some (.bool tn.s) ∧ w'.cell? ⟨GN, k * 3 + 1, none⟩ = some (.slice tn.a1 tn.n1 tn.c1) ∧ w'.cell? ⟨GN, k * 3 + 2, none⟩ = some (.slice tn.a2 tn.n2 tn.c2)) ∧ (w'.cell? ⟨bp, op + i * 3, none⟩ = some (.bool tp.s) ∧ w'.cell? ⟨bp, op + i * 3 + 1, none⟩ = some (.slice tp.a1 tp.n1 tp.c1) ∧ w'.cell? ⟨bp, op + i * 3 + 2, none⟩ = some (.slice tp.a2 tp.n2 tp.c2)) ∧ w'.cell? ⟨ga, 3, none⟩ = some (.slice (some ⟨bl, ol, none⟩) np la.c) ∧ (w'.cell? ⟨bl, ol + k * 3, none⟩ = some (.bool ts.s) ∧ w'.cell? ⟨bl, ol + k * 3 + 1, none⟩ = some (.slice ts.a1 ts.n1 ts.c1) ∧ w'.cell? ⟨bl, ol + k * 3 + 2, none⟩ = some (.slice ts.a2 ts.n2 ts.c2))) xw_2 := unhide HC29 _ cc_2
              refine hK.out _ _ (fun _ => hC_2) ?_
              clear hK K
              (try simp only [Act.put, List.setIfInBounds_toArray, List.set_cons_zero, List.set_cons_succ])
              refine wpTill_pure (i := 17) (v := ?_) rfl (by kernel_rfl) (by kernel_rfl) (by kernel_rfl) (by kernel_rfl) (fun _ _ _ h => h) (Or.inl ⟨by rfl, ?_⟩) (fun _ => hC_2) ?_
              rotate_left
              · intro w hSw; clear hSw; go_simp; (try with_reducible rfl)
              (try simp only [List.getElem_toArray, List.getElem_cons_succ, List.getElem_cons_zero])
              (try simp only [Act.put, List.setIfInBounds_toArray, List.set_cons_zero, List.set_cons_succ])
              obtain ⟨t5, rfl, r5⟩ := tri_of hv_2
              simp only [Tri.val]
              have S8 := (unhide HS9).keep cc_2
              have ⟨⟨y0, y1, y2⟩, f0, f1, f2⟩ := S8.n.cells k (by rw [unhide HUL]; exact hltk)
              have FZ := S8.setN k (by rw [unhide HUL]; exact hltk) t5 _ r5
              obtain ⟨W9, hW9⟩ : ∃ W, ((xw_2.setCell ⟨GN, k * 3, none⟩ (.bool t5.s)).setCell ⟨GN, k * 3 + 1, none⟩ (.slice t5.a1 t5.n1 t5.c1)).setCell ⟨GN, k * 3 + 2, none⟩ (.slice t5.a2 t5.n2 t5.c2) = W := ⟨_, rfl⟩
              rw [hW9] at FZ
              rw [nrow_set (M := M) (d := d) (x := x) (i := i) (k := k) (n := np) hltk rfl] at FZ
              have GA9 : W9.heap[ga]? = some (.cells #[.bool ta.s, .slice ta.a1 ta.n1 ta.c1, .slice ta.a2 ta.n2 ta.c2, .slice la.a np la.c] 62) := by
                rw [← hW9, Below.heap_setCell _ _ _ _ (unhide HNAN), Below.heap_setCell _ _ _ _ (unhide HNAN), Below.heap_setCell _ _ _ _ (unhide HNAN)]
                exact heap_kept (unhide HGA) cc_2
              have HFZ := hide FZ
              have HGA9 := hide GA9
              clear S8 FZ r5 hv_1 hv_2 GA9
              refine wpTill_one (k := 18) (by kernel_rfl) rfl (fun K hK => ?_)
              (try simp only [List.getElem_toArray, List.getElem_cons_succ, List.getElem_cons_zero])
              go_simp
              refine hK.out _ _ (fun h => absurd (h.symm.trans (by kernel_rfl)) Bool.false_ne_true) ?_
              clear hK K
              (try simp only [Act.put, List.setIfInBounds_toArray, List.set_cons_zero, List.set_cons_succ])
              refine wpTill_done (by kernel_rfl) ?_ _
              clear hC0 bd0 hC_1 hC_2 cc_1 cc_2 hb_1 hb_2 y0 y1 y2 f0 f1 f2 hW9 HC29
              go_wp2_with fail
              exact ⟨⟨k + 1, _, by go_num, hltk, by rw [List.length_set]; exact unhide HUL, unhide HFZ, unhide HGA9⟩, by simp [intOf]; omega⟩
            · obtain rfl : np = k := by omega
              have k1 : ¬ (np : Int) < (np : Int) := by omega
              have HSE : Hid (StayS w5 wr GN gg gw us2 (row (nxv M d x (i + 1) 0) np) t5 t6 (Bth.ps (fun j => x j * M.g j (d j)) (i + 1)) (Bth.ps (fun j => x j * y j) (i + 1))) := by
                rw [row_eq (f := nxv M d x (i + 1) 0) (row_length (nxv M d x i np) np) (fun t ht => by rw [row_get ht]; exact nxv_next M d x i ht)] at S
                exact S
              have HUL := hide hus
              clear S GA hus
              go_wp2_with fail
              exact ⟨⟨_, ⟨i + 1, by go_num, hlt, us2, t5, t6, unhide HUL, unhide HSE⟩, rfl, (unhide HLA).symm⟩, by simp [intOf]; omega⟩
        · obtain rfl : np = i := by omega
          have g1 : ¬ (np : Int) < (np : Int) := by omega
          have HS9 := hide S
          have hb := S.n.bl
          have hst : ∀ k, k < np → Bth.ps (fun i => x i * M.p i (d i) k) np = x k := by
            have h1 := Mdp.oeq_stays (m := M) (by rw [← unhide HM]; exact (unhide HGM).ok) (unhide HPLAN) (x := x) (by rw [unhide HMN]; exact unhide HSAT)
            rw [unhide HMN] at h1
            exact h1
          have hrw : row (nxv M d x np 0) np = row x np := row_eq (row_length _ _) (fun t ht => by
            rw [row_get ht]
            unfold nxv
            rw [if_neg (by omega)]
            exact hst t ht)
          have hln := S.n.law (by rw [hus]; omega)
          rw [hus, hrw] at hln
          have hlx := (unhide HV6).below hb
          have HLK : Hid (∀ W, Below wr.heap.size wr W → Calls Tryz.prog 13 #[.slice ap3 np cp3, .slice (some ⟨GN, 0, none⟩) np np] W fun e w' => e = .returned (.bool true) ∧ Below W.heap.size W w') := fun W hW =>
            likes_any _ _ _ W (hlx.below hW) (hln.below hW) 2000000000 (by rw [KKe]; omega) (fun j hj => by rw [row_length] at hj; rw [row_get hj]; exact unhide HR3 j) (tab_below (unhide HTB) (below_step (below_step (unhide HB6) hb) hW))
          have HWT := hide ((unhide HC6).at.2.below hb)
          have HO1 : Hid (RS ((1 : Int) : Rat) 10) := ⟨by decide, by decide⟩
          have HWB : Hid (RS (pq (wx, wy)) 10) := (unhide HSM).wb.mono (by omega)
          have HOW : Hid (RS (((1 : Int) : Rat) - pq (wx, wy)) 30000000000) := ((unhide HO1).sub' (unhide HWB)).mono (by omega)
          have HSW : Hid (RS (Bth.ps (fun j => x j * y j) np) 30000000000) := unhide HSUM _ np (Nat.le_refl _) (fun j hj => ((unhide HR3 j).mul (unhide HR5 j)).mono (by omega))
          have HSE : Hid (RS (Bth.ps (fun j => x j * y j) np * (((1 : Int) : Rat) - pq (wx, wy))) 100000000000) := ((unhide HSW).mul (unhide HOW)).mono (by omega)
          have HEQ : Hid (Bth.ps (fun j => x j * M.g j (d j)) np = Bth.ps (fun j => x j * y j) np * (((1 : Int) : Rat) - pq (wx, wy))) := by
            show _ = _
            have h1 := Mdp.stays (m := M) (d := d) (x := x) (v := y) (by rw [unhide HMN]; exact hst) (unhide HVAL)
            rw [unhide HMN] at h1
            have h2 : M.b = pq (wx, wy) := by rw [← unhide HM]; rfl
            rw [h1, h2]
            rfl
          have HBZ := hide (below_step (unhide HB6) hb)
          have ⟨_, m1, m2, m3⟩ := ((unhide HC6).keep hb).cells
          have hgcl : gc < wr.heap.size := World.block_lt_of_cell? wr _ m1
          have HC30 : Hid (∀ W, Below wr.heap.size wr W → (fun w' : World => (w'.cell? ⟨gg, 0, none⟩ = some (.bool tg.s) ∧ w'.cell? ⟨gg, 1, none⟩ = some (.slice tg.a1 tg.n1 tg.c1) ∧ w'.cell? ⟨gg, 2, none⟩ = some (.slice tg.a2 tg.n2 tg.c2)) ∧ (w'.cell? ⟨gw, 0, none⟩ = some (.bool tw.s) ∧ w'.cell? ⟨gw, 1, none⟩ = some (.slice tw.a1 tw.n1 tw.c1) ∧ w'.cell? ⟨gw, 2, none⟩ = some (.slice tw.a2 tw.n2 tw.c2)) ∧ w'.cell? ⟨gc, 1, none⟩ = some (.bool tm.s) ∧ w'.cell? ⟨gc, 2, none⟩ = some (.slice tm.a1 tm.n1 tm.c1) ∧ w'.cell? ⟨gc, 3, none⟩ = some (.slice tm.a2 tm.n2 tm.c2)) W) := fun W hW => by
            refine ⟨S.g.cells W hW, S.h.cells W hW, ?_, ?_, ?_⟩
            · rw [hW.cell (p := ⟨gc, 1, none⟩) hgcl]; exact m1
            · rw [hW.cell (p := ⟨gc, 2, none⟩) hgcl]; exact m2
            · rw [hW.cell (p := ⟨gc, 3, none⟩) hgcl]; exact m3
          clear S hb hus hst hrw hln hlx m1 m2 m3 hgcl HS
          go_wp2_with fail
          refine wp_region_hold (fun w' : World => (w'.cell? ⟨gg, 0, none⟩ = some (.bool tg.s) ∧ w'.cell? ⟨gg, 1, none⟩ = some (.slice tg.a1 tg.n1 tg.c1) ∧ w'.cell? ⟨gg, 2, none⟩ = some (.slice tg.a2 tg.n2 tg.c2)) ∧ (w'.cell? ⟨gw, 0, none⟩ = some (.bool tw.s) ∧ w'.cell? ⟨gw, 1, none⟩ = some (.slice tw.a1 tw.n1 tw.c1) ∧ w'.cell? ⟨gw, 2, none⟩ = some (.slice tw.a2 tw.n2 tw.c2)) ∧ w'.cell? ⟨gc, 1, none⟩ = some (.bool tm.s) ∧ w'.cell? ⟨gc, 2, none⟩ = some (.slice tm.a1 tm.n1 tm.c1) ∧ w'.cell? ⟨gc, 3, none⟩ = some (.slice tm.a2 tm.n2 tm.c2)) (by kernel_rfl) ?_
          have bd0 : Below wr.heap.size wr wr.drew := (Below.refl _ _).drew
          have hC0 : (fun w' : World => (w'.cell? ⟨gg, 0, none⟩ = some (.bool tg.s) ∧ w'.cell? ⟨gg, 1, none⟩ = some (.slice tg.a1 tg.n1 tg.c1) ∧ w'.cell? ⟨gg, 2, none⟩ = some (.slice tg.a2 tg.n2 tg.c2)) ∧ (w'.cell? ⟨gw, 0, none⟩ = some (.bool tw.s) ∧ w'.cell? ⟨gw, 1, none⟩ = some (.slice tw.a1 tw.n1 tw.c1) ∧ w'.cell? ⟨gw, 2, none⟩ = some (.slice tw.a2 tw.n2 tw.c2)) ∧ w'.cell? ⟨gc, 1, none⟩ = some (.bool tm.s) ∧ w'.cell? ⟨gc, 2, none⟩ = some (.slice tm.a1 tm.n1 tm.c1) ∧ w'.cell? ⟨gc, 3, none⟩ = some (.slice tm.a2 tm.n2 tm.c2)) wr.drew := unhide HC30 _ bd0
          refine wpHold_take (i := 0) (v := ?_) rfl (by kernel_rfl) (by kernel_rfl) (by kernel_rfl) (fun _ _ _ h => h) (Or.inl ⟨by rfl, ?_⟩) hC0 ?_
          rotate_left
          · intro w hSw; clear hSw; go_simp; (try with_reducible rfl)
          (try simp only [List.getElem_toArray, List.getElem_cons_succ, List.getElem_cons_zero])
          (try simp only [Act.put, List.setIfInBounds_toArray, List.set_cons_zero, List.set_cons_succ])
          refine wpHold_take (i := 1) (v := ?_) rfl (by kernel_rfl) (by kernel_rfl) (by kernel_rfl) (fun _ _ _ h => h) (Or.inl ⟨by rfl, ?_⟩) hC0 ?_
          rotate_left
          · intro w hSw; clear hSw; go_simp; (try with_reducible rfl)
          (try simp only [List.getElem_toArray, List.getElem_cons_succ, List.getElem_cons_zero])
          (try simp only [Act.put, List.setIfInBounds_toArray, List.set_cons_zero, List.set_cons_succ])
          refine wpHold_one (k := 2) (by kernel_rfl) rfl (fun K hK => ?_)
          (try simp only [List.getElem_toArray, List.getElem_cons_succ, List.getElem_cons_zero])
          go_simp
          refine (unhide HLK _ bd0).mono ?_
          rintro e xw_1 ⟨rfl, hb_1⟩
          have cc_1 := below_step bd0 hb_1
          have hC_1 : (fun w' : World => (w'.cell? ⟨gg, 0, none⟩ = some (.bool tg.s) ∧ w'.cell? ⟨gg, 1, none⟩ = some (.slice tg.a1 tg.n1 tg.c1) ∧ w'.cell? ⟨gg, 2, none⟩ = some (.slice tg.a2 tg.n2 tg.c2)) ∧ (w'.cell? ⟨gw, 0, none⟩ = some (.bool tw.s) ∧ w'.cell? ⟨gw, 1, none⟩ = some (.slice tw.a1 tw.n1 tw.c1) ∧ w'.cell? ⟨gw, 2, none⟩ = some (.slice tw.a2 tw.n2 tw.c2)) ∧ w'.cell? ⟨gc, 1, none⟩ = some (.bool tm.s) ∧ w'.cell? ⟨gc, 2, none⟩ = some (.slice tm.a1 tm.n1 tm.c1) ∧ w'.cell? ⟨gc, 3, none⟩ = some (.slice tm.a2 tm.n2 tm.c2)) xw_1 := unhide HC30 _ cc_1
          refine hK.out _ _ hC_1 ?_
          clear hK K
          (try simp only [Act.put, List.setIfInBounds_toArray, List.set_cons_zero, List.set_cons_succ])
          refine wpHold_take (i := 3) (v := ?_) rfl (by kernel_rfl) (by kernel_rfl) (by kernel_rfl) (fun _ _ _ h => h) (Or.inl ⟨by rfl, ?_⟩) hC_1 ?_
          rotate_left
          · intro w hSw; clear hSw; go_simp; (try with_reducible rfl)
          (try simp only [List.getElem_toArray, List.getElem_cons_succ, List.getElem_cons_zero])
          (try simp only [Act.put, List.setIfInBounds_toArray, List.set_cons_zero, List.set_cons_succ])
          refine wpHold_take (i := 4) (v := ?_) rfl (by kernel_rfl) (by kernel_rfl) (by kernel_rfl) (fun _ _ _ h => h) (Or.inl ⟨by rfl, ?_⟩) hC_1 ?_
          rotate_left
          · intro w hSw; (try dsimp only at hSw); obtain ⟨⟨z0, z1, z2⟩, ⟨z3, z4, z5⟩, z6, z7, z8⟩ := hSw; go_simp; (try with_reducible rfl)
          (try simp only [List.getElem_toArray, List.getElem_cons_succ, List.getElem_cons_zero])
          (try simp only [Act.put, List.setIfInBounds_toArray, List.set_cons_zero, List.set_cons_succ])
          refine wpHold_take (i := 5) (v := ?_) rfl (by kernel_rfl) (by kernel_rfl) (by kernel_rfl) (fun _ _ _ h => h) (Or.inl ⟨by rfl, ?_⟩) hC_1 ?_
          rotate_left
          · intro w hSw; (try dsimp only at hSw); obtain ⟨⟨z0, z1, z2⟩, ⟨z3, z4, z5⟩, z6, z7, z8⟩ := hSw; go_simp; (try with_reducible rfl)
          (try simp only [List.getElem_toArray, List.getElem_cons_succ, List.getElem_cons_zero])
          (try simp only [Act.put, List.setIfInBounds_toArray, List.set_cons_zero, List.set_cons_succ])
          refine wpHold_take (i := 7) (v := ?_) rfl (by kernel_rfl) (by kernel_rfl) (by kernel_rfl) (fun _ _ _ h => h) (Or.inl ⟨by rfl, ?_⟩) hC_1 ?_
          rotate_left
          · intro w hSw; clear hSw; go_simp; (try with_reducible rfl)
          (try simp only [List.getElem_toArray, List.getElem_cons_succ, List.getElem_cons_zero])
          (try simp only [Act.put, List.setIfInBounds_toArray, List.set_cons_zero, List.set_cons_succ])
          refine wpHold_take (i := 8) (v := ?_) rfl (by kernel_rfl) (by kernel_rfl) (by kernel_rfl) (fun _ _ _ h => h) (Or.inl ⟨by rfl, ?_⟩) hC_1 ?_
          rotate_left
          · intro w hSw; (try dsimp only at hSw); obtain ⟨⟨z0, z1, z2⟩, ⟨z3, z4, z5⟩, z6, z7, z8⟩ := hSw; go_simp; (try with_reducible rfl)
          (try simp only [List.getElem_toArray, List.getElem_cons_succ, List.getElem_cons_zero])
          (try simp only [Act.put, List.setIfInBounds_toArray, List.set_cons_zero, List.set_cons_succ])
          refine wpHold_one (k := 6) (by kernel_rfl) rfl (fun K hK => ?_)
          (try simp only [List.getElem_toArray, List.getElem_cons_succ, List.getElem_cons_zero])
          go_simp
          refine (whole_any 1 (by decide) (by decide) _).mono ?_
          rintro e xw_2 ⟨xv_2, rfl, hv_2, hb_2⟩
          have cc_2 := below_step cc_1 hb_2
          have hC_2 : (fun w' : World => (w'.cell? ⟨gg, 0, none⟩ = some (.bool tg.s) ∧ w'.cell? ⟨gg, 1, none⟩ = some (.slice tg.a1 tg.n1 tg.c1) ∧ w'.cell? ⟨gg, 2, none⟩ = some (.slice tg.a2 tg.n2 tg.c2)) ∧ (w'.cell? ⟨gw, 0, none⟩ = some (.bool tw.s) ∧ w'.cell? ⟨gw, 1, none⟩ = some (.slice tw.a1 tw.n1 tw.c1) ∧ w'.cell? ⟨gw, 2, none⟩ = some (.slice tw.a2 tw.n2 tw.c2)) ∧ w'.cell? ⟨gc, 1, none⟩ = some (.bool tm.s) ∧ w'.cell? ⟨gc, 2, none⟩ = some (.slice tm.a1 tm.n1 tm.c1) ∧ w'.cell? ⟨gc, 3, none⟩ = some (.slice tm.a2 tm.n2 tm.c2)) xw_2 := unhide HC30 _ cc_2
          refine hK.out _ _ hC_2 ?_
          clear hK K
          (try simp only [Act.put, List.setIfInBounds_toArray, List.set_cons_zero, List.set_cons_succ])
          refine wpHold_one (k := 9) (by kernel_rfl) rfl (fun K hK => ?_)
          (try simp only [List.getElem_toArray, List.getElem_cons_succ, List.getElem_cons_zero])
          go_simp
          refine (subR_any _ tm.val _ _ _ hv_2 ((unhide HWT).below cc_2) 10 (unhide HO1) (unhide HWB) (by rw [KKe]; omega)).mono ?_
          rintro e xw_3 ⟨xv_3, rfl, hv_3, hb_3⟩
          have cc_3 := below_step cc_2 hb_3
          have hC_3 : (fun w' : World => (w'.cell? ⟨gg, 0, none⟩ = some (.bool tg.s) ∧ w'.cell? ⟨gg, 1, none⟩ = some (.slice tg.a1 tg.n1 tg.c1) ∧ w'.cell? ⟨gg, 2, none⟩ = some (.slice tg.a2 tg.n2 tg.c2)) ∧ (w'.cell? ⟨gw, 0, none⟩ = some (.bool tw.s) ∧ w'.cell? ⟨gw, 1, none⟩ = some (.slice tw.a1 tw.n1 tw.c1) ∧ w'.cell? ⟨gw, 2, none⟩ = some (.slice tw.a2 tw.n2 tw.c2)) ∧ w'.cell? ⟨gc, 1, none⟩ = some (.bool tm.s) ∧ w'.cell? ⟨gc, 2, none⟩ = some (.slice tm.a1 tm.n1 tm.c1) ∧ w'.cell? ⟨gc, 3, none⟩ = some (.slice tm.a2 tm.n2 tm.c2)) xw_3 := unhide HC30 _ cc_3
          refine hK.out _ _ hC_3 ?_
          clear hK K
          (try simp only [Act.put, List.setIfInBounds_toArray, List.set_cons_zero, List.set_cons_succ])
          refine wpHold_one (k := 10) (by kernel_rfl) rfl (fun K hK => ?_)
          (try simp only [List.getElem_toArray, List.getElem_cons_succ, List.getElem_cons_zero])
          go_simp
          refine (mulR_any tw.val _ _ _ _ ((unhide HS9).h.2.below cc_3) hv_3 30000000000 (unhide HSW) (unhide HOW) (unhide HJJ)).mono ?_
          rintro e xw_4 ⟨xv_4, rfl, hv_4, hb_4⟩
          have cc_4 := below_step cc_3 hb_4
          have hC_4 : (fun w' : World => (w'.cell? ⟨gg, 0, none⟩ = some (.bool tg.s) ∧ w'.cell? ⟨gg, 1, none⟩ = some (.slice tg.a1 tg.n1 tg.c1) ∧ w'.cell? ⟨gg, 2, none⟩ = some (.slice tg.a2 tg.n2 tg.c2)) ∧ (w'.cell? ⟨gw, 0, none⟩ = some (.bool tw.s) ∧ w'.cell? ⟨gw, 1, none⟩ = some (.slice tw.a1 tw.n1 tw.c1) ∧ w'.cell? ⟨gw, 2, none⟩ = some (.slice tw.a2 tw.n2 tw.c2)) ∧ w'.cell? ⟨gc, 1, none⟩ = some (.bool tm.s) ∧ w'.cell? ⟨gc, 2, none⟩ = some (.slice tm.a1 tm.n1 tm.c1) ∧ w'.cell? ⟨gc, 3, none⟩ = some (.slice tm.a2 tm.n2 tm.c2)) xw_4 := unhide HC30 _ cc_4
          refine hK.out _ _ hC_4 ?_
          clear hK K
          (try simp only [Act.put, List.setIfInBounds_toArray, List.set_cons_zero, List.set_cons_succ])
          refine wpHold_one (k := 11) (by kernel_rfl) rfl (fun K hK => ?_)
          (try simp only [List.getElem_toArray, List.getElem_cons_succ, List.getElem_cons_zero])
          go_simp
          refine (like_any tg.val _ _ _ (by rw [← unhide HEQ]; exact (unhide HS9).g.2.below cc_4) hv_4 100000000000 (unhide HSE) (by rw [KKe]; omega) (tab_below (unhide HTB) (below_step (unhide HBZ) cc_4))).mono ?_
          rintro e xw_5 ⟨rfl, hb_5⟩
          have cc_5 := below_step cc_4 hb_5
          have hC_5 : (fun w' : World => (w'.cell? ⟨gg, 0, none⟩ = some (.bool tg.s) ∧ w'.cell? ⟨gg, 1, none⟩ = some (.slice tg.a1 tg.n1 tg.c1) ∧ w'.cell? ⟨gg, 2, none⟩ = some (.slice tg.a2 tg.n2 tg.c2)) ∧ (w'.cell? ⟨gw, 0, none⟩ = some (.bool tw.s) ∧ w'.cell? ⟨gw, 1, none⟩ = some (.slice tw.a1 tw.n1 tw.c1) ∧ w'.cell? ⟨gw, 2, none⟩ = some (.slice tw.a2 tw.n2 tw.c2)) ∧ w'.cell? ⟨gc, 1, none⟩ = some (.bool tm.s) ∧ w'.cell? ⟨gc, 2, none⟩ = some (.slice tm.a1 tm.n1 tm.c1) ∧ w'.cell? ⟨gc, 3, none⟩ = some (.slice tm.a2 tm.n2 tm.c2)) xw_5 := unhide HC30 _ cc_5
          refine hK.out _ _ hC_5 ?_
          clear hK K
          (try simp only [Act.put, List.setIfInBounds_toArray, List.set_cons_zero, List.set_cons_succ])
          refine wpHold_take (i := 12) (v := ?_) rfl (by kernel_rfl) (by kernel_rfl) (by kernel_rfl) (fun _ _ _ h => h) (Or.inl ⟨by rfl, ?_⟩) hC_5 ?_
          rotate_left
          · intro w hSw; clear hSw; go_simp; (try with_reducible rfl)
          (try simp only [List.getElem_toArray, List.getElem_cons_succ, List.getElem_cons_zero])
          (try simp only [Act.put, List.setIfInBounds_toArray, List.set_cons_zero, List.set_cons_succ])
          refine wpHold_take (i := 13) (v := ?_) rfl (by kernel_rfl) (by kernel_rfl) (by kernel_rfl) (fun _ _ _ h => h) (Or.inl ⟨by rfl, ?_⟩) hC_5 ?_
          rotate_left
          · intro w hSw; clear hSw; go_simp; (try with_reducible rfl)
          (try simp only [List.getElem_toArray, List.getElem_cons_succ, List.getElem_cons_zero])
          (try simp only [Act.put, List.setIfInBounds_toArray, List.set_cons_zero, List.set_cons_succ])
          refine wpHold_done (by kernel_rfl) ?_ _
          clear hC0 hC_1 hC_2 hC_3 hC_4 hC_5 HC30
          go_wp2
          go_ret
          exact ⟨rfl, below_step (unhide HBZ) cc_5⟩
end Go.Proofs.YtaacibgmdeoikaaGreatDoor
