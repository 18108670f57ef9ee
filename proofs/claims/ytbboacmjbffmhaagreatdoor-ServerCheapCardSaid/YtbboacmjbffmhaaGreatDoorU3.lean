/- Best. -/
import Derived.Test.YtbboacmjbffmhaaGreatDoorU2
import Derived.Test.YtbboacmjbffmhaaGreatDoorA15
namespace Go.Proofs.YtbboacmjbffmhaaGreatDoor
open Go.RowKit Go.Sort Go.Shelf

set_option maxHeartbeats 4000000 in
set_option maxRecDepth 100000 in
theorem divR_zero (va vb : Value) (qa qb : Rat) (w : World) (ha : RatIs w va qa) (hb : RatIs w vb qb) (hz : qb.num = 0) :
    Calls Tryz.prog 19 #[va, vb] w fun e w' => e = .returned (.tuple #[.agg #[.bool false, .slice none 0 0, .slice none 0 0], .iface 56 (.int .i64 11)]) ∧ Below w.heap.size w w' := by
  have HB := hide hb
  have hsz : qb.num.sign = 0 := by rw [hz]; rfl
  obtain ⟨ov, un, rfl, h1, h2⟩ := ha
  obtain ⟨ov', un', rfl, h1', h2'⟩ := hb
  obtain ⟨a, n, c, rfl, _, _⟩ := h1
  obtain ⟨a2, n2, c2, rfl, _, _⟩ := h2
  obtain ⟨b, m, d, rfl, _, _⟩ := h1'
  obtain ⟨b2, m2, d2, rfl, _, _⟩ := h2'
  obtain ⟨sa, hsa⟩ : ∃ s, decide (qa.num < 0) = s := ⟨_, rfl⟩
  obtain ⟨sb, hsb⟩ : ∃ s, decide (qb.num < 0) = s := ⟨_, rfl⟩
  rw [hsb] at HB
  rw [hsa, hsb]
  obtain ⟨W, hW⟩ : ∃ W, ((w.alloc (.cells #[.bool sa, .slice a n c, .slice a2 n2 c2] 42)).alloc (.cells #[.bool sb, .slice b m d, .slice b2 m2 d2] 42)).alloc (.cells #[.bool false, .slice none 0 0, .slice none 0 0] 42) = W := ⟨_, rfl⟩
  have hbW : Below w.heap.size w W := by rw [← hW]; exact (((Below.refl _ _).alloc (Nat.le_refl _) _).alloc (by simp) _).alloc (by simp; omega) _
  have S0 : ∀ w', Below W.heap.size W w' → (w'.cell? ⟨w.heap.size, 0, none⟩ = some (.bool sa) ∧ w'.cell? ⟨w.heap.size, 1, none⟩ = some (.slice a n c) ∧ w'.cell? ⟨w.heap.size, 2, none⟩ = some (.slice a2 n2 c2) ∧
    w'.cell? ⟨w.heap.size + 1, 0, none⟩ = some (.bool sb) ∧ w'.cell? ⟨w.heap.size + 1, 1, none⟩ = some (.slice b m d) ∧ w'.cell? ⟨w.heap.size + 1, 2, none⟩ = some (.slice b2 m2 d2)) ∧
    w'.heap[w.heap.size + 2]? = some (.cells #[.bool false, .slice none 0 0, .slice none 0 0] 42) ∧ w.heap.size + 2 < w'.heap.size := fun w' h => by
    rw [← hW] at h
    exact three_boxes h
  have CB : ∀ w1, Below W.heap.size W w1 → Calls Tryz.prog 18 #[.agg #[.bool sb, .slice b m d, .slice b2 m2 d2]] w1 fun e w' => e = .returned (.int .i64 0) ∧ Below W.heap.size W w' := fun w1 h1 =>
    (sign_any _ qb w1 (((unhide HB).below hbW).below h1)).mono (by rintro e w' ⟨rfl, h⟩; rw [hsz]; exact ⟨rfl, below_step h1 h⟩)
  have HS0 := hide S0
  have HCB := hide CB
  have HWE := hide hW
  have HBW := hide hbW
  have hR := hide (Below.refl W.heap.size W)
  clear hW hbW S0 CB hsa hsb hz hsz HB
  go_enter Tryz.func19, Tryz.ntmps19
  go_wp2_with fail
  rw [unhide HWE]
  refine (unhide HCB _ (unhide hR)).mono ?_
  rintro e w1 ⟨rfl, hb1⟩
  have ⟨_, hbx, hsz⟩ := unhide HS0 _ hb1
  have ⟨g0, g1, g2, f0, f1, f2⟩ := box_cell hbx
  have HBX := hide hbx
  clear hbx
  go_wp2
  have ⟨r1, r2⟩ := rat_boxed (w0 := w) (rat_zero w1) (unhide HBX) (below_step (unhide HBW) hb1) (by omega) (Value.bool false) (Value.slice none 0 0) (Value.slice none 0 0)
  exact bodyPost_ret (v := .tuple #[.agg #[.bool false, .slice none 0 0, .slice none 0 0], .iface 56 (.int .i64 11)]) (by simp [results, Tryz.results19, go_sem, g0, g1, g2]) rfl ⟨rfl, r2⟩

/-- A class's cost for its mean time. -/
def wrt (cs : List Rat) (ks : List (Rat × List Rat)) (i : Nat) : Rat := cs[i]! / mo 1 ks i
/-- What Best says: an order, or what is wrong. -/
def BestPost (w : World) (ks : List (Rat × List Rat)) (cs : List Rat) (e : Ending) (w' : World) : Prop :=
  (GoodC ks ∧ (∀ i, i < ks.length → (mo 1 ks i).num ≠ 0) ∧ ∃ (g : Nat) (f : Nat → Nat), e = .returned (.tuple #[.slice (some ⟨g, 0, none⟩) ks.length ks.length, .nilIface]) ∧ OwnI w' g ks.length (fun i => ((f i : Nat) : Int)) ∧ (∀ i, i < ks.length → f i < ks.length) ∧ Srt (wrt cs ks) f ks.length ∧ Below w.heap.size w w' ∧ w.heap.size ≤ g) ∨
  (∃ k : Int, e = .returned (.tuple #[.slice none 0 0, .iface 56 (.int .i64 k)]) ∧ Below w.heap.size w w')

set_option maxHeartbeats 8000000 in
set_option maxRecDepth 100000 in
set_option linter.unusedSimpArgs false in
theorem best_any (v vc : Value) (ks : List (Rat × List Rat)) (cs : List Rat) (w : World) (h : ClassesAre w v ks) (hc : LawIs w vc cs) (hcl : cs.length = ks.length) (sm : SmC ks) (hcr : ∀ j, j < cs.length → RS cs[j]! 1) (hl : ks.length ≤ 5) (hl2 : 2 ≤ ks.length) :
    Calls Tryz.prog 6 #[v, vc] w (BestPost w ks cs) := by
  have KKe : KK = 1099511627776 := rfl
  have HTI := hide (times_any v ks w h sm (by omega))
  obtain ⟨a, c, rfl, h1, h2, h3⟩ := h
  obtain ⟨ac, cc', rfl, k1, k2, k3⟩ := hc
  rw [hcl] at k1 k3 ⊢
  have HC3 := hide k3
  have HSM := hide sm
  have HCR := hide hcr
  have HCL := hide hcl
  clear h3 sm k3 hcr hcl
  go_enter Tryz.func6, Tryz.ntmps6
  go_wp2_with fail
  refine (unhide HTI).mono ?_
  rintro e w1 (⟨hg, vm, rfl, hm, hb1⟩ | ⟨hng, k, rfl, hb1⟩)
  rotate_left
  · have HB1 := hide hb1
    clear hng hb1 HTI
    go_wp2
    exact bodyPost_ret (v := .tuple #[.slice none 0 0, .iface 56 (.int .i64 k)]) (by simp [results, Tryz.results6, go_sem]) rfl (Or.inr ⟨k, rfl, unhide HB1⟩)
  have HG := hide hg
  have HB1 := hide hb1
  obtain ⟨am, cm, rfl, m1, m2, m3⟩ := hm
  rw [row_length] at m1 m3 ⊢
  have HM3 := hide m3
  clear hg hb1 HTI m3
  have qmi := make_ints ks.length (by omega) w1
  have own0 := make_own w1 ks.length
  have bA := alloc_below w1 (.cells (lrow (fun _ => 0) ks.length).toArray 3)
  obtain ⟨W0, hW0⟩ : ∃ W, w1.alloc (.cells (lrow (fun _ => 0) ks.length).toArray 3) = W := ⟨_, rfl⟩
  rw [hW0] at qmi own0 bA
  have qmk := make_ratios (ks.length : Int) (by omega) (by omega) W0
  rw [Int.toNat_natCast] at qmk
  have S0 := SumsAt.start w1 W0 ks.length bA
  rw [fill_zero (wrt cs ks) ks.length] at S0
  have hsz : W0.heap.size = w1.heap.size + 1 := by rw [← hW0, alloc_size]
  obtain ⟨g, hg⟩ : ∃ g, w1.heap.size = g := ⟨_, rfl⟩
  obtain ⟨W1, hW1⟩ : ∃ W, W0.alloc (.cells (tcells (List.replicate ks.length zTri)).toArray 42) = W := ⟨_, rfl⟩
  have own1 := own0.keep (alloc_below W0 (.cells (tcells (List.replicate ks.length zTri)).toArray 42))
  rw [hW1] at qmk S0 own1
  obtain ⟨G, hG⟩ : ∃ G, W0.heap.size = G := ⟨_, rfl⟩
  rw [hG] at qmk S0
  have bB := alloc_below W1 (.cells #[.slice (some ⟨G, 0, none⟩) ks.length ks.length] 30)
  have I0 : WInv w1 G W1.heap.size ks.length _ _ (W1.alloc (.cells #[.slice (some ⟨G, 0, none⟩) ks.length ks.length] 30)) := ⟨S0.keep bB, heap_alloc_new W1 _⟩
  have own2 := own1.keep bB
  have hGl : G < W1.heap.size := (Array.getElem?_eq_some_iff.1 S0.row).1
  obtain ⟨W2, hW2⟩ : ∃ W, W1.alloc (.cells #[.slice (some ⟨G, 0, none⟩) ks.length ks.length] 30) = W := ⟨_, rfl⟩
  obtain ⟨bp, hbp⟩ : ∃ g, W1.heap.size = g := ⟨_, rfl⟩
  rw [hW2] at I0 own2
  rw [hbp] at I0 hGl
  rw [hg] at own2
  rw [hg] at qmi
  have HI0 := hide I0
  have HOWN : Hid (OwnI W2 g ks.length (fun i => (((if i < 0 then i else 0 : Nat)) : Int))) := own2
  have HGG : Hid (G ≠ g) := by show _ ≠ _; omega
  have HBG : Hid (bp ≠ g) := by show _ ≠ _; omega
  have HBGG : Hid (bp ≠ G) := by show _ ≠ _; omega
  have HGE : Hid (w1.heap.size ≤ g) := Nat.le_of_eq hg
  clear I0 own0 own1 own2 S0 bA bB hsz hGl
  go_wp2_with fail
  clear qmi qmk hW0 hW1 hW2 hG hbp hg
  go_loopw [34] (fun vi wr => ∃ (i : Nat) (us : List Tri), vi = .int .i64 (i : Int) ∧ i ≤ ks.length ∧ OwnI wr g ks.length (fun j => (((if j < i then j else 0 : Nat)) : Int)) ∧ WInv w1 G bp ks.length us (fill (wrt cs ks) ks.length i) wr ∧ (∀ j, j < i → (mo 1 ks j).num ≠ 0)) (fun vi _ => ks.length - (intOf vi).toNat)
  case atStart => exact ⟨0, _, rfl, Nat.zero_le _, unhide HOWN, unhide HI0, fun j h => absurd h (Nat.not_lt_zero _)⟩
  case round =>
    obtain ⟨i, us, rfl, hi, own, inv, hnz⟩ := hrel
    have hul : us.length = ks.length := by rw [inv.sums.len, fill_length]
    have HNZ := hide hnz
    clear HOWN HI0 hnz
    by_cases hlt : i < ks.length
    · have e1 : (i : Int) < (ks.length : Int) := by omega
      have e0 : (0 : Int) ≤ (i : Int) := by omega
      obtain ⟨b, o, rfl, hblt, hcs⟩ := unhide HC3 (by omega)
      obtain ⟨xs, xp1, xp2, xn1, xd1, xn2, xd2, xk0, xk1, xk2, xr⟩ := hcs i hlt
      obtain ⟨tc, rfl, rfl, rfl, rfl, rfl, rfl, rfl⟩ : ∃ t : Tri, xs = t.s ∧ xp1 = t.a1 ∧ xp2 = t.a2 ∧ xn1 = t.n1 ∧ xd1 = t.c1 ∧ xn2 = t.n2 ∧ xd2 = t.c2 := ⟨⟨xs, xp1, xp2, xn1, xd1, xn2, xd2⟩, rfl, rfl, rfl, rfl, rfl, rfl, rfl⟩
      have HBL := hide (below_step (unhide HB1) inv.sums.bl)
      rw [← (unhide HBL).cell (p := ⟨b, o + i * 3, none⟩) hblt] at xk0
      rw [← (unhide HBL).cell (p := ⟨b, o + i * 3 + 1, none⟩) hblt] at xk1
      rw [← (unhide HBL).cell (p := ⟨b, o + i * 3 + 2, none⟩) hblt] at xk2
      have bA := alloc_below wr (.cells #[.bool tc.s, .slice tc.a1 tc.n1 tc.c1, .slice tc.a2 tc.n2 tc.c2] 42)
      have X1 := BoxIs.new (t := tc) (xr.below (unhide HBL))
      have inv1 := inv.keep bA
      have own1 := own.keep bA
      obtain ⟨W3, hW3⟩ : ∃ W, wr.alloc (.cells #[.bool tc.s, .slice tc.a1 tc.n1 tc.c1, .slice tc.a2 tc.n2 tc.c2] 42) = W := ⟨_, rfl⟩
      obtain ⟨bc, hbc⟩ : ∃ g, wr.heap.size = g := ⟨_, rfl⟩
      rw [hW3] at X1 inv1 own1
      rw [hbc] at X1
      have HX1 := hide X1
      have HI1 := hide inv1
      have HO1 := hide own1
      have HRC := hide (unhide HCR i (by have := unhide HCL; omega))
      obtain ⟨q, hq⟩ : ∃ q, cs[i]! = q := ⟨_, rfl⟩
      rw [hq] at HX1 HRC
      have HQ := hide hq
      have hsg := sign_any tc.val q W3 (unhide HX1).2
      simp only [Tri.val] at hsg
      have ⟨c0, c1, c2⟩ := X1.cells _ (Below.refl _ _)
      clear inv own inv1 own1 X1 xr hcs hq bA HBL
      by_cases hng : q.num < 0
      · rw [Int.sign_eq_neg_one_of_neg hng] at hsg
        have HX := hide hsg
        clear hsg hng
        go_wp2_with fail
        clear hW3 hbc xk0 xk1 xk2 c0 c1 c2
        refine (unhide HX).mono ?_
        rintro e w3 ⟨rfl, hb3⟩
        have HB3 := hide (below_step (below_step (unhide HB1) (unhide HI1).sums.bl) hb3)
        clear hb3 HX
        go_wp2
        exact bodyPost_ret (v := .tuple #[.slice none 0 0, .iface 56 (.int .i64 1)]) (by simp [results, Tryz.results6, go_sem]) rfl (Or.inr ⟨1, rfl, unhide HB3⟩)
      · have HSG : Hid (∃ x : Int, 0 ≤ x ∧ x ≤ 1 ∧ Calls Tryz.prog 18 #[.agg #[.bool tc.s, .slice tc.a1 tc.n1 tc.c1, .slice tc.a2 tc.n2 tc.c2]] W3 fun e w' => e = .returned (.int .i64 x) ∧ Below W3.heap.size W3 w') := ⟨q.num.sign, Int.sign_nonneg_iff.2 (Int.not_lt.1 hng), (sign_bd _).2, hsg⟩
        obtain ⟨x, x0, x1, hx⟩ := unhide HSG
        have HX := hide hx
        clear hsg HSG hx hng
        go_wp2_with fail
        clear hW3 hbc xk0 xk1 xk2 c0 c1 c2
        refine (unhide HX).mono ?_
        rintro e w3 ⟨rfl, hb3⟩
        have HX3 := hide ((unhide HX1).keep hb3)
        have HI3 := hide ((unhide HI1).keep hb3)
        have HO3 := hide ((unhide HO1).keep hb3)
        clear hb3 HX HX1 HI1 HO1
        obtain ⟨bm, om, rfl, hbm, hcm⟩ := unhide HM3 (by omega)
        obtain ⟨ys, yp1, yp2, yn1, yd1, yn2, yd2, yk0, yk1, yk2, yr⟩ := hcm i hlt
        obtain ⟨tm, rfl, rfl, rfl, rfl, rfl, rfl, rfl⟩ : ∃ t : Tri, ys = t.s ∧ yp1 = t.a1 ∧ yp2 = t.a2 ∧ yn1 = t.n1 ∧ yd1 = t.c1 ∧ yn2 = t.n2 ∧ yd2 = t.c2 := ⟨⟨ys, yp1, yp2, yn1, yd1, yn2, yd2⟩, rfl, rfl, rfl, rfl, rfl, rfl, rfl⟩
        rw [row_get hlt] at yr
        have HRM := hide (yr.below (unhide HI3).sums.bl)
        have hbpl : bp < w3.heap.size := (Array.getElem?_eq_some_iff.1 (unhide HI3).box).1
        have HCC : Hid (∀ W, Below w3.heap.size w3 W → (fun w' : World => w'.cell? ⟨bp, 0, none⟩ = some (.slice (some ⟨G, 0, none⟩) ks.length ks.length) ∧ (w'.cell? ⟨bc, 0, none⟩ = some (.bool tc.s) ∧ w'.cell? ⟨bc, 1, none⟩ = some (.slice tc.a1 tc.n1 tc.c1) ∧ w'.cell? ⟨bc, 2, none⟩ = some (.slice tc.a2 tc.n2 tc.c2)) ∧ (w'.cell? ⟨bm, om + i * 3, none⟩ = some (.bool tm.s) ∧ w'.cell? ⟨bm, om + i * 3 + 1, none⟩ = some (.slice tm.a1 tm.n1 tm.c1) ∧ w'.cell? ⟨bm, om + i * 3 + 2, none⟩ = some (.slice tm.a2 tm.n2 tm.c2))) W) := fun W hW => by
          have bc' := below_step (unhide HI3).sums.bl hW
          refine ⟨by rw [hW.cell (p := ⟨bp, 0, none⟩) hbpl]; exact (unhide HI3).cell, (unhide HX3).cells W hW, ?_⟩
          rw [bc'.cell (p := ⟨bm, om + i * 3, none⟩) hbm, bc'.cell (p := ⟨bm, om + i * 3 + 1, none⟩) hbm, bc'.cell (p := ⟨bm, om + i * 3 + 2, none⟩) hbm]; exact ⟨yk0, yk1, yk2⟩
        clear yr yk0 yk1 yk2 hcm hbpl
        by_cases hz : (mo 1 ks i).num = 0
        · have HDV : Hid (∀ W, Below w3.heap.size w3 W → Calls Tryz.prog 19 #[.agg #[.bool tc.s, .slice tc.a1 tc.n1 tc.c1, .slice tc.a2 tc.n2 tc.c2], .agg #[.bool tm.s, .slice tm.a1 tm.n1 tm.c1, .slice tm.a2 tm.n2 tm.c2]] W fun e w' => e = .returned (.tuple #[.agg #[.bool false, .slice none 0 0, .slice none 0 0], .iface 56 (.int .i64 11)]) ∧ Below W.heap.size W w') := fun W hW => divR_zero tc.val tm.val _ _ W ((unhide HX3).2.below hW) ((unhide HRM).below hW) hz
          clear hz
          go_wp2_with fail
          refine wp_region_till (fun w' : World => w'.cell? ⟨bp, 0, none⟩ = some (.slice (some ⟨G, 0, none⟩) ks.length ks.length) ∧ (w'.cell? ⟨bc, 0, none⟩ = some (.bool tc.s) ∧ w'.cell? ⟨bc, 1, none⟩ = some (.slice tc.a1 tc.n1 tc.c1) ∧ w'.cell? ⟨bc, 2, none⟩ = some (.slice tc.a2 tc.n2 tc.c2)) ∧ (w'.cell? ⟨bm, om + i * 3, none⟩ = some (.bool tm.s) ∧ w'.cell? ⟨bm, om + i * 3 + 1, none⟩ = some (.slice tm.a1 tm.n1 tm.c1) ∧ w'.cell? ⟨bm, om + i * 3 + 2, none⟩ = some (.slice tm.a2 tm.n2 tm.c2))) 12 (by kernel_rfl) ?_
          have bd0 : Below w3.heap.size w3 w3.drew := (Below.refl _ _).drew
          have hC0 : (fun w' : World => w'.cell? ⟨bp, 0, none⟩ = some (.slice (some ⟨G, 0, none⟩) ks.length ks.length) ∧ (w'.cell? ⟨bc, 0, none⟩ = some (.bool tc.s) ∧ w'.cell? ⟨bc, 1, none⟩ = some (.slice tc.a1 tc.n1 tc.c1) ∧ w'.cell? ⟨bc, 2, none⟩ = some (.slice tc.a2 tc.n2 tc.c2)) ∧ (w'.cell? ⟨bm, om + i * 3, none⟩ = some (.bool tm.s) ∧ w'.cell? ⟨bm, om + i * 3 + 1, none⟩ = some (.slice tm.a1 tm.n1 tm.c1) ∧ w'.cell? ⟨bm, om + i * 3 + 2, none⟩ = some (.slice tm.a2 tm.n2 tm.c2))) w3.drew := unhide HCC _ bd0
          refine wpTill_take (i := 0) (v := ?_) rfl (by kernel_rfl) (by kernel_rfl) (by kernel_rfl) (by kernel_rfl) (by kernel_rfl) (by kernel_rfl) (fun _ _ _ h => h) (Or.inl ⟨by rfl, ?_⟩) hC0 ?_
          rotate_left
          · intro w hSw; (try dsimp only at hSw); obtain ⟨z0, ⟨z1, z2, z3⟩, z4, z5, z6⟩ := hSw; go_simp; (try with_reducible rfl)
          (try simp only [List.getElem_toArray, List.getElem_cons_succ, List.getElem_cons_zero])
          (try simp only [Act.put, List.setIfInBounds_toArray, List.set_cons_zero, List.set_cons_succ])
          refine wpTill_pure (i := 1) (v := ?_) rfl (by kernel_rfl) (by kernel_rfl) (by kernel_rfl) (by kernel_rfl) (fun _ _ _ h => h) (Or.inl ⟨by rfl, ?_⟩) (fun _ => hC0) ?_
          rotate_left
          · intro w hSw; clear hSw; go_simp; (try with_reducible rfl)
          (try simp only [List.getElem_toArray, List.getElem_cons_succ, List.getElem_cons_zero])
          (try simp only [Act.put, List.setIfInBounds_toArray, List.set_cons_zero, List.set_cons_succ])
          refine wpTill_take (i := 2) (v := ?_) rfl (by kernel_rfl) (by kernel_rfl) (by kernel_rfl) (by kernel_rfl) (by kernel_rfl) (by kernel_rfl) (fun _ _ _ h => h) (Or.inl ⟨by rfl, ?_⟩) hC0 ?_
          rotate_left
          · intro w hSw; (try dsimp only at hSw); obtain ⟨z0, ⟨z1, z2, z3⟩, z4, z5, z6⟩ := hSw; go_simp; (try with_reducible rfl)
          (try simp only [List.getElem_toArray, List.getElem_cons_succ, List.getElem_cons_zero])
          (try simp only [Act.put, List.setIfInBounds_toArray, List.set_cons_zero, List.set_cons_succ])
          refine wpTill_pure (i := 3) (v := ?_) rfl (by kernel_rfl) (by kernel_rfl) (by kernel_rfl) (by kernel_rfl) (fun _ _ _ h => h) (Or.inl ⟨by rfl, ?_⟩) (fun _ => hC0) ?_
          rotate_left
          · intro w hSw; clear hSw; go_simp; (try with_reducible rfl)
          (try simp only [List.getElem_toArray, List.getElem_cons_succ, List.getElem_cons_zero])
          (try simp only [Act.put, List.setIfInBounds_toArray, List.set_cons_zero, List.set_cons_succ])
          refine wpTill_pure (i := 4) (v := ?_) rfl (by kernel_rfl) (by kernel_rfl) (by kernel_rfl) (by kernel_rfl) (fun _ _ _ h => h) (Or.inl ⟨by rfl, ?_⟩) (fun _ => hC0) ?_
          rotate_left
          · intro w hSw; clear hSw; go_simp; (try with_reducible rfl)
          (try simp only [List.getElem_toArray, List.getElem_cons_succ, List.getElem_cons_zero])
          (try simp only [Act.put, List.setIfInBounds_toArray, List.set_cons_zero, List.set_cons_succ])
          refine wpTill_pure (i := 5) (v := ?_) rfl (by kernel_rfl) (by kernel_rfl) (by kernel_rfl) (by kernel_rfl) (fun _ _ _ h => h) (Or.inl ⟨by rfl, ?_⟩) (fun _ => hC0) ?_
          rotate_left
          · intro w hSw; clear hSw; go_simp; (try with_reducible rfl)
          (try simp only [List.getElem_toArray, List.getElem_cons_succ, List.getElem_cons_zero])
          (try simp only [Act.put, List.setIfInBounds_toArray, List.set_cons_zero, List.set_cons_succ])
          refine wpTill_take (i := 6) (v := ?_) rfl (by kernel_rfl) (by kernel_rfl) (by kernel_rfl) (by kernel_rfl) (by kernel_rfl) (by kernel_rfl) (fun _ _ _ h => h) (Or.inl ⟨by rfl, ?_⟩) hC0 ?_
          rotate_left
          · intro w hSw; (try dsimp only at hSw); obtain ⟨z0, ⟨z1, z2, z3⟩, z4, z5, z6⟩ := hSw; go_simp; (try with_reducible rfl)
          (try simp only [List.getElem_toArray, List.getElem_cons_succ, List.getElem_cons_zero])
          (try simp only [Act.put, List.setIfInBounds_toArray, List.set_cons_zero, List.set_cons_succ])
          refine wpTill_one (k := 7) (by kernel_rfl) rfl (fun K hK => ?_)
          (try simp only [List.getElem_toArray, List.getElem_cons_succ, List.getElem_cons_zero])
          go_simp
          refine (unhide HDV _ bd0).mono ?_
          rintro e xw_1 ⟨rfl, hb_1⟩
          have cc_1 := below_step bd0 hb_1
          have hC_1 : (fun w' : World => w'.cell? ⟨bp, 0, none⟩ = some (.slice (some ⟨G, 0, none⟩) ks.length ks.length) ∧ (w'.cell? ⟨bc, 0, none⟩ = some (.bool tc.s) ∧ w'.cell? ⟨bc, 1, none⟩ = some (.slice tc.a1 tc.n1 tc.c1) ∧ w'.cell? ⟨bc, 2, none⟩ = some (.slice tc.a2 tc.n2 tc.c2)) ∧ (w'.cell? ⟨bm, om + i * 3, none⟩ = some (.bool tm.s) ∧ w'.cell? ⟨bm, om + i * 3 + 1, none⟩ = some (.slice tm.a1 tm.n1 tm.c1) ∧ w'.cell? ⟨bm, om + i * 3 + 2, none⟩ = some (.slice tm.a2 tm.n2 tm.c2))) xw_1 := unhide HCC _ cc_1
          refine hK.out _ _ (fun _ => hC_1) ?_
          clear hK K
          (try simp only [Act.put, List.setIfInBounds_toArray, List.set_cons_zero, List.set_cons_succ])
          refine wpTill_pure (i := 8) (v := ?_) rfl (by kernel_rfl) (by kernel_rfl) (by kernel_rfl) (by kernel_rfl) (fun _ _ _ h => h) (Or.inl ⟨by rfl, ?_⟩) (fun _ => hC_1) ?_
          rotate_left
          · intro w hSw; clear hSw; go_simp; (try with_reducible rfl)
          (try simp only [List.getElem_toArray, List.getElem_cons_succ, List.getElem_cons_zero])
          (try simp only [Act.put, List.setIfInBounds_toArray, List.set_cons_zero, List.set_cons_succ])
          refine wpTill_pure (i := 9) (v := ?_) rfl (by kernel_rfl) (by kernel_rfl) (by kernel_rfl) (by kernel_rfl) (fun _ _ _ h => h) (Or.inl ⟨by rfl, ?_⟩) (fun _ => hC_1) ?_
          rotate_left
          · intro w hSw; clear hSw; go_simp; (try with_reducible rfl)
          (try simp only [List.getElem_toArray, List.getElem_cons_succ, List.getElem_cons_zero])
          (try simp only [Act.put, List.setIfInBounds_toArray, List.set_cons_zero, List.set_cons_succ])
          refine wpTill_pure (i := 10) (v := ?_) rfl (by kernel_rfl) (by kernel_rfl) (by kernel_rfl) (by kernel_rfl) (fun _ _ _ h => h) (Or.inl ⟨by rfl, ?_⟩) (fun _ => hC_1) ?_
          rotate_left
          · intro w hSw; clear hSw; go_simp; (try with_reducible rfl)
          (try simp only [List.getElem_toArray, List.getElem_cons_succ, List.getElem_cons_zero])
          (try simp only [Act.put, List.setIfInBounds_toArray, List.set_cons_zero, List.set_cons_succ])
          refine wpTill_pure (i := 11) (v := ?_) rfl (by kernel_rfl) (by kernel_rfl) (by kernel_rfl) (by kernel_rfl) (fun _ _ _ h => h) (Or.inl ⟨by rfl, ?_⟩) (fun _ => hC_1) ?_
          rotate_left
          · intro w hSw; clear hSw; go_simp; (try with_reducible rfl)
          (try simp only [List.getElem_toArray, List.getElem_cons_succ, List.getElem_cons_zero])
          (try simp only [Act.put, List.setIfInBounds_toArray, List.set_cons_zero, List.set_cons_succ])
          have S8 := (unhide HI3).sums.keep cc_1
          have ⟨⟨y0, y1, y2⟩, l0, l1, l2⟩ := S8.cells i (by omega)
          have FZ := S8.set i (by omega) zTri 0 (rat_zero _)
          have HBZ := hide (below_step (unhide HB1) FZ.bl)
          obtain ⟨W9, hW9⟩ : ∃ W, ((xw_1.setCell ⟨G, i * 3, none⟩ (.bool false)).setCell ⟨G, i * 3 + 1, none⟩ (.slice none 0 0)).setCell ⟨G, i * 3 + 2, none⟩ (.slice none 0 0) = W := ⟨_, rfl⟩
          have hW9' : ((xw_1.setCell ⟨G, i * 3, none⟩ (.bool zTri.s)).setCell ⟨G, i * 3 + 1, none⟩ (.slice zTri.a1 zTri.n1 zTri.c1)).setCell ⟨G, i * 3 + 2, none⟩ (.slice zTri.a2 zTri.n2 zTri.c2) = W9 := hW9
          rw [hW9'] at HBZ
          clear S8 FZ hb_1 hW9'
          refine wpTill_one (k := 12) (by kernel_rfl) rfl (fun K hK => ?_)
          (try simp only [List.getElem_toArray, List.getElem_cons_succ, List.getElem_cons_zero])
          go_simp
          refine hK.out _ _ (fun h => absurd (h.symm.trans (by kernel_rfl)) Bool.false_ne_true) ?_
          clear hK K
          (try simp only [Act.put, List.setIfInBounds_toArray, List.set_cons_zero, List.set_cons_succ])
          refine wpTill_one (k := 13) (by kernel_rfl) rfl (fun K hK => ?_)
          (try simp only [List.getElem_toArray, List.getElem_cons_succ, List.getElem_cons_zero])
          go_simp
          refine hK.out _ _ (fun h => absurd (h.symm.trans (by kernel_rfl)) Bool.false_ne_true) ?_
          clear hK K
          (try simp only [Act.put, List.setIfInBounds_toArray, List.set_cons_zero, List.set_cons_succ])
          refine wpTill_done (by kernel_rfl) ?_ _
          clear l0 l1 l2 y0 y1 y2 hW9 hC0 hC_1 cc_1 bd0 HCC HDV
          go_wp2
          exact bodyPost_ret (v := .tuple #[.slice none 0 0, .iface 56 (.int .i64 11)]) (by simp [results, Tryz.results6, go_sem]) rfl (Or.inr ⟨11, rfl, unhide HBZ⟩)
        · have HDV : Hid (∀ W, Below w3.heap.size w3 W → Calls Tryz.prog 19 #[.agg #[.bool tc.s, .slice tc.a1 tc.n1 tc.c1, .slice tc.a2 tc.n2 tc.c2], .agg #[.bool tm.s, .slice tm.a1 tm.n1 tm.c1, .slice tm.a2 tm.n2 tm.c2]] W fun e w' => ∃ v, e = .returned (.tuple #[v, .nilIface]) ∧ RatIs w' v (wrt cs ks i) ∧ Below W.heap.size W w') := fun W hW => by
            have h := divR_any tc.val tm.val _ _ W ((unhide HX3).2.below hW) ((unhide HRM).below hW) 40 ((unhide HRC).mono (by omega)) (mo_RS (unhide HSM) (by omega) hlt) (by rw [KKe]; omega) hz
            rw [← unhide HQ] at h
            exact h
          have HNZ2 : Hid (∀ j, j < i + 1 → (mo 1 ks j).num ≠ 0) := fun j hj => by
            rcases Nat.lt_or_ge j i with h | h
            · exact unhide HNZ j h
            · obtain rfl : j = i := by omega
              exact hz
          clear hz
          go_wp2_with fail
          refine wp_region_till (fun w' : World => w'.cell? ⟨bp, 0, none⟩ = some (.slice (some ⟨G, 0, none⟩) ks.length ks.length) ∧ (w'.cell? ⟨bc, 0, none⟩ = some (.bool tc.s) ∧ w'.cell? ⟨bc, 1, none⟩ = some (.slice tc.a1 tc.n1 tc.c1) ∧ w'.cell? ⟨bc, 2, none⟩ = some (.slice tc.a2 tc.n2 tc.c2)) ∧ (w'.cell? ⟨bm, om + i * 3, none⟩ = some (.bool tm.s) ∧ w'.cell? ⟨bm, om + i * 3 + 1, none⟩ = some (.slice tm.a1 tm.n1 tm.c1) ∧ w'.cell? ⟨bm, om + i * 3 + 2, none⟩ = some (.slice tm.a2 tm.n2 tm.c2))) 12 (by kernel_rfl) ?_
          have bd0 : Below w3.heap.size w3 w3.drew := (Below.refl _ _).drew
          have hC0 : (fun w' : World => w'.cell? ⟨bp, 0, none⟩ = some (.slice (some ⟨G, 0, none⟩) ks.length ks.length) ∧ (w'.cell? ⟨bc, 0, none⟩ = some (.bool tc.s) ∧ w'.cell? ⟨bc, 1, none⟩ = some (.slice tc.a1 tc.n1 tc.c1) ∧ w'.cell? ⟨bc, 2, none⟩ = some (.slice tc.a2 tc.n2 tc.c2)) ∧ (w'.cell? ⟨bm, om + i * 3, none⟩ = some (.bool tm.s) ∧ w'.cell? ⟨bm, om + i * 3 + 1, none⟩ = some (.slice tm.a1 tm.n1 tm.c1) ∧ w'.cell? ⟨bm, om + i * 3 + 2, none⟩ = some (.slice tm.a2 tm.n2 tm.c2))) w3.drew := unhide HCC _ bd0
          refine wpTill_take (i := 0) (v := ?_) rfl (by kernel_rfl) (by kernel_rfl) (by kernel_rfl) (by kernel_rfl) (by kernel_rfl) (by kernel_rfl) (fun _ _ _ h => h) (Or.inl ⟨by rfl, ?_⟩) hC0 ?_
          rotate_left
          · intro w hSw; (try dsimp only at hSw); obtain ⟨z0, ⟨z1, z2, z3⟩, z4, z5, z6⟩ := hSw; go_simp; (try with_reducible rfl)
          (try simp only [List.getElem_toArray, List.getElem_cons_succ, List.getElem_cons_zero])
          (try simp only [Act.put, List.setIfInBounds_toArray, List.set_cons_zero, List.set_cons_succ])
          refine wpTill_pure (i := 1) (v := ?_) rfl (by kernel_rfl) (by kernel_rfl) (by kernel_rfl) (by kernel_rfl) (fun _ _ _ h => h) (Or.inl ⟨by rfl, ?_⟩) (fun _ => hC0) ?_
          rotate_left
          · intro w hSw; clear hSw; go_simp; (try with_reducible rfl)
          (try simp only [List.getElem_toArray, List.getElem_cons_succ, List.getElem_cons_zero])
          (try simp only [Act.put, List.setIfInBounds_toArray, List.set_cons_zero, List.set_cons_succ])
          refine wpTill_take (i := 2) (v := ?_) rfl (by kernel_rfl) (by kernel_rfl) (by kernel_rfl) (by kernel_rfl) (by kernel_rfl) (by kernel_rfl) (fun _ _ _ h => h) (Or.inl ⟨by rfl, ?_⟩) hC0 ?_
          rotate_left
          · intro w hSw; (try dsimp only at hSw); obtain ⟨z0, ⟨z1, z2, z3⟩, z4, z5, z6⟩ := hSw; go_simp; (try with_reducible rfl)
          (try simp only [List.getElem_toArray, List.getElem_cons_succ, List.getElem_cons_zero])
          (try simp only [Act.put, List.setIfInBounds_toArray, List.set_cons_zero, List.set_cons_succ])
          refine wpTill_pure (i := 3) (v := ?_) rfl (by kernel_rfl) (by kernel_rfl) (by kernel_rfl) (by kernel_rfl) (fun _ _ _ h => h) (Or.inl ⟨by rfl, ?_⟩) (fun _ => hC0) ?_
          rotate_left
          · intro w hSw; clear hSw; go_simp; (try with_reducible rfl)
          (try simp only [List.getElem_toArray, List.getElem_cons_succ, List.getElem_cons_zero])
          (try simp only [Act.put, List.setIfInBounds_toArray, List.set_cons_zero, List.set_cons_succ])
          refine wpTill_pure (i := 4) (v := ?_) rfl (by kernel_rfl) (by kernel_rfl) (by kernel_rfl) (by kernel_rfl) (fun _ _ _ h => h) (Or.inl ⟨by rfl, ?_⟩) (fun _ => hC0) ?_
          rotate_left
          · intro w hSw; clear hSw; go_simp; (try with_reducible rfl)
          (try simp only [List.getElem_toArray, List.getElem_cons_succ, List.getElem_cons_zero])
          (try simp only [Act.put, List.setIfInBounds_toArray, List.set_cons_zero, List.set_cons_succ])
          refine wpTill_pure (i := 5) (v := ?_) rfl (by kernel_rfl) (by kernel_rfl) (by kernel_rfl) (by kernel_rfl) (fun _ _ _ h => h) (Or.inl ⟨by rfl, ?_⟩) (fun _ => hC0) ?_
          rotate_left
          · intro w hSw; clear hSw; go_simp; (try with_reducible rfl)
          (try simp only [List.getElem_toArray, List.getElem_cons_succ, List.getElem_cons_zero])
          (try simp only [Act.put, List.setIfInBounds_toArray, List.set_cons_zero, List.set_cons_succ])
          refine wpTill_take (i := 6) (v := ?_) rfl (by kernel_rfl) (by kernel_rfl) (by kernel_rfl) (by kernel_rfl) (by kernel_rfl) (by kernel_rfl) (fun _ _ _ h => h) (Or.inl ⟨by rfl, ?_⟩) hC0 ?_
          rotate_left
          · intro w hSw; (try dsimp only at hSw); obtain ⟨z0, ⟨z1, z2, z3⟩, z4, z5, z6⟩ := hSw; go_simp; (try with_reducible rfl)
          (try simp only [List.getElem_toArray, List.getElem_cons_succ, List.getElem_cons_zero])
          (try simp only [Act.put, List.setIfInBounds_toArray, List.set_cons_zero, List.set_cons_succ])
          refine wpTill_one (k := 7) (by kernel_rfl) rfl (fun K hK => ?_)
          (try simp only [List.getElem_toArray, List.getElem_cons_succ, List.getElem_cons_zero])
          go_simp
          refine (unhide HDV _ bd0).mono ?_
          rintro e xw_1 ⟨xv_1, rfl, hv_1, hb_1⟩
          have cc_1 := below_step bd0 hb_1
          have hC_1 : (fun w' : World => w'.cell? ⟨bp, 0, none⟩ = some (.slice (some ⟨G, 0, none⟩) ks.length ks.length) ∧ (w'.cell? ⟨bc, 0, none⟩ = some (.bool tc.s) ∧ w'.cell? ⟨bc, 1, none⟩ = some (.slice tc.a1 tc.n1 tc.c1) ∧ w'.cell? ⟨bc, 2, none⟩ = some (.slice tc.a2 tc.n2 tc.c2)) ∧ (w'.cell? ⟨bm, om + i * 3, none⟩ = some (.bool tm.s) ∧ w'.cell? ⟨bm, om + i * 3 + 1, none⟩ = some (.slice tm.a1 tm.n1 tm.c1) ∧ w'.cell? ⟨bm, om + i * 3 + 2, none⟩ = some (.slice tm.a2 tm.n2 tm.c2))) xw_1 := unhide HCC _ cc_1
          refine hK.out _ _ (fun _ => hC_1) ?_
          clear hK K
          (try simp only [Act.put, List.setIfInBounds_toArray, List.set_cons_zero, List.set_cons_succ])
          obtain ⟨tn, rfl, rn⟩ := tri_of hv_1
          simp only [Tri.val]
          refine wpTill_pure (i := 8) (v := ?_) rfl (by kernel_rfl) (by kernel_rfl) (by kernel_rfl) (by kernel_rfl) (fun _ _ _ h => h) (Or.inl ⟨by rfl, ?_⟩) (fun _ => hC_1) ?_
          rotate_left
          · intro w hSw; clear hSw; go_simp; (try with_reducible rfl)
          (try simp only [List.getElem_toArray, List.getElem_cons_succ, List.getElem_cons_zero])
          (try simp only [Act.put, List.setIfInBounds_toArray, List.set_cons_zero, List.set_cons_succ])
          refine wpTill_pure (i := 9) (v := ?_) rfl (by kernel_rfl) (by kernel_rfl) (by kernel_rfl) (by kernel_rfl) (fun _ _ _ h => h) (Or.inl ⟨by rfl, ?_⟩) (fun _ => hC_1) ?_
          rotate_left
          · intro w hSw; clear hSw; go_simp; (try with_reducible rfl)
          (try simp only [List.getElem_toArray, List.getElem_cons_succ, List.getElem_cons_zero])
          (try simp only [Act.put, List.setIfInBounds_toArray, List.set_cons_zero, List.set_cons_succ])
          refine wpTill_pure (i := 10) (v := ?_) rfl (by kernel_rfl) (by kernel_rfl) (by kernel_rfl) (by kernel_rfl) (fun _ _ _ h => h) (Or.inl ⟨by rfl, ?_⟩) (fun _ => hC_1) ?_
          rotate_left
          · intro w hSw; clear hSw; go_simp; (try with_reducible rfl)
          (try simp only [List.getElem_toArray, List.getElem_cons_succ, List.getElem_cons_zero])
          (try simp only [Act.put, List.setIfInBounds_toArray, List.set_cons_zero, List.set_cons_succ])
          refine wpTill_pure (i := 11) (v := ?_) rfl (by kernel_rfl) (by kernel_rfl) (by kernel_rfl) (by kernel_rfl) (fun _ _ _ h => h) (Or.inl ⟨by rfl, ?_⟩) (fun _ => hC_1) ?_
          rotate_left
          · intro w hSw; clear hSw; go_simp; (try with_reducible rfl)
          (try simp only [List.getElem_toArray, List.getElem_cons_succ, List.getElem_cons_zero])
          (try simp only [Act.put, List.setIfInBounds_toArray, List.set_cons_zero, List.set_cons_succ])
          have S8 := (unhide HI3).sums.keep cc_1
          have O8 := (unhide HO3).keep cc_1
          have I8 := (unhide HI3).keep cc_1
          have ⟨⟨y0, y1, y2⟩, l0, l1, l2⟩ := S8.cells i (by omega)
          have FZ := S8.set i (by omega) tn _ rn
          have FO : OwnI (((xw_1.setCell ⟨G, i * 3, none⟩ (.bool tn.s)).setCell ⟨G, i * 3 + 1, none⟩ (.slice tn.a1 tn.n1 tn.c1)).setCell ⟨G, i * 3 + 2, none⟩ (.slice tn.a2 tn.n2 tn.c2)) g ks.length _ := O8.keptBy (by rw [Below.heap_setCell _ _ _ _ (Ne.symm (unhide HGG)), Below.heap_setCell _ _ _ _ (Ne.symm (unhide HGG)), Below.heap_setCell _ _ _ _ (Ne.symm (unhide HGG))])
          have FB : (((xw_1.setCell ⟨G, i * 3, none⟩ (.bool tn.s)).setCell ⟨G, i * 3 + 1, none⟩ (.slice tn.a1 tn.n1 tn.c1)).setCell ⟨G, i * 3 + 2, none⟩ (.slice tn.a2 tn.n2 tn.c2)).heap[bp]? = some (.cells #[.slice (some ⟨G, 0, none⟩) ks.length ks.length] 30) := by rw [Below.heap_setCell _ _ _ _ (unhide HBGG), Below.heap_setCell _ _ _ _ (unhide HBGG), Below.heap_setCell _ _ _ _ (unhide HBGG)]; exact I8.box
          rw [fill_set (wrt cs ks)] at FZ
          obtain ⟨W9, hW9⟩ : ∃ W, ((xw_1.setCell ⟨G, i * 3, none⟩ (.bool tn.s)).setCell ⟨G, i * 3 + 1, none⟩ (.slice tn.a1 tn.n1 tn.c1)).setCell ⟨G, i * 3 + 2, none⟩ (.slice tn.a2 tn.n2 tn.c2) = W := ⟨_, rfl⟩
          rw [hW9] at FZ FO FB
          have g0 := FO.cell hlt
          have f0 := FO.free i
          have O9 := FO.set i (i : Int)
          have I9 : WInv w1 G bp ks.length (us.set i tn) (fill (wrt cs ks) ks.length (i + 1)) (W9.setCell ⟨g, i, none⟩ (.int .i64 (i : Int))) := ⟨FZ.ints FO (unhide HGG) (unhide HGE), by rw [Below.heap_setCell _ _ _ _ (unhide HBG)]; exact FB⟩
          obtain ⟨W10, hW10⟩ : ∃ W, W9.setCell ⟨g, i, none⟩ (.int .i64 (i : Int)) = W := ⟨_, rfl⟩
          rw [hW10] at O9 I9
          have HI7 := hide I9
          have HO7 : Hid (OwnI W10 g ks.length (fun j => (((if j < i + 1 then j else 0 : Nat)) : Int))) := O9.congr (fun j hj => by
            unfold updI
            by_cases h : j = i
            · subst h; rw [if_pos rfl, if_pos (by omega)]
            · rw [if_neg h]
              dsimp only
              by_cases h' : j < i
              · rw [if_pos h', if_pos (by omega)]
              · rw [if_neg h', if_neg (by omega)])
          clear S8 O8 I8 FZ FO FB O9 I9 rn hv_1 hb_1
          refine wpTill_one (k := 12) (by kernel_rfl) rfl (fun K hK => ?_)
          (try simp only [List.getElem_toArray, List.getElem_cons_succ, List.getElem_cons_zero])
          go_simp
          refine hK.out _ _ (fun h => absurd (h.symm.trans (by kernel_rfl)) Bool.false_ne_true) ?_
          clear hK K
          (try simp only [Act.put, List.setIfInBounds_toArray, List.set_cons_zero, List.set_cons_succ])
          refine wpTill_one (k := 13) (by kernel_rfl) rfl (fun K hK => ?_)
          (try simp only [List.getElem_toArray, List.getElem_cons_succ, List.getElem_cons_zero])
          go_simp
          refine hK.out _ _ (fun h => absurd (h.symm.trans (by kernel_rfl)) Bool.false_ne_true) ?_
          clear hK K
          (try simp only [Act.put, List.setIfInBounds_toArray, List.set_cons_zero, List.set_cons_succ])
          refine wpTill_done (by kernel_rfl) ?_ _
          clear l0 l1 l2 y0 y1 y2 hW9 hC0 hC_1 cc_1 bd0 HCC HDV
          go_wp2_with fail
          exact ⟨⟨i + 1, _, by go_num, hlt, unhide HO7, unhide HI7, unhide HNZ2⟩, by simp [intOf]; omega⟩
    · obtain rfl : i = ks.length := by omega
      have e1 : ¬ (ks.length : Int) < (ks.length : Int) := by omega
      have HID : Hid (OwnI wr g ks.length (fun j => ((j : Nat) : Int))) := own.congr (fun j hj => by rw [if_pos hj])
      have CI : CmpInv g ks.length (wrt cs ks) ⟨bp, 0, none⟩ (WInv w1 G bp ks.length us (row (wrt cs ks) ks.length)) :=
        ⟨fun W W' h hb => h.keep hb, fun W j x lf h hg => ⟨h.sums.ints hg (unhide HGG) (unhide HGE), by rw [Below.heap_setCell _ _ _ _ (unhide HBG)]; exact h.box⟩, fun a b W ha hb h => by
          have hh := best1_any a b ks.length G bp 41 us (row (wrt cs ks) ks.length) w1 W (row_length _ _) ha hb h (fun j hj => by
            rw [row_get hj]
            exact (RS.div' (unhide HCR j (by have := unhide HCL; omega)) (mo_RS (unhide HSM) (by omega) hj) (unhide HNZ j hj)).mono (by omega)) (by rw [KKe]; omega)
          rw [row_get ha, row_get hb] at hh
          exact hh⟩
      have HSO := hide (sortStable_any g ks.length (fun j => j) (wrt cs ks) ⟨bp, 0, none⟩ w1 wr _ CI hl (by omega) (fun i hi => hi) (unhide HID) inv.sums.bl (unhide HGE) inv)
      clear own inv CI
      go_wp2_with fail
      refine (unhide HSO).mono ?_
      rintro e w9 ⟨rfl, f, o9, f9, s9, b9, i9⟩
      have HO9 := hide o9
      have HF9 := hide f9
      have HS9 := hide s9
      have HB9 := hide (below_step (unhide HB1) b9)
      have HGE2 := hide (Nat.le_trans (unhide HB1).size (unhide HGE))
      clear o9 f9 s9 b9 i9 HSO
      go_wp2
      exact bodyPost_ret (v := .tuple #[.slice (some ⟨g, 0, none⟩) ks.length ks.length, .nilIface]) (by simp [results, Tryz.results6, go_sem]) rfl (Or.inl ⟨unhide HG, unhide HNZ, g, f, rfl, unhide HO9, unhide HF9, unhide HS9, unhide HB9, unhide HGE2⟩)
end Go.Proofs.YtbboacmjbffmhaaGreatDoor
