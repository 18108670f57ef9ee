/- Calls that share lines: Share. -/
import Derived.Test.YtigilnkcjblhcaaDoorQ15
import Derived.Test.YtigilnkcjblhcaaDoorQ6
namespace Go.Proofs.YtigilnkcjblhcaaDoor
open Go.RowKit Go.Sort Go.Shelf

/-- The loads by size, as a function. -/
def bOf (ks : List (Rat × Int)) (L : Nat) (s : Nat) : Rat := atR (ldl ks L ks.length) s
theorem bOf_nn {ks : List (Rat × Int)} (ok : OkK ks) (L : Nat) : ∀ s, 0 ≤ bOf ks L s := fun s => by
  rcases Nat.lt_or_ge s (L + 1) with h | h
  · exact ldl_nn ok L ks.length (Nat.le_refl _) s h
  · unfold bOf atR
    rw [List.getElem!_eq_getElem?_getD, List.getElem?_eq_none (by rw [ldl_length]; exact h)]
    exact (show (0 : Rat) ≤ 0 by decide)
def takenV (ks : List (Rat × Int)) (L : Nat) (j : Nat) : Rat := Bth.uv (bOf ks L) j / Bth.us (bOf ks L) L
def lostV (ks : List (Rat × Int)) (L : Nat) (i : Nat) : Rat := Bth.gone (bOf ks L) L (ks[i]!).2.toNat
/-- What Share says of kinds that may be. -/
def ShareSays (w : World) (ks : List (Rat × Int)) (L : Nat) (e : Ending) (w' : World) : Prop := ∃ vt vl, e = .returned (.tuple #[vt, vl, .nilIface]) ∧ LawIs w' vt (row (takenV ks L) (L + 1)) ∧ LawIs w' vl (row (lostV ks L) ks.length) ∧ Below w.heap.size w w'

set_option maxHeartbeats 8000000 in
set_option maxRecDepth 100000 in
set_option linter.unusedSimpArgs false in
theorem share_any (v : Value) (ks : List (Rat × Int)) (L : Nat) (w : World) (h : KindsAre w v ks) (ok : OkK ks) (hr : ∀ j, j < ks.length → RS (ks[j]!).1 1) (hl : ks.length ≤ 6) (hL : L ≤ 12) :
    Calls Tryd.prog 21 #[v, .int .i64 (L : Int)] w (ShareSays w ks L) := by
  have KKe : KK = 1099511627776 := rfl
  have HKS := hide h
  obtain ⟨a, c, rfl, h1, h2, h3⟩ := h
  have H3 := hide h3
  have HOK := hide ok
  have HR := hide hr
  have f1 : ¬ (20 : Int) < (ks.length : Int) := by omega
  have f2 : ¬ (L : Int) < 0 := by omega
  have f3 : ¬ (100 : Int) < (L : Int) := by omega
  clear h3 ok hr
  go_enter Tryd.func21, Tryd.ntmps21
  go_wp2_with fail
  go_loopw [27] (fun vi wr => ∃ i : Nat, vi = .int .i64 (i : Int) ∧ i ≤ ks.length ∧ Below w.heap.size w wr ) (fun vi _ => ks.length - (intOf vi).toNat)
  case atStart => exact ⟨0, rfl, Nat.zero_le _, Below.refl _ _⟩
  case round =>
    obtain ⟨i, rfl, hi, hb⟩ := hrel
    by_cases hlt : i < ks.length
    · obtain ⟨b, o, rfl, hblt, hcs⟩ := unhide H3 (by omega)
      obtain ⟨tk, ⟨k0, k1, k2, k3⟩, kr⟩ := hcs i hlt
      obtain ⟨q, hq⟩ : ∃ q, (ks[i]!).1 = q := ⟨_, rfl⟩
      obtain ⟨z, hz⟩ : ∃ z : Int, (ks[i]!).2 = z := ⟨_, rfl⟩
      rw [hq] at kr
      rw [hz] at k3
      rw [← hb.cell (p := ⟨b, o + i * 4, none⟩) hblt] at k0
      rw [← hb.cell (p := ⟨b, o + i * 4 + 1, none⟩) hblt] at k1
      rw [← hb.cell (p := ⟨b, o + i * 4 + 2, none⟩) hblt] at k2
      rw [← hb.cell (p := ⟨b, o + i * 4 + 3, none⟩) hblt] at k3
      have Y0 := KBox.new z (kr.below hb)
      have bA := alloc_below wr (.cells #[.bool tk.s, .slice tk.a1 tk.n1 tk.c1, .slice tk.a2 tk.n2 tk.c2, .int .i64 z] 56)
      have HB1 := hide (below_step hb bA)
      obtain ⟨W2, hW2⟩ : ∃ W, wr.alloc (.cells #[.bool tk.s, .slice tk.a1 tk.n1 tk.c1, .slice tk.a2 tk.n2 tk.c2, .int .i64 z] 56) = W := ⟨_, rfl⟩
      obtain ⟨bk, hbk⟩ : ∃ g, wr.heap.size = g := ⟨_, rfl⟩
      rw [hW2] at Y0 HB1
      rw [hbk] at Y0
      have HY1 := hide Y0
      have e1 : (i : Int) < (ks.length : Int) := by omega
      have e0 : (0 : Int) ≤ (i : Int) := by omega
      have ⟨c0, c1, c2, c3⟩ := Y0.cells _ (Below.refl _ _)
      have hsg := sign_any tk.val q W2 Y0.2
      have HQ1 := hide hq
      have HZ1 := hide hz
      simp only [Tri.val] at hsg
      clear Y0 bA kr hcs hq hz hb
      have ⟨ok1, ok2, ok3⟩ := unhide HOK i hlt
      rw [unhide HQ1] at ok1
      rw [unhide HZ1] at ok2 ok3
      have HSG : Hid (∃ x : Int, 0 ≤ x ∧ x ≤ 1 ∧ Calls Tryd.prog 16 #[.agg #[.bool tk.s, .slice tk.a1 tk.n1 tk.c1, .slice tk.a2 tk.n2 tk.c2]] W2 fun e w' => e = .returned (.int .i64 x) ∧ Below W2.heap.size W2 w') := ⟨q.num.sign, Int.sign_nonneg_iff.2 ok1, (sign_bd _).2, hsg⟩
      obtain ⟨x, x0, x1, hx⟩ := unhide HSG
      have HX := hide hx
      clear hsg HSG hx ok1
      go_wp2_with fail
      clear hW2 hbk k0 k1 k2 k3 c0 c1 c2 c3
      refine (unhide HX).mono ?_
      rintro e w3 ⟨rfl, hb3⟩
      have ⟨c0, c1, c2, c3⟩ := (unhide HY1).cells _ hb3
      have HB3 := hide (below_step (unhide HB1) hb3)
      clear hb3 HX
      go_wp2
      exact ⟨⟨i + 1, by go_num, hlt, unhide HB3⟩, by simp [intOf]; omega⟩
    · obtain rfl : i = ks.length := by omega
      have e1 : ¬ (ks.length : Int) < (ks.length : Int) := by omega
      have HLO := hide (loads_any _ ks L wr ((unhide HKS).below hb) (unhide HOK) (unhide HR) hl hL)
      have HB1 := hide hb
      clear hb
      go_wp2_with fail
      refine (unhide HLO).mono ?_
      rintro e w1 ⟨v1, rfl, hv1, hb1⟩
      have hrl : ∀ j, j < (ldl ks L ks.length).length → RS (ldl ks L ks.length)[j]! 20 := fun j hj => (ldl_RS (unhide HOK) (unhide HR) L ks.length (Nat.le_refl _) j (by rw [ldl_length] at hj; exact hj)).mono (by omega)
      have HUS := hide (uses_any v1 _ w1 hv1 hrl (by rw [ldl_length]; omega) (by rw [ldl_length]; omega))
      have HB2 := hide (below_step (unhide HB1) hb1)
      obtain ⟨av, cv, rfl, _, _, _⟩ := hv1
      clear hb1 HLO HB1
      go_wp2_with fail
      refine (unhide HUS).mono ?_
      rintro e w2 ⟨v2, rfl, hv2, hb2⟩
      rw [ldl_length] at hv2
      rw [show atR (ldl ks L ks.length) = bOf ks L from rfl] at hv2
      have HV2 := hide hv2
      have hru : ∀ j, j < L + 1 → RS (Bth.uv (bOf ks L) j) 100000 := fun j hj => (uv_RS (b := bOf ks L) (J := 20) (M := L) (by omega) (fun s hs => (show RS (atR (ldl ks L ks.length) s) 20 from hrl s (by rw [ldl_length]; omega))) j (by omega)).mono (ubd_fit (show j ≤ 12 by omega))
      have HRU := hide hru
      have HB3 := hide (below_step (unhide HB2) hb2)
      clear hb2 HUS HB2 hrl hru hv2
      have hrr : ∀ j, j < (row (Bth.uv (bOf ks L)) (L + 1)).length → RS (row (Bth.uv (bOf ks L)) (L + 1))[j]! 100000 := fun j hj => by rw [row_length] at hj; rw [row_get hj]; exact unhide HRU j hj
      have HSM := hide (sums_any v2 _ 100000 w2 (unhide HV2) hrr (by rw [row_length, KKe]; omega) (by rw [row_length]; omega))
      obtain ⟨a2, cc2, rfl, p1, p2, p3⟩ := unhide HV2
      rw [row_length] at p1 HSM HV2 ⊢
      clear p3 hrr
      go_wp2_with fail
      refine (unhide HSM).mono ?_
      rintro e w3 ⟨v3, rfl, hv3, hb3⟩
      have HV3 : Hid (LawIs w3 v3 (row (Bth.us (bOf ks L)) (L + 1))) := by
        show LawIs _ _ _
        rw [show row (Bth.us (bOf ks L)) (L + 1) = row (upto (row (Bth.uv (bOf ks L)) (L + 1))) (L + 1) from row_congr (fun j hj => by unfold upto Bth.us; rw [qsum_row _ _ _ (by omega)])]
        exact hv3
      have HV2b := hide ((unhide HV2).below hb3)
      have HB4 := hide (below_step (unhide HB3) hb3)
      clear hb3 HSM HB3 HV2 hv3
      obtain ⟨a3, cc3, rfl, r1, r2, r3⟩ := unhide HV3
      rw [row_length] at r1 r3 ⊢
      have HR3 := hide r3
      clear r3
      have qmk := make_ratios (ks.length : Int) (by omega) (by omega) w3
      rw [Int.toNat_natCast] at qmk
      have S0 := SumsAt.start w3 w3 ks.length (Below.refl _ _)
      rw [fill_zero (lostV ks L) ks.length] at S0
      obtain ⟨W4, hW4⟩ : ∃ W, w3.alloc (.cells (tcells (List.replicate ks.length zTri)).toArray 34) = W := ⟨_, rfl⟩
      obtain ⟨G, hG⟩ : ∃ G, w3.heap.size = G := ⟨_, rfl⟩
      rw [hW4, hG] at qmk S0
      have HS0 := hide S0
      have HGE := hide hG
      clear S0 hG hW4
      go_wp2_with fail
      clear qmk
      have hb0 := bOf_nn (unhide HOK) L
      have HB0 := hide hb0
      have usR : ∀ j, j ≤ L → RS (Bth.us (bOf ks L) j) 1500000 := fun j hj => by
        have hrr : ∀ j, j < (row (Bth.uv (bOf ks L)) (L + 1)).length → RS (row (Bth.uv (bOf ks L)) (L + 1))[j]! 100000 := fun j hj => by rw [row_length] at hj; rw [row_get hj]; exact unhide HRU j hj
        have h := qsum_RS hrr (j + 1) (by rw [row_length]; omega)
        rw [qsum_row _ _ _ (by omega)] at h
        exact h.mono (by omega)
      have HUR := hide usR
      have HUZ := hide (pos_num (Bth.us_pos hb0 L))
      clear hb0 usR
      go_loopw [57] (fun vi wr => ∃ (i : Nat) (us : List Tri), vi = .int .i64 (i : Int) ∧ i ≤ ks.length ∧ SumsAt w3 wr G us (fill (lostV ks L) ks.length i)) (fun vi _ => ks.length - (intOf vi).toNat)
      case atStart => exact ⟨0, _, rfl, Nat.zero_le _, unhide HS0⟩
      case round =>
        obtain ⟨i, us, rfl, hi, S⟩ := hrel
        have hul : us.length = ks.length := by rw [S.len, fill_length]
        clear HS0
        by_cases hlt : i < ks.length
        · obtain ⟨b, o, rfl, hblt, hcs⟩ := unhide H3 (by omega)
          obtain ⟨tk, ⟨k0, k1, k2, k3⟩, kr⟩ := hcs i hlt
          have ⟨ok1, ok2, ok3⟩ := unhide HOK i hlt
          obtain ⟨z, hz⟩ : ∃ z : Nat, (ks[i]!).2 = (z : Int) := ⟨(ks[i]!).2.toNat, by omega⟩
          have ELO : lostV ks L i = Bth.gone (bOf ks L) L z := by unfold lostV; rw [hz, Int.toNat_natCast]
          rw [hz] at k3 ok2 ok3
          have bwr := below_step (unhide HB4) S.bl
          rw [← bwr.cell (p := ⟨b, o + i * 4, none⟩) hblt] at k0
          rw [← bwr.cell (p := ⟨b, o + i * 4 + 1, none⟩) hblt] at k1
          rw [← bwr.cell (p := ⟨b, o + i * 4 + 2, none⟩) hblt] at k2
          rw [← bwr.cell (p := ⟨b, o + i * 4 + 3, none⟩) hblt] at k3
          have Y0 := KBox.new (z : Int) (kr.below bwr)
          have bA := alloc_below wr (.cells #[.bool tk.s, .slice tk.a1 tk.n1 tk.c1, .slice tk.a2 tk.n2 tk.c2, .int .i64 (z : Int)] 56)
          have S1 := S.keep bA
          have hGg : G < wr.heap.size := (Array.getElem?_eq_some_iff.1 S.row).1
          obtain ⟨W2, hW2⟩ : ∃ W, wr.alloc (.cells #[.bool tk.s, .slice tk.a1 tk.n1 tk.c1, .slice tk.a2 tk.n2 tk.c2, .int .i64 (z : Int)] 56) = W := ⟨_, rfl⟩
          obtain ⟨bk, hbk⟩ : ∃ g, wr.heap.size = g := ⟨_, rfl⟩
          rw [hW2] at Y0 S1
          rw [hbk] at Y0 hGg
          have HS1 := hide S1
          have HY1 := hide Y0
          have HELO := hide ELO
          have HGK := hide (Nat.ne_of_gt hGg)
          have e1 : (i : Int) < (ks.length : Int) := by omega
          have e0 : (0 : Int) ≤ (i : Int) := by omega
          clear S Y0 S1 bA kr hcs hz ELO ok1 bwr hGg
          go_wp2_with fail
          clear hW2 hbk k0 k1 k2 k3
          refine (whole_any 1 (by decide) (by decide) W2).mono ?_
          rintro e w6 ⟨v6, rfl, hv6, hb6⟩
          obtain ⟨t1, rfl, r1'⟩ := tri_of hv6
          simp only [Tri.val]
          have S2 := (unhide HS1).keep hb6
          have Y2 := (unhide HY1).keep hb6
          have ⟨⟨y0, y1, y2⟩, l0, l1, l2⟩ := S2.cells i (by omega)
          have FZ := S2.set i (by omega) t1 ((1 : Int) : Rat) r1'
          have FY : KBox _ bk tk _ (z : Int) := ⟨by rw [Below.heap_setCell _ _ _ _ (unhide HGK), Below.heap_setCell _ _ _ _ (unhide HGK), Below.heap_setCell _ _ _ _ (unhide HGK)]; exact Y2.1, Y2.2.rowed S2.row (i * 3) (i * 3 + 1) (i * 3 + 2) (.bool t1.s) (.slice t1.a1 t1.n1 t1.c1) (.slice t1.a2 t1.n2 t1.c2)⟩
          obtain ⟨W7, hW7⟩ : ∃ W, ((w6.setCell ⟨G, i * 3, none⟩ (.bool t1.s)).setCell ⟨G, i * 3 + 1, none⟩ (.slice t1.a1 t1.n1 t1.c1)).setCell ⟨G, i * 3 + 2, none⟩ (.slice t1.a2 t1.n2 t1.c2) = W := ⟨_, rfl⟩
          rw [hW7] at FZ FY
          have HS7 := hide FZ
          have HY7 := hide FY
          have ⟨c0, c1, c2, c3⟩ := FY.cells _ (Below.refl _ _)
          clear S2 Y2 FZ FY r1' hv6 hb6 HS1 HY1
          by_cases hzL : z ≤ L
          · obtain ⟨m, hm⟩ : ∃ m, L = m + z := ⟨L - z, by omega⟩
            obtain ⟨b3, o3, rfl, hb3, hc3⟩ := unhide HR3 (by omega)
            obtain ⟨xs, xp1, xp2, xn1, xd1, xn2, xd2, xk0, xk1, xk2, xr⟩ := hc3 m (by omega)
            obtain ⟨tx, rfl, rfl, rfl, rfl, rfl, rfl, rfl⟩ : ∃ t : Tri, xs = t.s ∧ xp1 = t.a1 ∧ xp2 = t.a2 ∧ xn1 = t.n1 ∧ xd1 = t.c1 ∧ xn2 = t.n2 ∧ xd2 = t.c2 := ⟨⟨xs, xp1, xp2, xn1, xd1, xn2, xd2⟩, rfl, rfl, rfl, rfl, rfl, rfl, rfl⟩
            obtain ⟨ys, yp1, yp2, yn1, yd1, yn2, yd2, yk0, yk1, yk2, yr⟩ := hc3 L (by omega)
            obtain ⟨ty, rfl, rfl, rfl, rfl, rfl, rfl, rfl⟩ : ∃ t : Tri, ys = t.s ∧ yp1 = t.a1 ∧ yp2 = t.a2 ∧ yn1 = t.n1 ∧ yd1 = t.c1 ∧ yn2 = t.n2 ∧ yd2 = t.c2 := ⟨⟨ys, yp1, yp2, yn1, yd1, yn2, yd2⟩, rfl, rfl, rfl, rfl, rfl, rfl, rfl⟩
            rw [row_get (by omega)] at xr yr
            have b37 := (unhide HS7).bl
            have hl7 : (us.set i t1).length = ks.length := by rw [List.length_set]; exact hul
            obtain ⟨sk0, _⟩ := (unhide HS7).cells i (by omega)
            have rk := (unhide HS7).rat i (by omega)
            have et1 : (us.set i t1)[i]! = t1 := by simp [show i < us.length by omega]
            have eq1 : ((fill (lostV ks L) ks.length i).set i ((1 : Int) : Rat))[i]! = ((1 : Int) : Rat) := by rw [set_get (by rw [fill_length]; exact hlt), if_pos rfl]
            rw [et1] at sk0 rk
            rw [eq1] at rk
            have hGlt : G < W7.heap.size := (Array.getElem?_eq_some_iff.1 (unhide HS7).row).1
            have HCC : Hid (∀ W, Below W7.heap.size W7 W → (fun w' : World => (w'.cell? ⟨bk, 0, none⟩ = some (.bool tk.s) ∧ w'.cell? ⟨bk, 1, none⟩ = some (.slice tk.a1 tk.n1 tk.c1) ∧ w'.cell? ⟨bk, 2, none⟩ = some (.slice tk.a2 tk.n2 tk.c2) ∧ w'.cell? ⟨bk, 3, none⟩ = some (.int .i64 (z : Int))) ∧ (w'.cell? ⟨G, i * 3, none⟩ = some (.bool t1.s) ∧ w'.cell? ⟨G, i * 3 + 1, none⟩ = some (.slice t1.a1 t1.n1 t1.c1) ∧ w'.cell? ⟨G, i * 3 + 2, none⟩ = some (.slice t1.a2 t1.n2 t1.c2)) ∧ (w'.cell? ⟨b3, o3 + m * 3, none⟩ = some (.bool tx.s) ∧ w'.cell? ⟨b3, o3 + m * 3 + 1, none⟩ = some (.slice tx.a1 tx.n1 tx.c1) ∧ w'.cell? ⟨b3, o3 + m * 3 + 2, none⟩ = some (.slice tx.a2 tx.n2 tx.c2)) ∧ (w'.cell? ⟨b3, o3 + L * 3, none⟩ = some (.bool ty.s) ∧ w'.cell? ⟨b3, o3 + L * 3 + 1, none⟩ = some (.slice ty.a1 ty.n1 ty.c1) ∧ w'.cell? ⟨b3, o3 + L * 3 + 2, none⟩ = some (.slice ty.a2 ty.n2 ty.c2))) W) := fun W hW => by
              have bc := below_step b37 hW
              refine ⟨(unhide HY7).cells W hW, ?_, ?_, ?_⟩
              · rw [hW.cell (p := ⟨G, i * 3, none⟩) hGlt, hW.cell (p := ⟨G, i * 3 + 1, none⟩) hGlt, hW.cell (p := ⟨G, i * 3 + 2, none⟩) hGlt]; exact sk0
              · rw [bc.cell (p := ⟨b3, o3 + m * 3, none⟩) hb3, bc.cell (p := ⟨b3, o3 + m * 3 + 1, none⟩) hb3, bc.cell (p := ⟨b3, o3 + m * 3 + 2, none⟩) hb3]; exact ⟨xk0, xk1, xk2⟩
              · rw [bc.cell (p := ⟨b3, o3 + L * 3, none⟩) hb3, bc.cell (p := ⟨b3, o3 + L * 3 + 1, none⟩) hb3, bc.cell (p := ⟨b3, o3 + L * 3 + 2, none⟩) hb3]; exact ⟨yk0, yk1, yk2⟩
            have HRX := hide (xr.below b37)
            have HRY := hide (yr.below b37)
            have HR1 := hide rk
            have HDV : Hid (∀ W, Below W7.heap.size W7 W → Calls Tryd.prog 23 #[.agg #[.bool tx.s, .slice tx.a1 tx.n1 tx.c1, .slice tx.a2 tx.n2 tx.c2], .agg #[.bool ty.s, .slice ty.a1 ty.n1 ty.c1, .slice ty.a2 ty.n2 ty.c2]] W fun e w' => ∃ v, e = .returned v ∧ RatIs w' v (Bth.us (bOf ks L) m / Bth.us (bOf ks L) L) ∧ Below W.heap.size W w') := fun W hW => bdivided_any _ _ _ _ W ((unhide HRX).below hW) ((unhide HRY).below hW) 1500000 (unhide HUR m (by omega)) (unhide HUR L (Nat.le_refl _)) (by rw [KKe]; omega) (unhide HUZ)
            have hdr := (RS.div' (unhide HUR m (by omega)) (unhide HUR L (Nat.le_refl _)) (unhide HUZ)).mono (show 1500000 + 1500000 ≤ 3000000 by omega)
            have HSB : Hid (∀ W v (hW : Below W7.heap.size W7 W) (hv : RatIs W v (Bth.us (bOf ks L) m / Bth.us (bOf ks L) L)), Calls Tryd.prog 19 #[.agg #[.bool t1.s, .slice t1.a1 t1.n1 t1.c1, .slice t1.a2 t1.n2 t1.c2], v] W fun e w' => ∃ v, e = .returned v ∧ RatIs w' v (lostV ks L i) ∧ Below W.heap.size W w') := fun W v hW hv => by
              have h := subR_any t1.val v _ _ W ((unhide HR1).below hW) hv 3000000 (onei_RS.mono (by omega)) hdr (by rw [KKe]; omega)
              have e : lostV ks L i = ((1 : Int) : Rat) - Bth.us (bOf ks L) m / Bth.us (bOf ks L) L := by
                rw [unhide HELO]
                unfold Bth.gone
                rw [if_pos hzL, show L - z = m by omega]
                rfl
              rw [e]
              exact h
            have j1 : (z : Int) ≤ (L : Int) := by omega
            have j4 : IntKind.i64.wrap ((L : Int) - (z : Int)) = (m : Int) := by rw [IntKind.wrap_i64]; omega
            have j5 : (0 : Int) ≤ (m : Int) := by omega
            have j6 : (m : Int) < (L : Int) + 1 := by omega
            have j7 : (L : Int) < (L : Int) + 1 := by omega
            clear hm xr yr rk sk0 xk0 xk1 xk2 yk0 yk1 yk2 hc3 b37 et1 eq1 hdr ok2 ok3
            go_wp2_with fail
            clear hW7 y0 y1 y2 l0 l1 l2 c0 c1 c2 c3
            refine wp_region_till (fun w' : World => (w'.cell? ⟨bk, 0, none⟩ = some (.bool tk.s) ∧ w'.cell? ⟨bk, 1, none⟩ = some (.slice tk.a1 tk.n1 tk.c1) ∧ w'.cell? ⟨bk, 2, none⟩ = some (.slice tk.a2 tk.n2 tk.c2) ∧ w'.cell? ⟨bk, 3, none⟩ = some (.int .i64 (z : Int))) ∧ (w'.cell? ⟨G, i * 3, none⟩ = some (.bool t1.s) ∧ w'.cell? ⟨G, i * 3 + 1, none⟩ = some (.slice t1.a1 t1.n1 t1.c1) ∧ w'.cell? ⟨G, i * 3 + 2, none⟩ = some (.slice t1.a2 t1.n2 t1.c2)) ∧ (w'.cell? ⟨b3, o3 + m * 3, none⟩ = some (.bool tx.s) ∧ w'.cell? ⟨b3, o3 + m * 3 + 1, none⟩ = some (.slice tx.a1 tx.n1 tx.c1) ∧ w'.cell? ⟨b3, o3 + m * 3 + 2, none⟩ = some (.slice tx.a2 tx.n2 tx.c2)) ∧ (w'.cell? ⟨b3, o3 + L * 3, none⟩ = some (.bool ty.s) ∧ w'.cell? ⟨b3, o3 + L * 3 + 1, none⟩ = some (.slice ty.a1 ty.n1 ty.c1) ∧ w'.cell? ⟨b3, o3 + L * 3 + 2, none⟩ = some (.slice ty.a2 ty.n2 ty.c2))) 20 (by kernel_rfl) ?_
            have bd0 : Below W7.heap.size W7 W7.drew := (Below.refl _ _).drew
            have hC0 : (fun w' : World => (w'.cell? ⟨bk, 0, none⟩ = some (.bool tk.s) ∧ w'.cell? ⟨bk, 1, none⟩ = some (.slice tk.a1 tk.n1 tk.c1) ∧ w'.cell? ⟨bk, 2, none⟩ = some (.slice tk.a2 tk.n2 tk.c2) ∧ w'.cell? ⟨bk, 3, none⟩ = some (.int .i64 (z : Int))) ∧ (w'.cell? ⟨G, i * 3, none⟩ = some (.bool t1.s) ∧ w'.cell? ⟨G, i * 3 + 1, none⟩ = some (.slice t1.a1 t1.n1 t1.c1) ∧ w'.cell? ⟨G, i * 3 + 2, none⟩ = some (.slice t1.a2 t1.n2 t1.c2)) ∧ (w'.cell? ⟨b3, o3 + m * 3, none⟩ = some (.bool tx.s) ∧ w'.cell? ⟨b3, o3 + m * 3 + 1, none⟩ = some (.slice tx.a1 tx.n1 tx.c1) ∧ w'.cell? ⟨b3, o3 + m * 3 + 2, none⟩ = some (.slice tx.a2 tx.n2 tx.c2)) ∧ (w'.cell? ⟨b3, o3 + L * 3, none⟩ = some (.bool ty.s) ∧ w'.cell? ⟨b3, o3 + L * 3 + 1, none⟩ = some (.slice ty.a1 ty.n1 ty.c1) ∧ w'.cell? ⟨b3, o3 + L * 3 + 2, none⟩ = some (.slice ty.a2 ty.n2 ty.c2))) W7.drew := unhide HCC _ bd0
            refine wpTill_pure (i := 0) (v := ?_) rfl (by kernel_rfl) (by kernel_rfl) (by kernel_rfl) (by kernel_rfl) (fun _ _ _ h => h) (Or.inl ⟨by rfl, ?_⟩) (fun _ => hC0) ?_
            rotate_left
            · intro w hSw; clear hSw; go_simp; (try with_reducible rfl)
            (try simp only [List.getElem_toArray, List.getElem_cons_succ, List.getElem_cons_zero])
            (try simp only [Act.put, List.setIfInBounds_toArray, List.set_cons_zero, List.set_cons_succ])
            refine wpTill_pure (i := 1) (v := ?_) rfl (by kernel_rfl) (by kernel_rfl) (by kernel_rfl) (by kernel_rfl) (fun _ _ _ h => h) (Or.inl ⟨by rfl, ?_⟩) (fun _ => hC0) ?_
            rotate_left
            · intro w hSw; clear hSw; go_simp; (try with_reducible rfl)
            (try simp only [List.getElem_toArray, List.getElem_cons_succ, List.getElem_cons_zero])
            (try simp only [Act.put, List.setIfInBounds_toArray, List.set_cons_zero, List.set_cons_succ])
            refine wpTill_pure (i := 2) (v := ?_) rfl (by kernel_rfl) (by kernel_rfl) (by kernel_rfl) (by kernel_rfl) (fun _ _ _ h => h) (Or.inl ⟨by rfl, ?_⟩) (fun _ => hC0) ?_
            rotate_left
            · intro w hSw; clear hSw; go_simp; (try with_reducible rfl)
            (try simp only [List.getElem_toArray, List.getElem_cons_succ, List.getElem_cons_zero])
            (try simp only [Act.put, List.setIfInBounds_toArray, List.set_cons_zero, List.set_cons_succ])
            refine wpTill_pure (i := 3) (v := ?_) rfl (by kernel_rfl) (by kernel_rfl) (by kernel_rfl) (by kernel_rfl) (fun _ _ _ h => h) (Or.inl ⟨by rfl, ?_⟩) (fun _ => hC0) ?_
            rotate_left
            · intro w hSw; clear hSw; go_simp; (try with_reducible rfl)
            (try simp only [List.getElem_toArray, List.getElem_cons_succ, List.getElem_cons_zero])
            (try simp only [Act.put, List.setIfInBounds_toArray, List.set_cons_zero, List.set_cons_succ])
            refine wpTill_pure (i := 4) (v := ?_) rfl (by kernel_rfl) (by kernel_rfl) (by kernel_rfl) (by kernel_rfl) (fun _ _ _ h => h) (Or.inl ⟨by rfl, ?_⟩) (fun _ => hC0) ?_
            rotate_left
            · intro w hSw; clear hSw; go_simp; (try with_reducible rfl)
            (try simp only [List.getElem_toArray, List.getElem_cons_succ, List.getElem_cons_zero])
            (try simp only [Act.put, List.setIfInBounds_toArray, List.set_cons_zero, List.set_cons_succ])
            refine wpTill_take (i := 5) (v := ?_) rfl (by kernel_rfl) (by kernel_rfl) (by kernel_rfl) (by kernel_rfl) (by kernel_rfl) (by kernel_rfl) (fun _ _ _ h => h) (Or.inl ⟨by rfl, ?_⟩) hC0 ?_
            rotate_left
            · intro w hSw; (try dsimp only at hSw); obtain ⟨⟨z0, z1, z2, z3⟩, ⟨z4, z5, z6⟩, ⟨z7, z8, z9⟩, z10, z11, z12⟩ := hSw; go_simp; (try with_reducible rfl)
            (try simp only [List.getElem_toArray, List.getElem_cons_succ, List.getElem_cons_zero])
            (try simp only [Act.put, List.setIfInBounds_toArray, List.set_cons_zero, List.set_cons_succ])
            refine wpTill_pure (i := 6) (v := ?_) rfl (by kernel_rfl) (by kernel_rfl) (by kernel_rfl) (by kernel_rfl) (fun _ _ _ h => h) (Or.inl ⟨by rfl, ?_⟩) (fun _ => hC0) ?_
            rotate_left
            · intro w hSw; clear hSw; go_simp; (try with_reducible rfl)
            (try simp only [List.getElem_toArray, List.getElem_cons_succ, List.getElem_cons_zero])
            (try simp only [Act.put, List.setIfInBounds_toArray, List.set_cons_zero, List.set_cons_succ])
            refine wpTill_pure (i := 7) (v := ?_) rfl (by kernel_rfl) (by kernel_rfl) (by kernel_rfl) (by kernel_rfl) (fun _ _ _ h => h) (Or.inl ⟨by rfl, ?_⟩) (fun _ => hC0) ?_
            rotate_left
            · intro w hSw; clear hSw; go_simp; (try with_reducible rfl)
            (try simp only [List.getElem_toArray, List.getElem_cons_succ, List.getElem_cons_zero])
            (try simp only [Act.put, List.setIfInBounds_toArray, List.set_cons_zero, List.set_cons_succ])
            refine wpTill_pure (i := 8) (v := ?_) rfl (by kernel_rfl) (by kernel_rfl) (by kernel_rfl) (by kernel_rfl) (fun _ _ _ h => h) (Or.inl ⟨by rfl, ?_⟩) (fun _ => hC0) ?_
            rotate_left
            · intro w hSw; clear hSw; go_simp; (try with_reducible rfl)
            (try simp only [List.getElem_toArray, List.getElem_cons_succ, List.getElem_cons_zero])
            (try simp only [Act.put, List.setIfInBounds_toArray, List.set_cons_zero, List.set_cons_succ])
            refine wpTill_take (i := 9) (v := ?_) rfl (by kernel_rfl) (by kernel_rfl) (by kernel_rfl) (by kernel_rfl) (by kernel_rfl) (by kernel_rfl) (fun _ _ _ h => h) (Or.inl ⟨by rfl, ?_⟩) hC0 ?_
            rotate_left
            · intro w hSw; (try dsimp only at hSw); obtain ⟨⟨z0, z1, z2, z3⟩, ⟨z4, z5, z6⟩, ⟨z7, z8, z9⟩, z10, z11, z12⟩ := hSw; go_simp; (try with_reducible rfl)
            (try simp only [List.getElem_toArray, List.getElem_cons_succ, List.getElem_cons_zero])
            (try simp only [Act.put, List.setIfInBounds_toArray, List.set_cons_zero, List.set_cons_succ])
            refine wpTill_pure (i := 10) (v := ?_) rfl (by kernel_rfl) (by kernel_rfl) (by kernel_rfl) (by kernel_rfl) (fun _ _ _ h => h) (Or.inl ⟨by rfl, ?_⟩) (fun _ => hC0) ?_
            rotate_left
            · intro w hSw; clear hSw; go_simp; (try with_reducible rfl)
            (try simp only [List.getElem_toArray, List.getElem_cons_succ, List.getElem_cons_zero])
            (try simp only [Act.put, List.setIfInBounds_toArray, List.set_cons_zero, List.set_cons_succ])
            refine wpTill_pure (i := 11) (v := ?_) rfl (by kernel_rfl) (by kernel_rfl) (by kernel_rfl) (by kernel_rfl) (fun _ _ _ h => h) (Or.inl ⟨by rfl, ?_⟩) (fun _ => hC0) ?_
            rotate_left
            · intro w hSw; clear hSw; go_simp; (try with_reducible rfl)
            (try simp only [List.getElem_toArray, List.getElem_cons_succ, List.getElem_cons_zero])
            (try simp only [Act.put, List.setIfInBounds_toArray, List.set_cons_zero, List.set_cons_succ])
            refine wpTill_take (i := 12) (v := ?_) rfl (by kernel_rfl) (by kernel_rfl) (by kernel_rfl) (by kernel_rfl) (by kernel_rfl) (by kernel_rfl) (fun _ _ _ h => h) (Or.inl ⟨by rfl, ?_⟩) hC0 ?_
            rotate_left
            · intro w hSw; (try dsimp only at hSw); obtain ⟨⟨z0, z1, z2, z3⟩, ⟨z4, z5, z6⟩, ⟨z7, z8, z9⟩, z10, z11, z12⟩ := hSw; go_simp; (try with_reducible rfl)
            (try simp only [List.getElem_toArray, List.getElem_cons_succ, List.getElem_cons_zero])
            (try simp only [Act.put, List.setIfInBounds_toArray, List.set_cons_zero, List.set_cons_succ])
            refine wpTill_pure (i := 13) (v := ?_) rfl (by kernel_rfl) (by kernel_rfl) (by kernel_rfl) (by kernel_rfl) (fun _ _ _ h => h) (Or.inl ⟨by rfl, ?_⟩) (fun _ => hC0) ?_
            rotate_left
            · intro w hSw; clear hSw; go_simp; (try with_reducible rfl)
            (try simp only [List.getElem_toArray, List.getElem_cons_succ, List.getElem_cons_zero])
            (try simp only [Act.put, List.setIfInBounds_toArray, List.set_cons_zero, List.set_cons_succ])
            refine wpTill_pure (i := 14) (v := ?_) rfl (by kernel_rfl) (by kernel_rfl) (by kernel_rfl) (by kernel_rfl) (fun _ _ _ h => h) (Or.inl ⟨by rfl, ?_⟩) (fun _ => hC0) ?_
            rotate_left
            · intro w hSw; clear hSw; go_simp; (try with_reducible rfl)
            (try simp only [List.getElem_toArray, List.getElem_cons_succ, List.getElem_cons_zero])
            (try simp only [Act.put, List.setIfInBounds_toArray, List.set_cons_zero, List.set_cons_succ])
            refine wpTill_pure (i := 15) (v := ?_) rfl (by kernel_rfl) (by kernel_rfl) (by kernel_rfl) (by kernel_rfl) (fun _ _ _ h => h) (Or.inl ⟨by rfl, ?_⟩) (fun _ => hC0) ?_
            rotate_left
            · intro w hSw; clear hSw; go_simp; (try with_reducible rfl)
            (try simp only [List.getElem_toArray, List.getElem_cons_succ, List.getElem_cons_zero])
            (try simp only [Act.put, List.setIfInBounds_toArray, List.set_cons_zero, List.set_cons_succ])
            refine wpTill_take (i := 16) (v := ?_) rfl (by kernel_rfl) (by kernel_rfl) (by kernel_rfl) (by kernel_rfl) (by kernel_rfl) (by kernel_rfl) (fun _ _ _ h => h) (Or.inl ⟨by rfl, ?_⟩) hC0 ?_
            rotate_left
            · intro w hSw; (try dsimp only at hSw); obtain ⟨⟨z0, z1, z2, z3⟩, ⟨z4, z5, z6⟩, ⟨z7, z8, z9⟩, z10, z11, z12⟩ := hSw; go_simp; (try with_reducible rfl)
            (try simp only [List.getElem_toArray, List.getElem_cons_succ, List.getElem_cons_zero])
            (try simp only [Act.put, List.setIfInBounds_toArray, List.set_cons_zero, List.set_cons_succ])
            refine wpTill_one (k := 17) (by kernel_rfl) rfl (fun K hK => ?_)
            (try simp only [List.getElem_toArray, List.getElem_cons_succ, List.getElem_cons_zero])
            go_simp
            refine (unhide HDV _ bd0).mono ?_
            rintro e xw_1 ⟨xv_1, rfl, hv_1, hb_1⟩
            have cc_1 := below_step bd0 hb_1
            have hC_1 : (fun w' : World => (w'.cell? ⟨bk, 0, none⟩ = some (.bool tk.s) ∧ w'.cell? ⟨bk, 1, none⟩ = some (.slice tk.a1 tk.n1 tk.c1) ∧ w'.cell? ⟨bk, 2, none⟩ = some (.slice tk.a2 tk.n2 tk.c2) ∧ w'.cell? ⟨bk, 3, none⟩ = some (.int .i64 (z : Int))) ∧ (w'.cell? ⟨G, i * 3, none⟩ = some (.bool t1.s) ∧ w'.cell? ⟨G, i * 3 + 1, none⟩ = some (.slice t1.a1 t1.n1 t1.c1) ∧ w'.cell? ⟨G, i * 3 + 2, none⟩ = some (.slice t1.a2 t1.n2 t1.c2)) ∧ (w'.cell? ⟨b3, o3 + m * 3, none⟩ = some (.bool tx.s) ∧ w'.cell? ⟨b3, o3 + m * 3 + 1, none⟩ = some (.slice tx.a1 tx.n1 tx.c1) ∧ w'.cell? ⟨b3, o3 + m * 3 + 2, none⟩ = some (.slice tx.a2 tx.n2 tx.c2)) ∧ (w'.cell? ⟨b3, o3 + L * 3, none⟩ = some (.bool ty.s) ∧ w'.cell? ⟨b3, o3 + L * 3 + 1, none⟩ = some (.slice ty.a1 ty.n1 ty.c1) ∧ w'.cell? ⟨b3, o3 + L * 3 + 2, none⟩ = some (.slice ty.a2 ty.n2 ty.c2))) xw_1 := unhide HCC _ cc_1
            refine hK.out _ _ (fun _ => hC_1) ?_
            clear hK K
            (try simp only [Act.put, List.setIfInBounds_toArray, List.set_cons_zero, List.set_cons_succ])
            refine wpTill_one (k := 18) (by kernel_rfl) rfl (fun K hK => ?_)
            (try simp only [List.getElem_toArray, List.getElem_cons_succ, List.getElem_cons_zero])
            go_simp
            refine (unhide HSB _ _ cc_1 hv_1).mono ?_
            rintro e xw_2 ⟨xv_2, rfl, hv_2, hb_2⟩
            have cc_2 := below_step cc_1 hb_2
            have hC_2 : (fun w' : World => (w'.cell? ⟨bk, 0, none⟩ = some (.bool tk.s) ∧ w'.cell? ⟨bk, 1, none⟩ = some (.slice tk.a1 tk.n1 tk.c1) ∧ w'.cell? ⟨bk, 2, none⟩ = some (.slice tk.a2 tk.n2 tk.c2) ∧ w'.cell? ⟨bk, 3, none⟩ = some (.int .i64 (z : Int))) ∧ (w'.cell? ⟨G, i * 3, none⟩ = some (.bool t1.s) ∧ w'.cell? ⟨G, i * 3 + 1, none⟩ = some (.slice t1.a1 t1.n1 t1.c1) ∧ w'.cell? ⟨G, i * 3 + 2, none⟩ = some (.slice t1.a2 t1.n2 t1.c2)) ∧ (w'.cell? ⟨b3, o3 + m * 3, none⟩ = some (.bool tx.s) ∧ w'.cell? ⟨b3, o3 + m * 3 + 1, none⟩ = some (.slice tx.a1 tx.n1 tx.c1) ∧ w'.cell? ⟨b3, o3 + m * 3 + 2, none⟩ = some (.slice tx.a2 tx.n2 tx.c2)) ∧ (w'.cell? ⟨b3, o3 + L * 3, none⟩ = some (.bool ty.s) ∧ w'.cell? ⟨b3, o3 + L * 3 + 1, none⟩ = some (.slice ty.a1 ty.n1 ty.c1) ∧ w'.cell? ⟨b3, o3 + L * 3 + 2, none⟩ = some (.slice ty.a2 ty.n2 ty.c2))) xw_2 := unhide HCC _ cc_2
            refine hK.out _ _ (fun _ => hC_2) ?_
            clear hK K
            (try simp only [Act.put, List.setIfInBounds_toArray, List.set_cons_zero, List.set_cons_succ])
            refine wpTill_pure (i := 19) (v := ?_) rfl (by kernel_rfl) (by kernel_rfl) (by kernel_rfl) (by kernel_rfl) (fun _ _ _ h => h) (Or.inl ⟨by rfl, ?_⟩) (fun _ => hC_2) ?_
            rotate_left
            · intro w hSw; clear hSw; go_simp; (try with_reducible rfl)
            (try simp only [List.getElem_toArray, List.getElem_cons_succ, List.getElem_cons_zero])
            (try simp only [Act.put, List.setIfInBounds_toArray, List.set_cons_zero, List.set_cons_succ])
            obtain ⟨tn, rfl, rn⟩ := tri_of hv_2
            simp only [Tri.val]
            have S8 := (unhide HS7).keep cc_2
            have ⟨⟨y0, y1, y2⟩, l0, l1, l2⟩ := S8.cells i (by omega)
            have FZ := S8.set i (by omega) tn _ rn
            rw [List.set_set, List.set_set, fill_set (lostV ks L)] at FZ
            obtain ⟨W9, hW9⟩ : ∃ W, ((xw_2.setCell ⟨G, i * 3, none⟩ (.bool tn.s)).setCell ⟨G, i * 3 + 1, none⟩ (.slice tn.a1 tn.n1 tn.c1)).setCell ⟨G, i * 3 + 2, none⟩ (.slice tn.a2 tn.n2 tn.c2) = W := ⟨_, rfl⟩
            rw [hW9] at FZ
            have HFS := hide FZ
            clear S8 FZ rn hv_1 hv_2 hb_1 hb_2
            refine wpTill_one (k := 20) (by kernel_rfl) rfl (fun K hK => ?_)
            (try simp only [List.getElem_toArray, List.getElem_cons_succ, List.getElem_cons_zero])
            go_simp
            refine hK.out _ _ (fun h => absurd (h.symm.trans (by kernel_rfl)) Bool.false_ne_true) ?_
            clear hK K
            (try simp only [Act.put, List.setIfInBounds_toArray, List.set_cons_zero, List.set_cons_succ])
            refine wpTill_done (by kernel_rfl) ?_ _
            clear l0 l1 l2 y0 y1 y2 hW9 hC0 hC_1 hC_2 cc_1 cc_2 bd0 HCC HDV HSB
            go_wp2_with fail
            exact ⟨⟨i + 1, _, by go_num, hlt, unhide HFS⟩, by simp [intOf]; omega⟩
          · have j1 : ¬ (z : Int) ≤ (L : Int) := by omega
            have HFS : Hid (SumsAt w3 W7 G (us.set i t1) (fill (lostV ks L) ks.length (i + 1))) := by
              have h := unhide HS7
              have e : ((1 : Int) : Rat) = lostV ks L i := by rw [unhide HELO]; unfold Bth.gone; rw [if_neg hzL]; rfl
              rw [e, fill_set (lostV ks L)] at h
              exact h
            clear ok2 ok3
            go_wp2_with fail
            exact ⟨⟨i + 1, us.set i t1, by go_num, hlt, unhide HFS⟩, by simp [intOf]; omega⟩
        · obtain rfl : i = ks.length := by omega
          have e1 : ¬ (ks.length : Int) < (ks.length : Int) := by omega
          obtain ⟨b3, o3, rfl, hb3, hc3⟩ := unhide HR3 (by omega)
          obtain ⟨xs, xp1, xp2, xn1, xd1, xn2, xd2, xk0, xk1, xk2, xr⟩ := hc3 L (by omega)
          obtain ⟨tx, rfl, rfl, rfl, rfl, rfl, rfl, rfl⟩ : ∃ t : Tri, xs = t.s ∧ xp1 = t.a1 ∧ xp2 = t.a2 ∧ xn1 = t.n1 ∧ xd1 = t.c1 ∧ xn2 = t.n2 ∧ xd2 = t.c2 := ⟨⟨xs, xp1, xp2, xn1, xd1, xn2, xd2⟩, rfl, rfl, rfl, rfl, rfl, rfl, rfl⟩
          rw [row_get (by omega)] at xr
          rw [← S.bl.cell (p := ⟨b3, o3 + L * 3, none⟩) hb3] at xk0
          rw [← S.bl.cell (p := ⟨b3, o3 + L * 3 + 1, none⟩) hb3] at xk1
          rw [← S.bl.cell (p := ⟨b3, o3 + L * 3 + 2, none⟩) hb3] at xk2
          have xr' := xr.below S.bl
          have V2 := (unhide HV2b).below S.bl
          have LW := S.law (by omega)
          rw [hul] at LW
          have LW' : LawIs wr (.slice (some ⟨G, 0, none⟩) ks.length ks.length) (row (lostV ks L) ks.length) := LW
          have hrr : ∀ j, j < (row (Bth.uv (bOf ks L)) (L + 1)).length → RS (row (Bth.uv (bOf ks L)) (L + 1))[j]! 1500000 := fun j hj => by rw [row_length] at hj; rw [row_get hj]; exact (unhide HRU j hj).mono (by omega)
          have hsh := shares_any (.slice a2 (L + 1) cc2) tx.val _ _ 1500000 wr V2 xr' hrr (unhide HUR L (Nat.le_refl _)) (by rw [KKe]; omega) (unhide HUZ) (by rw [row_length]; omega)
          rw [row_length] at hsh
          have HSH : Hid (Calls Tryd.prog 24 #[.slice a2 (L + 1) cc2, .agg #[.bool tx.s, .slice tx.a1 tx.n1 tx.c1, .slice tx.a2 tx.n2 tx.c2]] wr fun e w' => ∃ v, e = .returned v ∧ LawIs w' v (row (takenV ks L) (L + 1)) ∧ Below wr.heap.size wr w') := by
            show Calls _ _ _ _ _
            rw [show row (takenV ks L) (L + 1) = row (shr (row (Bth.uv (bOf ks L)) (L + 1)) (Bth.us (bOf ks L) L)) (L + 1) from row_congr (fun j hj => by unfold shr takenV; rw [row_get hj])]
            exact hsh
          have HLW := hide LW'
          have HBB := hide (below_step (unhide HB4) S.bl)
          have q1 : (L : Int) < (L : Int) + 1 := by omega
          have q2 : (0 : Int) ≤ (L : Int) := by omega
          clear S V2 LW LW' hrr hsh xr xr' hc3 hi hlt hul f1 f2 f3
          go_wp2_with fail
          refine (unhide HSH).mono ?_
          rintro e w9 ⟨v9, rfl, hv9, hb9⟩
          have HV9 := hide hv9
          have HLW9 := hide ((unhide HLW).below hb9)
          have HB9 := hide (below_step (unhide HBB) hb9)
          obtain ⟨a9, c9, rfl, _, _, _⟩ := hv9
          clear hb9 HSH HLW HBB xk0 xk1 xk2 e1 q1 q2
          go_wp2
          exact bodyPost_ret (v := .tuple #[.slice a9 (row (takenV ks L) (L + 1)).length c9, .slice (some ⟨G, 0, none⟩) ks.length ks.length, .nilIface]) (by simp [results, Tryd.results21, go_sem]) rfl ⟨_, _, rfl, unhide HV9, unhide HLW9, unhide HB9⟩
end Go.Proofs.YtigilnkcjblhcaaDoor
