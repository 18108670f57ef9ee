/- RenewEquation: the walk. -/
import Derived.Test.YtpopcfclpemlaaaDoorRN11
namespace Go.Proofs.YtpopcfclpemlaaaDoor
open Go.RowKit Go.Sort Go.Shelf

theorem eqn_RS {x : Nat → Rat} {J up JM : Nat} (hx : ∀ j, RS (x j) J) (hJ : J ≤ JM) (hM : (up + 1) * (ubd J up + 1) + 1 + ubd J up ≤ JM) {t : Nat} (ht : t ≤ up) : ∀ k, k ≤ t → RS (Rnw.eqn x t k) (k * (2 * JM + 5) + 1)
  | 0, _ => (show RS (0 : Rat) _ from RS.zero.mono (by omega))
  | k + 1, h => by
    have a := eqn_RS hx hJ hM ht k (by omega)
    have b := (hx (k + 1)).mul (one_RS'.add (mvu_RSc (J := J) (up := up) hx hM (k := t - (k + 1)) (by omega)))
    have c := a.add b
    exact c.mono (by rw [Nat.add_mul]; omega)
theorem eqn_end {x : Nat → Rat} {n t j : Nat} (hout : ∀ i, n ≤ i → x i = 0) (hj : j ≤ t) (h : n ≤ j + 1) : Rnw.eqn x t j = Rnw.mv x t := by
  rw [← Rnw.renewal x t]
  exact (Rnw.ps_cut _ j t hj (fun i a _ => by
    show x (i + 1) * _ = 0
    rw [hout (i + 1) (by omega)]; grind)).symm
set_option maxHeartbeats 16000000 in
set_option maxRecDepth 100000 in
set_option linter.unusedSimpArgs false in
theorem renewEquation_any (v : Value) (ps : List (Int × Int)) (other : Int) (w : World) (h : PairsAre w v ps) (htab : Tab w) :
    Calls Tryd.prog 6 #[v, .int .i64 other] w fun e w' => e = .returned (.bool true) ∧ Below w.heap.size w w' := by
  have KKe : KK = 1099511627776 := rfl
  have HTB0 := hide htab
  have HRS : Hid (∀ t, t < (pqs ps).length → RS (pqs ps)[t]! 1) := fun t ht => pqs_RS h t ht
  have hpl := pqs_length ps
  have HLW : Hid (ps.length ≤ 10 → Calls Tryd.prog 27 #[v] w fun e w' => ∃ v, e = .returned v ∧ LawIs w' v (pqs ps) ∧ Below w.heap.size w w') := fun hl => law_any v ps w h (by omega)
  obtain ⟨qs, hqs⟩ : ∃ qs, pqs ps = qs := ⟨_, rfl⟩
  rw [hqs] at HRS HLW hpl
  obtain ⟨a, c, rfl, h1, h2, -⟩ := h
  obtain ⟨n, hn⟩ : ∃ n, ps.length = n := ⟨_, rfl⟩
  rw [hn] at HLW hpl h1 ⊢
  have HPL := hide hpl
  clear htab hqs hn
  by_cases hlen : 10 < n
  · have hd : decide ((10 : Int) < (n : Int)) = true := decide_eq_true (by omega)
    go_enter Tryd.func6, Tryd.ntmps6
    go_wp2
    go_ret
    exact ⟨rfl, Below.refl _ _⟩
  have hd : decide ((10 : Int) < (n : Int)) = false := decide_eq_false (by omega)
  have HLW2 := hide (unhide HLW (by omega))
  clear HLW
  have HN10 : Hid (n ≤ 10) := show _ ≤ _ by omega
  clear hlen
  by_cases hk : rnc qs = 0
  · obtain ⟨hA, ht, hl1, hl2⟩ := rnc_age hk
    have HMA : Hid (∀ (W : World) (v : Value) (up N : Nat), LawIs W v qs → up + 1 = N → up ≤ 14 → Calls Tryd.prog 28 #[v, .int .i64 (up : Int)] W (RowNil W (row (Rnw.mv (xq qs)) N) N)) := fun W v up N hv hN hup => by
      have hb := ubd_mono 1 hup
      have e14 : ubd 1 14 = 65533 := by decide
      have hm := Nat.mul_le_mul (show up + 1 ≤ 15 by omega) (show ubd 1 up + 1 ≤ 65534 by omega)
      exact rMany_ok v qs 1 70000 2000000 up N W hv (unhide HRS) hk hN (by omega) (by omega) (by omega) (by omega) (by rw [KKe]; omega) (by omega) (by rw [KKe]; omega)
    have HXJ := xq_RS (unhide HRS) (Nat.le_refl 1)
    have e14 : ubd 1 14 = 65533 := by decide
    obtain ⟨JB, hJB⟩ : ∃ J : Nat, J = 60000000 := ⟨_, rfl⟩
    have HJ : Hid (JB + JB + 1 ≤ KK) := show _ ≤ _ by rw [KKe]; omega
    have HRX0 : Hid (∀ j, RS (xq qs j) JB) := fun j => (HXJ j).mono (by omega)
    have HRMC : Hid (∀ k, k ≤ 14 → RS (Rnw.mv (xq qs) k) JB) := fun k hk => (mvu_RSc (up := 14) (JM := 2000000) HXJ (by rw [e14]; omega) hk).mono (by omega)
    have HREQ : Hid (∀ t k, t ≤ 14 → k ≤ t → RS (Rnw.eqn (xq qs) t k) JB) := fun t k ht hk => (eqn_RS (up := 14) (JM := 2000000) HXJ (by omega) (by rw [e14]; omega) ht k hk).mono (by omega)
    have HR1 : Hid (RS ((1 : Int) : Rat) JB) := one_RSi.mono (by omega)
    have HR2_ : Hid (∀ k, k ≤ 14 → RS (((1 : Int) : Rat) + Rnw.mv (xq qs) k) JB) := fun k hk => (one_RSi.add (mvu_RSc (up := 14) (JM := 2000000) HXJ (by rw [e14]; omega) hk)).mono (by omega)
    have HR3_ : Hid (∀ j k, k ≤ 14 → RS (xq qs j * (((1 : Int) : Rat) + Rnw.mv (xq qs) k)) JB) := fun j k hk => ((HXJ j).mul (one_RSi.add (mvu_RSc (up := 14) (JM := 2000000) HXJ (by rw [e14]; omega) hk))).mono (by omega)
    have HOUT : Hid (∀ j, qs.length ≤ j → xq qs j = 0) := fun j hj => xq_out hj
    have hq0 : 0 < qs.length := by omega
    have HPA : Hid (∀ W v, LawIs W v qs → ∃ a c, v = .slice a qs.length c ∧ qs.length ≤ c ∧ c ≤ 9223372036854775807 ∧ ∃ b o, a = some ⟨b, o, none⟩ ∧ ∀ j, j < qs.length → ∃ t : Tri, ∀ W', Below W.heap.size W W' → (W'.cell? ⟨b, o + j * 3, none⟩ = some (.bool t.s) ∧ W'.cell? ⟨b, o + j * 3 + 1, none⟩ = some (.slice t.a1 t.n1 t.c1) ∧ W'.cell? ⟨b, o + j * 3 + 2, none⟩ = some (.slice t.a2 t.n2 t.c2)) ∧ RatIs W' t.val (xq qs j)) := fun W v hv => by
      obtain ⟨a, c, rfl, -⟩ := id hv
      obtain ⟨-, p2, p3, p4⟩ := hv.parts
      obtain ⟨b, o, ea, hlt, hc⟩ := p4 hq0
      refine ⟨a, c, rfl, p2, p3, b, o, ea, fun j hj => ?_⟩
      obtain ⟨t, k0, k1, k2, r⟩ := hc j hj
      refine ⟨t, fun W' hW => ⟨⟨?_, ?_, ?_⟩, r.below hW⟩⟩
      · rw [hW.cell (p := ⟨b, o + j * 3, none⟩) hlt]; exact k0
      · rw [hW.cell (p := ⟨b, o + j * 3 + 1, none⟩) hlt]; exact k1
      · rw [hW.cell (p := ⟨b, o + j * 3 + 2, none⟩) hlt]; exact k2
    obtain ⟨x, hx⟩ : ∃ x, xq qs = x := ⟨_, rfl⟩
    rw [hx] at HMA HRX0 HRMC HREQ HR2_ HR3_ HOUT HPA
    clear hk hA ht hl1 hl2 HXJ e14 hJB hx hq0
    go_enter Tryd.func6, Tryd.ntmps6
    go_wp2_with fail
    refine (pick_any other 15 (by decide) (by decide) w).mono ?_
    rintro e w0 ⟨up, rfl, hup, rfl⟩
    obtain ⟨N, hN⟩ : ∃ N, up + 1 = N := ⟨_, rfl⟩
    have HN := hide hN
    have HUP : Hid (up ≤ 14) := show _ ≤ _ by omega
    have jN : (up : Int) + 1 = (N : Int) := by omega
    have hN15 : N ≤ 15 := by omega
    clear hup hN
    go_wp2_with fail
    refine (unhide HLW2).mono ?_
    rintro e w1 ⟨v1, rfl, hl1, hb1⟩
    have HMA1 := hide (unhide HMA w1 v1 up N hl1 (unhide HN) (unhide HUP))
    obtain ⟨a1, c1, rfl, m1, m2, bx, ox, rfl, hcx⟩ := unhide HPA w1 v1 hl1
    have HCX := hide hcx
    have HB1 := hide hb1
    rw [hpl] at m1 HMA1 ⊢
    clear hb1 hl1 hcx HMA HPA HLW2
    go_wp2_with fail
    refine (unhide HMA1).mono ?_
    rintro e w2 ⟨GO, us, rfl, hul, hgl, S⟩
    have HB2 := hide (below_step (unhide HB1) S.bl)
    have HS2 := hide S
    have HUL := hide hul
    have HCX2 : Hid (∀ j, j < n → ∃ t : Tri, ∀ W', Below w2.heap.size w2 W' → (W'.cell? ⟨bx, ox + j * 3, none⟩ = some (.bool t.s) ∧ W'.cell? ⟨bx, ox + j * 3 + 1, none⟩ = some (.slice t.a1 t.n1 t.c1) ∧ W'.cell? ⟨bx, ox + j * 3 + 2, none⟩ = some (.slice t.a2 t.n2 t.c2)) ∧ RatIs W' t.val (x j)) := fun j hj => by
      obtain ⟨t, ht⟩ := unhide HCX j (by have := unhide HPL; omega)
      exact ⟨t, fun W' hW => ht W' (below_step S.bl hW)⟩
    clear S hul hgl HMA1 HCX HB1
    go_wp2_with fail
    refine (lasting_any _ (tab_below (unhide HTB0) (unhide HB2))).mono ?_
    rintro e w3 ⟨rfl, hb3⟩
    have HBW := hide (below_step (unhide HB2) hb3)
    have HTB := hide (tab_below (unhide HTB0) (unhide HBW))
    have HXC : Hid (∀ j, j < n → ∃ t : Tri, ∀ W', Below w3.heap.size w3 W' → (W'.cell? ⟨bx, ox + j * 3, none⟩ = some (.bool t.s) ∧ W'.cell? ⟨bx, ox + j * 3 + 1, none⟩ = some (.slice t.a1 t.n1 t.c1) ∧ W'.cell? ⟨bx, ox + j * 3 + 2, none⟩ = some (.slice t.a2 t.n2 t.c2)) ∧ RatIs W' t.val (x j)) := fun j hj => by
      obtain ⟨t, ht⟩ := unhide HCX2 j hj
      exact ⟨t, fun W' hW => ht W' (below_step hb3 hW)⟩
    have HMC : Hid (∀ j, j < N → ∃ t : Tri, ∀ W', Below w3.heap.size w3 W' → (W'.cell? ⟨GO, j * 3, none⟩ = some (.bool t.s) ∧ W'.cell? ⟨GO, j * 3 + 1, none⟩ = some (.slice t.a1 t.n1 t.c1) ∧ W'.cell? ⟨GO, j * 3 + 2, none⟩ = some (.slice t.a2 t.n2 t.c2)) ∧ RatIs W' t.val (Rnw.mv x j)) := fun j hj => by
      have S3 := (unhide HS2).keep hb3
      have ⟨⟨q0, q1, q2⟩, _⟩ := S3.cells j (by have := unhide HUL; omega)
      have r := S3.rat j (by have := unhide HUL; omega)
      rw [row_get hj] at r
      have hGl : GO < w3.heap.size := (Array.getElem?_eq_some_iff.1 S3.row).1
      refine ⟨us[j]!, fun W' hW => ⟨⟨?_, ?_, ?_⟩, r.below hW⟩⟩
      · rw [hW.cell (p := ⟨GO, j * 3, none⟩) hGl]; exact q0
      · rw [hW.cell (p := ⟨GO, j * 3 + 1, none⟩) hGl]; exact q1
      · rw [hW.cell (p := ⟨GO, j * 3 + 2, none⟩) hGl]; exact q2
    have HOUTn : Hid (∀ j, n ≤ j → x j = 0) := fun j hj => unhide HOUT j (by have := unhide HPL; omega)
    clear hb3 HB2 HS2 HUL HCX2 HOUT hpl
    go_wp2_with fail
    go_loopw [8] (fun vi wr => ∃ i : Nat, vi = .int .i64 (i : Int) ∧ i ≤ N ∧ Below w3.heap.size w3 wr) (fun vi _ => N - (intOf vi).toNat)
    case atStart => exact ⟨0, rfl, Nat.zero_le _, Below.refl _ _⟩
    case round =>
      obtain ⟨i, rfl, hi, hbr⟩ := hrel
      by_cases hlt : i < N
      · have j1 : (i : Int) ≤ (up : Int) := by omega
        have hi15 : i ≤ 15 := by omega
        have HIU : Hid (i ≤ 14 ∧ i < N) := ⟨by have := unhide HN; have := unhide HUP; omega, hlt⟩
        have HBR0 := hide hbr
        clear hbr
        go_wp2_with fail
        refine (whole_any 0 (by decide) (by decide) wr).mono ?_
        rintro e w4 ⟨v4, rfl, hv4, hb4⟩
        obtain ⟨t4, rfl, r4⟩ := tri_of hv4
        simp only [Tri.val]
        have b5 := alloc_below w4 (.cells #[.bool t4.s, .slice t4.a1 t4.n1 t4.c1, .slice t4.a2 t4.n2 t4.c2] 31)
        have X5 := BoxIs.new r4
        obtain ⟨W5, hW5⟩ : ∃ W, w4.alloc (.cells #[.bool t4.s, .slice t4.a1 t4.n1 t4.c1, .slice t4.a2 t4.n2 t4.c2] 31) = W := ⟨_, rfl⟩
        obtain ⟨bs, hbs⟩ : ∃ b, w4.heap.size = b := ⟨_, rfl⟩
        have hbb := below_step (unhide HBR0) hb4
        have HGS : Hid (w3.heap.size ≤ bs) := show _ ≤ _ by rw [← hbs]; exact hbb.size
        rw [hW5] at b5 X5
        rw [hbs] at X5
        have HB5 := hide (below_step hbb b5)
        have e0 : ((0 : Int) : Rat) = Rnw.eqn x i (1 - 1) := by show ((0 : Int) : Rat) = 0; simp
        rw [e0] at X5
        have HX5 := hide X5
        clear hv4 r4 b5 X5 hbb hb4 HBR0 e0
        go_wp2_with fail
        clear hW5 hbs
        go_loopw [10] (fun vj wr => ∃ (j : Nat) (ts : Tri), vj = .int .i64 (j : Int) ∧ 1 ≤ j ∧ j ≤ i + 1 ∧ Below w3.heap.size w3 wr ∧ BoxIs wr bs ts (Rnw.eqn x i (j - 1))) (fun vj _ => i + 1 - (intOf vj).toNat)
        case atStart => exact ⟨1, t4, rfl, Nat.le_refl _, by omega, unhide HB5, unhide HX5⟩
        case round =>
          obtain ⟨j, ts, rfl, hj1, hj2, hbr, hXS⟩ := hrel
          clear HB5 HX5
          have HBR := hide hbr
          have hj16 : j ≤ 16 := by omega
          by_cases hji : j ≤ i
          · have k1 : (j : Int) ≤ (i : Int) := by omega
            by_cases hjn : j < n
            · have k2 : (j : Int) < (n : Int) := by omega
              have k0 : (0 : Int) ≤ (j : Int) := by omega
              obtain ⟨d, hd'⟩ : ∃ d, i - j = d := ⟨_, rfl⟩
              have jd : (i : Int) - (j : Int) = (d : Int) := by omega
              have jd0 : (0 : Int) ≤ (d : Int) := by omega
              have jdN : (d : Int) < (N : Int) := by omega
              have jw : IntKind.i64.wrap (d : Int) = (d : Int) := by rw [IntKind.wrap_i64]; omega
              have hd14 : d ≤ 14 := by have := unhide HIU; omega
              obtain ⟨tx, hx⟩ := unhide HXC j hjn
              obtain ⟨tm, hm⟩ := unhide HMC d (by omega)
              have HXS := hide hXS
              have HTX := hide (hx wr hbr).2
              have HTM := hide (hm wr hbr).2
              have HCC : Hid (∀ W, Below wr.heap.size wr W → (fun w' : World => (w'.cell? ⟨bs, 0, none⟩ = some (.bool ts.s) ∧ w'.cell? ⟨bs, 1, none⟩ = some (.slice ts.a1 ts.n1 ts.c1) ∧ w'.cell? ⟨bs, 2, none⟩ = some (.slice ts.a2 ts.n2 ts.c2)) ∧ (w'.cell? ⟨bx, ox + j * 3, none⟩ = some (.bool tx.s) ∧ w'.cell? ⟨bx, ox + j * 3 + 1, none⟩ = some (.slice tx.a1 tx.n1 tx.c1) ∧ w'.cell? ⟨bx, ox + j * 3 + 2, none⟩ = some (.slice tx.a2 tx.n2 tx.c2)) ∧ (w'.cell? ⟨GO, d * 3, none⟩ = some (.bool tm.s) ∧ w'.cell? ⟨GO, d * 3 + 1, none⟩ = some (.slice tm.a1 tm.n1 tm.c1) ∧ w'.cell? ⟨GO, d * 3 + 2, none⟩ = some (.slice tm.a2 tm.n2 tm.c2))) W) := fun W hW => ⟨(unhide HXS).cells W hW, (hx W (below_step (unhide HBR) hW)).1, (hm W (below_step (unhide HBR) hW)).1⟩
              have HRM := hide (unhide HRMC d hd14)
              have HR2 := hide (unhide HR2_ d hd14)
              have HR3 := hide (unhide HR3_ j d hd14)
              have HRX := hide (unhide HRX0 j)
              have HRS := hide (unhide HREQ i (j - 1) (unhide HIU).1 (by omega))
              have HQV : Hid (Rnw.eqn x i (j - 1) + x j * (((1 : Int) : Rat) + Rnw.mv x d) = Rnw.eqn x i (j + 1 - 1)) := by
                show _ = _
                obtain ⟨q, rfl⟩ : ∃ q, j = q + 1 := ⟨j - 1, by omega⟩
                rw [← hd', show ((1 : Int) : Rat) = 1 by simp]
                rfl
              have HJI := hide (And.intro hj1 hji)
              clear hXS hbr hx hm hd' hd14
              go_wp2_with fail
              refine wp_region_till (fun w' : World => (w'.cell? ⟨bs, 0, none⟩ = some (.bool ts.s) ∧ w'.cell? ⟨bs, 1, none⟩ = some (.slice ts.a1 ts.n1 ts.c1) ∧ w'.cell? ⟨bs, 2, none⟩ = some (.slice ts.a2 ts.n2 ts.c2)) ∧ (w'.cell? ⟨bx, ox + j * 3, none⟩ = some (.bool tx.s) ∧ w'.cell? ⟨bx, ox + j * 3 + 1, none⟩ = some (.slice tx.a1 tx.n1 tx.c1) ∧ w'.cell? ⟨bx, ox + j * 3 + 2, none⟩ = some (.slice tx.a2 tx.n2 tx.c2)) ∧ (w'.cell? ⟨GO, d * 3, none⟩ = some (.bool tm.s) ∧ w'.cell? ⟨GO, d * 3 + 1, none⟩ = some (.slice tm.a1 tm.n1 tm.c1) ∧ w'.cell? ⟨GO, d * 3 + 2, none⟩ = some (.slice tm.a2 tm.n2 tm.c2))) 15 (by kernel_rfl) ?_
              have bd0 : Below wr.heap.size wr wr.drew := (Below.refl _ _).drew
              obtain ⟨Wd, hWd⟩ : ∃ W, wr.drew = W := ⟨_, rfl⟩
              rw [hWd] at bd0 ⊢
              have hC0 : (fun w' : World => (w'.cell? ⟨bs, 0, none⟩ = some (.bool ts.s) ∧ w'.cell? ⟨bs, 1, none⟩ = some (.slice ts.a1 ts.n1 ts.c1) ∧ w'.cell? ⟨bs, 2, none⟩ = some (.slice ts.a2 ts.n2 ts.c2)) ∧ (w'.cell? ⟨bx, ox + j * 3, none⟩ = some (.bool tx.s) ∧ w'.cell? ⟨bx, ox + j * 3 + 1, none⟩ = some (.slice tx.a1 tx.n1 tx.c1) ∧ w'.cell? ⟨bx, ox + j * 3 + 2, none⟩ = some (.slice tx.a2 tx.n2 tx.c2)) ∧ (w'.cell? ⟨GO, d * 3, none⟩ = some (.bool tm.s) ∧ w'.cell? ⟨GO, d * 3 + 1, none⟩ = some (.slice tm.a1 tm.n1 tm.c1) ∧ w'.cell? ⟨GO, d * 3 + 2, none⟩ = some (.slice tm.a2 tm.n2 tm.c2))) Wd := unhide HCC _ bd0
              refine wpTill_take (i := 0) (v := ?_) rfl (by kernel_rfl) (by kernel_rfl) (by kernel_rfl) (by kernel_rfl) (by kernel_rfl) (by kernel_rfl) (fun _ _ _ h => h) (Or.inl ⟨by rfl, ?_⟩) hC0 ?_
              rotate_left
              · intro w hSw; (try dsimp only at hSw); obtain ⟨⟨u0, u1, u2⟩, ⟨u3, u4, u5⟩, u6, u7, u8⟩ := hSw; go_simp; (try with_reducible rfl)
              (try simp only [List.getElem_toArray, List.getElem_cons_succ, List.getElem_cons_zero])
              (try simp only [Act.put, List.setIfInBounds_toArray, List.set_cons_zero, List.set_cons_succ])
              refine wpTill_pure (i := 1) (v := ?_) rfl (by kernel_rfl) (by kernel_rfl) (by kernel_rfl) (by kernel_rfl) (fun _ _ _ h => h) (Or.inl ⟨by rfl, ?_⟩) (fun _ => hC0) ?_
              rotate_left
              · intro w hSw; clear hSw; go_simp; (try with_reducible rfl)
              (try simp only [List.getElem_toArray, List.getElem_cons_succ, List.getElem_cons_zero])
              (try simp only [Act.put, List.setIfInBounds_toArray, List.set_cons_zero, List.set_cons_succ])
              refine wpTill_pure (i := 2) (v := ?_) rfl (by kernel_rfl) (by kernel_rfl) (by kernel_rfl) (by kernel_rfl) (fun _ _ _ h => h) (Or.inl ⟨by rfl, ?_⟩) (fun _ => hC0) ?_
              rotate_left
              · intro w hSw; clear hSw; go_simp; (try with_reducible rfl)
              (try simp only [List.getElem_toArray, List.getElem_cons_succ, List.getElem_cons_zero])
              (try simp only [Act.put, List.setIfInBounds_toArray, List.set_cons_zero, List.set_cons_succ])
              refine wpTill_pure (i := 3) (v := ?_) rfl (by kernel_rfl) (by kernel_rfl) (by kernel_rfl) (by kernel_rfl) (fun _ _ _ h => h) (Or.inl ⟨by rfl, ?_⟩) (fun _ => hC0) ?_
              rotate_left
              · intro w hSw; clear hSw; go_simp; (try with_reducible rfl)
              (try simp only [List.getElem_toArray, List.getElem_cons_succ, List.getElem_cons_zero])
              (try simp only [Act.put, List.setIfInBounds_toArray, List.set_cons_zero, List.set_cons_succ])
              refine wpTill_take (i := 4) (v := ?_) rfl (by kernel_rfl) (by kernel_rfl) (by kernel_rfl) (by kernel_rfl) (by kernel_rfl) (by kernel_rfl) (fun _ _ _ h => h) (Or.inl ⟨by rfl, ?_⟩) hC0 ?_
              rotate_left
              · intro w hSw; (try dsimp only at hSw); obtain ⟨⟨u0, u1, u2⟩, ⟨u3, u4, u5⟩, u6, u7, u8⟩ := hSw; go_simp; (try with_reducible rfl)
              (try simp only [List.getElem_toArray, List.getElem_cons_succ, List.getElem_cons_zero])
              (try simp only [Act.put, List.setIfInBounds_toArray, List.set_cons_zero, List.set_cons_succ])
              refine wpTill_pure (i := 6) (v := ?_) rfl (by kernel_rfl) (by kernel_rfl) (by kernel_rfl) (by kernel_rfl) (fun _ _ _ h => h) (Or.inl ⟨by rfl, ?_⟩) (fun _ => hC0) ?_
              rotate_left
              · intro w hSw; clear hSw; go_simp; (try with_reducible rfl)
              (try simp only [List.getElem_toArray, List.getElem_cons_succ, List.getElem_cons_zero])
              (try simp only [Act.put, List.setIfInBounds_toArray, List.set_cons_zero, List.set_cons_succ])
              refine wpTill_pure (i := 7) (v := ?_) rfl (by kernel_rfl) (by kernel_rfl) (by kernel_rfl) (by kernel_rfl) (fun _ _ _ h => h) (Or.inl ⟨by rfl, ?_⟩) (fun _ => hC0) ?_
              rotate_left
              · intro w hSw; clear hSw; go_simp; (try with_reducible rfl)
              (try simp only [List.getElem_toArray, List.getElem_cons_succ, List.getElem_cons_zero])
              (try simp only [Act.put, List.setIfInBounds_toArray, List.set_cons_zero, List.set_cons_succ])
              refine wpTill_pure (i := 8) (v := ?_) rfl (by kernel_rfl) (by kernel_rfl) (by kernel_rfl) (by kernel_rfl) (fun _ _ _ h => h) (Or.inl ⟨by rfl, ?_⟩) (fun _ => hC0) ?_
              rotate_left
              · intro w hSw; clear hSw; go_simp; (try with_reducible rfl)
              (try simp only [List.getElem_toArray, List.getElem_cons_succ, List.getElem_cons_zero])
              (try simp only [Act.put, List.setIfInBounds_toArray, List.set_cons_zero, List.set_cons_succ])
              refine wpTill_pure (i := 9) (v := ?_) rfl (by kernel_rfl) (by kernel_rfl) (by kernel_rfl) (by kernel_rfl) (fun _ _ _ h => h) (Or.inl ⟨by rfl, ?_⟩) (fun _ => hC0) ?_
              rotate_left
              · intro w hSw; clear hSw; go_simp; (try with_reducible rfl)
              (try simp only [List.getElem_toArray, List.getElem_cons_succ, List.getElem_cons_zero])
              (try simp only [Act.put, List.setIfInBounds_toArray, List.set_cons_zero, List.set_cons_succ])
              refine wpTill_pure (i := 10) (v := ?_) rfl (by kernel_rfl) (by kernel_rfl) (by kernel_rfl) (by kernel_rfl) (fun _ _ _ h => h) (Or.inl ⟨by rfl, ?_⟩) (fun _ => hC0) ?_
              rotate_left
              · intro w hSw; clear hSw; go_simp; (try with_reducible rfl)
              (try simp only [List.getElem_toArray, List.getElem_cons_succ, List.getElem_cons_zero])
              (try simp only [Act.put, List.setIfInBounds_toArray, List.set_cons_zero, List.set_cons_succ])
              refine wpTill_take (i := 11) (v := ?_) rfl (by kernel_rfl) (by kernel_rfl) (by kernel_rfl) (by kernel_rfl) (by kernel_rfl) (by kernel_rfl) (fun _ _ _ h => h) (Or.inl ⟨by rfl, ?_⟩) hC0 ?_
              rotate_left
              · intro w hSw; (try dsimp only at hSw); obtain ⟨⟨u0, u1, u2⟩, ⟨u3, u4, u5⟩, u6, u7, u8⟩ := hSw; go_simp; (try with_reducible rfl)
              (try simp only [List.getElem_toArray, List.getElem_cons_succ, List.getElem_cons_zero])
              (try simp only [Act.put, List.setIfInBounds_toArray, List.set_cons_zero, List.set_cons_succ])
              refine wpTill_one (k := 5) (by kernel_rfl) rfl (fun K hK => ?_)
              (try simp only [List.getElem_toArray, List.getElem_cons_succ, List.getElem_cons_zero])
              go_simp
              refine (whole_any 1 (by decide) (by decide) _).mono ?_
              rintro e xw_1 ⟨xv_1, rfl, hv_1, hb_1⟩
              have cc_1 := below_step bd0 hb_1
              have hC_1 : (fun w' : World => (w'.cell? ⟨bs, 0, none⟩ = some (.bool ts.s) ∧ w'.cell? ⟨bs, 1, none⟩ = some (.slice ts.a1 ts.n1 ts.c1) ∧ w'.cell? ⟨bs, 2, none⟩ = some (.slice ts.a2 ts.n2 ts.c2)) ∧ (w'.cell? ⟨bx, ox + j * 3, none⟩ = some (.bool tx.s) ∧ w'.cell? ⟨bx, ox + j * 3 + 1, none⟩ = some (.slice tx.a1 tx.n1 tx.c1) ∧ w'.cell? ⟨bx, ox + j * 3 + 2, none⟩ = some (.slice tx.a2 tx.n2 tx.c2)) ∧ (w'.cell? ⟨GO, d * 3, none⟩ = some (.bool tm.s) ∧ w'.cell? ⟨GO, d * 3 + 1, none⟩ = some (.slice tm.a1 tm.n1 tm.c1) ∧ w'.cell? ⟨GO, d * 3 + 2, none⟩ = some (.slice tm.a2 tm.n2 tm.c2))) xw_1 := unhide HCC _ cc_1
              refine hK.out _ _ (fun _ => hC_1) ?_
              clear hK K
              (try simp only [Act.put, List.setIfInBounds_toArray, List.set_cons_zero, List.set_cons_succ])
              refine wpTill_one (k := 12) (by kernel_rfl) rfl (fun K hK => ?_)
              (try simp only [List.getElem_toArray, List.getElem_cons_succ, List.getElem_cons_zero])
              go_simp
              refine (addR_any _ tm.val ((1 : Int) : Rat) (Rnw.mv x d) _ hv_1 ((unhide HTM).below cc_1) JB (unhide HR1) (unhide HRM) (unhide HJ)).mono ?_
              rintro e xw_2 ⟨xv_2, rfl, hv_2, hb_2⟩
              have cc_2 := below_step cc_1 hb_2
              have hC_2 : (fun w' : World => (w'.cell? ⟨bs, 0, none⟩ = some (.bool ts.s) ∧ w'.cell? ⟨bs, 1, none⟩ = some (.slice ts.a1 ts.n1 ts.c1) ∧ w'.cell? ⟨bs, 2, none⟩ = some (.slice ts.a2 ts.n2 ts.c2)) ∧ (w'.cell? ⟨bx, ox + j * 3, none⟩ = some (.bool tx.s) ∧ w'.cell? ⟨bx, ox + j * 3 + 1, none⟩ = some (.slice tx.a1 tx.n1 tx.c1) ∧ w'.cell? ⟨bx, ox + j * 3 + 2, none⟩ = some (.slice tx.a2 tx.n2 tx.c2)) ∧ (w'.cell? ⟨GO, d * 3, none⟩ = some (.bool tm.s) ∧ w'.cell? ⟨GO, d * 3 + 1, none⟩ = some (.slice tm.a1 tm.n1 tm.c1) ∧ w'.cell? ⟨GO, d * 3 + 2, none⟩ = some (.slice tm.a2 tm.n2 tm.c2))) xw_2 := unhide HCC _ cc_2
              refine hK.out _ _ (fun _ => hC_2) ?_
              clear hK K
              (try simp only [Act.put, List.setIfInBounds_toArray, List.set_cons_zero, List.set_cons_succ])
              refine wpTill_one (k := 13) (by kernel_rfl) rfl (fun K hK => ?_)
              (try simp only [List.getElem_toArray, List.getElem_cons_succ, List.getElem_cons_zero])
              go_simp
              refine (mulR_any tx.val _ (x j) (((1 : Int) : Rat) + Rnw.mv x d) _ ((unhide HTX).below cc_2) hv_2 JB (unhide HRX) (unhide HR2) (unhide HJ)).mono ?_
              rintro e xw_3 ⟨xv_3, rfl, hv_3, hb_3⟩
              have cc_3 := below_step cc_2 hb_3
              have hC_3 : (fun w' : World => (w'.cell? ⟨bs, 0, none⟩ = some (.bool ts.s) ∧ w'.cell? ⟨bs, 1, none⟩ = some (.slice ts.a1 ts.n1 ts.c1) ∧ w'.cell? ⟨bs, 2, none⟩ = some (.slice ts.a2 ts.n2 ts.c2)) ∧ (w'.cell? ⟨bx, ox + j * 3, none⟩ = some (.bool tx.s) ∧ w'.cell? ⟨bx, ox + j * 3 + 1, none⟩ = some (.slice tx.a1 tx.n1 tx.c1) ∧ w'.cell? ⟨bx, ox + j * 3 + 2, none⟩ = some (.slice tx.a2 tx.n2 tx.c2)) ∧ (w'.cell? ⟨GO, d * 3, none⟩ = some (.bool tm.s) ∧ w'.cell? ⟨GO, d * 3 + 1, none⟩ = some (.slice tm.a1 tm.n1 tm.c1) ∧ w'.cell? ⟨GO, d * 3 + 2, none⟩ = some (.slice tm.a2 tm.n2 tm.c2))) xw_3 := unhide HCC _ cc_3
              refine hK.out _ _ (fun _ => hC_3) ?_
              clear hK K
              (try simp only [Act.put, List.setIfInBounds_toArray, List.set_cons_zero, List.set_cons_succ])
              refine wpTill_one (k := 14) (by kernel_rfl) rfl (fun K hK => ?_)
              (try simp only [List.getElem_toArray, List.getElem_cons_succ, List.getElem_cons_zero])
              go_simp
              refine (addR_any ts.val _ (Rnw.eqn x i (j - 1)) (x j * (((1 : Int) : Rat) + Rnw.mv x d)) _ ((unhide HXS).2.below cc_3) hv_3 JB (unhide HRS) (unhide HR3) (unhide HJ)).mono ?_
              rintro e xw_4 ⟨xv_4, rfl, hv_4, hb_4⟩
              have cc_4 := below_step cc_3 hb_4
              have hC_4 : (fun w' : World => (w'.cell? ⟨bs, 0, none⟩ = some (.bool ts.s) ∧ w'.cell? ⟨bs, 1, none⟩ = some (.slice ts.a1 ts.n1 ts.c1) ∧ w'.cell? ⟨bs, 2, none⟩ = some (.slice ts.a2 ts.n2 ts.c2)) ∧ (w'.cell? ⟨bx, ox + j * 3, none⟩ = some (.bool tx.s) ∧ w'.cell? ⟨bx, ox + j * 3 + 1, none⟩ = some (.slice tx.a1 tx.n1 tx.c1) ∧ w'.cell? ⟨bx, ox + j * 3 + 2, none⟩ = some (.slice tx.a2 tx.n2 tx.c2)) ∧ (w'.cell? ⟨GO, d * 3, none⟩ = some (.bool tm.s) ∧ w'.cell? ⟨GO, d * 3 + 1, none⟩ = some (.slice tm.a1 tm.n1 tm.c1) ∧ w'.cell? ⟨GO, d * 3 + 2, none⟩ = some (.slice tm.a2 tm.n2 tm.c2))) xw_4 := unhide HCC _ cc_4
              refine hK.out _ _ (fun _ => hC_4) ?_
              clear hK K
              (try simp only [Act.put, List.setIfInBounds_toArray, List.set_cons_zero, List.set_cons_succ])
              obtain ⟨t5, rfl, r5⟩ := tri_of hv_4
              simp only [Tri.val]
              have Y := (unhide HXS).keep cc_4
              have ⟨l0, l1, l2⟩ := Y.free
              have ⟨y0, y1, y2⟩ := Y.cells _ (Below.refl _ _)
              have NB := Y.set r5
              have YB := (((below_step (unhide HBR) cc_4).setCell (p := ⟨bs, 0, none⟩) (unhide HGS) (.bool t5.s)).setCell (p := ⟨bs, 1, none⟩) (unhide HGS) (.slice t5.a1 t5.n1 t5.c1)).setCell (p := ⟨bs, 2, none⟩) (unhide HGS) (.slice t5.a2 t5.n2 t5.c2)
              obtain ⟨W9, hW9⟩ : ∃ W, ((xw_4.setCell ⟨bs, 0, none⟩ (.bool t5.s)).setCell ⟨bs, 1, none⟩ (.slice t5.a1 t5.n1 t5.c1)).setCell ⟨bs, 2, none⟩ (.slice t5.a2 t5.n2 t5.c2) = W := ⟨_, rfl⟩
              rw [hW9, unhide HQV] at NB
              rw [hW9] at YB
              have HNB := hide NB
              have HYB := hide YB
              clear Y NB YB r5 hv_1 hv_2 hv_3 hv_4
              refine wpTill_one (k := 15) (by kernel_rfl) rfl (fun K hK => ?_)
              (try simp only [List.getElem_toArray, List.getElem_cons_succ, List.getElem_cons_zero])
              go_simp
              refine hK.out _ _ (fun h => absurd (h.symm.trans (by kernel_rfl)) Bool.false_ne_true) ?_
              clear hK K
              (try simp only [Act.put, List.setIfInBounds_toArray, List.set_cons_zero, List.set_cons_succ])
              refine wpTill_done (by kernel_rfl) ?_ _
              clear HCC HTX HTM HXS HRM HR2 HR3 HRX HRS HQV y0 y1 y2 l0 l1 l2 hW9 hC0 hC_1 hC_2 hC_3 hC_4 cc_1 cc_2 cc_3 cc_4 bd0 hb_1 hb_2 hb_3 hb_4 hWd
              go_wp2_with fail
              exact ⟨⟨j + 1, t5, by go_num, by omega, by have := (unhide HJI).2; omega, unhide HYB, unhide HNB⟩, by have := (unhide HJI).2; simp [intOf]; omega⟩
            · have k2 : ¬ (j : Int) < (n : Int) := by omega
              have hend : Rnw.eqn x i (j - 1) = Rnw.mv x i := eqn_end (n := n) (unhide HOUTn) (by omega) (by omega)
              rw [hend] at hXS
              have HEND := hide hXS
              clear hXS hbr hend
              go_wp2_with fail
              have HXS := hide (show BoxIs wr bs ts (Rnw.mv x i) from unhide HEND)
              obtain ⟨tm, hm⟩ := unhide HMC i (by have := unhide HIU; omega)
              have HTM := hide (hm wr (unhide HBR)).2
              have HC18 : Hid (∀ W, Below wr.heap.size wr W → (fun w' : World => (w'.cell? ⟨bs, 0, none⟩ = some (.bool ts.s) ∧ w'.cell? ⟨bs, 1, none⟩ = some (.slice ts.a1 ts.n1 ts.c1) ∧ w'.cell? ⟨bs, 2, none⟩ = some (.slice ts.a2 ts.n2 ts.c2)) ∧ (w'.cell? ⟨GO, i * 3, none⟩ = some (.bool tm.s) ∧ w'.cell? ⟨GO, i * 3 + 1, none⟩ = some (.slice tm.a1 tm.n1 tm.c1) ∧ w'.cell? ⟨GO, i * 3 + 2, none⟩ = some (.slice tm.a2 tm.n2 tm.c2))) W) := fun W hW => ⟨(unhide HXS).cells W hW, (hm W (below_step (unhide HBR) hW)).1⟩
              have HRM := hide (unhide HRMC i (by have := unhide HIU; omega))
              have HJB : Hid (JB ≤ KK) := show _ ≤ _ by have := unhide HJ; omega
              have HTW := hide (tab_below (unhide HTB) (unhide HBR))
              have k1 : (0 : Int) ≤ (i : Int) := by omega
              have k2 : (i : Int) < (N : Int) := by have := unhide HIU; omega
              clear HEND hm
              go_wp2_with fail
              refine wp_region_hold (fun w' : World => (w'.cell? ⟨bs, 0, none⟩ = some (.bool ts.s) ∧ w'.cell? ⟨bs, 1, none⟩ = some (.slice ts.a1 ts.n1 ts.c1) ∧ w'.cell? ⟨bs, 2, none⟩ = some (.slice ts.a2 ts.n2 ts.c2)) ∧ (w'.cell? ⟨GO, i * 3, none⟩ = some (.bool tm.s) ∧ w'.cell? ⟨GO, i * 3 + 1, none⟩ = some (.slice tm.a1 tm.n1 tm.c1) ∧ w'.cell? ⟨GO, i * 3 + 2, none⟩ = some (.slice tm.a2 tm.n2 tm.c2))) (by kernel_rfl) ?_
              have bd0 : Below wr.heap.size wr wr.drew := (Below.refl _ _).drew
              have hC0 : (fun w' : World => (w'.cell? ⟨bs, 0, none⟩ = some (.bool ts.s) ∧ w'.cell? ⟨bs, 1, none⟩ = some (.slice ts.a1 ts.n1 ts.c1) ∧ w'.cell? ⟨bs, 2, none⟩ = some (.slice ts.a2 ts.n2 ts.c2)) ∧ (w'.cell? ⟨GO, i * 3, none⟩ = some (.bool tm.s) ∧ w'.cell? ⟨GO, i * 3 + 1, none⟩ = some (.slice tm.a1 tm.n1 tm.c1) ∧ w'.cell? ⟨GO, i * 3 + 2, none⟩ = some (.slice tm.a2 tm.n2 tm.c2))) wr.drew := unhide HC18 _ bd0
              refine wpHold_take (i := 0) (v := ?_) rfl (by kernel_rfl) (by kernel_rfl) (by kernel_rfl) (fun _ _ _ h => h) (Or.inl ⟨by rfl, ?_⟩) hC0 ?_
              rotate_left
              · intro w hSw; (try dsimp only at hSw); obtain ⟨⟨u0, u1, u2⟩, u3, u4, u5⟩ := hSw; go_simp; (try with_reducible rfl)
              (try simp only [List.getElem_toArray, List.getElem_cons_succ, List.getElem_cons_zero])
              (try simp only [Act.put, List.setIfInBounds_toArray, List.set_cons_zero, List.set_cons_succ])
              refine wpHold_take (i := 1) (v := ?_) rfl (by kernel_rfl) (by kernel_rfl) (by kernel_rfl) (fun _ _ _ h => h) (Or.inl ⟨by rfl, ?_⟩) hC0 ?_
              rotate_left
              · intro w hSw; clear hSw; go_simp; (try with_reducible rfl)
              (try simp only [List.getElem_toArray, List.getElem_cons_succ, List.getElem_cons_zero])
              (try simp only [Act.put, List.setIfInBounds_toArray, List.set_cons_zero, List.set_cons_succ])
              refine wpHold_take (i := 2) (v := ?_) rfl (by kernel_rfl) (by kernel_rfl) (by kernel_rfl) (fun _ _ _ h => h) (Or.inl ⟨by rfl, ?_⟩) hC0 ?_
              rotate_left
              · intro w hSw; clear hSw; go_simp; (try with_reducible rfl)
              (try simp only [List.getElem_toArray, List.getElem_cons_succ, List.getElem_cons_zero])
              (try simp only [Act.put, List.setIfInBounds_toArray, List.set_cons_zero, List.set_cons_succ])
              refine wpHold_take (i := 3) (v := ?_) rfl (by kernel_rfl) (by kernel_rfl) (by kernel_rfl) (fun _ _ _ h => h) (Or.inl ⟨by rfl, ?_⟩) hC0 ?_
              rotate_left
              · intro w hSw; clear hSw; go_simp; (try with_reducible rfl)
              (try simp only [List.getElem_toArray, List.getElem_cons_succ, List.getElem_cons_zero])
              (try simp only [Act.put, List.setIfInBounds_toArray, List.set_cons_zero, List.set_cons_succ])
              refine wpHold_take (i := 4) (v := ?_) rfl (by kernel_rfl) (by kernel_rfl) (by kernel_rfl) (fun _ _ _ h => h) (Or.inl ⟨by rfl, ?_⟩) hC0 ?_
              rotate_left
              · intro w hSw; (try dsimp only at hSw); obtain ⟨⟨u0, u1, u2⟩, u3, u4, u5⟩ := hSw; go_simp; (try with_reducible rfl)
              (try simp only [List.getElem_toArray, List.getElem_cons_succ, List.getElem_cons_zero])
              (try simp only [Act.put, List.setIfInBounds_toArray, List.set_cons_zero, List.set_cons_succ])
              refine wpHold_one (k := 5) (by kernel_rfl) rfl (fun K hK => ?_)
              (try simp only [List.getElem_toArray, List.getElem_cons_succ, List.getElem_cons_zero])
              go_simp
              refine (like_any ts.val tm.val (Rnw.mv x i) _ ((unhide HXS).2.below bd0) ((unhide HTM).below bd0) JB (unhide HRM) (unhide HJB) (tab_below (unhide HTW) bd0)).mono ?_
              rintro e xw_1 ⟨rfl, hb_1⟩
              have cc_1 := below_step bd0 hb_1
              have hC_1 : (fun w' : World => (w'.cell? ⟨bs, 0, none⟩ = some (.bool ts.s) ∧ w'.cell? ⟨bs, 1, none⟩ = some (.slice ts.a1 ts.n1 ts.c1) ∧ w'.cell? ⟨bs, 2, none⟩ = some (.slice ts.a2 ts.n2 ts.c2)) ∧ (w'.cell? ⟨GO, i * 3, none⟩ = some (.bool tm.s) ∧ w'.cell? ⟨GO, i * 3 + 1, none⟩ = some (.slice tm.a1 tm.n1 tm.c1) ∧ w'.cell? ⟨GO, i * 3 + 2, none⟩ = some (.slice tm.a2 tm.n2 tm.c2))) xw_1 := unhide HC18 _ cc_1
              refine hK.out _ _ hC_1 ?_
              clear hK K
              (try simp only [Act.put, List.setIfInBounds_toArray, List.set_cons_zero, List.set_cons_succ])
              refine wpHold_take (i := 6) (v := ?_) rfl (by kernel_rfl) (by kernel_rfl) (by kernel_rfl) (fun _ _ _ h => h) (Or.inl ⟨by rfl, ?_⟩) hC_1 ?_
              rotate_left
              · intro w hSw; clear hSw; go_simp; (try with_reducible rfl)
              (try simp only [List.getElem_toArray, List.getElem_cons_succ, List.getElem_cons_zero])
              (try simp only [Act.put, List.setIfInBounds_toArray, List.set_cons_zero, List.set_cons_succ])
              refine wpHold_done (by kernel_rfl) ?_ _
              have HFB := hide (below_step (unhide HBR) cc_1)
              clear HC18 hC0 hC_1 cc_1 bd0 hb_1 HTM HXS HRM
              go_wp2_with fail
              exact ⟨⟨i + 1, by go_num, by have := unhide HIU; omega, unhide HFB⟩, by have := unhide HIU; simp [intOf]; omega⟩
          · obtain rfl : j = i + 1 := by omega
            have k1 : ¬ ((i + 1 : Nat) : Int) ≤ (i : Int) := by omega
            have k1' : ¬ (i : Int) + 1 ≤ (i : Int) := by omega
            have hend : Rnw.eqn x i (i + 1 - 1) = Rnw.mv x i := Rnw.renewal x i
            rw [hend] at hXS
            have HEND := hide hXS
            clear hXS hbr hend
            go_wp2_with fail
            have HXS := hide (show BoxIs wr bs ts (Rnw.mv x i) from unhide HEND)
            obtain ⟨tm, hm⟩ := unhide HMC i (by have := unhide HIU; omega)
            have HTM := hide (hm wr (unhide HBR)).2
            have HC18 : Hid (∀ W, Below wr.heap.size wr W → (fun w' : World => (w'.cell? ⟨bs, 0, none⟩ = some (.bool ts.s) ∧ w'.cell? ⟨bs, 1, none⟩ = some (.slice ts.a1 ts.n1 ts.c1) ∧ w'.cell? ⟨bs, 2, none⟩ = some (.slice ts.a2 ts.n2 ts.c2)) ∧ (w'.cell? ⟨GO, i * 3, none⟩ = some (.bool tm.s) ∧ w'.cell? ⟨GO, i * 3 + 1, none⟩ = some (.slice tm.a1 tm.n1 tm.c1) ∧ w'.cell? ⟨GO, i * 3 + 2, none⟩ = some (.slice tm.a2 tm.n2 tm.c2))) W) := fun W hW => ⟨(unhide HXS).cells W hW, (hm W (below_step (unhide HBR) hW)).1⟩
            have HRM := hide (unhide HRMC i (by have := unhide HIU; omega))
            have HJB : Hid (JB ≤ KK) := show _ ≤ _ by have := unhide HJ; omega
            have HTW := hide (tab_below (unhide HTB) (unhide HBR))
            have k1 : (0 : Int) ≤ (i : Int) := by omega
            have k2 : (i : Int) < (N : Int) := by have := unhide HIU; omega
            clear HEND hm
            go_wp2_with fail
            refine wp_region_hold (fun w' : World => (w'.cell? ⟨bs, 0, none⟩ = some (.bool ts.s) ∧ w'.cell? ⟨bs, 1, none⟩ = some (.slice ts.a1 ts.n1 ts.c1) ∧ w'.cell? ⟨bs, 2, none⟩ = some (.slice ts.a2 ts.n2 ts.c2)) ∧ (w'.cell? ⟨GO, i * 3, none⟩ = some (.bool tm.s) ∧ w'.cell? ⟨GO, i * 3 + 1, none⟩ = some (.slice tm.a1 tm.n1 tm.c1) ∧ w'.cell? ⟨GO, i * 3 + 2, none⟩ = some (.slice tm.a2 tm.n2 tm.c2))) (by kernel_rfl) ?_
            have bd0 : Below wr.heap.size wr wr.drew := (Below.refl _ _).drew
            have hC0 : (fun w' : World => (w'.cell? ⟨bs, 0, none⟩ = some (.bool ts.s) ∧ w'.cell? ⟨bs, 1, none⟩ = some (.slice ts.a1 ts.n1 ts.c1) ∧ w'.cell? ⟨bs, 2, none⟩ = some (.slice ts.a2 ts.n2 ts.c2)) ∧ (w'.cell? ⟨GO, i * 3, none⟩ = some (.bool tm.s) ∧ w'.cell? ⟨GO, i * 3 + 1, none⟩ = some (.slice tm.a1 tm.n1 tm.c1) ∧ w'.cell? ⟨GO, i * 3 + 2, none⟩ = some (.slice tm.a2 tm.n2 tm.c2))) wr.drew := unhide HC18 _ bd0
            refine wpHold_take (i := 0) (v := ?_) rfl (by kernel_rfl) (by kernel_rfl) (by kernel_rfl) (fun _ _ _ h => h) (Or.inl ⟨by rfl, ?_⟩) hC0 ?_
            rotate_left
            · intro w hSw; (try dsimp only at hSw); obtain ⟨⟨u0, u1, u2⟩, u3, u4, u5⟩ := hSw; go_simp; (try with_reducible rfl)
            (try simp only [List.getElem_toArray, List.getElem_cons_succ, List.getElem_cons_zero])
            (try simp only [Act.put, List.setIfInBounds_toArray, List.set_cons_zero, List.set_cons_succ])
            refine wpHold_take (i := 1) (v := ?_) rfl (by kernel_rfl) (by kernel_rfl) (by kernel_rfl) (fun _ _ _ h => h) (Or.inl ⟨by rfl, ?_⟩) hC0 ?_
            rotate_left
            · intro w hSw; clear hSw; go_simp; (try with_reducible rfl)
            (try simp only [List.getElem_toArray, List.getElem_cons_succ, List.getElem_cons_zero])
            (try simp only [Act.put, List.setIfInBounds_toArray, List.set_cons_zero, List.set_cons_succ])
            refine wpHold_take (i := 2) (v := ?_) rfl (by kernel_rfl) (by kernel_rfl) (by kernel_rfl) (fun _ _ _ h => h) (Or.inl ⟨by rfl, ?_⟩) hC0 ?_
            rotate_left
            · intro w hSw; clear hSw; go_simp; (try with_reducible rfl)
            (try simp only [List.getElem_toArray, List.getElem_cons_succ, List.getElem_cons_zero])
            (try simp only [Act.put, List.setIfInBounds_toArray, List.set_cons_zero, List.set_cons_succ])
            refine wpHold_take (i := 3) (v := ?_) rfl (by kernel_rfl) (by kernel_rfl) (by kernel_rfl) (fun _ _ _ h => h) (Or.inl ⟨by rfl, ?_⟩) hC0 ?_
            rotate_left
            · intro w hSw; clear hSw; go_simp; (try with_reducible rfl)
            (try simp only [List.getElem_toArray, List.getElem_cons_succ, List.getElem_cons_zero])
            (try simp only [Act.put, List.setIfInBounds_toArray, List.set_cons_zero, List.set_cons_succ])
            refine wpHold_take (i := 4) (v := ?_) rfl (by kernel_rfl) (by kernel_rfl) (by kernel_rfl) (fun _ _ _ h => h) (Or.inl ⟨by rfl, ?_⟩) hC0 ?_
            rotate_left
            · intro w hSw; (try dsimp only at hSw); obtain ⟨⟨u0, u1, u2⟩, u3, u4, u5⟩ := hSw; go_simp; (try with_reducible rfl)
            (try simp only [List.getElem_toArray, List.getElem_cons_succ, List.getElem_cons_zero])
            (try simp only [Act.put, List.setIfInBounds_toArray, List.set_cons_zero, List.set_cons_succ])
            refine wpHold_one (k := 5) (by kernel_rfl) rfl (fun K hK => ?_)
            (try simp only [List.getElem_toArray, List.getElem_cons_succ, List.getElem_cons_zero])
            go_simp
            refine (like_any ts.val tm.val (Rnw.mv x i) _ ((unhide HXS).2.below bd0) ((unhide HTM).below bd0) JB (unhide HRM) (unhide HJB) (tab_below (unhide HTW) bd0)).mono ?_
            rintro e xw_1 ⟨rfl, hb_1⟩
            have cc_1 := below_step bd0 hb_1
            have hC_1 : (fun w' : World => (w'.cell? ⟨bs, 0, none⟩ = some (.bool ts.s) ∧ w'.cell? ⟨bs, 1, none⟩ = some (.slice ts.a1 ts.n1 ts.c1) ∧ w'.cell? ⟨bs, 2, none⟩ = some (.slice ts.a2 ts.n2 ts.c2)) ∧ (w'.cell? ⟨GO, i * 3, none⟩ = some (.bool tm.s) ∧ w'.cell? ⟨GO, i * 3 + 1, none⟩ = some (.slice tm.a1 tm.n1 tm.c1) ∧ w'.cell? ⟨GO, i * 3 + 2, none⟩ = some (.slice tm.a2 tm.n2 tm.c2))) xw_1 := unhide HC18 _ cc_1
            refine hK.out _ _ hC_1 ?_
            clear hK K
            (try simp only [Act.put, List.setIfInBounds_toArray, List.set_cons_zero, List.set_cons_succ])
            refine wpHold_take (i := 6) (v := ?_) rfl (by kernel_rfl) (by kernel_rfl) (by kernel_rfl) (fun _ _ _ h => h) (Or.inl ⟨by rfl, ?_⟩) hC_1 ?_
            rotate_left
            · intro w hSw; clear hSw; go_simp; (try with_reducible rfl)
            (try simp only [List.getElem_toArray, List.getElem_cons_succ, List.getElem_cons_zero])
            (try simp only [Act.put, List.setIfInBounds_toArray, List.set_cons_zero, List.set_cons_succ])
            refine wpHold_done (by kernel_rfl) ?_ _
            have HFB := hide (below_step (unhide HBR) cc_1)
            clear HC18 hC0 hC_1 cc_1 bd0 hb_1 HTM HXS HRM
            go_wp2_with fail
            exact ⟨⟨i + 1, by go_num, by have := unhide HIU; omega, unhide HFB⟩, by have := unhide HIU; simp [intOf]; omega⟩
      · obtain rfl : i = N := by omega
        have j1 : ¬ (i : Int) ≤ (up : Int) := by omega
        have HFB := hide (below_step (unhide HBW) hbr)
        clear hbr
        go_wp2
        go_ret
        exact ⟨rfl, unhide HFB⟩
  · have HLE : Hid (∀ W v (up : Int), LawIs W v qs → ∃ k : Int, Calls Tryd.prog 28 #[v, .int .i64 up] W fun e w' => e = .returned (.tuple #[.slice none 0 0, .iface 92 (.int .i64 k)]) ∧ Below W.heap.size W w') := fun W v up hv => ⟨rtc qs up, rMany_err v qs 1 up (rtc qs up) W hv (unhide HRS) (by rw [KKe]; have := unhide HN10; have := unhide HPL; omega) rfl (by unfold rtc; rw [if_neg hk]; exact hk)⟩
    clear hk hpl
    go_enter Tryd.func6, Tryd.ntmps6
    go_wp2_with fail
    refine (pick_any other 15 (by decide) (by decide) w).mono ?_
    rintro e w0 ⟨up, rfl, hup, rfl⟩
    clear hup
    go_wp2_with fail
    refine (unhide HLW2).mono ?_
    rintro e w1 ⟨v1, rfl, hl1, hb1⟩
    obtain ⟨k, hle⟩ := unhide HLE w1 v1 (up : Int) hl1
    have HLE1 := hide hle
    have HL1 := hide hl1
    have HB1 := hide hb1
    clear hb1 hl1 hle HLE HLW2
    obtain ⟨a1, c1, rfl, m1, m2, -⟩ := unhide HL1
    go_wp2_with fail
    refine (unhide HLE1).mono ?_
    rintro e w2 ⟨rfl, hb2⟩
    have HB2 := hide (below_step (unhide HB1) hb2)
    clear hb2 HLE1 HB1
    go_wp2_with fail
    refine (lasting_any _ (tab_below (unhide HTB0) (unhide HB2))).mono ?_
    rintro e w3 ⟨rfl, hb3⟩
    have HB3 := hide (below_step (unhide HB2) hb3)
    clear hb3 HB2
    go_wp2_with fail
    refine (lasting_any _ (tab_below (unhide HTB0) (unhide HB3))).mono ?_
    rintro e w4 ⟨rfl, hb4⟩
    have HB4 := hide (below_step (unhide HB3) hb4)
    clear hb4 HB3
    go_wp2
    go_ret
    exact ⟨rfl, unhide HB4⟩

end Go.Proofs.YtpopcfclpemlaaaDoor
