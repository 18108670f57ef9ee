/- BirthCuts: the law's walk. -/
import Derived.Test.YtigilnkcjblhcaaDoorQ2
import Derived.Test.YtigilnkcjblhcaaDoorW25
import Derived.Test.YtigilnkcjblhcaaDoorA16
import Derived.Test.YtigilnkcjblhcaaDoorA14
namespace Go.Proofs.YtigilnkcjblhcaaDoor
open Go.RowKit Go.Sort Go.Shelf

theorem pqs_RSb {ps : List (Int × Int)} (h : ∀ j, j < ps.length → I64 (ps[j]!).1 ∧ I64 (ps[j]!).2) : ∀ j, j < (pqs ps).length → RS (pqs ps)[j]! 1 := fun j hj => by
  rw [pqs_length] at hj
  have e : (pqs ps)[j]! = pq ps[j]! := by simp [pqs, hj]
  rw [e]
  exact pq_RS (h j hj).1 (h j hj).2

theorem stv_cut {U D : List Rat} (ok : OkP U D) {i : Nat} (h : i < U.length) : stv U D i * U[i]! = stv U D (i + 1) * D[i]! := by
  refine Bth.pe_cut ?_ (pes U D)
  have := num_pos (ok i h).2
  exact Bth.ne_of_pos this
theorem stv_sum {U D : List Rat} (ok : OkP U D) : Bth.ps (stv U D) (U.length + 1) = 1 := by
  show Bth.ps (fun j => pev U D j / pes U D) (U.length + 1) = 1
  rw [Bth.ps_div]
  exact Bth.div_self (Bth.ne_of_pos (pes_pos ok))
theorem pes_RS {U D : List Rat} (hn : U.length ≤ 25) (hu : ∀ j, j < U.length → RS U[j]! 1) (hd : ∀ j, j < D.length → RS D[j]! 1) (hl : U.length = D.length) (ok : OkP U D) : RS (pes U D) 1500 := by
  have rsr : ∀ j, j < (row (pev U D) (U.length + 1)).length → RS (row (pev U D) (U.length + 1))[j]! 51 := fun j hj => by
    rw [row_length] at hj
    rw [row_get hj]
    exact (pev_RS hu hd hl ok j (by omega)).mono (by omega)
  have := qsum_RS rsr (U.length + 1) (by rw [row_length]; exact Nat.le_refl _)
  rw [qsum_row _ _ _ (Nat.le_refl _)] at this
  exact this.mono (by omega)
theorem stv_RS {U D : List Rat} (hn : U.length ≤ 25) (hu : ∀ j, j < U.length → RS U[j]! 1) (hd : ∀ j, j < D.length → RS D[j]! 1) (hl : U.length = D.length) (ok : OkP U D) {i : Nat} (hi : i ≤ U.length) : RS (stv U D i) 1600 := by
  have zp : (pes U D).num ≠ 0 := fun h => by
    have := pes_pos ok
    rw [Rat.num_eq_zero.1 h] at this
    exact absurd this (by decide)
  exact (RS.div' (pev_RS hu hd hl ok i hi) (pes_RS hn hu hd hl ok) zp).mono (by omega)

set_option maxHeartbeats 16000000 in
set_option maxRecDepth 100000 in
set_option linter.unusedSimpArgs false in
theorem birthCuts_any (u v : Value) (ps rs : List (Int × Int)) (w : World) (htab : Tab w) (h : PairsAre w u ps) (h' : PairsAre w v rs) :
    Calls Tryd.prog 3 #[u, v] w fun e w' => e = .returned (.bool true) ∧ Below w.heap.size w w' := by
  have HP := hide h
  have HP' := hide h'
  obtain ⟨a, c, rfl, h1, h2, h4, h3⟩ := h
  obtain ⟨a', c', rfl, h1', h2', h4', h3'⟩ := h'
  have H4 := hide h4
  have H4' := hide h4'
  clear h3 h4 h3' h4'
  by_cases hlen : (25 : Int) < (ps.length : Int)
  · clear H4 HP H4' HP' htab
    go_enter Tryd.func3, Tryd.ntmps3
    go_wp2
    go_ret
    exact ⟨rfl, Below.refl _ _⟩
  by_cases hlen' : (25 : Int) < (rs.length : Int)
  · clear H4 HP H4' HP' htab
    go_enter Tryd.func3, Tryd.ntmps3
    go_wp2
    go_ret
    exact ⟨rfl, Below.refl _ _⟩
  have hrs := pqs_RSb (unhide H4)
  have hrs' := pqs_RSb (unhide H4')
  have hlA : (pqs ps).length = ps.length := pqs_length _
  have hlB : (pqs rs).length = rs.length := pqs_length _
  have HFA : Hid (∀ W, Below w.heap.size w W → _) := fun W hW => fs_any _ ps W ((unhide HP).below hW) (by omega)
  have HFB : Hid (∀ W, Below w.heap.size w W → _) := fun W hW => fs_any _ rs W ((unhide HP').below hW) (by omega)
  have HHF : Hid (∀ W, Below w.heap.size w W → Calls Tryd.prog 8 #[] W fun e w' => e = .returned (.bool true) ∧ Below W.heap.size W w') := fun W hW => half_any W (tab_below htab hW)
  obtain ⟨A, hA⟩ : ∃ A, pqs ps = A := ⟨_, rfl⟩
  obtain ⟨B, hB⟩ : ∃ B, pqs rs = B := ⟨_, rfl⟩
  rw [hA] at hrs hlA HFA
  rw [hB] at hrs' hlB HFB
  have HRA := hide hrs
  have HRB := hide hrs'
  have HLA := hide hlA
  have HLB := hide hlB
  have HTAB := hide htab
  have KKe : KK = 1099511627776 := rfl
  clear hrs hrs' htab HP HP' hA hB H4 H4' hlA hlB
  go_enter Tryd.func3, Tryd.ntmps3
  go_wp2_with fail
  refine (unhide HFA _ (Below.refl _ _)).mono ?_
  rintro e w1 ⟨va, rfl, hva, hb1⟩
  have HVA := hide hva
  have HB1 := hide hb1
  clear hva hb1
  go_wp2_with fail
  refine (unhide HFB _ (unhide HB1)).mono ?_
  rintro e w2 ⟨vb, rfl, hvb, hb2⟩
  have HVA2 := hide ((unhide HVA).below hb2)
  have HVB2 := hide hvb
  have HB2 := hide (below_step (unhide HB1) hb2)
  clear hvb hb2 HVA HB1
  by_cases good : A.length = B.length ∧ OkP A B
  · obtain ⟨hl, ok⟩ := good
    have HST := hide (steady_any va vb A B w2 (unhide HVA2) (unhide HVB2) (by rw [unhide HLA]; omega) hl (unhide HRA) (unhide HRB) ok)
    have HOK := hide ok
    have HL := hide hl
    obtain ⟨N, hN⟩ : ∃ N, A.length = N := ⟨_, rfl⟩
    have hN' : B.length = N := by rw [← hl, hN]
    have hN25 : N ≤ 25 := by rw [← hN, unhide HLA]; omega
    have LA := unhide HVA2
    have LB := unhide HVB2
    obtain ⟨aa, ca, rfl, ka1, ka2, ka3⟩ := LA
    obtain ⟨ab, cb, rfl, kb1, kb2, kb3⟩ := LB
    have HA3 := hide ka3
    have HB3 := hide kb3
    rw [hN] at ka1 HST ⊢
    rw [hN'] at kb1 HST ⊢
    have HN := hide hN
    have HN' := hide hN'
    clear hl ok hN hN' ka3 kb3
    go_wp2_with fail
    refine (unhide HST).mono ?_
    rintro e w3 ⟨vp, rfl, hvp, hb3⟩
    have HBB3 := hide (below_step (unhide HB2) hb3)
    have HB23 := hide hb3
    obtain ⟨ap, cp, rfl, kp1, kp2, kp3⟩ := hvp
    rw [row_length] at kp1 kp3 ⊢
    have HP3 := hide kp3
    clear hb3 HST kp3
    go_wp2_with fail
    refine (unhide HHF _ (unhide HBB3)).mono ?_
    rintro e w4 ⟨rfl, hb4⟩
    have HBB4 := hide (below_step (unhide HBB3) hb4)
    have HB34 := hide hb4
    clear hb4 HHF
    have e1 : IntKind.i64.wrap ((N : Int) + 1) = (N : Int) + 1 := by rw [IntKind.wrap_i64]; omega
    go_wp2_with fail
    go_loopw [9] (fun vi wr => ∃ k : Nat, vi = .int .i64 (k : Int) ∧ k ≤ N ∧ Below w4.heap.size w4 wr) (fun vi _ => N - (intOf vi).toNat)
    case atStart => exact ⟨0, rfl, Nat.zero_le _, Below.refl _ _⟩
    case round =>
      obtain ⟨k, rfl, hk, hbk⟩ := hrel
      by_cases hlt : k < N
      · obtain ⟨bp, op, rfl, hbp, hcp⟩ := unhide HP3 (by omega)
        obtain ⟨ba, oa, rfl, hba, hca⟩ := unhide HA3 (by rw [unhide HN]; omega)
        obtain ⟨bq, oq, rfl, hbq, hcq⟩ := unhide HB3 (by rw [unhide HN']; omega)
        obtain ⟨ps, pp1, pp2, pn1, pd1, pn2, pd2, pk0, pk1, pk2, pr⟩ := hcp k (by omega)
        obtain ⟨tp, rfl, rfl, rfl, rfl, rfl, rfl, rfl⟩ : ∃ t : Tri, ps = t.s ∧ pp1 = t.a1 ∧ pp2 = t.a2 ∧ pn1 = t.n1 ∧ pd1 = t.c1 ∧ pn2 = t.n2 ∧ pd2 = t.c2 := ⟨⟨ps, pp1, pp2, pn1, pd1, pn2, pd2⟩, rfl, rfl, rfl, rfl, rfl, rfl, rfl⟩
        obtain ⟨xs, xp1, xp2, xn1, xd1, xn2, xd2, xk0, xk1, xk2, xr⟩ := hca k (by rw [unhide HN]; exact hlt)
        obtain ⟨tx, rfl, rfl, rfl, rfl, rfl, rfl, rfl⟩ : ∃ t : Tri, xs = t.s ∧ xp1 = t.a1 ∧ xp2 = t.a2 ∧ xn1 = t.n1 ∧ xd1 = t.c1 ∧ xn2 = t.n2 ∧ xd2 = t.c2 := ⟨⟨xs, xp1, xp2, xn1, xd1, xn2, xd2⟩, rfl, rfl, rfl, rfl, rfl, rfl, rfl⟩
        obtain ⟨qs, qp1, qp2, qn1, qd1, qn2, qd2, qk0, qk1, qk2, qr⟩ := hcp (k + 1) (by omega)
        obtain ⟨tq, rfl, rfl, rfl, rfl, rfl, rfl, rfl⟩ : ∃ t : Tri, qs = t.s ∧ qp1 = t.a1 ∧ qp2 = t.a2 ∧ qn1 = t.n1 ∧ qd1 = t.c1 ∧ qn2 = t.n2 ∧ qd2 = t.c2 := ⟨⟨qs, qp1, qp2, qn1, qd1, qn2, qd2⟩, rfl, rfl, rfl, rfl, rfl, rfl, rfl⟩
        obtain ⟨ys, yp1, yp2, yn1, yd1, yn2, yd2, yk0, yk1, yk2, yr⟩ := hcq k (by rw [unhide HN']; exact hlt)
        obtain ⟨ty, rfl, rfl, rfl, rfl, rfl, rfl, rfl⟩ : ∃ t : Tri, ys = t.s ∧ yp1 = t.a1 ∧ yp2 = t.a2 ∧ yn1 = t.n1 ∧ yd1 = t.c1 ∧ yn2 = t.n2 ∧ yd2 = t.c2 := ⟨⟨ys, yp1, yp2, yn1, yd1, yn2, yd2⟩, rfl, rfl, rfl, rfl, rfl, rfl, rfl⟩
        rw [row_get (by omega)] at pr qr
        have b3 := below_step (unhide HB34) hbk
        have b2 := below_step (unhide HB23) b3
        have HCC : Hid (∀ W, Below wr.heap.size wr W → (fun w' : World => (w'.cell? ⟨bp, op + k * 3, none⟩ = some (.bool tp.s) ∧ w'.cell? ⟨bp, op + k * 3 + 1, none⟩ = some (.slice tp.a1 tp.n1 tp.c1) ∧ w'.cell? ⟨bp, op + k * 3 + 2, none⟩ = some (.slice tp.a2 tp.n2 tp.c2)) ∧ (w'.cell? ⟨ba, oa + k * 3, none⟩ = some (.bool tx.s) ∧ w'.cell? ⟨ba, oa + k * 3 + 1, none⟩ = some (.slice tx.a1 tx.n1 tx.c1) ∧ w'.cell? ⟨ba, oa + k * 3 + 2, none⟩ = some (.slice tx.a2 tx.n2 tx.c2)) ∧ (w'.cell? ⟨bp, op + (k + 1) * 3, none⟩ = some (.bool tq.s) ∧ w'.cell? ⟨bp, op + (k + 1) * 3 + 1, none⟩ = some (.slice tq.a1 tq.n1 tq.c1) ∧ w'.cell? ⟨bp, op + (k + 1) * 3 + 2, none⟩ = some (.slice tq.a2 tq.n2 tq.c2)) ∧ (w'.cell? ⟨bq, oq + k * 3, none⟩ = some (.bool ty.s) ∧ w'.cell? ⟨bq, oq + k * 3 + 1, none⟩ = some (.slice ty.a1 ty.n1 ty.c1) ∧ w'.cell? ⟨bq, oq + k * 3 + 2, none⟩ = some (.slice ty.a2 ty.n2 ty.c2))) W) := fun W hW => by
          have c3 := below_step b3 hW
          have c2 := below_step b2 hW
          show (_ ∧ _ ∧ _) ∧ (_ ∧ _ ∧ _) ∧ (_ ∧ _ ∧ _) ∧ _ ∧ _ ∧ _
          rw [c3.cell (p := ⟨bp, op + k * 3, none⟩) hbp, c3.cell (p := ⟨bp, op + k * 3 + 1, none⟩) hbp, c3.cell (p := ⟨bp, op + k * 3 + 2, none⟩) hbp, c2.cell (p := ⟨ba, oa + k * 3, none⟩) hba, c2.cell (p := ⟨ba, oa + k * 3 + 1, none⟩) hba, c2.cell (p := ⟨ba, oa + k * 3 + 2, none⟩) hba, c3.cell (p := ⟨bp, op + (k + 1) * 3, none⟩) hbp, c3.cell (p := ⟨bp, op + (k + 1) * 3 + 1, none⟩) hbp, c3.cell (p := ⟨bp, op + (k + 1) * 3 + 2, none⟩) hbp, c2.cell (p := ⟨bq, oq + k * 3, none⟩) hbq, c2.cell (p := ⟨bq, oq + k * 3 + 1, none⟩) hbq, c2.cell (p := ⟨bq, oq + k * 3 + 2, none⟩) hbq]
          exact ⟨⟨pk0, pk1, pk2⟩, ⟨xk0, xk1, xk2⟩, ⟨qk0, qk1, qk2⟩, yk0, yk1, yk2⟩
        have HRP := hide (pr.below b3)
        have HRX := hide (xr.below b2)
        have HRQ := hide (qr.below b3)
        have HRY := hide (yr.below b2)
        have HLT : Hid (A.length ≤ 25) := by show _ ≤ _; rw [unhide HN]; exact hN25
        have sp := stv_RS (unhide HLT) (unhide HRA) (unhide HRB) (unhide HL) (unhide HOK) (i := k) (by rw [unhide HN]; omega)
        have sq := stv_RS (unhide HLT) (unhide HRA) (unhide HRB) (unhide HL) (unhide HOK) (i := k + 1) (by rw [unhide HN]; omega)
        have sx := unhide HRA k (by rw [unhide HN]; omega)
        have sy := unhide HRB k (by rw [unhide HN']; omega)
        have HM1 : Hid (∀ W, Below wr.heap.size wr W → Calls Tryd.prog 10 #[.agg #[.bool tp.s, .slice tp.a1 tp.n1 tp.c1, .slice tp.a2 tp.n2 tp.c2], .agg #[.bool tx.s, .slice tx.a1 tx.n1 tx.c1, .slice tx.a2 tx.n2 tx.c2]] W fun e w' => ∃ v, e = .returned v ∧ RatIs w' v (stv A B k * A[k]!) ∧ Below W.heap.size W w') := fun W hW => mulR_any _ _ _ _ W ((unhide HRP).below hW) ((unhide HRX).below hW) 1600 sp (sx.mono (by omega)) (by rw [KKe]; omega)
        have HM2 : Hid (∀ W, Below wr.heap.size wr W → Calls Tryd.prog 10 #[.agg #[.bool tq.s, .slice tq.a1 tq.n1 tq.c1, .slice tq.a2 tq.n2 tq.c2], .agg #[.bool ty.s, .slice ty.a1 ty.n1 ty.c1, .slice ty.a2 ty.n2 ty.c2]] W fun e w' => ∃ v, e = .returned v ∧ RatIs w' v (stv A B k * A[k]!) ∧ Below W.heap.size W w') := fun W hW => by
          rw [stv_cut (unhide HOK) (by rw [unhide HN]; exact hlt)]
          exact mulR_any _ _ _ _ W ((unhide HRQ).below hW) ((unhide HRY).below hW) 1600 sq (sy.mono (by omega)) (by rw [KKe]; omega)
        have HLK : Hid (∀ W v v', Below wr.heap.size wr W → RatIs W v (stv A B k * A[k]!) → RatIs W v' (stv A B k * A[k]!) → Calls Tryd.prog 9 #[v, v'] W fun e w' => e = .returned (.bool true) ∧ Below W.heap.size W w') := fun W v v' hW h1 h2 => like_any v v' _ W h1 h2 1700 ((RS.mul sp sx).mono (by omega)) (by rw [KKe]; omega) (tab_below (unhide HTAB) (below_step (below_step (unhide HBB4) hbk) hW))
        have HBK := hide hbk
        have j1 : (k : Int) < (N : Int) := by omega
        have j2 : (0 : Int) ≤ (k : Int) := by omega
        have j3 : (k : Int) < (N : Int) + 1 := by omega
        have j4 : (k : Int) + 1 < (N : Int) + 1 := by omega
        have j5 : (0 : Int) ≤ (k : Int) + 1 := by omega
        have j6 : IntKind.i64.wrap ((k : Int) + 1) = (k : Int) + 1 := by rw [IntKind.wrap_i64]; omega
        have j7 : ((k : Int) + 1).toNat = k + 1 := by omega
        clear pr xr qr yr sp sq sx sy hbk hcp hca hcq pk0 pk1 pk2 xk0 xk1 xk2 qk0 qk1 qk2 yk0 yk1 yk2 b2 b3
        go_wp2_with fail
        refine wp_region_hold (fun w' : World => (w'.cell? ⟨bp, op + k * 3, none⟩ = some (.bool tp.s) ∧ w'.cell? ⟨bp, op + k * 3 + 1, none⟩ = some (.slice tp.a1 tp.n1 tp.c1) ∧ w'.cell? ⟨bp, op + k * 3 + 2, none⟩ = some (.slice tp.a2 tp.n2 tp.c2)) ∧ (w'.cell? ⟨ba, oa + k * 3, none⟩ = some (.bool tx.s) ∧ w'.cell? ⟨ba, oa + k * 3 + 1, none⟩ = some (.slice tx.a1 tx.n1 tx.c1) ∧ w'.cell? ⟨ba, oa + k * 3 + 2, none⟩ = some (.slice tx.a2 tx.n2 tx.c2)) ∧ (w'.cell? ⟨bp, op + (k + 1) * 3, none⟩ = some (.bool tq.s) ∧ w'.cell? ⟨bp, op + (k + 1) * 3 + 1, none⟩ = some (.slice tq.a1 tq.n1 tq.c1) ∧ w'.cell? ⟨bp, op + (k + 1) * 3 + 2, none⟩ = some (.slice tq.a2 tq.n2 tq.c2)) ∧ (w'.cell? ⟨bq, oq + k * 3, none⟩ = some (.bool ty.s) ∧ w'.cell? ⟨bq, oq + k * 3 + 1, none⟩ = some (.slice ty.a1 ty.n1 ty.c1) ∧ w'.cell? ⟨bq, oq + k * 3 + 2, none⟩ = some (.slice ty.a2 ty.n2 ty.c2))) (by kernel_rfl) ?_
        have bd0 : Below wr.heap.size wr wr.drew := (Below.refl _ _).drew
        have hC0 : (fun w' : World => (w'.cell? ⟨bp, op + k * 3, none⟩ = some (.bool tp.s) ∧ w'.cell? ⟨bp, op + k * 3 + 1, none⟩ = some (.slice tp.a1 tp.n1 tp.c1) ∧ w'.cell? ⟨bp, op + k * 3 + 2, none⟩ = some (.slice tp.a2 tp.n2 tp.c2)) ∧ (w'.cell? ⟨ba, oa + k * 3, none⟩ = some (.bool tx.s) ∧ w'.cell? ⟨ba, oa + k * 3 + 1, none⟩ = some (.slice tx.a1 tx.n1 tx.c1) ∧ w'.cell? ⟨ba, oa + k * 3 + 2, none⟩ = some (.slice tx.a2 tx.n2 tx.c2)) ∧ (w'.cell? ⟨bp, op + (k + 1) * 3, none⟩ = some (.bool tq.s) ∧ w'.cell? ⟨bp, op + (k + 1) * 3 + 1, none⟩ = some (.slice tq.a1 tq.n1 tq.c1) ∧ w'.cell? ⟨bp, op + (k + 1) * 3 + 2, none⟩ = some (.slice tq.a2 tq.n2 tq.c2)) ∧ (w'.cell? ⟨bq, oq + k * 3, none⟩ = some (.bool ty.s) ∧ w'.cell? ⟨bq, oq + k * 3 + 1, none⟩ = some (.slice ty.a1 ty.n1 ty.c1) ∧ w'.cell? ⟨bq, oq + k * 3 + 2, none⟩ = some (.slice ty.a2 ty.n2 ty.c2))) wr.drew := unhide HCC _ bd0
        refine wpHold_take (i := 0) (v := ?_) rfl (by kernel_rfl) (by kernel_rfl) (by kernel_rfl) (fun _ _ _ h => h) (Or.inl ⟨by rfl, ?_⟩) hC0 ?_
        rotate_left
        · intro w hSw; clear hSw; go_simp; (try with_reducible rfl)
        (try simp only [List.getElem_toArray, List.getElem_cons_succ, List.getElem_cons_zero])
        (try simp only [Act.put, List.setIfInBounds_toArray, List.set_cons_zero, List.set_cons_succ])
        refine wpHold_take (i := 1) (v := ?_) rfl (by kernel_rfl) (by kernel_rfl) (by kernel_rfl) (fun _ _ _ h => h) (Or.inl ⟨by rfl, ?_⟩) hC0 ?_
        rotate_left
        · intro w hSw; clear hSw; go_simp; (try with_reducible rfl)
        (try simp only [List.getElem_toArray, List.getElem_cons_succ, List.getElem_cons_zero])
        (try simp only [Act.put, List.setIfInBounds_toArray, List.set_cons_zero, List.set_cons_succ])
        refine wpHold_take (i := 2) (v := ?_) rfl (by kernel_rfl) (by kernel_rfl) (by kernel_rfl) (fun _ _ _ h => h) (Or.inl ⟨by rfl, ?_⟩) hC0 ?_
        rotate_left
        · intro w hSw; clear hSw; go_simp; (try with_reducible rfl)
        (try simp only [List.getElem_toArray, List.getElem_cons_succ, List.getElem_cons_zero])
        (try simp only [Act.put, List.setIfInBounds_toArray, List.set_cons_zero, List.set_cons_succ])
        refine wpHold_take (i := 3) (v := ?_) rfl (by kernel_rfl) (by kernel_rfl) (by kernel_rfl) (fun _ _ _ h => h) (Or.inl ⟨by rfl, ?_⟩) hC0 ?_
        rotate_left
        · intro w hSw; (try dsimp only at hSw); obtain ⟨⟨z0, z1, z2⟩, ⟨z3, z4, z5⟩, ⟨z6, z7, z8⟩, z9, z10, z11⟩ := hSw; go_simp; (try with_reducible rfl)
        (try simp only [List.getElem_toArray, List.getElem_cons_succ, List.getElem_cons_zero])
        (try simp only [Act.put, List.setIfInBounds_toArray, List.set_cons_zero, List.set_cons_succ])
        refine wpHold_take (i := 4) (v := ?_) rfl (by kernel_rfl) (by kernel_rfl) (by kernel_rfl) (fun _ _ _ h => h) (Or.inl ⟨by rfl, ?_⟩) hC0 ?_
        rotate_left
        · intro w hSw; clear hSw; go_simp; (try with_reducible rfl)
        (try simp only [List.getElem_toArray, List.getElem_cons_succ, List.getElem_cons_zero])
        (try simp only [Act.put, List.setIfInBounds_toArray, List.set_cons_zero, List.set_cons_succ])
        refine wpHold_take (i := 5) (v := ?_) rfl (by kernel_rfl) (by kernel_rfl) (by kernel_rfl) (fun _ _ _ h => h) (Or.inl ⟨by rfl, ?_⟩) hC0 ?_
        rotate_left
        · intro w hSw; clear hSw; go_simp; (try with_reducible rfl)
        (try simp only [List.getElem_toArray, List.getElem_cons_succ, List.getElem_cons_zero])
        (try simp only [Act.put, List.setIfInBounds_toArray, List.set_cons_zero, List.set_cons_succ])
        refine wpHold_take (i := 6) (v := ?_) rfl (by kernel_rfl) (by kernel_rfl) (by kernel_rfl) (fun _ _ _ h => h) (Or.inl ⟨by rfl, ?_⟩) hC0 ?_
        rotate_left
        · intro w hSw; clear hSw; go_simp; (try with_reducible rfl)
        (try simp only [List.getElem_toArray, List.getElem_cons_succ, List.getElem_cons_zero])
        (try simp only [Act.put, List.setIfInBounds_toArray, List.set_cons_zero, List.set_cons_succ])
        refine wpHold_take (i := 7) (v := ?_) rfl (by kernel_rfl) (by kernel_rfl) (by kernel_rfl) (fun _ _ _ h => h) (Or.inl ⟨by rfl, ?_⟩) hC0 ?_
        rotate_left
        · intro w hSw; (try dsimp only at hSw); obtain ⟨⟨z0, z1, z2⟩, ⟨z3, z4, z5⟩, ⟨z6, z7, z8⟩, z9, z10, z11⟩ := hSw; go_simp; (try with_reducible rfl)
        (try simp only [List.getElem_toArray, List.getElem_cons_succ, List.getElem_cons_zero])
        (try simp only [Act.put, List.setIfInBounds_toArray, List.set_cons_zero, List.set_cons_succ])
        refine wpHold_take (i := 9) (v := ?_) rfl (by kernel_rfl) (by kernel_rfl) (by kernel_rfl) (fun _ _ _ h => h) (Or.inl ⟨by rfl, ?_⟩) hC0 ?_
        rotate_left
        · intro w hSw; clear hSw; go_simp; (try with_reducible rfl)
        (try simp only [List.getElem_toArray, List.getElem_cons_succ, List.getElem_cons_zero])
        (try simp only [Act.put, List.setIfInBounds_toArray, List.set_cons_zero, List.set_cons_succ])
        refine wpHold_take (i := 10) (v := ?_) rfl (by kernel_rfl) (by kernel_rfl) (by kernel_rfl) (fun _ _ _ h => h) (Or.inl ⟨by rfl, ?_⟩) hC0 ?_
        rotate_left
        · intro w hSw; clear hSw; go_simp; (try with_reducible rfl)
        (try simp only [List.getElem_toArray, List.getElem_cons_succ, List.getElem_cons_zero])
        (try simp only [Act.put, List.setIfInBounds_toArray, List.set_cons_zero, List.set_cons_succ])
        refine wpHold_take (i := 11) (v := ?_) rfl (by kernel_rfl) (by kernel_rfl) (by kernel_rfl) (fun _ _ _ h => h) (Or.inl ⟨by rfl, ?_⟩) hC0 ?_
        rotate_left
        · intro w hSw; clear hSw; go_simp; (try with_reducible rfl)
        (try simp only [List.getElem_toArray, List.getElem_cons_succ, List.getElem_cons_zero])
        (try simp only [Act.put, List.setIfInBounds_toArray, List.set_cons_zero, List.set_cons_succ])
        refine wpHold_take (i := 12) (v := ?_) rfl (by kernel_rfl) (by kernel_rfl) (by kernel_rfl) (fun _ _ _ h => h) (Or.inl ⟨by rfl, ?_⟩) hC0 ?_
        rotate_left
        · intro w hSw; clear hSw; go_simp; (try with_reducible rfl)
        (try simp only [List.getElem_toArray, List.getElem_cons_succ, List.getElem_cons_zero])
        (try simp only [Act.put, List.setIfInBounds_toArray, List.set_cons_zero, List.set_cons_succ])
        refine wpHold_take (i := 13) (v := ?_) rfl (by kernel_rfl) (by kernel_rfl) (by kernel_rfl) (fun _ _ _ h => h) (Or.inl ⟨by rfl, ?_⟩) hC0 ?_
        rotate_left
        · intro w hSw; (try dsimp only at hSw); obtain ⟨⟨z0, z1, z2⟩, ⟨z3, z4, z5⟩, ⟨z6, z7, z8⟩, z9, z10, z11⟩ := hSw; go_simp; (try with_reducible rfl)
        (try simp only [List.getElem_toArray, List.getElem_cons_succ, List.getElem_cons_zero])
        (try simp only [Act.put, List.setIfInBounds_toArray, List.set_cons_zero, List.set_cons_succ])
        refine wpHold_take (i := 14) (v := ?_) rfl (by kernel_rfl) (by kernel_rfl) (by kernel_rfl) (fun _ _ _ h => h) (Or.inl ⟨by rfl, ?_⟩) hC0 ?_
        rotate_left
        · intro w hSw; clear hSw; go_simp; (try with_reducible rfl)
        (try simp only [List.getElem_toArray, List.getElem_cons_succ, List.getElem_cons_zero])
        (try simp only [Act.put, List.setIfInBounds_toArray, List.set_cons_zero, List.set_cons_succ])
        refine wpHold_take (i := 15) (v := ?_) rfl (by kernel_rfl) (by kernel_rfl) (by kernel_rfl) (fun _ _ _ h => h) (Or.inl ⟨by rfl, ?_⟩) hC0 ?_
        rotate_left
        · intro w hSw; clear hSw; go_simp; (try with_reducible rfl)
        (try simp only [List.getElem_toArray, List.getElem_cons_succ, List.getElem_cons_zero])
        (try simp only [Act.put, List.setIfInBounds_toArray, List.set_cons_zero, List.set_cons_succ])
        refine wpHold_take (i := 16) (v := ?_) rfl (by kernel_rfl) (by kernel_rfl) (by kernel_rfl) (fun _ _ _ h => h) (Or.inl ⟨by rfl, ?_⟩) hC0 ?_
        rotate_left
        · intro w hSw; clear hSw; go_simp; (try with_reducible rfl)
        (try simp only [List.getElem_toArray, List.getElem_cons_succ, List.getElem_cons_zero])
        (try simp only [Act.put, List.setIfInBounds_toArray, List.set_cons_zero, List.set_cons_succ])
        refine wpHold_take (i := 17) (v := ?_) rfl (by kernel_rfl) (by kernel_rfl) (by kernel_rfl) (fun _ _ _ h => h) (Or.inl ⟨by rfl, ?_⟩) hC0 ?_
        rotate_left
        · intro w hSw; (try dsimp only at hSw); obtain ⟨⟨z0, z1, z2⟩, ⟨z3, z4, z5⟩, ⟨z6, z7, z8⟩, z9, z10, z11⟩ := hSw; go_simp; (try with_reducible rfl)
        (try simp only [List.getElem_toArray, List.getElem_cons_succ, List.getElem_cons_zero])
        (try simp only [Act.put, List.setIfInBounds_toArray, List.set_cons_zero, List.set_cons_succ])
        refine wpHold_one (k := 8) (by kernel_rfl) rfl (fun K hK => ?_)
        (try simp only [List.getElem_toArray, List.getElem_cons_succ, List.getElem_cons_zero])
        go_simp
        refine (unhide HM1 _ bd0).mono ?_
        rintro e xw_1 ⟨xv_1, rfl, hv_1, hb_1⟩
        have cc_1 := below_step bd0 hb_1
        have hC_1 : (fun w' : World => (w'.cell? ⟨bp, op + k * 3, none⟩ = some (.bool tp.s) ∧ w'.cell? ⟨bp, op + k * 3 + 1, none⟩ = some (.slice tp.a1 tp.n1 tp.c1) ∧ w'.cell? ⟨bp, op + k * 3 + 2, none⟩ = some (.slice tp.a2 tp.n2 tp.c2)) ∧ (w'.cell? ⟨ba, oa + k * 3, none⟩ = some (.bool tx.s) ∧ w'.cell? ⟨ba, oa + k * 3 + 1, none⟩ = some (.slice tx.a1 tx.n1 tx.c1) ∧ w'.cell? ⟨ba, oa + k * 3 + 2, none⟩ = some (.slice tx.a2 tx.n2 tx.c2)) ∧ (w'.cell? ⟨bp, op + (k + 1) * 3, none⟩ = some (.bool tq.s) ∧ w'.cell? ⟨bp, op + (k + 1) * 3 + 1, none⟩ = some (.slice tq.a1 tq.n1 tq.c1) ∧ w'.cell? ⟨bp, op + (k + 1) * 3 + 2, none⟩ = some (.slice tq.a2 tq.n2 tq.c2)) ∧ (w'.cell? ⟨bq, oq + k * 3, none⟩ = some (.bool ty.s) ∧ w'.cell? ⟨bq, oq + k * 3 + 1, none⟩ = some (.slice ty.a1 ty.n1 ty.c1) ∧ w'.cell? ⟨bq, oq + k * 3 + 2, none⟩ = some (.slice ty.a2 ty.n2 ty.c2))) xw_1 := unhide HCC _ cc_1
        refine hK.out _ _ hC_1 ?_
        clear hK K
        (try simp only [Act.put, List.setIfInBounds_toArray, List.set_cons_zero, List.set_cons_succ])
        refine wpHold_one (k := 18) (by kernel_rfl) rfl (fun K hK => ?_)
        (try simp only [List.getElem_toArray, List.getElem_cons_succ, List.getElem_cons_zero])
        go_simp
        refine (unhide HM2 _ cc_1).mono ?_
        rintro e xw_2 ⟨xv_2, rfl, hv_2, hb_2⟩
        have cc_2 := below_step cc_1 hb_2
        have hC_2 : (fun w' : World => (w'.cell? ⟨bp, op + k * 3, none⟩ = some (.bool tp.s) ∧ w'.cell? ⟨bp, op + k * 3 + 1, none⟩ = some (.slice tp.a1 tp.n1 tp.c1) ∧ w'.cell? ⟨bp, op + k * 3 + 2, none⟩ = some (.slice tp.a2 tp.n2 tp.c2)) ∧ (w'.cell? ⟨ba, oa + k * 3, none⟩ = some (.bool tx.s) ∧ w'.cell? ⟨ba, oa + k * 3 + 1, none⟩ = some (.slice tx.a1 tx.n1 tx.c1) ∧ w'.cell? ⟨ba, oa + k * 3 + 2, none⟩ = some (.slice tx.a2 tx.n2 tx.c2)) ∧ (w'.cell? ⟨bp, op + (k + 1) * 3, none⟩ = some (.bool tq.s) ∧ w'.cell? ⟨bp, op + (k + 1) * 3 + 1, none⟩ = some (.slice tq.a1 tq.n1 tq.c1) ∧ w'.cell? ⟨bp, op + (k + 1) * 3 + 2, none⟩ = some (.slice tq.a2 tq.n2 tq.c2)) ∧ (w'.cell? ⟨bq, oq + k * 3, none⟩ = some (.bool ty.s) ∧ w'.cell? ⟨bq, oq + k * 3 + 1, none⟩ = some (.slice ty.a1 ty.n1 ty.c1) ∧ w'.cell? ⟨bq, oq + k * 3 + 2, none⟩ = some (.slice ty.a2 ty.n2 ty.c2))) xw_2 := unhide HCC _ cc_2
        refine hK.out _ _ hC_2 ?_
        clear hK K
        (try simp only [Act.put, List.setIfInBounds_toArray, List.set_cons_zero, List.set_cons_succ])
        refine wpHold_one (k := 19) (by kernel_rfl) rfl (fun K hK => ?_)
        (try simp only [List.getElem_toArray, List.getElem_cons_succ, List.getElem_cons_zero])
        go_simp
        refine (unhide HLK _ _ _ cc_2 (hv_1.below hb_2) hv_2).mono ?_
        rintro e xw_3 ⟨rfl, hb_3⟩
        have cc_3 := below_step cc_2 hb_3
        have hC_3 : (fun w' : World => (w'.cell? ⟨bp, op + k * 3, none⟩ = some (.bool tp.s) ∧ w'.cell? ⟨bp, op + k * 3 + 1, none⟩ = some (.slice tp.a1 tp.n1 tp.c1) ∧ w'.cell? ⟨bp, op + k * 3 + 2, none⟩ = some (.slice tp.a2 tp.n2 tp.c2)) ∧ (w'.cell? ⟨ba, oa + k * 3, none⟩ = some (.bool tx.s) ∧ w'.cell? ⟨ba, oa + k * 3 + 1, none⟩ = some (.slice tx.a1 tx.n1 tx.c1) ∧ w'.cell? ⟨ba, oa + k * 3 + 2, none⟩ = some (.slice tx.a2 tx.n2 tx.c2)) ∧ (w'.cell? ⟨bp, op + (k + 1) * 3, none⟩ = some (.bool tq.s) ∧ w'.cell? ⟨bp, op + (k + 1) * 3 + 1, none⟩ = some (.slice tq.a1 tq.n1 tq.c1) ∧ w'.cell? ⟨bp, op + (k + 1) * 3 + 2, none⟩ = some (.slice tq.a2 tq.n2 tq.c2)) ∧ (w'.cell? ⟨bq, oq + k * 3, none⟩ = some (.bool ty.s) ∧ w'.cell? ⟨bq, oq + k * 3 + 1, none⟩ = some (.slice ty.a1 ty.n1 ty.c1) ∧ w'.cell? ⟨bq, oq + k * 3 + 2, none⟩ = some (.slice ty.a2 ty.n2 ty.c2))) xw_3 := unhide HCC _ cc_3
        refine hK.out _ _ hC_3 ?_
        clear hK K
        (try simp only [Act.put, List.setIfInBounds_toArray, List.set_cons_zero, List.set_cons_succ])
        refine wpHold_take (i := 20) (v := ?_) rfl (by kernel_rfl) (by kernel_rfl) (by kernel_rfl) (fun _ _ _ h => h) (Or.inl ⟨by rfl, ?_⟩) hC_3 ?_
        rotate_left
        · intro w hSw; clear hSw; go_simp; (try with_reducible rfl)
        (try simp only [List.getElem_toArray, List.getElem_cons_succ, List.getElem_cons_zero])
        (try simp only [Act.put, List.setIfInBounds_toArray, List.set_cons_zero, List.set_cons_succ])
        refine wpHold_done (by kernel_rfl) ?_ _
        have HBN := hide (below_step (unhide HBK) cc_3)
        clear hb_1 hb_2 hb_3 hv_1 hv_2 cc_1 cc_2 cc_3 hC_1 hC_2 hC_3 hC0 bd0 HCC
        go_wp2
        exact ⟨⟨k + 1, by go_num, by omega, unhide HBN⟩, by simp [intOf]; omega⟩
      · obtain rfl : k = N := by omega
        have j1 : ¬ (k : Int) < (k : Int) := by omega
        have b3 := below_step (unhide HB34) hbk
        have LP : LawIs wr (.slice ap (k + 1) cp) (row (stv A B) (k + 1)) := by
          have h0 : LawIs w3 (.slice ap (k + 1) cp) (row (stv A B) (k + 1)) := ⟨ap, cp, by rw [row_length], by rw [row_length]; exact kp1, kp2, by rw [row_length]; exact unhide HP3⟩
          exact h0.below b3
        have HLT : Hid (A.length ≤ 25) := by show _ ≤ _; rw [unhide HN]; exact hN25
        have rsr : ∀ j, j < (row (stv A B) (k + 1)).length → RS (row (stv A B) (k + 1))[j]! 1600 := fun j hj => by
          rw [row_length] at hj
          rw [row_get hj]
          exact stv_RS (unhide HLT) (unhide HRA) (unhide HRB) (unhide HL) (unhide HOK) (by rw [unhide HN]; omega)
        have HSU := hide (fsum_any _ _ 1600 wr LP rsr (by rw [row_length, KKe]; omega))
        have e1 : qsum (row (stv A B) (k + 1)) (row (stv A B) (k + 1)).length = ((1 : Int) : Rat) := by
          rw [row_length, qsum_row _ _ _ (Nat.le_refl _)]
          have := stv_sum (unhide HOK)
          rw [unhide HN] at this
          exact this
        rw [e1] at HSU
        have HBK := hide (below_step (unhide HBB4) hbk)
        clear LP rsr e1 b3 hbk
        go_wp2_with fail
        refine (unhide HSU).mono ?_
        rintro e w5 ⟨v5, rfl, hv5, hb5⟩
        have HV5 := hide hv5
        have HB5 := hide (below_step (unhide HBK) hb5)
        obtain ⟨t5, rfl, _⟩ := tri_of hv5
        simp only [Tri.val] at HV5 ⊢
        clear hv5 hb5 HBK HSU
        go_wp2_with fail
        refine (whole_any 1 (by decide) (by decide) _).mono ?_
        rintro e w6 ⟨v6, rfl, hv6, hb6⟩
        have HLK := hide (like_any _ v6 ((1 : Int) : Rat) w6 ((unhide HV5).below hb6) hv6 1 onei_RS (by rw [KKe]; omega) (tab_below (unhide HTAB) (below_step (unhide HB5) hb6)))
        have HB6 := hide (below_step (unhide HB5) hb6)
        obtain ⟨t6, rfl, _⟩ := tri_of hv6
        simp only [Tri.val] at HLK ⊢
        clear hv6 hb6 HB5 HV5
        go_wp2_with fail
        refine (unhide HLK).mono ?_
        rintro e w7 ⟨rfl, hb7⟩
        have HB7 := hide (below_step (unhide HB6) hb7)
        clear hb7 HLK HB6
        go_wp2
        go_ret
        exact ⟨rfl, unhide HB7⟩
  · have HST : Hid (∃ k : Int, Calls Tryd.prog 7 #[va, vb] w2 fun e w' => e = .returned (.tuple #[.slice none 0 0, .iface 62 (.int .i64 k)]) ∧ Below w2.heap.size w2 w') := by
      by_cases hl : A.length = B.length
      · exact ⟨1, steady_arg va vb A B w2 (unhide HVA2) (unhide HVB2) (by rw [unhide HLA]; omega) hl (fun h => good ⟨hl, h⟩)⟩
      · exact ⟨3, steady_form va vb A B w2 (unhide HVA2) (unhide HVB2) (by rw [unhide HLA]; omega) hl⟩
    obtain ⟨k, hst⟩ := unhide HST
    have HS := hide hst
    clear hst HST good
    obtain ⟨aa, ca, rfl, _, _, _⟩ := unhide HVA2
    obtain ⟨ab, cb, rfl, _, _, _⟩ := unhide HVB2
    go_wp2_with fail
    refine (unhide HS).mono ?_
    rintro e w3 ⟨rfl, hb3⟩
    have HB3 := hide (below_step (unhide HB2) hb3)
    clear hb3 HS HB2
    go_wp2_with fail
    refine (unhide HHF _ (unhide HB3)).mono ?_
    rintro e w4 ⟨rfl, hb4⟩
    have HB4 := hide (below_step (unhide HB3) hb4)
    clear hb4 HB3
    go_wp2_with fail
    refine (unhide HHF _ (unhide HB4)).mono ?_
    rintro e w5 ⟨rfl, hb5⟩
    have HB5 := hide (below_step (unhide HB4) hb5)
    clear hb5 HB4
    go_wp2
    go_ret
    exact ⟨rfl, unhide HB5⟩
end Go.Proofs.YtigilnkcjblhcaaDoor
