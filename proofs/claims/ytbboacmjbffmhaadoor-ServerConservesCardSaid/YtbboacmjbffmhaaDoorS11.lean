/- ServerFirst: the law's walk. -/
import Derived.Test.YtbboacmjbffmhaaDoorS10
import Derived.Test.YtbboacmjbffmhaaDoorW25
import Derived.Test.YtbboacmjbffmhaaDoorA14
namespace Go.Proofs.YtbboacmjbffmhaaDoor
open Go.RowKit Go.Sort Go.Shelf

theorem wait_fit (v : Value) (ks : List (Rat × List Rat)) (w : World) (h : ClassesAre w v ks) (sm : SmC ks) (hl : ks.length ≤ 6) (fit : FitC ks) : Calls Tryd.prog 6 #[v] w fun e w' => ∃ v, e = .returned (.tuple #[v, .nilIface]) ∧ RatIs w' v (waitC ks) ∧ Below w.heap.size w w' :=
  (wait_any v ks w h sm hl).mono (by
    rintro e w' (⟨_, h⟩ | ⟨h, _⟩)
    · exact h
    · exact absurd fit h)
theorem stays_fit (v : Value) (ks : List (Rat × List Rat)) (w : World) (h : ClassesAre w v ks) (sm : SmC ks) (hl : ks.length ≤ 6) (fit : FitC ks) : Calls Tryd.prog 15 #[v] w fun e w' => ∃ v, e = .returned (.tuple #[v, .nilIface]) ∧ LawIs w' v (row (staysC ks) ks.length) ∧ Below w.heap.size w w' :=
  (stays_any v ks w h sm hl).mono (by
    rintro e w' (⟨_, h⟩ | ⟨h, _⟩)
    · exact h
    · exact absurd fit h)
theorem waits_fit (v : Value) (ks : List (Rat × List Rat)) (w : World) (h : ClassesAre w v ks) (sm : SmC ks) (hl : ks.length ≤ 6) (fit : FitC ks) : Calls Tryd.prog 9 #[v] w fun e w' => ∃ v, e = .returned (.tuple #[v, .nilIface]) ∧ LawIs w' v (row (waitsC ks) ks.length) ∧ Below w.heap.size w w' :=
  (waits_any v ks w h sm hl).mono (by
    rintro e w' (⟨_, h⟩ | ⟨h, _⟩)
    · exact h
    · exact absurd fit h)
theorem load_good (v : Value) (ks : List (Rat × List Rat)) (w : World) (h : ClassesAre w v ks) (sm : SmC ks) (hl : ks.length ≤ 6) (good : GoodC ks) : Calls Tryd.prog 10 #[v] w fun e w' => ∃ v, e = .returned (.tuple #[v, .nilIface]) ∧ RatIs w' v (Bth.ps (ldC ks) ks.length) ∧ Below w.heap.size w w' :=
  (load_any v ks w h sm hl).mono (by
    rintro e w' (⟨_, h⟩ | ⟨h, _⟩)
    · exact h
    · exact absurd good h)

set_option maxHeartbeats 8000000 in
set_option maxRecDepth 100000 in
set_option linter.unusedSimpArgs false in
theorem serverFirst_any (v : Value) (ps : List ((Int × Int) × List (Int × Int))) (w : World) (htab : Tab w) (hps : ClsAre w v ps) :
    Calls Tryd.prog 4 #[v] w fun e w' => e = .returned (.bool true) ∧ Below w.heap.size w w' := by
  have KKe : KK = 1099511627776 := rfl
  have HTAB := hide htab
  have HPS := hide hps
  have HHF : Hid (∀ W, Below w.heap.size w W → Calls Tryd.prog 7 #[] W fun e w' => e = .returned (.bool true) ∧ Below W.heap.size W w') := fun W hW => half_any W (tab_below (unhide HTAB) hW)
  obtain ⟨ap, cp, rfl, hp1, hp2, hp4, hp3⟩ := hps
  have H3 := hide hp3
  clear htab hp4 hp3
  by_cases hlen : 6 < ps.length
  · have hl5 : (6 : Int) < (ps.length : Int) := by omega
    go_enter Tryd.func4, Tryd.ntmps4
    go_wp2
    go_ret
    exact ⟨rfl, Below.refl _ _⟩
  have hl5 : ¬ (6 : Int) < (ps.length : Int) := by omega
  by_cases hz : ps.length = 0
  · have hz' : (ps.length : Int) = 0 := by omega
    go_enter Tryd.func4, Tryd.ntmps4
    go_wp2
    go_ret
    exact ⟨rfl, Below.refl _ _⟩
  have hz' : ¬ (ps.length : Int) = 0 := by omega
  have HZ := hide hz
  clear hz
  go_enter Tryd.func4, Tryd.ntmps4
  go_wp2_with fail
  go_loopw [3] (fun vi wr => ∃ i : Nat, vi = .int .i64 (i : Int) ∧ i ≤ ps.length ∧ Below w.heap.size w wr ∧ ∀ j, j < i → (ps[j]!).2.length ≤ 12) (fun vi _ => ps.length - (intOf vi).toNat)
  case atStart => exact ⟨0, rfl, Nat.zero_le _, Below.refl _ _, fun j h => absurd h (Nat.not_lt_zero _)⟩
  case round =>
    obtain ⟨i, rfl, hi, hb, hall⟩ := hrel
    have HALL := hide hall
    have HB0 := hide hb
    clear hall
    by_cases hlt : i < ps.length
    · obtain ⟨b, o, rfl, hblt, hcs⟩ := unhide H3 (by omega)
      obtain ⟨l, ⟨k0, k1, k2⟩, hpl⟩ := hcs i hlt
      rw [← hb.cell (p := ⟨b, o + i * 3 + 2, none⟩) hblt] at k2
      have hpn := pairs_len hpl
      have e1 : (i : Int) < (ps.length : Int) := by omega
      have e0 : (0 : Int) ≤ (i : Int) := by omega
      have e3 : IntKind.i64.wrap ((i : Int) + 1) = (i : Int) + 1 := by rw [IntKind.wrap_i64]; omega
      by_cases hbig : 12 < l.n
      · have e4 : (12 : Int) < (l.n : Int) := by omega
        clear hb hcs hpl hpn k0 k1 HALL
        go_wp2
        go_ret
        exact ⟨rfl, unhide HB0⟩
      · have e4 : ¬ (12 : Int) < (l.n : Int) := by omega
        have HN : Hid (∀ j, j < i + 1 → (ps[j]!).2.length ≤ 12) := fun j hj => by
          rcases Nat.lt_or_ge j i with h | h
          · exact unhide HALL j h
          · obtain rfl : j = i := by omega
            omega
        clear hb hcs hpl hpn k0 k1 HALL
        go_wp2_with fail
        exact ⟨⟨i + 1, by go_num, hlt, unhide HB0, unhide HN⟩, by simp [intOf]; omega⟩
    · obtain rfl : i = ps.length := by omega
      have e1 : ¬ (ps.length : Int) < (ps.length : Int) := by omega
      have HKI := hide (classes_any _ ps wr ((unhide HPS).below hb) (by omega) (fun j hj => by have := unhide HALL j hj; omega))
      have HSM := hide (csOf_sm (unhide HPS) (unhide HALL))
      have hkl : (csOf ps).length = ps.length := csOf_length ps
      obtain ⟨ks, hks⟩ : ∃ ks, csOf ps = ks := ⟨_, rfl⟩
      rw [hks] at HKI HSM hkl
      have HKL := hide hkl
      have hl6 : ks.length ≤ 6 := by omega
      clear hb HALL hks hkl
      go_wp2_with fail
      (try simp only [Exit.inBlock, Exit.then])
      go_wp2_with fail
      refine (unhide HKI).mono ?_
      rintro e w1 ⟨vk, rfl, hvk, hbx⟩
      have HVK := hide hvk
      have HB1 := hide (below_step (unhide HB0) hbx)
      obtain ⟨ak, ck, rfl, k1, k2, k3⟩ := hvk
      have HK3 := hide k3
      clear k3 hbx HKI HB0 e1 hl5 hi hlt HPS H3
      obtain ⟨b, o, rfl, hblt, hcs⟩ := unhide HK3 (by have := unhide HKL; have := unhide HZ; omega)
      obtain ⟨t0, l0, ⟨c0, c1, c2, c3⟩, kr⟩ := hcs 0 (by have := unhide HKL; have := unhide HZ; omega)
      simp only [Nat.zero_mul, Nat.add_zero] at c0 c1 c2 c3
      have hn1 : 1 ≤ ks.length := by have := unhide HKL; have := unhide HZ; omega
      have HN1 := hide hn1
      have n1 : (1 : Int) ≤ (ks.length : Int) := by omega
      have nc : (1 : Int) ≤ (ck : Int) := by omega
      have HKR := hide kr
      have HPC : Hid (∀ W, Below w1.heap.size w1 W → ClassesAre W (.slice (some ⟨b, o, none⟩) 1 ck) [ks[0]!]) := fun W hW => by
        have h := ((unhide HVK).below hW).piece (i := 0) (d := ck) hn1 (by omega) (by omega)
        simpa using h
      have HST := hide (stays_any _ ks w1 (unhide HVK) (unhide HSM) hl6)
      clear hcs kr hn1 HK3
      go_wp2_with fail
      refine (unhide HST).mono ?_
      rintro e w2 (⟨hg, vs, rfl, hvs, hb2⟩ | ⟨hng, k, rfl, hb2⟩)
      rotate_left
      · have HB2 := hide (below_step (unhide HB1) hb2)
        clear hb2 HST HB1 hng
        go_wp2_with fail
        refine (unhide HHF _ (unhide HB2)).mono ?_
        rintro e w3 ⟨rfl, hb3⟩
        have HB3 := hide (below_step (unhide HB2) hb3)
        clear hb3
        go_wp2_with fail
        refine (unhide HHF _ (unhide HB3)).mono ?_
        rintro e w4 ⟨rfl, hb4⟩
        have HB4 := hide (below_step (unhide HB3) hb4)
        clear hb4
        go_wp2
        go_ret
        exact ⟨rfl, unhide HB4⟩
      have HFIT := hide hg
      have HVS := hide hvs
      obtain ⟨asl, csl, rfl, s1, s2, s3⟩ := hvs
      rw [row_length] at s1 HVS ⊢
      have HB12 := hide hb2
      have HB2 := hide (below_step (unhide HB1) hb2)
      clear hg hb2 s3 HST HB1
      go_wp2_with fail
      refine (unhide HHF _ (unhide HB2)).mono ?_
      rintro e w3 ⟨rfl, hb3⟩
      have HB3 := hide (below_step (unhide HB2) hb3)
      have HB13 := hide (below_step (unhide HB12) hb3)
      have HVS3 := hide ((unhide HVS).below hb3)
      clear hb3 HB2 HB12 HVS
      have HST := hide (stays_fit _ [ks[0]!] w3 (unhide HPC w3 (unhide HB13)) (sm_one (unhide HSM) (unhide HN1)) (show 1 ≤ 6 by decide) (fit_one (unhide HFIT)))
      go_wp2_with fail
      refine (unhide HST).mono ?_
      rintro e w_1 ⟨vo, rfl, hvo, hbx⟩
      have HB_2 := hide (below_step (unhide HB3) hbx)
      have HB13_2 := hide (below_step (unhide HB13) hbx)
      have HVS_2 := hide ((unhide HVS3).below hbx)
      clear HB3 HB13 HVS3
      clear hbx
      clear HST
      rw [show [ks[0]!].length = 1 from rfl] at hvo
      have HVO := hide hvo
      obtain ⟨ao, co, rfl, o1, o2, o3⟩ := hvo
      rw [row_length] at o1 HVO ⊢
      clear o3
      have HWA := hide (wait_fit _ [ks[0]!] w_1 (unhide HPC w_1 (unhide HB13_2)) (sm_one (unhide HSM) (unhide HN1)) (show 1 ≤ 6 by decide) (fit_one (unhide HFIT)))
      go_wp2_with fail
      refine (unhide HWA).mono ?_
      rintro e w_3 ⟨vw, rfl, hvw, hbx⟩
      obtain ⟨tw, rfl, hr_3⟩ := tri_of hvw
      simp only [Tri.val]
      have HG_bw := hide (below_step (unhide HB_2) hbx).size
      have hb_3 := below_step hbx (alloc_below w_3 (.cells #[.bool tw.s, .slice tw.a1 tw.n1 tw.c1, .slice tw.a2 tw.n2 tw.c2] 33))
      have HB_4 := hide (below_step (unhide HB_2) hb_3)
      have HB13_4 := hide (below_step (unhide HB13_2) hb_3)
      have HVS_4 := hide ((unhide HVS_2).below hb_3)
      have HVO_4 := hide ((unhide HVO).below hb_3)
      clear HB_2 HB13_2 HVS_2 HVO
      have HX_bw_3 := hide (BoxIs.new hr_3)
      obtain ⟨Wbw, hW_3⟩ : ∃ W, w_3.alloc (.cells #[.bool tw.s, .slice tw.a1 tw.n1 tw.c1, .slice tw.a2 tw.n2 tw.c2] 33) = W := ⟨_, rfl⟩
      obtain ⟨bw, hc_3⟩ : ∃ b, w_3.heap.size = b := ⟨_, rfl⟩
      rw [hW_3] at HB_4 HB13_4 HVS_4 HVO_4 HX_bw_3
      rw [hc_3] at HX_bw_3 HG_bw
      clear hvw hr_3 hbx hb_3
      have m3 : Wbw.cell? ⟨b, o + 3, none⟩ = some (.slice l0.a l0.n l0.c) := by rw [(unhide HB13_4).cell (p := ⟨b, o + 3, none⟩) hblt]; exact c3
      have HMO := hide (moment_any l0.val (ks[0]!).2 1 1 Wbw ((unhide HKR).2.below (unhide HB13_4)) (unhide HSM 0 (unhide HN1)).2.2 (by have := (unhide HSM 0 (unhide HN1)).2.1; rw [KKe]; omega) ((unhide HFIT).1.2 0 (unhide HN1)).2 (by decide))
      simp only [Sl.val] at HMO
      rw [show wsum (ks[0]!).2 (fun j => ((j ^ 1 : Nat) : Int)) (ks[0]!).2.length = mo 1 ks 0 from rfl] at HMO
      go_wp2_with fail
      clear HWA m3 hW_3 hc_3
      refine (unhide HMO).mono ?_
      rintro e w_5 ⟨vm, rfl, hvm, hbx⟩
      obtain ⟨tm, rfl, hr_5⟩ := tri_of hvm
      simp only [Tri.val]
      have HL_bw_bm := hide (Nat.lt_of_lt_of_le (unhide HX_bw_3).lt hbx.size)
      have HG_bm := hide (below_step (unhide HB_4) hbx).size
      have hb_5 := below_step hbx (alloc_below w_5 (.cells #[.bool tm.s, .slice tm.a1 tm.n1 tm.c1, .slice tm.a2 tm.n2 tm.c2] 33))
      have HB_6 := hide (below_step (unhide HB_4) hb_5)
      have HX_bw_6 := hide ((unhide HX_bw_3).keep hb_5)
      have HB13_6 := hide (below_step (unhide HB13_4) hb_5)
      have HVS_6 := hide ((unhide HVS_4).below hb_5)
      have HVO_6 := hide ((unhide HVO_4).below hb_5)
      clear HB_4 HX_bw_3 HB13_4 HVS_4 HVO_4
      have HX_bm_5 := hide (BoxIs.new hr_5)
      obtain ⟨Wbm, hW_5⟩ : ∃ W, w_5.alloc (.cells #[.bool tm.s, .slice tm.a1 tm.n1 tm.c1, .slice tm.a2 tm.n2 tm.c2] 33) = W := ⟨_, rfl⟩
      obtain ⟨bm, hc_5⟩ : ∃ b, w_5.heap.size = b := ⟨_, rfl⟩
      rw [hW_5] at HB_6 HX_bw_6 HB13_6 HVS_6 HVO_6 HX_bm_5
      rw [hc_5] at HX_bm_5 HL_bw_bm HG_bm
      clear hvm hr_5 hbx hb_5
      have HWS := hide (waits_fit _ ks Wbm ((unhide HVK).below (unhide HB13_6)) (unhide HSM) hl6 (unhide HFIT))
      go_wp2_with fail
      clear HMO hW_5 hc_5
      refine (unhide HWS).mono ?_
      rintro e w_7 ⟨va, rfl, hva, hbx⟩
      have HB_8 := hide (below_step (unhide HB_6) hbx)
      have HX_bw_8 := hide ((unhide HX_bw_6).keep hbx)
      have HX_bm_8 := hide ((unhide HX_bm_5).keep hbx)
      have HB13_8 := hide (below_step (unhide HB13_6) hbx)
      have HVS_8 := hide ((unhide HVS_6).below hbx)
      have HVO_8 := hide ((unhide HVO_6).below hbx)
      clear HB_6 HX_bw_6 HX_bm_5 HB13_6 HVS_6 HVO_6
      clear hbx
      clear HWS
      have HVA := hide hva
      obtain ⟨aa, ca, rfl, a1, a2, a3⟩ := hva
      rw [row_length] at a1 a3 HVA ⊢
      have HA3 := hide a3
      clear a3 c0 c1 c2 c3
      go_wp2_with fail
      go_loopw [15] (fun vi wr => ∃ i : Nat, vi = .int .i64 (i : Int) ∧ i ≤ ks.length ∧ Below w_7.heap.size w_7 wr) (fun vi _ => ks.length - (intOf vi).toNat)
      case atStart => exact ⟨0, rfl, Nat.zero_le _, Below.refl _ _⟩
      case round =>
        obtain ⟨i, rfl, hi, hbi⟩ := hrel
        have HBI := hide hbi
        clear hbi
        by_cases hlt : i < ks.length
        · have e1 : (i : Int) < (ks.length : Int) := by omega
          have e0 : (0 : Int) ≤ (i : Int) := by omega
          have e3 : IntKind.i64.wrap ((i : Int) + 1) = (i : Int) + 1 := by rw [IntKind.wrap_i64]; omega
          obtain ⟨ba, oa, rfl, hba, hca⟩ := unhide HA3 (by omega)
          obtain ⟨ps, pp1, pp2, pn1, pd1, pn2, pd2, pk0, pk1, pk2, pr⟩ := hca i hlt
          obtain ⟨ti, rfl, rfl, rfl, rfl, rfl, rfl, rfl⟩ : ∃ t : Tri, ps = t.s ∧ pp1 = t.a1 ∧ pp2 = t.a2 ∧ pn1 = t.n1 ∧ pd1 = t.c1 ∧ pn2 = t.n2 ∧ pd2 = t.c2 := ⟨⟨ps, pp1, pp2, pn1, pd1, pn2, pd2⟩, rfl, rfl, rfl, rfl, rfl, rfl, rfl⟩
          obtain ⟨qs, qp1, qp2, qn1, qd1, qn2, qd2, qk0, qk1, qk2, qr⟩ := hca 0 (by omega)
          obtain ⟨tz, rfl, rfl, rfl, rfl, rfl, rfl, rfl⟩ : ∃ t : Tri, qs = t.s ∧ qp1 = t.a1 ∧ qp2 = t.a2 ∧ qn1 = t.n1 ∧ qd1 = t.c1 ∧ qn2 = t.n2 ∧ qd2 = t.c2 := ⟨⟨qs, qp1, qp2, qn1, qd1, qn2, qd2⟩, rfl, rfl, rfl, rfl, rfl, rfl, rfl⟩
          rw [row_get (by omega)] at pr qr
          simp only [Nat.zero_mul, Nat.add_zero] at qk0 qk1 qk2
          have HRI := hide (pr.below (unhide HBI))
          have HRJ := hide (qr.below (unhide HBI))
          have HCC : Hid (∀ W, Below wr.heap.size wr W → (fun w' : World => (w'.cell? ⟨ba, oa + i * 3, none⟩ = some (.bool ti.s) ∧ w'.cell? ⟨ba, oa + i * 3 + 1, none⟩ = some (.slice ti.a1 ti.n1 ti.c1) ∧ w'.cell? ⟨ba, oa + i * 3 + 2, none⟩ = some (.slice ti.a2 ti.n2 ti.c2)) ∧ (w'.cell? ⟨ba, oa, none⟩ = some (.bool tz.s) ∧ w'.cell? ⟨ba, oa + 1, none⟩ = some (.slice tz.a1 tz.n1 tz.c1) ∧ w'.cell? ⟨ba, oa + 2, none⟩ = some (.slice tz.a2 tz.n2 tz.c2))) W) := fun W hW => by
            have h2 := below_step (unhide HBI) hW
            refine ⟨?_, ?_⟩
            · rw [h2.cell (p := ⟨ba, oa + i * 3, none⟩) hba, h2.cell (p := ⟨ba, oa + i * 3 + 1, none⟩) hba, h2.cell (p := ⟨ba, oa + i * 3 + 2, none⟩) hba]; exact ⟨pk0, pk1, pk2⟩
            · rw [h2.cell (p := ⟨ba, oa, none⟩) hba, h2.cell (p := ⟨ba, oa + 1, none⟩) hba, h2.cell (p := ⟨ba, oa + 2, none⟩) hba]; exact ⟨qk0, qk1, qk2⟩
          have HCM : Hid (∃ x : Int, 0 ≤ x ∧ x ≤ 1 ∧ ∀ W, Below wr.heap.size wr W → Calls Tryd.prog 17 #[.agg #[.bool ti.s, .slice ti.a1 ti.n1 ti.c1, .slice ti.a2 ti.n2 ti.c2], .agg #[.bool tz.s, .slice tz.a1 tz.n1 tz.c1, .slice tz.a2 tz.n2 tz.c2]] W fun e w' => e = .returned (.int .i64 x) ∧ Below W.heap.size W w') := ⟨cmpv (waitsC ks i) (waitsC ks 0), (cmpv_ge (waits_ge (unhide HFIT) hlt)).1, (cmpv_ge (waits_ge (unhide HFIT) hlt)).2, fun W hW => cmpR_all _ _ _ _ W ((unhide HRI).below hW) ((unhide HRJ).below hW) 900 (waits_RS (unhide HSM) hl6 (unhide HFIT) hlt) (waits_RS (unhide HSM) hl6 (unhide HFIT) (by omega)) (by rw [KKe]; omega)⟩
          obtain ⟨fx, fx0, fx1, hfx⟩ := unhide HCM
          have HFX := hide hfx
          have dfx : decide (fx < 0) = false := decide_eq_false (by omega)
          clear hfx HCM hca pr qr pk0 pk1 pk2 qk0 qk1 qk2
          go_wp2_with fail
          refine wp_region_hold (fun w' : World => (w'.cell? ⟨ba, oa + i * 3, none⟩ = some (.bool ti.s) ∧ w'.cell? ⟨ba, oa + i * 3 + 1, none⟩ = some (.slice ti.a1 ti.n1 ti.c1) ∧ w'.cell? ⟨ba, oa + i * 3 + 2, none⟩ = some (.slice ti.a2 ti.n2 ti.c2)) ∧ (w'.cell? ⟨ba, oa, none⟩ = some (.bool tz.s) ∧ w'.cell? ⟨ba, oa + 1, none⟩ = some (.slice tz.a1 tz.n1 tz.c1) ∧ w'.cell? ⟨ba, oa + 2, none⟩ = some (.slice tz.a2 tz.n2 tz.c2))) (by kernel_rfl) ?_
          have bd0 : Below wr.heap.size wr wr.drew := (Below.refl _ _).drew
          have hC0 : (fun w' : World => (w'.cell? ⟨ba, oa + i * 3, none⟩ = some (.bool ti.s) ∧ w'.cell? ⟨ba, oa + i * 3 + 1, none⟩ = some (.slice ti.a1 ti.n1 ti.c1) ∧ w'.cell? ⟨ba, oa + i * 3 + 2, none⟩ = some (.slice ti.a2 ti.n2 ti.c2)) ∧ (w'.cell? ⟨ba, oa, none⟩ = some (.bool tz.s) ∧ w'.cell? ⟨ba, oa + 1, none⟩ = some (.slice tz.a1 tz.n1 tz.c1) ∧ w'.cell? ⟨ba, oa + 2, none⟩ = some (.slice tz.a2 tz.n2 tz.c2))) wr.drew := unhide HCC _ bd0
          refine wpHold_take (i := 0) (v := ?_) rfl (by kernel_rfl) (by kernel_rfl) (by kernel_rfl) (fun _ _ _ h => h) (Or.inl ⟨by rfl, ?_⟩) hC0 ?_
          rotate_left
          · intro w hSw; clear hSw; go_simp; (try with_reducible rfl)
          (try simp only [List.getElem_toArray, List.getElem_cons_succ, List.getElem_cons_zero])
          (try simp only [Act.put, List.setIfInBounds_toArray, List.set_cons_zero, List.set_cons_succ])
          refine wpHold_take (i := 1) (v := ?_) rfl (by kernel_rfl) (by kernel_rfl) (by kernel_rfl) (fun _ _ _ h => h) (Or.inl ⟨by rfl, ?_⟩) hC0 ?_
          rotate_left
          · intro w hSw; clear hSw; go_simp; (try with_reducible rfl)
          (try simp only [List.getElem_toArray, List.getElem_cons_succ, List.getElem_cons_zero])
          (try simp only [Act.put, List.setIfInBounds_toArray, List.set_cons_zero, List.set_cons_succ])
          refine wpHold_take (i := 2) (v := ?_) rfl (by kernel_rfl) (by kernel_rfl) (by kernel_rfl) (fun _ _ _ h => h) (Or.inl ⟨by rfl, ?_⟩) hC0 ?_
          rotate_left
          · intro w hSw; clear hSw; go_simp; (try with_reducible rfl)
          (try simp only [List.getElem_toArray, List.getElem_cons_succ, List.getElem_cons_zero])
          (try simp only [Act.put, List.setIfInBounds_toArray, List.set_cons_zero, List.set_cons_succ])
          refine wpHold_take (i := 3) (v := ?_) rfl (by kernel_rfl) (by kernel_rfl) (by kernel_rfl) (fun _ _ _ h => h) (Or.inl ⟨by rfl, ?_⟩) hC0 ?_
          rotate_left
          · intro w hSw; (try dsimp only at hSw); obtain ⟨⟨z0, z1, z2⟩, z3, z4, z5⟩ := hSw; go_simp; (try with_reducible rfl)
          (try simp only [List.getElem_toArray, List.getElem_cons_succ, List.getElem_cons_zero])
          (try simp only [Act.put, List.setIfInBounds_toArray, List.set_cons_zero, List.set_cons_succ])
          refine wpHold_take (i := 4) (v := ?_) rfl (by kernel_rfl) (by kernel_rfl) (by kernel_rfl) (fun _ _ _ h => h) (Or.inl ⟨by rfl, ?_⟩) hC0 ?_
          rotate_left
          · intro w hSw; clear hSw; go_simp; (try with_reducible rfl)
          (try simp only [List.getElem_toArray, List.getElem_cons_succ, List.getElem_cons_zero])
          (try simp only [Act.put, List.setIfInBounds_toArray, List.set_cons_zero, List.set_cons_succ])
          refine wpHold_take (i := 5) (v := ?_) rfl (by kernel_rfl) (by kernel_rfl) (by kernel_rfl) (fun _ _ _ h => h) (Or.inl ⟨by rfl, ?_⟩) hC0 ?_
          rotate_left
          · intro w hSw; clear hSw; have h0n : 0 < ks.length := unhide HN1; go_simp; (try with_reducible rfl)
          (try simp only [List.getElem_toArray, List.getElem_cons_succ, List.getElem_cons_zero])
          (try simp only [Act.put, List.setIfInBounds_toArray, List.set_cons_zero, List.set_cons_succ])
          refine wpHold_take (i := 6) (v := ?_) rfl (by kernel_rfl) (by kernel_rfl) (by kernel_rfl) (fun _ _ _ h => h) (Or.inl ⟨by rfl, ?_⟩) hC0 ?_
          rotate_left
          · intro w hSw; (try dsimp only at hSw); obtain ⟨⟨z0, z1, z2⟩, z3, z4, z5⟩ := hSw; go_simp; (try with_reducible rfl)
          (try simp only [List.getElem_toArray, List.getElem_cons_succ, List.getElem_cons_zero])
          (try simp only [Act.put, List.setIfInBounds_toArray, List.set_cons_zero, List.set_cons_succ])
          refine wpHold_one (k := 7) (by kernel_rfl) rfl (fun K hK => ?_)
          (try simp only [List.getElem_toArray, List.getElem_cons_succ, List.getElem_cons_zero])
          go_simp
          refine (unhide HFX _ bd0).mono ?_
          rintro e xw_81 ⟨rfl, hb_81⟩
          have cc_81 := below_step bd0 hb_81
          have hC_81 : (fun w' : World => (w'.cell? ⟨ba, oa + i * 3, none⟩ = some (.bool ti.s) ∧ w'.cell? ⟨ba, oa + i * 3 + 1, none⟩ = some (.slice ti.a1 ti.n1 ti.c1) ∧ w'.cell? ⟨ba, oa + i * 3 + 2, none⟩ = some (.slice ti.a2 ti.n2 ti.c2)) ∧ (w'.cell? ⟨ba, oa, none⟩ = some (.bool tz.s) ∧ w'.cell? ⟨ba, oa + 1, none⟩ = some (.slice tz.a1 tz.n1 tz.c1) ∧ w'.cell? ⟨ba, oa + 2, none⟩ = some (.slice tz.a2 tz.n2 tz.c2))) xw_81 := unhide HCC _ cc_81
          refine hK.out _ _ hC_81 ?_
          clear hK K
          (try simp only [Act.put, List.setIfInBounds_toArray, List.set_cons_zero, List.set_cons_succ])
          refine wpHold_take (i := 8) (v := ?_) rfl (by kernel_rfl) (by kernel_rfl) (by kernel_rfl) (fun _ _ _ h => h) (Or.inl ⟨by rfl, ?_⟩) hC_81 ?_
          rotate_left
          · intro w hSw; clear hSw; go_simp; (try with_reducible rfl)
          (try simp only [List.getElem_toArray, List.getElem_cons_succ, List.getElem_cons_zero])
          (try simp only [Act.put, List.setIfInBounds_toArray, List.set_cons_zero, List.set_cons_succ])
          refine wpHold_done (by kernel_rfl) ?_ _
          have HBN := hide (below_step (unhide HBI) cc_81)
          clear hC0 bd0 HCC hC_81 hb_81 cc_81
          clear dfx HFX
          go_wp2_with fail
          exact ⟨⟨i + 1, by go_num, hlt, unhide HBN⟩, by simp [intOf]; omega⟩
        · have e1 : ¬ (i : Int) < (ks.length : Int) := by omega
          have HBW := hide (below_step (unhide HB_8) (unhide HBI))
          obtain ⟨as2, cs2, es, _, _, y3⟩ := unhide HVS_8
          injection es with es1 es2 es3
          subst es1 es3
          clear es2
          obtain ⟨bs, os, rfl, hbs, hcs⟩ := y3 (by rw [row_length]; exact unhide HN1)
          obtain ⟨ao2, co2, eo, _, _, z3⟩ := unhide HVO_8
          injection eo with eo1 eo2 eo3
          subst eo1 eo3
          clear eo2
          obtain ⟨bo, oo, rfl, hbo, hco⟩ := z3 (by rw [row_length]; omega)
          obtain ⟨ps, pp1, pp2, pn1, pd1, pn2, pd2, pk0, pk1, pk2, pr⟩ := hcs 0 (by rw [row_length]; exact unhide HN1)
          obtain ⟨ts, rfl, rfl, rfl, rfl, rfl, rfl, rfl⟩ : ∃ t : Tri, ps = t.s ∧ pp1 = t.a1 ∧ pp2 = t.a2 ∧ pn1 = t.n1 ∧ pd1 = t.c1 ∧ pn2 = t.n2 ∧ pd2 = t.c2 := ⟨⟨ps, pp1, pp2, pn1, pd1, pn2, pd2⟩, rfl, rfl, rfl, rfl, rfl, rfl, rfl⟩
          obtain ⟨qs, qp1, qp2, qn1, qd1, qn2, qd2, qk0, qk1, qk2, qr⟩ := hco 0 (by rw [row_length]; omega)
          obtain ⟨tu, rfl, rfl, rfl, rfl, rfl, rfl, rfl⟩ : ∃ t : Tri, qs = t.s ∧ qp1 = t.a1 ∧ qp2 = t.a2 ∧ qn1 = t.n1 ∧ qd1 = t.c1 ∧ qn2 = t.n2 ∧ qd2 = t.c2 := ⟨⟨qs, qp1, qp2, qn1, qd1, qn2, qd2⟩, rfl, rfl, rfl, rfl, rfl, rfl, rfl⟩
          rw [row_get (unhide HN1)] at pr
          rw [row_get (by omega)] at qr
          simp only [Nat.zero_mul, Nat.add_zero] at pk0 pk1 pk2 qk0 qk1 qk2
          have HRS := hide (pr.below (unhide HBI))
          have HRO := hide (qr.below (unhide HBI))
          have HXM := hide ((unhide HX_bm_8).keep (unhide HBI))
          have HXW := hide ((unhide HX_bw_8).keep (unhide HBI))
          have HCC : Hid (∀ W, Below wr.heap.size wr W → (fun w' : World => (w'.cell? ⟨bs, os, none⟩ = some (.bool ts.s) ∧ w'.cell? ⟨bs, os + 1, none⟩ = some (.slice ts.a1 ts.n1 ts.c1) ∧ w'.cell? ⟨bs, os + 2, none⟩ = some (.slice ts.a2 ts.n2 ts.c2)) ∧ (w'.cell? ⟨bo, oo, none⟩ = some (.bool tu.s) ∧ w'.cell? ⟨bo, oo + 1, none⟩ = some (.slice tu.a1 tu.n1 tu.c1) ∧ w'.cell? ⟨bo, oo + 2, none⟩ = some (.slice tu.a2 tu.n2 tu.c2)) ∧ (w'.cell? ⟨bm, 0, none⟩ = some (.bool tm.s) ∧ w'.cell? ⟨bm, 1, none⟩ = some (.slice tm.a1 tm.n1 tm.c1) ∧ w'.cell? ⟨bm, 2, none⟩ = some (.slice tm.a2 tm.n2 tm.c2)) ∧ (w'.cell? ⟨bw, 0, none⟩ = some (.bool tw.s) ∧ w'.cell? ⟨bw, 1, none⟩ = some (.slice tw.a1 tw.n1 tw.c1) ∧ w'.cell? ⟨bw, 2, none⟩ = some (.slice tw.a2 tw.n2 tw.c2))) W) := fun W hW => by
            have h2 := below_step (unhide HBI) hW
            refine ⟨?_, ?_, (unhide HXM).cells W hW, (unhide HXW).cells W hW⟩
            · rw [h2.cell (p := ⟨bs, os, none⟩) hbs, h2.cell (p := ⟨bs, os + 1, none⟩) hbs, h2.cell (p := ⟨bs, os + 2, none⟩) hbs]; exact ⟨pk0, pk1, pk2⟩
            · rw [h2.cell (p := ⟨bo, oo, none⟩) hbo, h2.cell (p := ⟨bo, oo + 1, none⟩) hbo, h2.cell (p := ⟨bo, oo + 2, none⟩) hbo]; exact ⟨qk0, qk1, qk2⟩
          have HL1 : Hid (∀ W, Below wr.heap.size wr W → Calls Tryd.prog 14 #[.agg #[.bool ts.s, .slice ts.a1 ts.n1 ts.c1, .slice ts.a2 ts.n2 ts.c2], .agg #[.bool tu.s, .slice tu.a1 tu.n1 tu.c1, .slice tu.a2 tu.n2 tu.c2]] W fun e w' => e = .returned (.bool true) ∧ Below W.heap.size W w') := fun W hW => like_any ts.val tu.val (staysC ks 0) W ((unhide HRS).below hW) ((unhide HRO).below hW) 1000 (stays_RS (unhide HSM) hl6 (unhide HFIT) (unhide HN1)) (by rw [KKe]; omega) (tab_below (unhide HTAB) (below_step (unhide HBW) hW))
          have HAD : Hid (∀ W, Below wr.heap.size wr W → Calls Tryd.prog 12 #[.agg #[.bool tm.s, .slice tm.a1 tm.n1 tm.c1, .slice tm.a2 tm.n2 tm.c2], .agg #[.bool tw.s, .slice tw.a1 tw.n1 tw.c1, .slice tw.a2 tw.n2 tw.c2]] W fun e w' => ∃ v, e = .returned v ∧ RatIs w' v (staysC ks 0) ∧ Below W.heap.size W w') := fun W hW => by
            have h := addR_any tm.val tw.val _ _ W ((unhide HXM).2.below hW) ((unhide HXW).2.below hW) 600 ((mo_RS (unhide HSM) (by omega) (unhide HN1)).mono (by omega)) (wait_RS (sm_one (unhide HSM) (unhide HN1)) (show 1 ≤ 6 by decide) (fit_one (unhide HFIT))) (by rw [KKe]; omega)
            rw [← stays_sum] at h
            exact h
          have HL2 : Hid (∀ W v (hW : Below wr.heap.size wr W) (hv : RatIs W v (staysC ks 0)), Calls Tryd.prog 14 #[.agg #[.bool tu.s, .slice tu.a1 tu.n1 tu.c1, .slice tu.a2 tu.n2 tu.c2], v] W fun e w' => e = .returned (.bool true) ∧ Below W.heap.size W w') := fun W v hW hv => like_any tu.val v (staysC ks 0) W ((unhide HRO).below hW) hv 1000 (stays_RS (unhide HSM) hl6 (unhide HFIT) (unhide HN1)) (by rw [KKe]; omega) (tab_below (unhide HTAB) (below_step (unhide HBW) hW))
          have e4 : (0 : Int) < 1 := by decide
          clear y3 z3 hcs hco pr qr pk0 pk1 pk2 qk0 qk1 qk2
          go_wp2_with fail
          (try simp only [Exit.inBlock, Exit.then])
          go_wp2_with fail
          refine wp_region_hold (fun w' : World => (w'.cell? ⟨bs, os, none⟩ = some (.bool ts.s) ∧ w'.cell? ⟨bs, os + 1, none⟩ = some (.slice ts.a1 ts.n1 ts.c1) ∧ w'.cell? ⟨bs, os + 2, none⟩ = some (.slice ts.a2 ts.n2 ts.c2)) ∧ (w'.cell? ⟨bo, oo, none⟩ = some (.bool tu.s) ∧ w'.cell? ⟨bo, oo + 1, none⟩ = some (.slice tu.a1 tu.n1 tu.c1) ∧ w'.cell? ⟨bo, oo + 2, none⟩ = some (.slice tu.a2 tu.n2 tu.c2)) ∧ (w'.cell? ⟨bm, 0, none⟩ = some (.bool tm.s) ∧ w'.cell? ⟨bm, 1, none⟩ = some (.slice tm.a1 tm.n1 tm.c1) ∧ w'.cell? ⟨bm, 2, none⟩ = some (.slice tm.a2 tm.n2 tm.c2)) ∧ (w'.cell? ⟨bw, 0, none⟩ = some (.bool tw.s) ∧ w'.cell? ⟨bw, 1, none⟩ = some (.slice tw.a1 tw.n1 tw.c1) ∧ w'.cell? ⟨bw, 2, none⟩ = some (.slice tw.a2 tw.n2 tw.c2))) (by kernel_rfl) ?_
          have bd0 : Below wr.heap.size wr wr.drew := (Below.refl _ _).drew
          have hC0 : (fun w' : World => (w'.cell? ⟨bs, os, none⟩ = some (.bool ts.s) ∧ w'.cell? ⟨bs, os + 1, none⟩ = some (.slice ts.a1 ts.n1 ts.c1) ∧ w'.cell? ⟨bs, os + 2, none⟩ = some (.slice ts.a2 ts.n2 ts.c2)) ∧ (w'.cell? ⟨bo, oo, none⟩ = some (.bool tu.s) ∧ w'.cell? ⟨bo, oo + 1, none⟩ = some (.slice tu.a1 tu.n1 tu.c1) ∧ w'.cell? ⟨bo, oo + 2, none⟩ = some (.slice tu.a2 tu.n2 tu.c2)) ∧ (w'.cell? ⟨bm, 0, none⟩ = some (.bool tm.s) ∧ w'.cell? ⟨bm, 1, none⟩ = some (.slice tm.a1 tm.n1 tm.c1) ∧ w'.cell? ⟨bm, 2, none⟩ = some (.slice tm.a2 tm.n2 tm.c2)) ∧ (w'.cell? ⟨bw, 0, none⟩ = some (.bool tw.s) ∧ w'.cell? ⟨bw, 1, none⟩ = some (.slice tw.a1 tw.n1 tw.c1) ∧ w'.cell? ⟨bw, 2, none⟩ = some (.slice tw.a2 tw.n2 tw.c2))) wr.drew := unhide HCC _ bd0
          refine wpHold_take (i := 0) (v := ?_) rfl (by kernel_rfl) (by kernel_rfl) (by kernel_rfl) (fun _ _ _ h => h) (Or.inl ⟨by rfl, ?_⟩) hC0 ?_
          rotate_left
          · intro w hSw; clear hSw; go_simp; (try with_reducible rfl)
          (try simp only [List.getElem_toArray, List.getElem_cons_succ, List.getElem_cons_zero])
          (try simp only [Act.put, List.setIfInBounds_toArray, List.set_cons_zero, List.set_cons_succ])
          refine wpHold_take (i := 1) (v := ?_) rfl (by kernel_rfl) (by kernel_rfl) (by kernel_rfl) (fun _ _ _ h => h) (Or.inl ⟨by rfl, ?_⟩) hC0 ?_
          rotate_left
          · intro w hSw; clear hSw; have h0n : 0 < ks.length := unhide HN1; go_simp; (try with_reducible rfl)
          (try simp only [List.getElem_toArray, List.getElem_cons_succ, List.getElem_cons_zero])
          (try simp only [Act.put, List.setIfInBounds_toArray, List.set_cons_zero, List.set_cons_succ])
          refine wpHold_take (i := 2) (v := ?_) rfl (by kernel_rfl) (by kernel_rfl) (by kernel_rfl) (fun _ _ _ h => h) (Or.inl ⟨by rfl, ?_⟩) hC0 ?_
          rotate_left
          · intro w hSw; (try dsimp only at hSw); obtain ⟨⟨z0, z1, z2⟩, ⟨z3, z4, z5⟩, ⟨z6, z7, z8⟩, z9, z10, z11⟩ := hSw; go_simp; (try with_reducible rfl)
          (try simp only [List.getElem_toArray, List.getElem_cons_succ, List.getElem_cons_zero])
          (try simp only [Act.put, List.setIfInBounds_toArray, List.set_cons_zero, List.set_cons_succ])
          refine wpHold_take (i := 3) (v := ?_) rfl (by kernel_rfl) (by kernel_rfl) (by kernel_rfl) (fun _ _ _ h => h) (Or.inl ⟨by rfl, ?_⟩) hC0 ?_
          rotate_left
          · intro w hSw; clear hSw; go_simp; (try with_reducible rfl)
          (try simp only [List.getElem_toArray, List.getElem_cons_succ, List.getElem_cons_zero])
          (try simp only [Act.put, List.setIfInBounds_toArray, List.set_cons_zero, List.set_cons_succ])
          refine wpHold_take (i := 4) (v := ?_) rfl (by kernel_rfl) (by kernel_rfl) (by kernel_rfl) (fun _ _ _ h => h) (Or.inl ⟨by rfl, ?_⟩) hC0 ?_
          rotate_left
          · intro w hSw; clear hSw; go_simp; (try with_reducible rfl)
          (try simp only [List.getElem_toArray, List.getElem_cons_succ, List.getElem_cons_zero])
          (try simp only [Act.put, List.setIfInBounds_toArray, List.set_cons_zero, List.set_cons_succ])
          refine wpHold_take (i := 5) (v := ?_) rfl (by kernel_rfl) (by kernel_rfl) (by kernel_rfl) (fun _ _ _ h => h) (Or.inl ⟨by rfl, ?_⟩) hC0 ?_
          rotate_left
          · intro w hSw; (try dsimp only at hSw); obtain ⟨⟨z0, z1, z2⟩, ⟨z3, z4, z5⟩, ⟨z6, z7, z8⟩, z9, z10, z11⟩ := hSw; go_simp; (try with_reducible rfl)
          (try simp only [List.getElem_toArray, List.getElem_cons_succ, List.getElem_cons_zero])
          (try simp only [Act.put, List.setIfInBounds_toArray, List.set_cons_zero, List.set_cons_succ])
          refine wpHold_one (k := 6) (by kernel_rfl) rfl (fun K hK => ?_)
          (try simp only [List.getElem_toArray, List.getElem_cons_succ, List.getElem_cons_zero])
          go_simp
          refine (unhide HL1 _ bd0).mono ?_
          rintro e xw_91 ⟨rfl, hb_91⟩
          have cc_91 := below_step bd0 hb_91
          have hC_91 : (fun w' : World => (w'.cell? ⟨bs, os, none⟩ = some (.bool ts.s) ∧ w'.cell? ⟨bs, os + 1, none⟩ = some (.slice ts.a1 ts.n1 ts.c1) ∧ w'.cell? ⟨bs, os + 2, none⟩ = some (.slice ts.a2 ts.n2 ts.c2)) ∧ (w'.cell? ⟨bo, oo, none⟩ = some (.bool tu.s) ∧ w'.cell? ⟨bo, oo + 1, none⟩ = some (.slice tu.a1 tu.n1 tu.c1) ∧ w'.cell? ⟨bo, oo + 2, none⟩ = some (.slice tu.a2 tu.n2 tu.c2)) ∧ (w'.cell? ⟨bm, 0, none⟩ = some (.bool tm.s) ∧ w'.cell? ⟨bm, 1, none⟩ = some (.slice tm.a1 tm.n1 tm.c1) ∧ w'.cell? ⟨bm, 2, none⟩ = some (.slice tm.a2 tm.n2 tm.c2)) ∧ (w'.cell? ⟨bw, 0, none⟩ = some (.bool tw.s) ∧ w'.cell? ⟨bw, 1, none⟩ = some (.slice tw.a1 tw.n1 tw.c1) ∧ w'.cell? ⟨bw, 2, none⟩ = some (.slice tw.a2 tw.n2 tw.c2))) xw_91 := unhide HCC _ cc_91
          refine hK.out _ _ hC_91 ?_
          clear hK K
          (try simp only [Act.put, List.setIfInBounds_toArray, List.set_cons_zero, List.set_cons_succ])
          refine wpHold_take (i := 7) (v := ?_) rfl (by kernel_rfl) (by kernel_rfl) (by kernel_rfl) (fun _ _ _ h => h) (Or.inl ⟨by rfl, ?_⟩) hC_91 ?_
          rotate_left
          · intro w hSw; clear hSw; go_simp; (try with_reducible rfl)
          (try simp only [List.getElem_toArray, List.getElem_cons_succ, List.getElem_cons_zero])
          (try simp only [Act.put, List.setIfInBounds_toArray, List.set_cons_zero, List.set_cons_succ])
          refine wpHold_take (i := 8) (v := ?_) rfl (by kernel_rfl) (by kernel_rfl) (by kernel_rfl) (fun _ _ _ h => h) (Or.inl ⟨by rfl, ?_⟩) hC_91 ?_
          rotate_left
          · intro w hSw; clear hSw; go_simp; (try with_reducible rfl)
          (try simp only [List.getElem_toArray, List.getElem_cons_succ, List.getElem_cons_zero])
          (try simp only [Act.put, List.setIfInBounds_toArray, List.set_cons_zero, List.set_cons_succ])
          refine wpHold_take (i := 9) (v := ?_) rfl (by kernel_rfl) (by kernel_rfl) (by kernel_rfl) (fun _ _ _ h => h) (Or.inl ⟨by rfl, ?_⟩) hC_91 ?_
          rotate_left
          · intro w hSw; clear hSw; go_simp; (try with_reducible rfl)
          (try simp only [List.getElem_toArray, List.getElem_cons_succ, List.getElem_cons_zero])
          (try simp only [Act.put, List.setIfInBounds_toArray, List.set_cons_zero, List.set_cons_succ])
          refine wpHold_take (i := 10) (v := ?_) rfl (by kernel_rfl) (by kernel_rfl) (by kernel_rfl) (fun _ _ _ h => h) (Or.inl ⟨by rfl, ?_⟩) hC_91 ?_
          rotate_left
          · intro w hSw; (try dsimp only at hSw); obtain ⟨⟨z0, z1, z2⟩, ⟨z3, z4, z5⟩, ⟨z6, z7, z8⟩, z9, z10, z11⟩ := hSw; go_simp; (try with_reducible rfl)
          (try simp only [List.getElem_toArray, List.getElem_cons_succ, List.getElem_cons_zero])
          (try simp only [Act.put, List.setIfInBounds_toArray, List.set_cons_zero, List.set_cons_succ])
          refine wpHold_take (i := 11) (v := ?_) rfl (by kernel_rfl) (by kernel_rfl) (by kernel_rfl) (fun _ _ _ h => h) (Or.inl ⟨by rfl, ?_⟩) hC_91 ?_
          rotate_left
          · intro w hSw; (try dsimp only at hSw); obtain ⟨⟨z0, z1, z2⟩, ⟨z3, z4, z5⟩, ⟨z6, z7, z8⟩, z9, z10, z11⟩ := hSw; go_simp; (try with_reducible rfl)
          (try simp only [List.getElem_toArray, List.getElem_cons_succ, List.getElem_cons_zero])
          (try simp only [Act.put, List.setIfInBounds_toArray, List.set_cons_zero, List.set_cons_succ])
          refine wpHold_take (i := 12) (v := ?_) rfl (by kernel_rfl) (by kernel_rfl) (by kernel_rfl) (fun _ _ _ h => h) (Or.inl ⟨by rfl, ?_⟩) hC_91 ?_
          rotate_left
          · intro w hSw; (try dsimp only at hSw); obtain ⟨⟨z0, z1, z2⟩, ⟨z3, z4, z5⟩, ⟨z6, z7, z8⟩, z9, z10, z11⟩ := hSw; go_simp; (try with_reducible rfl)
          (try simp only [List.getElem_toArray, List.getElem_cons_succ, List.getElem_cons_zero])
          (try simp only [Act.put, List.setIfInBounds_toArray, List.set_cons_zero, List.set_cons_succ])
          refine wpHold_one (k := 13) (by kernel_rfl) rfl (fun K hK => ?_)
          (try simp only [List.getElem_toArray, List.getElem_cons_succ, List.getElem_cons_zero])
          go_simp
          refine (unhide HAD _ cc_91).mono ?_
          rintro e xw_92 ⟨xv_92, rfl, hv_92, hb_92⟩
          have cc_92 := below_step cc_91 hb_92
          have hC_92 : (fun w' : World => (w'.cell? ⟨bs, os, none⟩ = some (.bool ts.s) ∧ w'.cell? ⟨bs, os + 1, none⟩ = some (.slice ts.a1 ts.n1 ts.c1) ∧ w'.cell? ⟨bs, os + 2, none⟩ = some (.slice ts.a2 ts.n2 ts.c2)) ∧ (w'.cell? ⟨bo, oo, none⟩ = some (.bool tu.s) ∧ w'.cell? ⟨bo, oo + 1, none⟩ = some (.slice tu.a1 tu.n1 tu.c1) ∧ w'.cell? ⟨bo, oo + 2, none⟩ = some (.slice tu.a2 tu.n2 tu.c2)) ∧ (w'.cell? ⟨bm, 0, none⟩ = some (.bool tm.s) ∧ w'.cell? ⟨bm, 1, none⟩ = some (.slice tm.a1 tm.n1 tm.c1) ∧ w'.cell? ⟨bm, 2, none⟩ = some (.slice tm.a2 tm.n2 tm.c2)) ∧ (w'.cell? ⟨bw, 0, none⟩ = some (.bool tw.s) ∧ w'.cell? ⟨bw, 1, none⟩ = some (.slice tw.a1 tw.n1 tw.c1) ∧ w'.cell? ⟨bw, 2, none⟩ = some (.slice tw.a2 tw.n2 tw.c2))) xw_92 := unhide HCC _ cc_92
          refine hK.out _ _ hC_92 ?_
          clear hK K
          (try simp only [Act.put, List.setIfInBounds_toArray, List.set_cons_zero, List.set_cons_succ])
          refine wpHold_one (k := 14) (by kernel_rfl) rfl (fun K hK => ?_)
          (try simp only [List.getElem_toArray, List.getElem_cons_succ, List.getElem_cons_zero])
          go_simp
          refine (unhide HL2 _ _ cc_92 hv_92).mono ?_
          rintro e xw_93 ⟨rfl, hb_93⟩
          have cc_93 := below_step cc_92 hb_93
          have hC_93 : (fun w' : World => (w'.cell? ⟨bs, os, none⟩ = some (.bool ts.s) ∧ w'.cell? ⟨bs, os + 1, none⟩ = some (.slice ts.a1 ts.n1 ts.c1) ∧ w'.cell? ⟨bs, os + 2, none⟩ = some (.slice ts.a2 ts.n2 ts.c2)) ∧ (w'.cell? ⟨bo, oo, none⟩ = some (.bool tu.s) ∧ w'.cell? ⟨bo, oo + 1, none⟩ = some (.slice tu.a1 tu.n1 tu.c1) ∧ w'.cell? ⟨bo, oo + 2, none⟩ = some (.slice tu.a2 tu.n2 tu.c2)) ∧ (w'.cell? ⟨bm, 0, none⟩ = some (.bool tm.s) ∧ w'.cell? ⟨bm, 1, none⟩ = some (.slice tm.a1 tm.n1 tm.c1) ∧ w'.cell? ⟨bm, 2, none⟩ = some (.slice tm.a2 tm.n2 tm.c2)) ∧ (w'.cell? ⟨bw, 0, none⟩ = some (.bool tw.s) ∧ w'.cell? ⟨bw, 1, none⟩ = some (.slice tw.a1 tw.n1 tw.c1) ∧ w'.cell? ⟨bw, 2, none⟩ = some (.slice tw.a2 tw.n2 tw.c2))) xw_93 := unhide HCC _ cc_93
          refine hK.out _ _ hC_93 ?_
          clear hK K
          (try simp only [Act.put, List.setIfInBounds_toArray, List.set_cons_zero, List.set_cons_succ])
          refine wpHold_take (i := 15) (v := ?_) rfl (by kernel_rfl) (by kernel_rfl) (by kernel_rfl) (fun _ _ _ h => h) (Or.inl ⟨by rfl, ?_⟩) hC_93 ?_
          rotate_left
          · intro w hSw; clear hSw; go_simp; (try with_reducible rfl)
          (try simp only [List.getElem_toArray, List.getElem_cons_succ, List.getElem_cons_zero])
          (try simp only [Act.put, List.setIfInBounds_toArray, List.set_cons_zero, List.set_cons_succ])
          refine wpHold_take (i := 16) (v := ?_) rfl (by kernel_rfl) (by kernel_rfl) (by kernel_rfl) (fun _ _ _ h => h) (Or.inl ⟨by rfl, ?_⟩) hC_93 ?_
          rotate_left
          · intro w hSw; clear hSw; go_simp; (try with_reducible rfl)
          (try simp only [List.getElem_toArray, List.getElem_cons_succ, List.getElem_cons_zero])
          (try simp only [Act.put, List.setIfInBounds_toArray, List.set_cons_zero, List.set_cons_succ])
          refine wpHold_done (by kernel_rfl) ?_ _
          have HBF := hide cc_93
          clear hC0 bd0 HCC hC_91 hb_91 cc_91 hC_92 hb_92 cc_92 hv_92 hC_93 hb_93 cc_93 HL1 HL2 HAD
          go_wp2
          go_ret
          exact ⟨rfl, below_step (unhide HBW) (unhide HBF)⟩
end Go.Proofs.YtbboacmjbffmhaaDoor
