/- ServerConserves: the law's walk. -/
import Derived.Test.YtbboacmjbffmhaaDoorS11
import Derived.Test.YtbboacmjbffmhaaDoorS0
namespace Go.Proofs.YtbboacmjbffmhaaDoor
open Go.RowKit Go.Sort Go.Shelf

theorem wait_bad (v : Value) (ks : List (Rat × List Rat)) (w : World) (h : ClassesAre w v ks) (sm : SmC ks) (hl : ks.length ≤ 6) (no : ¬ FitC ks) : Calls Tryd.prog 6 #[v] w fun e w' => ∃ (k : Int) (v : Value), e = .returned (.tuple #[v, .iface 71 (.int .i64 k)]) ∧ RatIs w' v 0 ∧ Below w.heap.size w w' :=
  (wait_any v ks w h sm hl).mono (by
    rintro e w' (⟨h, _⟩ | ⟨_, k, h, hb⟩)
    · exact absurd h no
    · exact ⟨k, zAgg, h, rat_zero _, hb⟩)

set_option maxHeartbeats 8000000 in
set_option maxRecDepth 100000 in
set_option linter.unusedSimpArgs false in
theorem serverConserves_any (v : Value) (ps : List ((Int × Int) × List (Int × Int))) (w : World) (htab : Tab w) (hps : ClsAre w v ps) :
    Calls Tryd.prog 3 #[v] w fun e w' => e = .returned (.bool true) ∧ Below w.heap.size w w' := by
  have KKe : KK = 1099511627776 := rfl
  have HTAB := hide htab
  have HPS := hide hps
  have HHF : Hid (∀ W, Below w.heap.size w W → Calls Tryd.prog 7 #[] W fun e w' => e = .returned (.bool true) ∧ Below W.heap.size W w') := fun W hW => half_any W (tab_below (unhide HTAB) hW)
  obtain ⟨ap, cp, rfl, hp1, hp2, hp4, hp3⟩ := hps
  have H3 := hide hp3
  clear htab hp4 hp3
  by_cases hlen : 6 < ps.length
  · have hl5 : (6 : Int) < (ps.length : Int) := by omega
    go_enter Tryd.func3, Tryd.ntmps3
    go_wp2
    go_ret
    exact ⟨rfl, Below.refl _ _⟩
  have hl5 : ¬ (6 : Int) < (ps.length : Int) := by omega
  go_enter Tryd.func3, Tryd.ntmps3
  go_wp2_with fail
  go_loopw [3] (fun vi wr => ∃ i : Nat, vi = .int .i64 (i : Int) ∧ i ≤ ps.length ∧ Below w.heap.size w wr ∧ ∀ j, j < i → (ps[j]!).2.length ≤ 12) (fun vi _ => ps.length - (intOf vi).toNat)
  case atStart => exact ⟨0, rfl, Nat.zero_le _, Below.refl _ _, fun j h => absurd h (Nat.not_lt_zero _)⟩
  case round =>
    obtain ⟨i, rfl, hi, hb, hall⟩ := hrel
    have HALL := hide hall
    have HB0 := hide hb
    clear hall
    by_cases hlt : i < ps.length
    · obtain ⟨b, o, rfl, hblt, hcs⟩ := unhide H3 (by omega)
      obtain ⟨l, ⟨k0, k1, k2⟩, hpl⟩ := hcs i hlt
      rw [← hb.cell (p := ⟨b, o + i * 3 + 2, none⟩) hblt] at k2
      have hpn := pairs_len hpl
      have e1 : (i : Int) < (ps.length : Int) := by omega
      have e0 : (0 : Int) ≤ (i : Int) := by omega
      have e3 : IntKind.i64.wrap ((i : Int) + 1) = (i : Int) + 1 := by rw [IntKind.wrap_i64]; omega
      by_cases hbig : 12 < l.n
      · have e4 : (12 : Int) < (l.n : Int) := by omega
        clear hb hcs hpl hpn k0 k1 HALL
        go_wp2
        go_ret
        exact ⟨rfl, unhide HB0⟩
      · have e4 : ¬ (12 : Int) < (l.n : Int) := by omega
        have HN : Hid (∀ j, j < i + 1 → (ps[j]!).2.length ≤ 12) := fun j hj => by
          rcases Nat.lt_or_ge j i with h | h
          · exact unhide HALL j h
          · obtain rfl : j = i := by omega
            omega
        clear hb hcs hpl hpn k0 k1 HALL
        go_wp2_with fail
        exact ⟨⟨i + 1, by go_num, hlt, unhide HB0, unhide HN⟩, by simp [intOf]; omega⟩
    · obtain rfl : i = ps.length := by omega
      have e1 : ¬ (ps.length : Int) < (ps.length : Int) := by omega
      have HKI := hide (classes_any _ ps wr ((unhide HPS).below hb) (by omega) (fun j hj => by have := unhide HALL j hj; omega))
      have HSM := hide (csOf_sm (unhide HPS) (unhide HALL))
      have hkl : (csOf ps).length = ps.length := csOf_length ps
      obtain ⟨ks, hks⟩ : ∃ ks, csOf ps = ks := ⟨_, rfl⟩
      rw [hks] at HKI HSM hkl
      have HKL := hide hkl
      have hl6 : ks.length ≤ 6 := by omega
      clear hb HALL hks hkl
      go_wp2_with fail
      (try simp only [Exit.inBlock, Exit.then])
      go_wp2_with fail
      refine (unhide HKI).mono ?_
      rintro e w1 ⟨vk, rfl, hvk, hbx⟩
      have HVK := hide hvk
      have HB1 := hide (below_step (unhide HB0) hbx)
      obtain ⟨ak, ck, rfl, k1, k2, k3⟩ := hvk
      have HK3 := hide k3
      clear k3 hbx HKI HB0 e1 hl5 hi hlt HPS H3
      obtain ⟨tc, hi, hz0, hz1, hz2⟩ := info_parts Tryd.infoC
      have HI := hide hi
      have HZ0 := hide hz0
      clear hi hz0
      by_cases hfit : FitC ks
      · have HFIT := hide hfit
        have HN1 := hide hfit.1.1
        clear hfit
        obtain ⟨b, o, rfl, hblt, hcs⟩ := unhide HK3 (unhide HN1)
        have HCS := hide hcs
        clear hcs HK3
        have HWA := hide (wait_fit _ ks w1 (unhide HVK) (unhide HSM) hl6 (unhide HFIT))
        have HB11 := hide (Below.refl w1.heap.size w1)
        go_wp2_with fail
        refine (unhide HWA).mono ?_
        rintro e w_1 ⟨v6, rfl, hv6, hbx⟩
        obtain ⟨tw, rfl, hr_1⟩ := tri_of hv6
        simp only [Tri.val]
        have HG_bw := hide (below_step (unhide HB1) hbx).size
        have hb_1 := below_step hbx (alloc_below w_1 (.cells #[.bool tw.s, .slice tw.a1 tw.n1 tw.c1, .slice tw.a2 tw.n2 tw.c2] 33))
        have HB_2 := hide (below_step (unhide HB1) hb_1)
        have HB11_2 := hide (below_step (unhide HB11) hb_1)
        clear HB1 HB11
        have HX_bw_1 := hide (BoxIs.new hr_1)
        obtain ⟨Wbw, hW_1⟩ : ∃ W, w_1.alloc (.cells #[.bool tw.s, .slice tw.a1 tw.n1 tw.c1, .slice tw.a2 tw.n2 tw.c2] 33) = W := ⟨_, rfl⟩
        obtain ⟨bw, hc_1⟩ : ∃ b, w_1.heap.size = b := ⟨_, rfl⟩
        rw [hW_1] at HB_2 HB11_2 HX_bw_1
        rw [hc_1] at HX_bw_1 HG_bw
        clear hv6 hr_1 hbx hb_1
        clear HWA
        go_wp2_with fail
        clear hW_1 hc_1
        refine (unhide HHF _ (unhide HB_2)).mono ?_
        rintro e w_3 ⟨rfl, hbx⟩
        have HB_4 := hide (below_step (unhide HB_2) hbx)
        have HX_bw_4 := hide ((unhide HX_bw_1).keep hbx)
        have HB11_4 := hide (below_step (unhide HB11_2) hbx)
        clear HB_2 HX_bw_1 HB11_2
        clear hbx
        have HWS := hide (waits_fit _ ks w_3 ((unhide HVK).below (unhide HB11_4)) (unhide HSM) hl6 (unhide HFIT))
        go_wp2_with fail
        refine (unhide HWS).mono ?_
        rintro e w_5 ⟨va, rfl, hva, hbx⟩
        have HB_6 := hide (below_step (unhide HB_4) hbx)
        have HX_bw_6 := hide ((unhide HX_bw_4).keep hbx)
        have HB11_6 := hide (below_step (unhide HB11_4) hbx)
        clear HB_4 HX_bw_4 HB11_4
        clear hbx
        clear HWS
        have HVA := hide hva
        obtain ⟨aa, ca, rfl, a1, a2, a3⟩ := hva
        rw [row_length] at a1 HVA ⊢
        clear a3
        have HLD := hide (load_good _ ks w_5 ((unhide HVK).below (unhide HB11_6)) (unhide HSM) hl6 (unhide HFIT).1)
        go_wp2_with fail
        refine (unhide HLD).mono ?_
        rintro e w_7 ⟨v7, rfl, hv7, hbx⟩
        obtain ⟨tl, rfl, hr_7⟩ := tri_of hv7
        simp only [Tri.val]
        have HL_bw_bl := hide (Nat.lt_of_lt_of_le (unhide HX_bw_6).lt hbx.size)
        have HG_bl := hide (below_step (unhide HB_6) hbx).size
        have hb_7 := below_step hbx (alloc_below w_7 (.cells #[.bool tl.s, .slice tl.a1 tl.n1 tl.c1, .slice tl.a2 tl.n2 tl.c2] 33))
        have HB_8 := hide (below_step (unhide HB_6) hb_7)
        have HX_bw_8 := hide ((unhide HX_bw_6).keep hb_7)
        have HB11_8 := hide (below_step (unhide HB11_6) hb_7)
        have HVA_8 := hide ((unhide HVA).below hb_7)
        clear HB_6 HX_bw_6 HB11_6 HVA
        have HX_bl_7 := hide (BoxIs.new hr_7)
        obtain ⟨Wbl, hW_7⟩ : ∃ W, w_7.alloc (.cells #[.bool tl.s, .slice tl.a1 tl.n1 tl.c1, .slice tl.a2 tl.n2 tl.c2] 33) = W := ⟨_, rfl⟩
        obtain ⟨bl, hc_7⟩ : ∃ b, w_7.heap.size = b := ⟨_, rfl⟩
        rw [hW_7] at HB_8 HX_bw_8 HB11_8 HVA_8 HX_bl_7
        rw [hc_7] at HX_bl_7 HL_bw_bl HG_bl
        clear hv7 hr_7 hbx hb_7
        clear HLD
        have e4 : IntKind.i64.wrap ((ks.length : Int) - 1) = (ks.length : Int) - 1 := by rw [IntKind.wrap_i64]; omega
        go_wp2_with fail
        clear e4 hW_7 hc_7
        go_loopw [11, 12] (fun vo vi wr => ∃ (m : Nat) (x : Int) (ts : List (Tri × Sl)), vi = .int .i64 x ∧ x = (ks.length : Int) - 1 - (m : Int) ∧ m ≤ ks.length ∧ ts.length = m ∧ CsAt Wbl wr vo ts ks.reverse) (fun _ vi _ => (intOf vi + 1).toNat)
        case atStart => exact ⟨0, _, [], rfl, by omega, Nat.zero_le _, rfl, CsAt.start _ _ _ (Below.refl _ _)⟩
        case round =>
          obtain ⟨m, x, ts, rfl, hx, hm, hts, T⟩ := hrel
          by_cases hlt : m < ks.length
          · obtain ⟨j, hj⟩ : ∃ j : Nat, j + m + 1 = ks.length := ⟨ks.length - 1 - m, by omega⟩
            obtain rfl : x = (j : Int) := by omega
            have hjl : j < ks.length := by omega
            obtain ⟨tk, lk, ⟨k0, k1', k2', k3'⟩, kr⟩ := unhide HCS j hjl
            have bW := below_step (unhide HB11_8) T.bl
            rw [← bW.cell (p := ⟨b, o + j * 4, none⟩) hblt] at k0
            rw [← bW.cell (p := ⟨b, o + j * 4 + 1, none⟩) hblt] at k1'
            rw [← bW.cell (p := ⟨b, o + j * 4 + 2, none⟩) hblt] at k2'
            rw [← bW.cell (p := ⟨b, o + j * 4 + 3, none⟩) hblt] at k3'
            have hrg : ks.reverse[ts.length]! = ks[j]! := by rw [hts, rev_get hlt, show ks.length - 1 - m = j by omega]
            have bL := alloc_below wr (.cells #[.bool tk.s, .slice tk.a1 tk.n1 tk.c1, .slice tk.a2 tk.n2 tk.c2, .slice lk.a lk.n lk.c] 45)
            have T2 := T.keep bL
            have kr2 := kr.below (below_step bW bL)
            have hlaw : 0 < lk.n → ∀ ad, lk.a = some ad → u11.ownBlock ≠ some ad.block := fun h0 ad e he => by
              have h1 := law_lt (kr.below (unhide HB11_8)).2 h0 e
              have h2 := (ownsC_block T.own _ he).1
              omega
            have hlen64 : (ts.length + 1) * 80 ≤ 140737488355328 := by omega
            have hlen63 : ts.length + 1 ≤ maxLen := by unfold maxLen; omega
            have hsz2 : (wr.alloc (.cells #[.bool tk.s, .slice tk.a1 tk.n1 tk.c1, .slice tk.a2 tk.n2 tk.c2, .slice lk.a lk.n lk.c] 45)).heap.size = wr.heap.size + 1 := by rw [alloc_heap, Array.size_push]
            have HT2 := hide T2
            have HKR := hide kr2
            have HLW := hide hlaw
            have HL64 := hide hlen64
            have HL63 := hide hlen63
            have HSZ := hide hsz2
            have HRG := hide hrg
            have HBA := hide T2.bl.size
            have HTS := hide hts
            have e1 : (j : Int) < (ks.length : Int) := by omega
            have e0 : (0 : Int) ≤ (j : Int) := by omega
            have e3 : IntKind.i64.wrap ((j : Int) - 1) = (j : Int) - 1 := by rw [IntKind.wrap_i64]; omega
            clear T T2 kr kr2 hlaw hlen64 hlen63 hsz2 hrg bW bL hx hts
            go_wp2_with (at_builtin; go_loud (refine wpList_append_class _ rfl _ _ _ rfl Wbl.heap.size 45 tc 80 Tryd.underlying28 (unhide HI) (unhide HZ0) hz1 hz2 _ ts.length (ccells ts) rfl (unhide HT2).own (unhide HT2).no ⟨wr.heap.size, 0, none⟩ 1 1 (cc (tk, lk)) rfl rfl (news_class wr (tk, lk) _) (cc_one (tk, lk)) (cc_notWord (tk, lk)) (by decide) (unhide HL63) (unhide HL64) (unhide HBA) (wr.heap.size + 1) (unhide HSZ) ?_; intro g cap w4 hown4 hgrow hat hlt4 hno4))
            have FIN := hide ((unhide HT2).push (p := (tk, lk)) (by rw [unhide HRG]; exact unhide HKR) (unhide HLW) hown4 hgrow (by rw [unhide HSZ]; exact hat) hno4)
            clear hown4 hgrow hat hno4 HT2 HKR HLW k0 k1' k2' k3'
            go_wp2_with fail
            exact ⟨⟨m + 1, _, ts ++ [(tk, lk)], by go_num, by omega, hlt, by rw [List.length_append, unhide HTS]; rfl, unhide FIN⟩, by simp [intOf] <;> omega⟩
          · obtain rfl : m = ks.length := by omega
            have e1 : x < 0 := by omega
            have CLR := T.classes (by rw [hts, List.length_reverse])
            have HB1w := hide T.bl
            have HVT := hide CLR
            have HB_201 := hide (below_step (unhide HB_8) T.bl)
            have HX_bw_201 := hide ((unhide HX_bw_8).keep T.bl)
            have HX_bl_201 := hide ((unhide HX_bl_7).keep T.bl)
            have HB11_201 := hide (below_step (unhide HB11_8) T.bl)
            have HVA_201 := hide ((unhide HVA_8).below T.bl)
            clear HB_8 HX_bw_8 HX_bl_7 HB11_8 HVA_8
            clear T
            obtain ⟨at1, ct1, rfl, q1, q2, q3⟩ := CLR
            rw [List.length_reverse] at q1 q3 HVT ⊢
            have HT3 := hide q3
            clear q3 hx hlt
            have HWT := hide (waits_fit _ ks.reverse wr (unhide HVT) (rev_sm (unhide HSM)) (by rw [List.length_reverse]; exact hl6) (rev_fit (unhide HFIT)))
            rw [List.length_reverse] at HWT
            go_wp2_with fail
            (try simp only [Exit.inBlock, Exit.then])
            go_wp2_with fail
            refine (unhide HWT).mono ?_
            rintro e w_202 ⟨vb, rfl, hvb, hbx⟩
            have HB_203 := hide (below_step (unhide HB_201) hbx)
            have HX_bw_203 := hide ((unhide HX_bw_201).keep hbx)
            have HX_bl_203 := hide ((unhide HX_bl_201).keep hbx)
            have HB11_203 := hide (below_step (unhide HB11_201) hbx)
            have HVA_203 := hide ((unhide HVA_201).below hbx)
            have HVT_203 := hide ((unhide HVT).below hbx)
            clear HB_201 HX_bw_201 HX_bl_201 HB11_201 HVA_201 HVT
            clear hbx
            clear HWT
            have HVB := hide hvb
            obtain ⟨ab, cb, rfl, b1, b2, b3⟩ := hvb
            rw [row_length] at b1 HVB ⊢
            clear b3
            go_wp2_with fail
            refine (whole_any 0 (by decide) (by decide) _).mono ?_
            rintro e w_204 ⟨x1, rfl, hx1, hbx⟩
            have HB_205 := hide (below_step (unhide HB_203) hbx)
            have HX_bw_205 := hide ((unhide HX_bw_203).keep hbx)
            have HX_bl_205 := hide ((unhide HX_bl_203).keep hbx)
            have HB11_205 := hide (below_step (unhide HB11_203) hbx)
            have HVA_205 := hide ((unhide HVA_203).below hbx)
            have HVT_205 := hide ((unhide HVT_203).below hbx)
            have HVB_205 := hide ((unhide HVB).below hbx)
            clear HB_203 HX_bw_203 HX_bl_203 HB11_203 HVA_203 HVT_203 HVB
            clear hbx
            have HX1 := hide hx1
            clear hx1
            go_wp2_with fail
            refine (whole_any 0 (by decide) (by decide) _).mono ?_
            rintro e w_206 ⟨x2, rfl, hx2, hbx⟩
            have HB_207 := hide (below_step (unhide HB_205) hbx)
            have HX_bw_207 := hide ((unhide HX_bw_205).keep hbx)
            have HX_bl_207 := hide ((unhide HX_bl_205).keep hbx)
            have HB11_207 := hide (below_step (unhide HB11_205) hbx)
            have HVA_207 := hide ((unhide HVA_205).below hbx)
            have HVT_207 := hide ((unhide HVT_205).below hbx)
            have HVB_207 := hide ((unhide HVB_205).below hbx)
            have HX1_207 := hide ((unhide HX1).below hbx)
            clear HB_205 HX_bw_205 HX_bl_205 HB11_205 HVA_205 HVT_205 HVB_205 HX1
            have hx1 := unhide HX1_207
            obtain ⟨ts0, rfl, hr1⟩ := tri_of hx1
            obtain ⟨tt0, rfl, hr2⟩ := tri_of hx2
            simp only [Tri.val]
            have HBZ := hide (below_step (alloc_below w_206 (.cells #[.bool ts0.s, .slice ts0.a1 ts0.n1 ts0.c1, .slice ts0.a2 ts0.n2 ts0.c2] 33)) (alloc_below _ (.cells #[.bool tt0.s, .slice tt0.a1 tt0.n1 tt0.c1, .slice tt0.a2 tt0.n2 tt0.c2] 33)))
            have HXs := hide ((BoxIs.new hr1).keep (alloc_below _ (.cells #[.bool tt0.s, .slice tt0.a1 tt0.n1 tt0.c1, .slice tt0.a2 tt0.n2 tt0.c2] 33)))
            have HXt := hide (BoxIs.new (hr2.below (alloc_below w_206 (.cells #[.bool ts0.s, .slice ts0.a1 ts0.n1 ts0.c1, .slice ts0.a2 ts0.n2 ts0.c2] 33))))
            rw [alloc_size] at HXt
            obtain ⟨Wz, hWz⟩ : ∃ W, (w_206.alloc (.cells #[.bool ts0.s, .slice ts0.a1 ts0.n1 ts0.c1, .slice ts0.a2 ts0.n2 ts0.c2] 33)).alloc (.cells #[.bool tt0.s, .slice tt0.a1 tt0.n1 tt0.c1, .slice tt0.a2 tt0.n2 tt0.c2] 33) = W := ⟨_, rfl⟩
            obtain ⟨bs, hcz⟩ : ∃ b, w_206.heap.size = b := ⟨_, rfl⟩
            obtain ⟨bt, hdz⟩ : ∃ b, bs + 1 = b := ⟨_, rfl⟩
            rw [hWz] at HBZ HXs HXt
            rw [hcz] at HXs HXt
            rw [hdz] at HXt
            have HLS : Hid (w_206.heap.size ≤ bs) := Nat.le_of_eq hcz
            have HLT : Hid (w_206.heap.size ≤ bt) := by show _ ≤ _; omega
            have HST : Hid (bs ≠ bt) := by show _ ≠ _; omega
            clear hx1 hx2 hr1 hr2 hbx HX1_207
            have HCZ := hide hcz
            have HDZ := hide hdz
            clear hcz hdz
            go_wp2_with fail
            rw [unhide HCZ, unhide HDZ]
            clear hWz HCZ HDZ
            have LA := unhide HVA_207
            obtain ⟨zA, yA, eA, _, _, A3A⟩ := LA
            injection eA with eA1 eA2 eA3
            subst eA1 eA3
            clear eA2
            obtain ⟨bA, oA, rfl, hbA, hcA⟩ := A3A (by rw [row_length]; exact unhide HN1)
            have HCA := hide hcA
            clear hcA A3A
            have LB := unhide HVB_207
            obtain ⟨zB, yB, eB, _, _, A3B⟩ := LB
            injection eB with eB1 eB2 eB3
            subst eB1 eB3
            clear eB2
            obtain ⟨bB, oB, rfl, hbB, hcB⟩ := A3B (by rw [row_length]; exact unhide HN1)
            have HCB := hide hcB
            clear hcB A3B
            obtain ⟨bT, oT, rfl, hbT, hcT⟩ := unhide HT3 (unhide HN1)
            clear hcT HT3
            go_loopw [17] (fun vi wr => ∃ (i : Nat) (ts tt : Tri), vi = .int .i64 (i : Int) ∧ i ≤ ks.length ∧ BoxIs wr bs ts (cvS ks i) ∧ BoxIs wr bt tt (cvS ks.reverse i) ∧ Below w_206.heap.size w_206 wr) (fun vi _ => ks.length - (intOf vi).toNat)
            case atStart => exact ⟨0, _, _, rfl, Nat.zero_le _, unhide HXs, unhide HXt, unhide HBZ⟩
            case round =>
              obtain ⟨i, ts, tt, rfl, hi, Xs, Xt, hbi⟩ := hrel
              have HBI := hide hbi
              have HXS := hide Xs
              have HXT := hide Xt
              clear hbi Xs Xt HXs HXt HBZ
              by_cases hlt : i < ks.length
              · have e1' : (i : Int) < (ks.length : Int) := by omega
                have e0 : (0 : Int) ≤ (i : Int) := by omega
                have e3 : IntKind.i64.wrap ((i : Int) + 1) = (i : Int) + 1 := by rw [IntKind.wrap_i64]; omega
                have e5 : (i : Int) + 1 ≤ (ck : Int) := by omega
                have e5' : (i : Int) + 1 ≤ (ct1 : Int) := by omega
                have e6 : ((i : Int) + 1).toNat = i + 1 := by omega
                have e7 : ck ≠ i := by omega
                have e7' : ct1 ≠ i := by omega
                have HLA := hide (load_good _ [ks[i]!] wr (((unhide HVK).below (below_step (unhide HB11_207) (unhide HBI))).piece (i := i) (d := ck - i) hlt (by omega) (by omega)) (sm_one (unhide HSM) hlt) (show 1 ≤ 6 by decide) (good_one (unhide HFIT).1.2 hlt))
                rw [show [ks[i]!].length = 1 from rfl, ld_one] at HLA
                go_wp2_with fail
                refine (unhide HLA).mono ?_
                rintro e w_301 ⟨v8, rfl, hv8, hbx⟩
                obtain ⟨tx, rfl, hr_301⟩ := tri_of hv8
                simp only [Tri.val]
                have HL_bs_bx := hide (Nat.lt_of_lt_of_le (unhide HXS).lt hbx.size)
                have HL_bt_bx := hide (Nat.lt_of_lt_of_le (unhide HXT).lt hbx.size)
                have HG_bx := hide (below_step (unhide HBI) hbx).size
                have hb_301 := below_step hbx (alloc_below w_301 (.cells #[.bool tx.s, .slice tx.a1 tx.n1 tx.c1, .slice tx.a2 tx.n2 tx.c2] 33))
                have HB_302 := hide (below_step (unhide HBI) hb_301)
                have HX_bs_302 := hide ((unhide HXS).keep hb_301)
                have HX_bt_302 := hide ((unhide HXT).keep hb_301)
                clear HBI HXS HXT
                have HX_bx_301 := hide (BoxIs.new hr_301)
                obtain ⟨Wbx, hW_301⟩ : ∃ W, w_301.alloc (.cells #[.bool tx.s, .slice tx.a1 tx.n1 tx.c1, .slice tx.a2 tx.n2 tx.c2] 33) = W := ⟨_, rfl⟩
                obtain ⟨bx, hc_301⟩ : ∃ b, w_301.heap.size = b := ⟨_, rfl⟩
                rw [hW_301] at HB_302 HX_bs_302 HX_bt_302 HX_bx_301
                rw [hc_301] at HX_bx_301 HL_bs_bx HL_bt_bx HG_bx
                clear hv8 hr_301 hbx hb_301
                have HLB := hide (load_good _ [ks.reverse[i]!] Wbx (((unhide HVT_207).below (unhide HB_302)).piece (i := i) (d := ct1 - i) (by rw [List.length_reverse]; exact hlt) (by omega) (by omega)) (sm_one (rev_sm (unhide HSM)) (by rw [List.length_reverse]; exact hlt)) (show 1 ≤ 6 by decide) (good_one (rev_fit (unhide HFIT)).1.2 (by rw [List.length_reverse]; exact hlt)))
                rw [show [ks.reverse[i]!].length = 1 from rfl, ld_one] at HLB
                clear HLA
                go_wp2_with fail
                clear hW_301 hc_301
                refine (unhide HLB).mono ?_
                rintro e w_303 ⟨v9, rfl, hv9, hbx⟩
                obtain ⟨ty, rfl, hr_303⟩ := tri_of hv9
                simp only [Tri.val]
                have HL_bs_by1 := hide (Nat.lt_of_lt_of_le (unhide HX_bs_302).lt hbx.size)
                have HL_bt_by1 := hide (Nat.lt_of_lt_of_le (unhide HX_bt_302).lt hbx.size)
                have HL_bx_by1 := hide (Nat.lt_of_lt_of_le (unhide HX_bx_301).lt hbx.size)
                have HG_by1 := hide (below_step (unhide HB_302) hbx).size
                have hb_303 := below_step hbx (alloc_below w_303 (.cells #[.bool ty.s, .slice ty.a1 ty.n1 ty.c1, .slice ty.a2 ty.n2 ty.c2] 33))
                have HB_304 := hide (below_step (unhide HB_302) hb_303)
                have HX_bs_304 := hide ((unhide HX_bs_302).keep hb_303)
                have HX_bt_304 := hide ((unhide HX_bt_302).keep hb_303)
                have HX_bx_304 := hide ((unhide HX_bx_301).keep hb_303)
                clear HB_302 HX_bs_302 HX_bt_302 HX_bx_301
                have HX_by1_303 := hide (BoxIs.new hr_303)
                obtain ⟨Wby1, hW_303⟩ : ∃ W, w_303.alloc (.cells #[.bool ty.s, .slice ty.a1 ty.n1 ty.c1, .slice ty.a2 ty.n2 ty.c2] 33) = W := ⟨_, rfl⟩
                obtain ⟨by1, hc_303⟩ : ∃ b, w_303.heap.size = b := ⟨_, rfl⟩
                rw [hW_303] at HB_304 HX_bs_304 HX_bt_304 HX_bx_304 HX_by1_303
                rw [hc_303] at HX_by1_303 HL_bs_by1 HL_bt_by1 HL_bx_by1 HG_by1
                clear hv9 hr_303 hbx hb_303
                clear HLB
                go_wp2_with fail
                clear hW_303 hc_303
                obtain ⟨ps, pp1, pp2, pn1, pd1, pn2, pd2, pk0, pk1, pk2, pr⟩ := (unhide HCA) i (by rw [row_length]; exact hlt)
                obtain ⟨ta, rfl, rfl, rfl, rfl, rfl, rfl, rfl⟩ : ∃ t : Tri, ps = t.s ∧ pp1 = t.a1 ∧ pp2 = t.a2 ∧ pn1 = t.n1 ∧ pd1 = t.c1 ∧ pn2 = t.n2 ∧ pd2 = t.c2 := ⟨⟨ps, pp1, pp2, pn1, pd1, pn2, pd2⟩, rfl, rfl, rfl, rfl, rfl, rfl, rfl⟩
                obtain ⟨qs, qp1, qp2, qn1, qd1, qn2, qd2, qk0, qk1, qk2, qr⟩ := (unhide HCB) i (by rw [row_length]; exact hlt)
                obtain ⟨tb, rfl, rfl, rfl, rfl, rfl, rfl, rfl⟩ : ∃ t : Tri, qs = t.s ∧ qp1 = t.a1 ∧ qp2 = t.a2 ∧ qn1 = t.n1 ∧ qd1 = t.c1 ∧ qn2 = t.n2 ∧ qd2 = t.c2 := ⟨⟨qs, qp1, qp2, qn1, qd1, qn2, qd2⟩, rfl, rfl, rfl, rfl, rfl, rfl, rfl⟩
                rw [row_get hlt] at pr qr
                have HRA := hide (pr.below (unhide HB_304))
                have HRB := hide (qr.below (unhide HB_304))
                have HCC : Hid (∀ W, Below Wby1.heap.size Wby1 W → (fun w' : World => (w'.cell? ⟨bs, 0, none⟩ = some (.bool ts.s) ∧ w'.cell? ⟨bs, 1, none⟩ = some (.slice ts.a1 ts.n1 ts.c1) ∧ w'.cell? ⟨bs, 2, none⟩ = some (.slice ts.a2 ts.n2 ts.c2)) ∧ (w'.cell? ⟨bx, 0, none⟩ = some (.bool tx.s) ∧ w'.cell? ⟨bx, 1, none⟩ = some (.slice tx.a1 tx.n1 tx.c1) ∧ w'.cell? ⟨bx, 2, none⟩ = some (.slice tx.a2 tx.n2 tx.c2)) ∧ (w'.cell? ⟨bA, oA + i * 3, none⟩ = some (.bool ta.s) ∧ w'.cell? ⟨bA, oA + i * 3 + 1, none⟩ = some (.slice ta.a1 ta.n1 ta.c1) ∧ w'.cell? ⟨bA, oA + i * 3 + 2, none⟩ = some (.slice ta.a2 ta.n2 ta.c2)) ∧ (w'.cell? ⟨bt, 0, none⟩ = some (.bool tt.s) ∧ w'.cell? ⟨bt, 1, none⟩ = some (.slice tt.a1 tt.n1 tt.c1) ∧ w'.cell? ⟨bt, 2, none⟩ = some (.slice tt.a2 tt.n2 tt.c2)) ∧ (w'.cell? ⟨by1, 0, none⟩ = some (.bool ty.s) ∧ w'.cell? ⟨by1, 1, none⟩ = some (.slice ty.a1 ty.n1 ty.c1) ∧ w'.cell? ⟨by1, 2, none⟩ = some (.slice ty.a2 ty.n2 ty.c2)) ∧ (w'.cell? ⟨bB, oB + i * 3, none⟩ = some (.bool tb.s) ∧ w'.cell? ⟨bB, oB + i * 3 + 1, none⟩ = some (.slice tb.a1 tb.n1 tb.c1) ∧ w'.cell? ⟨bB, oB + i * 3 + 2, none⟩ = some (.slice tb.a2 tb.n2 tb.c2))) W) := fun W hW => by
                  have h2 := below_step (unhide HB_304) hW
                  refine ⟨(unhide HX_bs_304).cells W hW, (unhide HX_bx_304).cells W hW, ?_, (unhide HX_bt_304).cells W hW, (unhide HX_by1_303).cells W hW, ?_⟩
                  · rw [h2.cell (p := ⟨bA, oA + i * 3, none⟩) hbA, h2.cell (p := ⟨bA, oA + i * 3 + 1, none⟩) hbA, h2.cell (p := ⟨bA, oA + i * 3 + 2, none⟩) hbA]; exact ⟨pk0, pk1, pk2⟩
                  · rw [h2.cell (p := ⟨bB, oB + i * 3, none⟩) hbB, h2.cell (p := ⟨bB, oB + i * 3 + 1, none⟩) hbB, h2.cell (p := ⟨bB, oB + i * 3 + 2, none⟩) hbB]; exact ⟨qk0, qk1, qk2⟩
                have hir : i < ks.reverse.length := by rw [List.length_reverse]; exact hlt
                have hlr : ks.reverse.length ≤ 6 := by rw [List.length_reverse]; exact hl6
                have HM1 : Hid (∀ W, Below Wby1.heap.size Wby1 W → Calls Tryd.prog 13 #[.agg #[.bool tx.s, .slice tx.a1 tx.n1 tx.c1, .slice tx.a2 tx.n2 tx.c2], .agg #[.bool ta.s, .slice ta.a1 ta.n1 ta.c1, .slice ta.a2 ta.n2 ta.c2]] W fun e w' => ∃ v, e = .returned v ∧ RatIs w' v (ldC ks i * waitsC ks i) ∧ Below W.heap.size W w') := fun W hW => mulR_any tx.val ta.val _ _ W ((unhide HX_bx_304).2.below hW) ((unhide HRA).below hW) 900 ((ld_RS (unhide HSM) (by omega) hlt).mono (by omega)) (waits_RS (unhide HSM) hl6 (unhide HFIT) hlt) (by rw [KKe]; omega)
                have HA1 : Hid (∀ W v (hW : Below Wby1.heap.size Wby1 W) (hv : RatIs W v (ldC ks i * waitsC ks i)), Calls Tryd.prog 12 #[.agg #[.bool ts.s, .slice ts.a1 ts.n1 ts.c1, .slice ts.a2 ts.n2 ts.c2], v] W fun e w' => ∃ v, e = .returned v ∧ RatIs w' v (cvS ks (i + 1)) ∧ Below W.heap.size W w') := fun W v hW hv => addR_any ts.val v _ _ W ((unhide HX_bs_304).2.below hW) hv 6000 ((cvS_RS (unhide HSM) hl6 (unhide HFIT) i (by omega)).mono (by omega)) ((RS.mul (ld_RS (unhide HSM) (p := 1) (by omega) hlt) (waits_RS (unhide HSM) hl6 (unhide HFIT) hlt)).mono (by omega)) (by rw [KKe]; omega)
                have HM2 : Hid (∀ W, Below Wby1.heap.size Wby1 W → Calls Tryd.prog 13 #[.agg #[.bool ty.s, .slice ty.a1 ty.n1 ty.c1, .slice ty.a2 ty.n2 ty.c2], .agg #[.bool tb.s, .slice tb.a1 tb.n1 tb.c1, .slice tb.a2 tb.n2 tb.c2]] W fun e w' => ∃ v, e = .returned v ∧ RatIs w' v (ldC ks.reverse i * waitsC ks.reverse i) ∧ Below W.heap.size W w') := fun W hW => mulR_any ty.val tb.val _ _ W ((unhide HX_by1_303).2.below hW) ((unhide HRB).below hW) 900 ((ld_RS (rev_sm (unhide HSM)) (by omega) hir).mono (by omega)) (waits_RS (rev_sm (unhide HSM)) hlr (rev_fit (unhide HFIT)) hir) (by rw [KKe]; omega)
                have HA2 : Hid (∀ W v (hW : Below Wby1.heap.size Wby1 W) (hv : RatIs W v (ldC ks.reverse i * waitsC ks.reverse i)), Calls Tryd.prog 12 #[.agg #[.bool tt.s, .slice tt.a1 tt.n1 tt.c1, .slice tt.a2 tt.n2 tt.c2], v] W fun e w' => ∃ v, e = .returned v ∧ RatIs w' v (cvS ks.reverse (i + 1)) ∧ Below W.heap.size W w') := fun W v hW hv => addR_any tt.val v _ _ W ((unhide HX_bt_304).2.below hW) hv 6000 ((cvS_RS (rev_sm (unhide HSM)) hlr (rev_fit (unhide HFIT)) i (by omega)).mono (by omega)) ((RS.mul (ld_RS (rev_sm (unhide HSM)) (p := 1) (by omega) hir) (waits_RS (rev_sm (unhide HSM)) hlr (rev_fit (unhide HFIT)) hir)).mono (by omega)) (by rw [KKe]; omega)
                clear pr qr pk0 pk1 pk2 qk0 qk1 qk2 hir hlr
                refine wp_region_till (fun w' : World => (w'.cell? ⟨bs, 0, none⟩ = some (.bool ts.s) ∧ w'.cell? ⟨bs, 1, none⟩ = some (.slice ts.a1 ts.n1 ts.c1) ∧ w'.cell? ⟨bs, 2, none⟩ = some (.slice ts.a2 ts.n2 ts.c2)) ∧ (w'.cell? ⟨bx, 0, none⟩ = some (.bool tx.s) ∧ w'.cell? ⟨bx, 1, none⟩ = some (.slice tx.a1 tx.n1 tx.c1) ∧ w'.cell? ⟨bx, 2, none⟩ = some (.slice tx.a2 tx.n2 tx.c2)) ∧ (w'.cell? ⟨bA, oA + i * 3, none⟩ = some (.bool ta.s) ∧ w'.cell? ⟨bA, oA + i * 3 + 1, none⟩ = some (.slice ta.a1 ta.n1 ta.c1) ∧ w'.cell? ⟨bA, oA + i * 3 + 2, none⟩ = some (.slice ta.a2 ta.n2 ta.c2)) ∧ (w'.cell? ⟨bt, 0, none⟩ = some (.bool tt.s) ∧ w'.cell? ⟨bt, 1, none⟩ = some (.slice tt.a1 tt.n1 tt.c1) ∧ w'.cell? ⟨bt, 2, none⟩ = some (.slice tt.a2 tt.n2 tt.c2)) ∧ (w'.cell? ⟨by1, 0, none⟩ = some (.bool ty.s) ∧ w'.cell? ⟨by1, 1, none⟩ = some (.slice ty.a1 ty.n1 ty.c1) ∧ w'.cell? ⟨by1, 2, none⟩ = some (.slice ty.a2 ty.n2 ty.c2)) ∧ (w'.cell? ⟨bB, oB + i * 3, none⟩ = some (.bool tb.s) ∧ w'.cell? ⟨bB, oB + i * 3 + 1, none⟩ = some (.slice tb.a1 tb.n1 tb.c1) ∧ w'.cell? ⟨bB, oB + i * 3 + 2, none⟩ = some (.slice tb.a2 tb.n2 tb.c2))) 16 (by kernel_rfl) ?_
                have bd0 : Below Wby1.heap.size Wby1 Wby1.drew := (Below.refl _ _).drew
                have hC0 : (fun w' : World => (w'.cell? ⟨bs, 0, none⟩ = some (.bool ts.s) ∧ w'.cell? ⟨bs, 1, none⟩ = some (.slice ts.a1 ts.n1 ts.c1) ∧ w'.cell? ⟨bs, 2, none⟩ = some (.slice ts.a2 ts.n2 ts.c2)) ∧ (w'.cell? ⟨bx, 0, none⟩ = some (.bool tx.s) ∧ w'.cell? ⟨bx, 1, none⟩ = some (.slice tx.a1 tx.n1 tx.c1) ∧ w'.cell? ⟨bx, 2, none⟩ = some (.slice tx.a2 tx.n2 tx.c2)) ∧ (w'.cell? ⟨bA, oA + i * 3, none⟩ = some (.bool ta.s) ∧ w'.cell? ⟨bA, oA + i * 3 + 1, none⟩ = some (.slice ta.a1 ta.n1 ta.c1) ∧ w'.cell? ⟨bA, oA + i * 3 + 2, none⟩ = some (.slice ta.a2 ta.n2 ta.c2)) ∧ (w'.cell? ⟨bt, 0, none⟩ = some (.bool tt.s) ∧ w'.cell? ⟨bt, 1, none⟩ = some (.slice tt.a1 tt.n1 tt.c1) ∧ w'.cell? ⟨bt, 2, none⟩ = some (.slice tt.a2 tt.n2 tt.c2)) ∧ (w'.cell? ⟨by1, 0, none⟩ = some (.bool ty.s) ∧ w'.cell? ⟨by1, 1, none⟩ = some (.slice ty.a1 ty.n1 ty.c1) ∧ w'.cell? ⟨by1, 2, none⟩ = some (.slice ty.a2 ty.n2 ty.c2)) ∧ (w'.cell? ⟨bB, oB + i * 3, none⟩ = some (.bool tb.s) ∧ w'.cell? ⟨bB, oB + i * 3 + 1, none⟩ = some (.slice tb.a1 tb.n1 tb.c1) ∧ w'.cell? ⟨bB, oB + i * 3 + 2, none⟩ = some (.slice tb.a2 tb.n2 tb.c2))) Wby1.drew := unhide HCC _ bd0
                refine wpTill_take (i := 0) (v := ?_) rfl (by kernel_rfl) (by kernel_rfl) (by kernel_rfl) (by kernel_rfl) (by kernel_rfl) (by kernel_rfl) (fun _ _ _ h => h) (Or.inl ⟨by rfl, ?_⟩) hC0 ?_
                rotate_left
                · intro w hSw; (try dsimp only at hSw); obtain ⟨⟨z0, z1, z2⟩, ⟨z3, z4, z5⟩, ⟨z6, z7, z8⟩, ⟨z9, z10, z11⟩, ⟨z12, z13, z14⟩, z15, z16, z17⟩ := hSw; go_simp; (try with_reducible rfl)
                (try simp only [List.getElem_toArray, List.getElem_cons_succ, List.getElem_cons_zero])
                (try simp only [Act.put, List.setIfInBounds_toArray, List.set_cons_zero, List.set_cons_succ])
                refine wpTill_take (i := 1) (v := ?_) rfl (by kernel_rfl) (by kernel_rfl) (by kernel_rfl) (by kernel_rfl) (by kernel_rfl) (by kernel_rfl) (fun _ _ _ h => h) (Or.inl ⟨by rfl, ?_⟩) hC0 ?_
                rotate_left
                · intro w hSw; (try dsimp only at hSw); obtain ⟨⟨z0, z1, z2⟩, ⟨z3, z4, z5⟩, ⟨z6, z7, z8⟩, ⟨z9, z10, z11⟩, ⟨z12, z13, z14⟩, z15, z16, z17⟩ := hSw; go_simp; (try with_reducible rfl)
                (try simp only [List.getElem_toArray, List.getElem_cons_succ, List.getElem_cons_zero])
                (try simp only [Act.put, List.setIfInBounds_toArray, List.set_cons_zero, List.set_cons_succ])
                refine wpTill_pure (i := 2) (v := ?_) rfl (by kernel_rfl) (by kernel_rfl) (by kernel_rfl) (by kernel_rfl) (fun _ _ _ h => h) (Or.inl ⟨by rfl, ?_⟩) (fun _ => hC0) ?_
                rotate_left
                · intro w hSw; clear hSw; go_simp; (try with_reducible rfl)
                (try simp only [List.getElem_toArray, List.getElem_cons_succ, List.getElem_cons_zero])
                (try simp only [Act.put, List.setIfInBounds_toArray, List.set_cons_zero, List.set_cons_succ])
                refine wpTill_pure (i := 3) (v := ?_) rfl (by kernel_rfl) (by kernel_rfl) (by kernel_rfl) (by kernel_rfl) (fun _ _ _ h => h) (Or.inl ⟨by rfl, ?_⟩) (fun _ => hC0) ?_
                rotate_left
                · intro w hSw; clear hSw; go_simp; (try with_reducible rfl)
                (try simp only [List.getElem_toArray, List.getElem_cons_succ, List.getElem_cons_zero])
                (try simp only [Act.put, List.setIfInBounds_toArray, List.set_cons_zero, List.set_cons_succ])
                refine wpTill_pure (i := 4) (v := ?_) rfl (by kernel_rfl) (by kernel_rfl) (by kernel_rfl) (by kernel_rfl) (fun _ _ _ h => h) (Or.inl ⟨by rfl, ?_⟩) (fun _ => hC0) ?_
                rotate_left
                · intro w hSw; clear hSw; go_simp; (try with_reducible rfl)
                (try simp only [List.getElem_toArray, List.getElem_cons_succ, List.getElem_cons_zero])
                (try simp only [Act.put, List.setIfInBounds_toArray, List.set_cons_zero, List.set_cons_succ])
                refine wpTill_take (i := 5) (v := ?_) rfl (by kernel_rfl) (by kernel_rfl) (by kernel_rfl) (by kernel_rfl) (by kernel_rfl) (by kernel_rfl) (fun _ _ _ h => h) (Or.inl ⟨by rfl, ?_⟩) hC0 ?_
                rotate_left
                · intro w hSw; (try dsimp only at hSw); obtain ⟨⟨z0, z1, z2⟩, ⟨z3, z4, z5⟩, ⟨z6, z7, z8⟩, ⟨z9, z10, z11⟩, ⟨z12, z13, z14⟩, z15, z16, z17⟩ := hSw; go_simp; (try with_reducible rfl)
                (try simp only [List.getElem_toArray, List.getElem_cons_succ, List.getElem_cons_zero])
                (try simp only [Act.put, List.setIfInBounds_toArray, List.set_cons_zero, List.set_cons_succ])
                refine wpTill_deep (i := 8) (v := ?_) [15, 16, 17] rfl (by kernel_rfl) (by kernel_rfl) (by kernel_rfl) (by kernel_rfl) (by kernel_rfl) (by kernel_rfl) (by kernel_rfl) (fun _ _ _ h => h) (Or.inl ⟨by rfl, ?_⟩) hC0 ?_
                rotate_left
                · intro w hSw; (try dsimp only at hSw); obtain ⟨⟨z0, z1, z2⟩, ⟨z3, z4, z5⟩, ⟨z6, z7, z8⟩, ⟨z9, z10, z11⟩, ⟨z12, z13, z14⟩, z15, z16, z17⟩ := hSw; go_simp; (try with_reducible rfl)
                (try simp only [List.getElem_toArray, List.getElem_cons_succ, List.getElem_cons_zero])
                (try simp only [Act.put, List.setIfInBounds_toArray, List.set_cons_zero, List.set_cons_succ])
                refine wpTill_deep (i := 9) (v := ?_) [14, 15, 16, 17] rfl (by kernel_rfl) (by kernel_rfl) (by kernel_rfl) (by kernel_rfl) (by kernel_rfl) (by kernel_rfl) (by kernel_rfl) (fun _ _ _ h => h) (Or.inl ⟨by rfl, ?_⟩) hC0 ?_
                rotate_left
                · intro w hSw; (try dsimp only at hSw); obtain ⟨⟨z0, z1, z2⟩, ⟨z3, z4, z5⟩, ⟨z6, z7, z8⟩, ⟨z9, z10, z11⟩, ⟨z12, z13, z14⟩, z15, z16, z17⟩ := hSw; go_simp; (try with_reducible rfl)
                (try simp only [List.getElem_toArray, List.getElem_cons_succ, List.getElem_cons_zero])
                (try simp only [Act.put, List.setIfInBounds_toArray, List.set_cons_zero, List.set_cons_succ])
                refine wpTill_pure (i := 10) (v := ?_) rfl (by kernel_rfl) (by kernel_rfl) (by kernel_rfl) (by kernel_rfl) (fun _ _ _ h => h) (Or.inl ⟨by rfl, ?_⟩) (fun _ => hC0) ?_
                rotate_left
                · intro w hSw; clear hSw; go_simp; (try with_reducible rfl)
                (try simp only [List.getElem_toArray, List.getElem_cons_succ, List.getElem_cons_zero])
                (try simp only [Act.put, List.setIfInBounds_toArray, List.set_cons_zero, List.set_cons_succ])
                refine wpTill_pure (i := 11) (v := ?_) rfl (by kernel_rfl) (by kernel_rfl) (by kernel_rfl) (by kernel_rfl) (fun _ _ _ h => h) (Or.inl ⟨by rfl, ?_⟩) (fun _ => hC0) ?_
                rotate_left
                · intro w hSw; clear hSw; go_simp; (try with_reducible rfl)
                (try simp only [List.getElem_toArray, List.getElem_cons_succ, List.getElem_cons_zero])
                (try simp only [Act.put, List.setIfInBounds_toArray, List.set_cons_zero, List.set_cons_succ])
                refine wpTill_pure (i := 12) (v := ?_) rfl (by kernel_rfl) (by kernel_rfl) (by kernel_rfl) (by kernel_rfl) (fun _ _ _ h => h) (Or.inl ⟨by rfl, ?_⟩) (fun _ => hC0) ?_
                rotate_left
                · intro w hSw; clear hSw; go_simp; (try with_reducible rfl)
                (try simp only [List.getElem_toArray, List.getElem_cons_succ, List.getElem_cons_zero])
                (try simp only [Act.put, List.setIfInBounds_toArray, List.set_cons_zero, List.set_cons_succ])
                refine wpTill_deep (i := 13) (v := ?_) [14, 15, 16, 17] rfl (by kernel_rfl) (by kernel_rfl) (by kernel_rfl) (by kernel_rfl) (by kernel_rfl) (by kernel_rfl) (by kernel_rfl) (fun _ _ _ h => h) (Or.inl ⟨by rfl, ?_⟩) hC0 ?_
                rotate_left
                · intro w hSw; (try dsimp only at hSw); obtain ⟨⟨z0, z1, z2⟩, ⟨z3, z4, z5⟩, ⟨z6, z7, z8⟩, ⟨z9, z10, z11⟩, ⟨z12, z13, z14⟩, z15, z16, z17⟩ := hSw; go_simp; (try with_reducible rfl)
                (try simp only [List.getElem_toArray, List.getElem_cons_succ, List.getElem_cons_zero])
                (try simp only [Act.put, List.setIfInBounds_toArray, List.set_cons_zero, List.set_cons_succ])
                refine wpTill_one (k := 6) (by kernel_rfl) rfl (fun K hK => ?_)
                (try simp only [List.getElem_toArray, List.getElem_cons_succ, List.getElem_cons_zero])
                go_simp
                refine (unhide HM1 _ bd0).mono ?_
                rintro e xw_1 ⟨xv_1, rfl, hv_1, hb_1⟩
                have cc_1 := below_step bd0 hb_1
                have hC_1 : (fun w' : World => (w'.cell? ⟨bs, 0, none⟩ = some (.bool ts.s) ∧ w'.cell? ⟨bs, 1, none⟩ = some (.slice ts.a1 ts.n1 ts.c1) ∧ w'.cell? ⟨bs, 2, none⟩ = some (.slice ts.a2 ts.n2 ts.c2)) ∧ (w'.cell? ⟨bx, 0, none⟩ = some (.bool tx.s) ∧ w'.cell? ⟨bx, 1, none⟩ = some (.slice tx.a1 tx.n1 tx.c1) ∧ w'.cell? ⟨bx, 2, none⟩ = some (.slice tx.a2 tx.n2 tx.c2)) ∧ (w'.cell? ⟨bA, oA + i * 3, none⟩ = some (.bool ta.s) ∧ w'.cell? ⟨bA, oA + i * 3 + 1, none⟩ = some (.slice ta.a1 ta.n1 ta.c1) ∧ w'.cell? ⟨bA, oA + i * 3 + 2, none⟩ = some (.slice ta.a2 ta.n2 ta.c2)) ∧ (w'.cell? ⟨bt, 0, none⟩ = some (.bool tt.s) ∧ w'.cell? ⟨bt, 1, none⟩ = some (.slice tt.a1 tt.n1 tt.c1) ∧ w'.cell? ⟨bt, 2, none⟩ = some (.slice tt.a2 tt.n2 tt.c2)) ∧ (w'.cell? ⟨by1, 0, none⟩ = some (.bool ty.s) ∧ w'.cell? ⟨by1, 1, none⟩ = some (.slice ty.a1 ty.n1 ty.c1) ∧ w'.cell? ⟨by1, 2, none⟩ = some (.slice ty.a2 ty.n2 ty.c2)) ∧ (w'.cell? ⟨bB, oB + i * 3, none⟩ = some (.bool tb.s) ∧ w'.cell? ⟨bB, oB + i * 3 + 1, none⟩ = some (.slice tb.a1 tb.n1 tb.c1) ∧ w'.cell? ⟨bB, oB + i * 3 + 2, none⟩ = some (.slice tb.a2 tb.n2 tb.c2))) xw_1 := unhide HCC _ cc_1
                refine hK.out _ _ (fun _ => hC_1) ?_
                clear hK K
                (try simp only [Act.put, List.setIfInBounds_toArray, List.set_cons_zero, List.set_cons_succ])
                refine wpTill_one (k := 7) (by kernel_rfl) rfl (fun K hK => ?_)
                (try simp only [List.getElem_toArray, List.getElem_cons_succ, List.getElem_cons_zero])
                go_simp
                refine (unhide HA1 _ _ cc_1 hv_1).mono ?_
                rintro e xw_2 ⟨xv_2, rfl, hv_2, hb_2⟩
                have cc_2 := below_step cc_1 hb_2
                have hC_2 : (fun w' : World => (w'.cell? ⟨bs, 0, none⟩ = some (.bool ts.s) ∧ w'.cell? ⟨bs, 1, none⟩ = some (.slice ts.a1 ts.n1 ts.c1) ∧ w'.cell? ⟨bs, 2, none⟩ = some (.slice ts.a2 ts.n2 ts.c2)) ∧ (w'.cell? ⟨bx, 0, none⟩ = some (.bool tx.s) ∧ w'.cell? ⟨bx, 1, none⟩ = some (.slice tx.a1 tx.n1 tx.c1) ∧ w'.cell? ⟨bx, 2, none⟩ = some (.slice tx.a2 tx.n2 tx.c2)) ∧ (w'.cell? ⟨bA, oA + i * 3, none⟩ = some (.bool ta.s) ∧ w'.cell? ⟨bA, oA + i * 3 + 1, none⟩ = some (.slice ta.a1 ta.n1 ta.c1) ∧ w'.cell? ⟨bA, oA + i * 3 + 2, none⟩ = some (.slice ta.a2 ta.n2 ta.c2)) ∧ (w'.cell? ⟨bt, 0, none⟩ = some (.bool tt.s) ∧ w'.cell? ⟨bt, 1, none⟩ = some (.slice tt.a1 tt.n1 tt.c1) ∧ w'.cell? ⟨bt, 2, none⟩ = some (.slice tt.a2 tt.n2 tt.c2)) ∧ (w'.cell? ⟨by1, 0, none⟩ = some (.bool ty.s) ∧ w'.cell? ⟨by1, 1, none⟩ = some (.slice ty.a1 ty.n1 ty.c1) ∧ w'.cell? ⟨by1, 2, none⟩ = some (.slice ty.a2 ty.n2 ty.c2)) ∧ (w'.cell? ⟨bB, oB + i * 3, none⟩ = some (.bool tb.s) ∧ w'.cell? ⟨bB, oB + i * 3 + 1, none⟩ = some (.slice tb.a1 tb.n1 tb.c1) ∧ w'.cell? ⟨bB, oB + i * 3 + 2, none⟩ = some (.slice tb.a2 tb.n2 tb.c2))) xw_2 := unhide HCC _ cc_2
                refine hK.out _ _ (fun _ => hC_2) ?_
                clear hK K
                (try simp only [Act.put, List.setIfInBounds_toArray, List.set_cons_zero, List.set_cons_succ])
                refine wpTill_one (k := 14) (by kernel_rfl) rfl (fun K hK => ?_)
                (try simp only [List.getElem_toArray, List.getElem_cons_succ, List.getElem_cons_zero])
                go_simp
                refine (unhide HM2 _ cc_2).mono ?_
                rintro e xw_3 ⟨xv_3, rfl, hv_3, hb_3⟩
                have cc_3 := below_step cc_2 hb_3
                have hC_3 : (fun w' : World => (w'.cell? ⟨bs, 0, none⟩ = some (.bool ts.s) ∧ w'.cell? ⟨bs, 1, none⟩ = some (.slice ts.a1 ts.n1 ts.c1) ∧ w'.cell? ⟨bs, 2, none⟩ = some (.slice ts.a2 ts.n2 ts.c2)) ∧ (w'.cell? ⟨bx, 0, none⟩ = some (.bool tx.s) ∧ w'.cell? ⟨bx, 1, none⟩ = some (.slice tx.a1 tx.n1 tx.c1) ∧ w'.cell? ⟨bx, 2, none⟩ = some (.slice tx.a2 tx.n2 tx.c2)) ∧ (w'.cell? ⟨bA, oA + i * 3, none⟩ = some (.bool ta.s) ∧ w'.cell? ⟨bA, oA + i * 3 + 1, none⟩ = some (.slice ta.a1 ta.n1 ta.c1) ∧ w'.cell? ⟨bA, oA + i * 3 + 2, none⟩ = some (.slice ta.a2 ta.n2 ta.c2)) ∧ (w'.cell? ⟨bt, 0, none⟩ = some (.bool tt.s) ∧ w'.cell? ⟨bt, 1, none⟩ = some (.slice tt.a1 tt.n1 tt.c1) ∧ w'.cell? ⟨bt, 2, none⟩ = some (.slice tt.a2 tt.n2 tt.c2)) ∧ (w'.cell? ⟨by1, 0, none⟩ = some (.bool ty.s) ∧ w'.cell? ⟨by1, 1, none⟩ = some (.slice ty.a1 ty.n1 ty.c1) ∧ w'.cell? ⟨by1, 2, none⟩ = some (.slice ty.a2 ty.n2 ty.c2)) ∧ (w'.cell? ⟨bB, oB + i * 3, none⟩ = some (.bool tb.s) ∧ w'.cell? ⟨bB, oB + i * 3 + 1, none⟩ = some (.slice tb.a1 tb.n1 tb.c1) ∧ w'.cell? ⟨bB, oB + i * 3 + 2, none⟩ = some (.slice tb.a2 tb.n2 tb.c2))) xw_3 := unhide HCC _ cc_3
                refine hK.out _ _ (fun _ => hC_3) ?_
                clear hK K
                (try simp only [Act.put, List.setIfInBounds_toArray, List.set_cons_zero, List.set_cons_succ])
                refine wpTill_one (k := 15) (by kernel_rfl) rfl (fun K hK => ?_)
                (try simp only [List.getElem_toArray, List.getElem_cons_succ, List.getElem_cons_zero])
                go_simp
                refine (unhide HA2 _ _ cc_3 hv_3).mono ?_
                rintro e xw_4 ⟨xv_4, rfl, hv_4, hb_4⟩
                have cc_4 := below_step cc_3 hb_4
                have hC_4 : (fun w' : World => (w'.cell? ⟨bs, 0, none⟩ = some (.bool ts.s) ∧ w'.cell? ⟨bs, 1, none⟩ = some (.slice ts.a1 ts.n1 ts.c1) ∧ w'.cell? ⟨bs, 2, none⟩ = some (.slice ts.a2 ts.n2 ts.c2)) ∧ (w'.cell? ⟨bx, 0, none⟩ = some (.bool tx.s) ∧ w'.cell? ⟨bx, 1, none⟩ = some (.slice tx.a1 tx.n1 tx.c1) ∧ w'.cell? ⟨bx, 2, none⟩ = some (.slice tx.a2 tx.n2 tx.c2)) ∧ (w'.cell? ⟨bA, oA + i * 3, none⟩ = some (.bool ta.s) ∧ w'.cell? ⟨bA, oA + i * 3 + 1, none⟩ = some (.slice ta.a1 ta.n1 ta.c1) ∧ w'.cell? ⟨bA, oA + i * 3 + 2, none⟩ = some (.slice ta.a2 ta.n2 ta.c2)) ∧ (w'.cell? ⟨bt, 0, none⟩ = some (.bool tt.s) ∧ w'.cell? ⟨bt, 1, none⟩ = some (.slice tt.a1 tt.n1 tt.c1) ∧ w'.cell? ⟨bt, 2, none⟩ = some (.slice tt.a2 tt.n2 tt.c2)) ∧ (w'.cell? ⟨by1, 0, none⟩ = some (.bool ty.s) ∧ w'.cell? ⟨by1, 1, none⟩ = some (.slice ty.a1 ty.n1 ty.c1) ∧ w'.cell? ⟨by1, 2, none⟩ = some (.slice ty.a2 ty.n2 ty.c2)) ∧ (w'.cell? ⟨bB, oB + i * 3, none⟩ = some (.bool tb.s) ∧ w'.cell? ⟨bB, oB + i * 3 + 1, none⟩ = some (.slice tb.a1 tb.n1 tb.c1) ∧ w'.cell? ⟨bB, oB + i * 3 + 2, none⟩ = some (.slice tb.a2 tb.n2 tb.c2))) xw_4 := unhide HCC _ cc_4
                refine hK.out _ _ (fun _ => hC_4) ?_
                clear hK K
                (try simp only [Act.put, List.setIfInBounds_toArray, List.set_cons_zero, List.set_cons_succ])
                obtain ⟨tn, rfl, rn⟩ := tri_of ((hv_2.below hb_3).below hb_4)
                obtain ⟨tm, rfl, rm⟩ := tri_of hv_4
                simp only [Tri.val]
                have Xs8 := (unhide HX_bs_304).keep cc_4
                have Xt8 := (unhide HX_bt_304).keep cc_4
                have ⟨l0, l1, l2⟩ := Xs8.free
                have ⟨y0, y1, y2⟩ := Xs8.cells _ (Below.refl _ _)
                have Fs := Xs8.set rn
                have Ft := Xt8.other Xs8 (Ne.symm (unhide HST)) (.bool tn.s) (.slice tn.a1 tn.n1 tn.c1) (.slice tn.a2 tn.n2 tn.c2)
                have rm2 := rm.boxSet Xs8 (.bool tn.s) (.slice tn.a1 tn.n1 tn.c1) (.slice tn.a2 tn.n2 tn.c2)
                have B8 := below_step (unhide HB_304) cc_4
                have B9 := ((B8.setCell (p := ⟨bs, 0, none⟩) (unhide HLS) (.bool tn.s)).setCell (p := ⟨bs, 1, none⟩) (unhide HLS) (.slice tn.a1 tn.n1 tn.c1)).setCell (p := ⟨bs, 2, none⟩) (unhide HLS) (.slice tn.a2 tn.n2 tn.c2)
                obtain ⟨W10, hW10⟩ : ∃ W, ((xw_4.setCell ⟨bs, 0, none⟩ (.bool tn.s)).setCell ⟨bs, 1, none⟩ (.slice tn.a1 tn.n1 tn.c1)).setCell ⟨bs, 2, none⟩ (.slice tn.a2 tn.n2 tn.c2) = W := ⟨_, rfl⟩
                rw [hW10] at Fs Ft rm2 B9
                have ⟨l3, l4, l5⟩ := Ft.free
                have ⟨y3, y4, y5⟩ := Ft.cells _ (Below.refl _ _)
                have Gt := Ft.set rm2
                have Gs := Fs.other Ft (unhide HST) (.bool tm.s) (.slice tm.a1 tm.n1 tm.c1) (.slice tm.a2 tm.n2 tm.c2)
                have B10 := ((B9.setCell (p := ⟨bt, 0, none⟩) (unhide HLT) (.bool tm.s)).setCell (p := ⟨bt, 1, none⟩) (unhide HLT) (.slice tm.a1 tm.n1 tm.c1)).setCell (p := ⟨bt, 2, none⟩) (unhide HLT) (.slice tm.a2 tm.n2 tm.c2)
                obtain ⟨W11, hW11⟩ : ∃ W, ((W10.setCell ⟨bt, 0, none⟩ (.bool tm.s)).setCell ⟨bt, 1, none⟩ (.slice tm.a1 tm.n1 tm.c1)).setCell ⟨bt, 2, none⟩ (.slice tm.a2 tm.n2 tm.c2) = W := ⟨_, rfl⟩
                rw [hW11] at Gt Gs B10
                have HGT := hide Gt
                have HGS := hide Gs
                have HB10 := hide B10
                clear Xs8 Xt8 Fs Ft rm2 rn rm B8 B9 B10 Gt Gs hv_1 hb_1 hv_2 hb_2 hv_3 hb_3 hv_4 hb_4
                refine wpTill_one (k := 16) (by kernel_rfl) rfl (fun K hK => ?_)
                (try simp only [List.getElem_toArray, List.getElem_cons_succ, List.getElem_cons_zero])
                go_simp
                refine hK.out _ _ (fun h => absurd (h.symm.trans (by kernel_rfl)) Bool.false_ne_true) ?_
                clear hK K
                (try simp only [Act.put, List.setIfInBounds_toArray, List.set_cons_zero, List.set_cons_succ])
                refine wpTill_one (k := 17) (by kernel_rfl) rfl (fun K hK => ?_)
                (try simp only [List.getElem_toArray, List.getElem_cons_succ, List.getElem_cons_zero])
                go_simp
                refine hK.out _ _ (fun h => absurd (h.symm.trans (by kernel_rfl)) Bool.false_ne_true) ?_
                clear hK K
                (try simp only [Act.put, List.setIfInBounds_toArray, List.set_cons_zero, List.set_cons_succ])
                refine wpTill_done (by kernel_rfl) ?_ _
                clear l0 l1 l2 y0 y1 y2 l3 l4 l5 y3 y4 y5 hW10 hW11 hC0 hC_1 hC_2 hC_3 hC_4 cc_1 cc_2 cc_3 cc_4 bd0 HCC HM1 HM2 HA1 HA2
                go_wp2_with fail
                exact ⟨⟨i + 1, _, _, by go_num, hlt, unhide HGS, unhide HGT, unhide HB10⟩, by simp [intOf]; omega⟩
              · obtain rfl : i = ks.length := by omega
                have e1' : ¬ (ks.length : Int) < (ks.length : Int) := by omega
                have HXL := hide ((unhide HX_bl_207).keep (unhide HBI))
                have HXW := hide ((unhide HX_bw_207).keep (unhide HBI))
                have HBW := hide (below_step (unhide HB_207) (unhide HBI))
                have HCC : Hid (∀ W, Below wr.heap.size wr W → (fun w' : World => (w'.cell? ⟨bs, 0, none⟩ = some (.bool ts.s) ∧ w'.cell? ⟨bs, 1, none⟩ = some (.slice ts.a1 ts.n1 ts.c1) ∧ w'.cell? ⟨bs, 2, none⟩ = some (.slice ts.a2 ts.n2 ts.c2)) ∧ (w'.cell? ⟨bl, 0, none⟩ = some (.bool tl.s) ∧ w'.cell? ⟨bl, 1, none⟩ = some (.slice tl.a1 tl.n1 tl.c1) ∧ w'.cell? ⟨bl, 2, none⟩ = some (.slice tl.a2 tl.n2 tl.c2)) ∧ (w'.cell? ⟨bw, 0, none⟩ = some (.bool tw.s) ∧ w'.cell? ⟨bw, 1, none⟩ = some (.slice tw.a1 tw.n1 tw.c1) ∧ w'.cell? ⟨bw, 2, none⟩ = some (.slice tw.a2 tw.n2 tw.c2)) ∧ (w'.cell? ⟨bt, 0, none⟩ = some (.bool tt.s) ∧ w'.cell? ⟨bt, 1, none⟩ = some (.slice tt.a1 tt.n1 tt.c1) ∧ w'.cell? ⟨bt, 2, none⟩ = some (.slice tt.a2 tt.n2 tt.c2))) W) := fun W hW => ⟨(unhide HXS).cells W hW, (unhide HXL).cells W hW, (unhide HXW).cells W hW, (unhide HXT).cells W hW⟩
                have HRC := hide ((cvS_RS (unhide HSM) hl6 (unhide HFIT) ks.length (Nat.le_refl _)).mono (show ks.length * 950 + 1 ≤ 6000 by omega))
                have HRT : Hid (RatIs wr tt.val (cvS ks ks.length)) := by
                  have h := (unhide HXT).2
                  rw [cvS_rev (unhide HFIT)] at h
                  exact h
                have HMU : Hid (∀ W, Below wr.heap.size wr W → Calls Tryd.prog 13 #[.agg #[.bool tl.s, .slice tl.a1 tl.n1 tl.c1, .slice tl.a2 tl.n2 tl.c2], .agg #[.bool tw.s, .slice tw.a1 tw.n1 tw.c1, .slice tw.a2 tw.n2 tw.c2]] W fun e w' => ∃ v, e = .returned v ∧ RatIs w' v (cvS ks ks.length) ∧ Below W.heap.size W w') := fun W hW => by
                  have h := mulR_any tl.val tw.val _ _ W ((unhide HXL).2.below hW) ((unhide HXW).2.below hW) 600 ((psl_RS (unhide HSM) hl6 ks.length (Nat.le_refl _)).mono (by omega)) (wait_RS (unhide HSM) hl6 (unhide HFIT)) (by rw [KKe]; omega)
                  rw [← cvS_all (unhide HFIT)] at h
                  exact h
                have HL1 : Hid (∀ W v (hW : Below wr.heap.size wr W) (hv : RatIs W v (cvS ks ks.length)), Calls Tryd.prog 14 #[.agg #[.bool ts.s, .slice ts.a1 ts.n1 ts.c1, .slice ts.a2 ts.n2 ts.c2], v] W fun e w' => e = .returned (.bool true) ∧ Below W.heap.size W w') := fun W v hW hv => like_any ts.val v _ W ((unhide HXS).2.below hW) hv 6000 (unhide HRC) (by rw [KKe]; omega) (tab_below (unhide HTAB) (below_step (unhide HBW) hW))
                have HL2 : Hid (∀ W, Below wr.heap.size wr W → Calls Tryd.prog 14 #[.agg #[.bool tt.s, .slice tt.a1 tt.n1 tt.c1, .slice tt.a2 tt.n2 tt.c2], .agg #[.bool ts.s, .slice ts.a1 ts.n1 ts.c1, .slice ts.a2 ts.n2 ts.c2]] W fun e w' => e = .returned (.bool true) ∧ Below W.heap.size W w') := fun W hW => like_any tt.val ts.val _ W ((unhide HRT).below hW) ((unhide HXS).2.below hW) 6000 (unhide HRC) (by rw [KKe]; omega) (tab_below (unhide HTAB) (below_step (unhide HBW) hW))
                go_wp2_with fail
                (try simp only [Exit.inBlock, Exit.then])
                go_wp2_with fail
                refine wp_region_hold (fun w' : World => (w'.cell? ⟨bs, 0, none⟩ = some (.bool ts.s) ∧ w'.cell? ⟨bs, 1, none⟩ = some (.slice ts.a1 ts.n1 ts.c1) ∧ w'.cell? ⟨bs, 2, none⟩ = some (.slice ts.a2 ts.n2 ts.c2)) ∧ (w'.cell? ⟨bl, 0, none⟩ = some (.bool tl.s) ∧ w'.cell? ⟨bl, 1, none⟩ = some (.slice tl.a1 tl.n1 tl.c1) ∧ w'.cell? ⟨bl, 2, none⟩ = some (.slice tl.a2 tl.n2 tl.c2)) ∧ (w'.cell? ⟨bw, 0, none⟩ = some (.bool tw.s) ∧ w'.cell? ⟨bw, 1, none⟩ = some (.slice tw.a1 tw.n1 tw.c1) ∧ w'.cell? ⟨bw, 2, none⟩ = some (.slice tw.a2 tw.n2 tw.c2)) ∧ (w'.cell? ⟨bt, 0, none⟩ = some (.bool tt.s) ∧ w'.cell? ⟨bt, 1, none⟩ = some (.slice tt.a1 tt.n1 tt.c1) ∧ w'.cell? ⟨bt, 2, none⟩ = some (.slice tt.a2 tt.n2 tt.c2))) (by kernel_rfl) ?_
                have bd0 : Below wr.heap.size wr wr.drew := (Below.refl _ _).drew
                have hC0 : (fun w' : World => (w'.cell? ⟨bs, 0, none⟩ = some (.bool ts.s) ∧ w'.cell? ⟨bs, 1, none⟩ = some (.slice ts.a1 ts.n1 ts.c1) ∧ w'.cell? ⟨bs, 2, none⟩ = some (.slice ts.a2 ts.n2 ts.c2)) ∧ (w'.cell? ⟨bl, 0, none⟩ = some (.bool tl.s) ∧ w'.cell? ⟨bl, 1, none⟩ = some (.slice tl.a1 tl.n1 tl.c1) ∧ w'.cell? ⟨bl, 2, none⟩ = some (.slice tl.a2 tl.n2 tl.c2)) ∧ (w'.cell? ⟨bw, 0, none⟩ = some (.bool tw.s) ∧ w'.cell? ⟨bw, 1, none⟩ = some (.slice tw.a1 tw.n1 tw.c1) ∧ w'.cell? ⟨bw, 2, none⟩ = some (.slice tw.a2 tw.n2 tw.c2)) ∧ (w'.cell? ⟨bt, 0, none⟩ = some (.bool tt.s) ∧ w'.cell? ⟨bt, 1, none⟩ = some (.slice tt.a1 tt.n1 tt.c1) ∧ w'.cell? ⟨bt, 2, none⟩ = some (.slice tt.a2 tt.n2 tt.c2))) wr.drew := unhide HCC _ bd0
                refine wpHold_take (i := 0) (v := ?_) rfl (by kernel_rfl) (by kernel_rfl) (by kernel_rfl) (fun _ _ _ h => h) (Or.inl ⟨by rfl, ?_⟩) hC0 ?_
                rotate_left
                · intro w hSw; (try dsimp only at hSw); obtain ⟨⟨z0, z1, z2⟩, ⟨z3, z4, z5⟩, ⟨z6, z7, z8⟩, z9, z10, z11⟩ := hSw; go_simp; (try with_reducible rfl)
                (try simp only [List.getElem_toArray, List.getElem_cons_succ, List.getElem_cons_zero])
                (try simp only [Act.put, List.setIfInBounds_toArray, List.set_cons_zero, List.set_cons_succ])
                refine wpHold_take (i := 1) (v := ?_) rfl (by kernel_rfl) (by kernel_rfl) (by kernel_rfl) (fun _ _ _ h => h) (Or.inl ⟨by rfl, ?_⟩) hC0 ?_
                rotate_left
                · intro w hSw; (try dsimp only at hSw); obtain ⟨⟨z0, z1, z2⟩, ⟨z3, z4, z5⟩, ⟨z6, z7, z8⟩, z9, z10, z11⟩ := hSw; go_simp; (try with_reducible rfl)
                (try simp only [List.getElem_toArray, List.getElem_cons_succ, List.getElem_cons_zero])
                (try simp only [Act.put, List.setIfInBounds_toArray, List.set_cons_zero, List.set_cons_succ])
                refine wpHold_take (i := 2) (v := ?_) rfl (by kernel_rfl) (by kernel_rfl) (by kernel_rfl) (fun _ _ _ h => h) (Or.inl ⟨by rfl, ?_⟩) hC0 ?_
                rotate_left
                · intro w hSw; (try dsimp only at hSw); obtain ⟨⟨z0, z1, z2⟩, ⟨z3, z4, z5⟩, ⟨z6, z7, z8⟩, z9, z10, z11⟩ := hSw; go_simp; (try with_reducible rfl)
                (try simp only [List.getElem_toArray, List.getElem_cons_succ, List.getElem_cons_zero])
                (try simp only [Act.put, List.setIfInBounds_toArray, List.set_cons_zero, List.set_cons_succ])
                refine wpHold_one (k := 3) (by kernel_rfl) rfl (fun K hK => ?_)
                (try simp only [List.getElem_toArray, List.getElem_cons_succ, List.getElem_cons_zero])
                go_simp
                refine (unhide HMU _ bd0).mono ?_
                rintro e xw_91 ⟨xv_91, rfl, hv_91, hb_91⟩
                have cc_91 := below_step bd0 hb_91
                have hC_91 : (fun w' : World => (w'.cell? ⟨bs, 0, none⟩ = some (.bool ts.s) ∧ w'.cell? ⟨bs, 1, none⟩ = some (.slice ts.a1 ts.n1 ts.c1) ∧ w'.cell? ⟨bs, 2, none⟩ = some (.slice ts.a2 ts.n2 ts.c2)) ∧ (w'.cell? ⟨bl, 0, none⟩ = some (.bool tl.s) ∧ w'.cell? ⟨bl, 1, none⟩ = some (.slice tl.a1 tl.n1 tl.c1) ∧ w'.cell? ⟨bl, 2, none⟩ = some (.slice tl.a2 tl.n2 tl.c2)) ∧ (w'.cell? ⟨bw, 0, none⟩ = some (.bool tw.s) ∧ w'.cell? ⟨bw, 1, none⟩ = some (.slice tw.a1 tw.n1 tw.c1) ∧ w'.cell? ⟨bw, 2, none⟩ = some (.slice tw.a2 tw.n2 tw.c2)) ∧ (w'.cell? ⟨bt, 0, none⟩ = some (.bool tt.s) ∧ w'.cell? ⟨bt, 1, none⟩ = some (.slice tt.a1 tt.n1 tt.c1) ∧ w'.cell? ⟨bt, 2, none⟩ = some (.slice tt.a2 tt.n2 tt.c2))) xw_91 := unhide HCC _ cc_91
                refine hK.out _ _ hC_91 ?_
                clear hK K
                (try simp only [Act.put, List.setIfInBounds_toArray, List.set_cons_zero, List.set_cons_succ])
                refine wpHold_one (k := 4) (by kernel_rfl) rfl (fun K hK => ?_)
                (try simp only [List.getElem_toArray, List.getElem_cons_succ, List.getElem_cons_zero])
                go_simp
                refine (unhide HL1 _ _ cc_91 hv_91).mono ?_
                rintro e xw_92 ⟨rfl, hb_92⟩
                have cc_92 := below_step cc_91 hb_92
                have hC_92 : (fun w' : World => (w'.cell? ⟨bs, 0, none⟩ = some (.bool ts.s) ∧ w'.cell? ⟨bs, 1, none⟩ = some (.slice ts.a1 ts.n1 ts.c1) ∧ w'.cell? ⟨bs, 2, none⟩ = some (.slice ts.a2 ts.n2 ts.c2)) ∧ (w'.cell? ⟨bl, 0, none⟩ = some (.bool tl.s) ∧ w'.cell? ⟨bl, 1, none⟩ = some (.slice tl.a1 tl.n1 tl.c1) ∧ w'.cell? ⟨bl, 2, none⟩ = some (.slice tl.a2 tl.n2 tl.c2)) ∧ (w'.cell? ⟨bw, 0, none⟩ = some (.bool tw.s) ∧ w'.cell? ⟨bw, 1, none⟩ = some (.slice tw.a1 tw.n1 tw.c1) ∧ w'.cell? ⟨bw, 2, none⟩ = some (.slice tw.a2 tw.n2 tw.c2)) ∧ (w'.cell? ⟨bt, 0, none⟩ = some (.bool tt.s) ∧ w'.cell? ⟨bt, 1, none⟩ = some (.slice tt.a1 tt.n1 tt.c1) ∧ w'.cell? ⟨bt, 2, none⟩ = some (.slice tt.a2 tt.n2 tt.c2))) xw_92 := unhide HCC _ cc_92
                refine hK.out _ _ hC_92 ?_
                clear hK K
                (try simp only [Act.put, List.setIfInBounds_toArray, List.set_cons_zero, List.set_cons_succ])
                refine wpHold_take (i := 5) (v := ?_) rfl (by kernel_rfl) (by kernel_rfl) (by kernel_rfl) (fun _ _ _ h => h) (Or.inl ⟨by rfl, ?_⟩) hC_92 ?_
                rotate_left
                · intro w hSw; clear hSw; go_simp; (try with_reducible rfl)
                (try simp only [List.getElem_toArray, List.getElem_cons_succ, List.getElem_cons_zero])
                (try simp only [Act.put, List.setIfInBounds_toArray, List.set_cons_zero, List.set_cons_succ])
                refine wpHold_take (i := 6) (v := ?_) rfl (by kernel_rfl) (by kernel_rfl) (by kernel_rfl) (fun _ _ _ h => h) (Or.inl ⟨by rfl, ?_⟩) hC_92 ?_
                rotate_left
                · intro w hSw; (try dsimp only at hSw); obtain ⟨⟨z0, z1, z2⟩, ⟨z3, z4, z5⟩, ⟨z6, z7, z8⟩, z9, z10, z11⟩ := hSw; go_simp; (try with_reducible rfl)
                (try simp only [List.getElem_toArray, List.getElem_cons_succ, List.getElem_cons_zero])
                (try simp only [Act.put, List.setIfInBounds_toArray, List.set_cons_zero, List.set_cons_succ])
                refine wpHold_take (i := 7) (v := ?_) rfl (by kernel_rfl) (by kernel_rfl) (by kernel_rfl) (fun _ _ _ h => h) (Or.inl ⟨by rfl, ?_⟩) hC_92 ?_
                rotate_left
                · intro w hSw; (try dsimp only at hSw); obtain ⟨⟨z0, z1, z2⟩, ⟨z3, z4, z5⟩, ⟨z6, z7, z8⟩, z9, z10, z11⟩ := hSw; go_simp; (try with_reducible rfl)
                (try simp only [List.getElem_toArray, List.getElem_cons_succ, List.getElem_cons_zero])
                (try simp only [Act.put, List.setIfInBounds_toArray, List.set_cons_zero, List.set_cons_succ])
                refine wpHold_one (k := 8) (by kernel_rfl) rfl (fun K hK => ?_)
                (try simp only [List.getElem_toArray, List.getElem_cons_succ, List.getElem_cons_zero])
                go_simp
                refine (unhide HL2 _ cc_92).mono ?_
                rintro e xw_93 ⟨rfl, hb_93⟩
                have cc_93 := below_step cc_92 hb_93
                have hC_93 : (fun w' : World => (w'.cell? ⟨bs, 0, none⟩ = some (.bool ts.s) ∧ w'.cell? ⟨bs, 1, none⟩ = some (.slice ts.a1 ts.n1 ts.c1) ∧ w'.cell? ⟨bs, 2, none⟩ = some (.slice ts.a2 ts.n2 ts.c2)) ∧ (w'.cell? ⟨bl, 0, none⟩ = some (.bool tl.s) ∧ w'.cell? ⟨bl, 1, none⟩ = some (.slice tl.a1 tl.n1 tl.c1) ∧ w'.cell? ⟨bl, 2, none⟩ = some (.slice tl.a2 tl.n2 tl.c2)) ∧ (w'.cell? ⟨bw, 0, none⟩ = some (.bool tw.s) ∧ w'.cell? ⟨bw, 1, none⟩ = some (.slice tw.a1 tw.n1 tw.c1) ∧ w'.cell? ⟨bw, 2, none⟩ = some (.slice tw.a2 tw.n2 tw.c2)) ∧ (w'.cell? ⟨bt, 0, none⟩ = some (.bool tt.s) ∧ w'.cell? ⟨bt, 1, none⟩ = some (.slice tt.a1 tt.n1 tt.c1) ∧ w'.cell? ⟨bt, 2, none⟩ = some (.slice tt.a2 tt.n2 tt.c2))) xw_93 := unhide HCC _ cc_93
                refine hK.out _ _ hC_93 ?_
                clear hK K
                (try simp only [Act.put, List.setIfInBounds_toArray, List.set_cons_zero, List.set_cons_succ])
                refine wpHold_take (i := 9) (v := ?_) rfl (by kernel_rfl) (by kernel_rfl) (by kernel_rfl) (fun _ _ _ h => h) (Or.inl ⟨by rfl, ?_⟩) hC_93 ?_
                rotate_left
                · intro w hSw; clear hSw; go_simp; (try with_reducible rfl)
                (try simp only [List.getElem_toArray, List.getElem_cons_succ, List.getElem_cons_zero])
                (try simp only [Act.put, List.setIfInBounds_toArray, List.set_cons_zero, List.set_cons_succ])
                refine wpHold_take (i := 10) (v := ?_) rfl (by kernel_rfl) (by kernel_rfl) (by kernel_rfl) (fun _ _ _ h => h) (Or.inl ⟨by rfl, ?_⟩) hC_93 ?_
                rotate_left
                · intro w hSw; clear hSw; go_simp; (try with_reducible rfl)
                (try simp only [List.getElem_toArray, List.getElem_cons_succ, List.getElem_cons_zero])
                (try simp only [Act.put, List.setIfInBounds_toArray, List.set_cons_zero, List.set_cons_succ])
                refine wpHold_done (by kernel_rfl) ?_ _
                have HBF := hide cc_93
                clear hC0 bd0 HCC hC_91 hb_91 cc_91 hv_91 hC_92 hb_92 cc_92 hC_93 hb_93 cc_93 HL1 HL2 HMU
                go_wp2
                go_ret
                exact ⟨rfl, below_step (unhide HBW) (unhide HBF)⟩
      · have HWA := hide (wait_bad _ ks w1 (unhide HVK) (unhide HSM) hl6 hfit)
        go_wp2_with fail
        refine (unhide HWA).mono ?_
        rintro e w_1 ⟨k6, v6, rfl, hv6, hbx⟩
        obtain ⟨tw, rfl, hr_1⟩ := tri_of hv6
        simp only [Tri.val]
        have HG_bw := hide (below_step (unhide HB1) hbx).size
        have hb_1 := below_step hbx (alloc_below w_1 (.cells #[.bool tw.s, .slice tw.a1 tw.n1 tw.c1, .slice tw.a2 tw.n2 tw.c2] 33))
        have HB_2 := hide (below_step (unhide HB1) hb_1)
        clear HB1
        have HX_bw_1 := hide (BoxIs.new hr_1)
        obtain ⟨Wbw, hW_1⟩ : ∃ W, w_1.alloc (.cells #[.bool tw.s, .slice tw.a1 tw.n1 tw.c1, .slice tw.a2 tw.n2 tw.c2] 33) = W := ⟨_, rfl⟩
        obtain ⟨bw, hc_1⟩ : ∃ b, w_1.heap.size = b := ⟨_, rfl⟩
        rw [hW_1] at HB_2 HX_bw_1
        rw [hc_1] at HX_bw_1 HG_bw
        clear hv6 hr_1 hbx hb_1
        clear hfit HWA
        go_wp2_with fail
        clear hW_1 hc_1
        refine (unhide HHF _ (unhide HB_2)).mono ?_
        rintro e w_3 ⟨rfl, hbx⟩
        have HB_4 := hide (below_step (unhide HB_2) hbx)
        have HX_bw_4 := hide ((unhide HX_bw_1).keep hbx)
        clear HB_2 HX_bw_1
        clear hbx
        go_wp2_with fail
        refine (unhide HHF _ (unhide HB_4)).mono ?_
        rintro e w_5 ⟨rfl, hbx⟩
        have HB_6 := hide (below_step (unhide HB_4) hbx)
        have HX_bw_6 := hide ((unhide HX_bw_4).keep hbx)
        clear HB_4 HX_bw_4
        clear hbx
        obtain ⟨cbw_0, cbw_1, cbw_2⟩ := (unhide HX_bw_6).cells _ (Below.refl _ _)
        have HSG := hide (sign_any tw.val 0 _ (unhide HX_bw_6).2)
        simp only [Tri.val] at HSG
        rw [show ((0 : Rat).num).sign = 0 from rfl] at HSG
        go_wp2_with fail
        refine (unhide HSG).mono ?_
        rintro e w_7 ⟨rfl, hbx⟩
        have HB_8 := hide (below_step (unhide HB_6) hbx)
        have HX_bw_8 := hide ((unhide HX_bw_6).keep hbx)
        clear HB_6 HX_bw_6
        clear hbx
        clear cbw_0 cbw_1 cbw_2
        go_wp2
        go_ret
        exact ⟨rfl, unhide HB_8⟩
end Go.Proofs.YtbboacmjbffmhaaDoor
