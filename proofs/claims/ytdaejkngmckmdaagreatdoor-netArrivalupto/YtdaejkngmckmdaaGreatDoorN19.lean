/- NetArrival: the law's walk. -/
import Derived.Test.YtdaejkngmckmdaaGreatDoorN18
import Derived.Test.YtdaejkngmckmdaaGreatDoorN12
import Derived.Test.YtdaejkngmckmdaaGreatDoorA16
namespace Go.Proofs.YtdaejkngmckmdaaGreatDoor
open Go.RowKit Go.Sort Go.Shelf

set_option maxHeartbeats 8000000 in
set_option maxRecDepth 100000 in
set_option linter.unusedSimpArgs false in
theorem netArrival_any (vl vs : Value) (pss : List (List (Int × Int))) (ms : List (Int × Int)) (xp : Int) (w : World) (htab : Tab w) (hl : PRowsAre w vl pss) (sm : SmP pss) (hs : PairsAre w vs ms) :
    Calls Tryz.prog 4 #[vl, vs, .int .i64 xp] w fun e w' => e = .returned (.bool true) ∧ Below w.heap.size w w' := by
  have KKe : KK = 1099511627776 := rfl
  have HTAB := hide htab
  have HL := hide hl
  have HS := hide hs
  have HSM := hide sm
  have HHF : Hid (∀ W, Below w.heap.size w W → Calls Tryz.prog 9 #[] W fun e w' => e = .returned (.bool true) ∧ Below W.heap.size W w') := fun W hW => half_any W (tab_below (unhide HTAB) hW)
  have HWD : Hid (Calls Tryz.prog 5 #[vl, .int .i64 30] w (AskPost w (WideP pss 30))) := wide_any vl pss 30 w hl sm (by omega)
  obtain ⟨al, cl, rfl, l1, l2, l3⟩ := hl
  obtain ⟨as1, cs1, rfl, s1, s2, s4, s3⟩ := hs
  have hsl := sm.1
  clear htab l3 s4 s3 sm
  go_enter Tryz.func4, Tryz.ntmps4
  go_wp2_with fail
  refine (unhide HWD).mono ?_
  rintro e w1 ⟨(⟨hx, rfl⟩ | ⟨hx, rfl⟩), hb1⟩
  · have HB1 := hide hb1
    clear hx hb1
    go_wp2
    go_ret
    exact ⟨rfl, unhide HB1⟩
  have HW16 := hide hx
  have HB1 := hide hb1
  clear hx hb1 HWD
  by_cases h2 : 5 < ms.length
  · have e2 : (5 : Int) < (ms.length : Int) := by omega
    clear h2
    go_wp2
    go_ret
    exact ⟨rfl, unhide HB1⟩
  have e2 : decide ((5 : Int) < (ms.length : Int)) = false := by rw [decide_eq_false_iff_not]; omega
  go_wp2_with fail
  refine (pick_any xp 7 (by decide) (by decide) w1).mono ?_
  rintro e w1' ⟨k, rfl, hk, rfl⟩
  have ek : IntKind.i64.wrap (1 + (k : Int)) = (k : Int) + 1 := by rw [IntKind.wrap_i64]; omega
  go_wp2_with fail
  refine (prows_any _ pss w1' ((unhide HL).below (unhide HB1)) (unhide HSM)).mono ?_
  rintro e w3 ⟨v3, rfl, hv3, hb3⟩
  have HV3 := hide hv3
  have HB3 := hide (below_step (unhide HB1) hb3)
  clear hv3 hb3 HB1
  go_wp2_with fail
  refine (fs_any _ ms w3 ((unhide HS).below (unhide HB3)) (by omega)).mono ?_
  rintro e w4 ⟨v4, rfl, hv4, hb4⟩
  have HV4 := hide hv4
  have HV3b := hide ((unhide HV3).below hb4)
  have HB4 := hide (below_step (unhide HB3) hb4)
  have HSR := hide (smR_of (unhide HL) (unhide HW16) (by omega))
  have HSS : Hid (SmQ (pqs ms)) := ⟨by rw [pqs_length]; omega, pqs_RSn (unhide HS)⟩
  obtain ⟨ss, hss⟩ : ∃ ss, pqs ms = ss := ⟨_, rfl⟩
  obtain ⟨ks, hks⟩ : ∃ ks, pqss pss = ks := ⟨_, rfl⟩
  rw [hss] at HV4 HSS
  rw [hks] at HV3b HSR
  have hms : ss.length ≤ 5 := by rw [← hss, pqs_length]; omega
  have HMS := hide hms
  clear hv4 hb4 HB3 HV3 hss hks hms
  go_wp2_with fail
  refine (closed_any _ _ ks ss w4 (unhide HV3b) (unhide HV4) (unhide HSR) (unhide HSS)).mono ?_
  rintro e w5 (⟨hg, hgs, v5, d, rfl, hv5, hd0, hdn, hdr, hb5⟩ | ⟨kk, rfl, hb5⟩)
  rotate_left
  · have HB5 := hide (below_step (unhide HB4) hb5)
    clear hb5
    go_wp2_with fail
    refine (unhide HHF w5 (unhide HB5)).mono ?_
    rintro e w6 ⟨rfl, hb6⟩
    have HB6 := hide (below_step (unhide HB5) hb6)
    clear hb6
    go_wp2_with fail
    refine (unhide HHF w6 (unhide HB6)).mono ?_
    rintro e w7 ⟨rfl, hb7⟩
    have HB7 := hide (below_step (unhide HB6) hb7)
    clear hb7
    go_wp2
    go_ret
    exact ⟨rfl, unhide HB7⟩
  have hn0 : 0 < ks.length := hg.1
  have hn5 : ks.length ≤ 5 := hg.2.1
  obtain ⟨n, hn⟩ : ∃ n, ks.length = n := ⟨_, rfl⟩
  rw [hn] at hv5 hdn hdr hn0 hn5
  have HD0 := hide hd0
  have HDN := hide hdn
  have HDR := hide hdr
  have HV5 := hide hv5
  have HB5 := hide (below_step (unhide HB4) hb5)
  have HZ : Hid (∀ k, Net.bz d n k ≠ 0) := fun k => by
    obtain ⟨m, rfl⟩ : ∃ m, n = m + 1 := ⟨n - 1, by omega⟩
    exact Bth.ne_of_pos (Net.bz_pos hdn hd0 m k (Nat.le_refl _))
  have HN0 := hide hn0
  obtain ⟨a5, c5, rfl, y1, y2, y3⟩ := hv5
  rw [row_length] at y1 HV5 ⊢
  clear hg hgs hd0 hdn hdr hb5 hn y3 HV3b HV4 HSR HSS HMS HB4 hn0 HL HS HSM HW16
  go_wp2_with fail
  refine (unhide HHF w5 (unhide HB5)).mono ?_
  rintro e w6 ⟨rfl, hb6⟩
  have HV6 := hide ((unhide HV5).below hb6)
  have HB6 := hide (below_step (unhide HB5) hb6)
  have HSU : Hid (Calls Tryz.prog 20 #[.slice a5 n c5, .int .i64 ((k : Int) + 1)] w6 fun e w' => ∃ v, e = .returned (.tuple #[v, .nilIface]) ∧ LawIs w' v (row (Net.bz d n) (k + 2)) ∧ Below w6.heap.size w6 w') := sums_any _ d n (k + 1) w6 (unhide HV6) (unhide HN0) hn5 (by omega) (unhide HDN) (unhide HDR)
  clear hb6 HV5 HB5
  go_wp2_with fail
  refine (unhide HSU).mono ?_
  rintro e w7 ⟨v7, rfl, hv7, hb7⟩
  have HV7 := hide ((unhide HV6).below hb7)
  have HG7 := hide hv7
  have HB7 := hide (below_step (unhide HB6) hb7)
  have HME := hide (means_any _ d n k w7 (unhide HV7) (unhide HN0) hn5 (by omega) (unhide HDN) (unhide HD0) (unhide HDR))
  obtain ⟨a7, c7, rfl, g1, g2, g3⟩ := hv7
  rw [row_length] at g1 HG7 ⊢
  clear hb7 HV6 HB6 HSU g3
  go_wp2_with fail
  refine (unhide HME).mono ?_
  rintro e w8 ⟨t, gT, gN, rfl, hO, hT, hN, hb8⟩
  have bA := alloc_below w8 (.cells #[.bool t.s, .slice t.a1 t.n1 t.c1, .slice t.a2 t.n2 t.c2, .slice (some ⟨gT, 0, none⟩) n n, .slice (some ⟨gN, 0, none⟩) n n] 51)
  have hnew := heap_alloc_new w8 (.cells #[.bool t.s, .slice t.a1 t.n1 t.c1, .slice t.a2 t.n2 t.c2, .slice (some ⟨gT, 0, none⟩) n n, .slice (some ⟨gN, 0, none⟩) n n] 51)
  have HO8 := hide (hO.below bA)
  have HT8 := hide (hT.below bA)
  have HN8 := hide (hN.below bA)
  have HG8 := hide (((unhide HG7).below hb8).below bA)
  have HB8 := hide (below_step (below_step (unhide HB7) hb8) bA)
  obtain ⟨W8, hW8⟩ : ∃ W, w8.alloc (.cells #[.bool t.s, .slice t.a1 t.n1 t.c1, .slice t.a2 t.n2 t.c2, .slice (some ⟨gT, 0, none⟩) n n, .slice (some ⟨gN, 0, none⟩) n n] 51) = W := ⟨_, rfl⟩
  obtain ⟨bm, hbm⟩ : ∃ g, w8.heap.size = g := ⟨_, rfl⟩
  rw [hW8] at HO8 HT8 HN8 HG8 HB8 hnew
  rw [hbm] at hnew
  have HNW := hide hnew
  have ⟨⟨z0, z1, z2, z3, z4⟩, _⟩ := mean_cells hnew
  have ek2 : IntKind.i64.wrap ((k : Int) + 1 + 1) = (k : Int) + 1 + 1 := by rw [IntKind.wrap_i64]; omega
  have el : (((k + 2 : Nat) : Int) == (k : Int) + 1 + 1) = true := by rw [beq_iff_eq]; omega
  clear hO hT hN hb8 bA hnew HME HG7 HB7 HV7
  go_wp2_with fail
  clear hW8 hbm z0 z1 z2 z3 z4 ek2 el
  have hT8 := unhide HT8
  have hN8 := unhide HN8
  have hG8 := unhide HG8
  obtain ⟨aT, cT, eT, t1, t2, t3⟩ := hT8
  obtain ⟨aN, cN, eN, u1, u2, u3⟩ := hN8
  rw [row_length] at eT eN t3 u3
  obtain rfl : some ⟨gT, 0, none⟩ = aT := by injection eT
  obtain rfl : some ⟨gN, 0, none⟩ = aN := by injection eN
  clear eT eN
  have HLT := hide t3
  have HLN := hide u3
  clear hG8 t1 t2 t3 u1 u2 u3
  go_loopw [13] (fun vi wr => ∃ i : Nat, vi = .int .i64 (i : Int) ∧ i ≤ n ∧ Below W8.heap.size W8 wr) (fun vi _ => n - (intOf vi).toNat)
  case atStart => exact ⟨0, rfl, Nat.zero_le _, Below.refl _ _⟩
  case round =>
    obtain ⟨i, rfl, hi, hb⟩ := hrel
    have HB := hide hb
    by_cases hlt : i < n
    · have e1 : (i : Int) < (n : Int) := by omega
      have e0 : (0 : Int) ≤ (i : Int) := by omega
      obtain ⟨b1, o1, ea1, hb1, hc1⟩ := unhide HLT (by omega)
      injection ea1 with ea1
      injection ea1 with ea1 ea2 _
      subst ea1 ea2
      obtain ⟨xs, xp1, xp2, xn1, xd1, xn2, xd2, xk0, xk1, xk2, xr⟩ := hc1 i hlt
      obtain ⟨tx, rfl, rfl, rfl, rfl, rfl, rfl, rfl⟩ : ∃ t : Tri, xs = t.s ∧ xp1 = t.a1 ∧ xp2 = t.a2 ∧ xn1 = t.n1 ∧ xd1 = t.c1 ∧ xn2 = t.n2 ∧ xd2 = t.c2 := ⟨⟨xs, xp1, xp2, xn1, xd1, xn2, xd2⟩, rfl, rfl, rfl, rfl, rfl, rfl, rfl⟩
      rw [row_get hlt] at xr
      obtain ⟨b2, o2, eb1, hb2, hc2⟩ := unhide HLN (by omega)
      injection eb1 with eb1
      injection eb1 with eb1 eb2 _
      subst eb1 eb2
      obtain ⟨ys, yp1, yp2, yn1, yd1, yn2, yd2, yk0, yk1, yk2, yr⟩ := hc2 i hlt
      obtain ⟨ty, rfl, rfl, rfl, rfl, rfl, rfl, rfl⟩ : ∃ t : Tri, ys = t.s ∧ yp1 = t.a1 ∧ yp2 = t.a2 ∧ yn1 = t.n1 ∧ yd1 = t.c1 ∧ yn2 = t.n2 ∧ yd2 = t.c2 := ⟨⟨ys, yp1, yp2, yn1, yd1, yn2, yd2⟩, rfl, rfl, rfl, rfl, rfl, rfl, rfl⟩
      rw [row_get hlt] at yr
      simp only [Nat.zero_add] at xk0 xk1 xk2 yk0 yk1 yk2
      have HRX := hide xr
      have HRY := hide yr
      have HCC : Hid (∀ W, Below wr.heap.size wr W → (fun w' : World => (w'.cell? ⟨bm, 0, none⟩ = some (.bool t.s) ∧ w'.cell? ⟨bm, 1, none⟩ = some (.slice t.a1 t.n1 t.c1) ∧ w'.cell? ⟨bm, 2, none⟩ = some (.slice t.a2 t.n2 t.c2)) ∧ w'.cell? ⟨bm, 3, none⟩ = some (.slice (some ⟨gT, 0, none⟩) n n) ∧ w'.cell? ⟨bm, 4, none⟩ = some (.slice (some ⟨gN, 0, none⟩) n n) ∧ (w'.cell? ⟨gT, i * 3, none⟩ = some (.bool tx.s) ∧ w'.cell? ⟨gT, i * 3 + 1, none⟩ = some (.slice tx.a1 tx.n1 tx.c1) ∧ w'.cell? ⟨gT, i * 3 + 2, none⟩ = some (.slice tx.a2 tx.n2 tx.c2)) ∧ (w'.cell? ⟨gN, i * 3, none⟩ = some (.bool ty.s) ∧ w'.cell? ⟨gN, i * 3 + 1, none⟩ = some (.slice ty.a1 ty.n1 ty.c1) ∧ w'.cell? ⟨gN, i * 3 + 2, none⟩ = some (.slice ty.a2 ty.n2 ty.c2))) W) := fun W hW => by
        have bc := below_step (unhide HB) hW
        have ⟨⟨z0, z1, z2, z3, z4⟩, _⟩ := mean_cells (heap_kept (unhide HNW) bc)
        refine ⟨⟨z0, z1, z2⟩, z3, z4, ?_, ?_⟩
        · rw [bc.cell (p := ⟨gT, i * 3, none⟩) hb1, bc.cell (p := ⟨gT, i * 3 + 1, none⟩) hb1, bc.cell (p := ⟨gT, i * 3 + 2, none⟩) hb1]; exact ⟨xk0, xk1, xk2⟩
        · rw [bc.cell (p := ⟨gN, i * 3, none⟩) hb2, bc.cell (p := ⟨gN, i * 3 + 1, none⟩) hb2, bc.cell (p := ⟨gN, i * 3 + 2, none⟩) hb2]; exact ⟨yk0, yk1, yk2⟩
      have HMU : Hid (∀ W, Below wr.heap.size wr W → Calls Tryz.prog 15 #[.agg #[.bool t.s, .slice t.a1 t.n1 t.c1, .slice t.a2 t.n2 t.c2], .agg #[.bool tx.s, .slice tx.a1 tx.n1 tx.c1, .slice tx.a2 tx.n2 tx.c2]] W fun e w' => ∃ v, e = .returned v ∧ RatIs w' v (Net.num d n (k + 1) i) ∧ Below W.heap.size W w') := fun W hW => by
        have h := mulR_any t.val tx.val _ _ W ((unhide HO8).below (below_step (unhide HB) hW)) ((unhide HRX).below (below_step (unhide HB) hW)) 35000000005 ((oft_RS (unhide HDR) hn5 (Nat.le_refl _) (by omega) (unhide HZ (k + 1))).mono (by decide)) ((tim_RS (unhide HDR) hn5 (Nat.le_refl _) (by omega) (unhide HZ k) hlt).mono (by decide)) (by rw [KKe]; omega)
        rw [Net.num_next (unhide HZ k)] at h
        exact h
      have HLK : Hid (∀ W v, Below wr.heap.size wr W → RatIs W v (Net.num d n (k + 1) i) → Calls Tryz.prog 18 #[.agg #[.bool ty.s, .slice ty.a1 ty.n1 ty.c1, .slice ty.a2 ty.n2 ty.c2], v] W fun e w' => e = .returned (.bool true) ∧ Below W.heap.size W w') := fun W v hW hv => like_any ty.val v _ W ((unhide HRY).below (below_step (unhide HB) hW)) hv 35000000000 (num_RS (unhide HDR) hn5 (Nat.le_refl _) (by omega) (unhide HZ (k + 1)) hlt) (by rw [KKe]; omega) (tab_below (unhide HTAB) (below_step (unhide HB8) (below_step (unhide HB) hW)))
      clear hb hc1 hc2 xr yr xk0 xk1 xk2 yk0 yk1 yk2
      go_wp2_with fail
      refine wp_region_hold (fun w' : World => (w'.cell? ⟨bm, 0, none⟩ = some (.bool t.s) ∧ w'.cell? ⟨bm, 1, none⟩ = some (.slice t.a1 t.n1 t.c1) ∧ w'.cell? ⟨bm, 2, none⟩ = some (.slice t.a2 t.n2 t.c2)) ∧ w'.cell? ⟨bm, 3, none⟩ = some (.slice (some ⟨gT, 0, none⟩) n n) ∧ w'.cell? ⟨bm, 4, none⟩ = some (.slice (some ⟨gN, 0, none⟩) n n) ∧ (w'.cell? ⟨gT, i * 3, none⟩ = some (.bool tx.s) ∧ w'.cell? ⟨gT, i * 3 + 1, none⟩ = some (.slice tx.a1 tx.n1 tx.c1) ∧ w'.cell? ⟨gT, i * 3 + 2, none⟩ = some (.slice tx.a2 tx.n2 tx.c2)) ∧ (w'.cell? ⟨gN, i * 3, none⟩ = some (.bool ty.s) ∧ w'.cell? ⟨gN, i * 3 + 1, none⟩ = some (.slice ty.a1 ty.n1 ty.c1) ∧ w'.cell? ⟨gN, i * 3 + 2, none⟩ = some (.slice ty.a2 ty.n2 ty.c2))) (by kernel_rfl) ?_
      have bd0 : Below wr.heap.size wr wr.drew := (Below.refl _ _).drew
      have hC0 : (fun w' : World => (w'.cell? ⟨bm, 0, none⟩ = some (.bool t.s) ∧ w'.cell? ⟨bm, 1, none⟩ = some (.slice t.a1 t.n1 t.c1) ∧ w'.cell? ⟨bm, 2, none⟩ = some (.slice t.a2 t.n2 t.c2)) ∧ w'.cell? ⟨bm, 3, none⟩ = some (.slice (some ⟨gT, 0, none⟩) n n) ∧ w'.cell? ⟨bm, 4, none⟩ = some (.slice (some ⟨gN, 0, none⟩) n n) ∧ (w'.cell? ⟨gT, i * 3, none⟩ = some (.bool tx.s) ∧ w'.cell? ⟨gT, i * 3 + 1, none⟩ = some (.slice tx.a1 tx.n1 tx.c1) ∧ w'.cell? ⟨gT, i * 3 + 2, none⟩ = some (.slice tx.a2 tx.n2 tx.c2)) ∧ (w'.cell? ⟨gN, i * 3, none⟩ = some (.bool ty.s) ∧ w'.cell? ⟨gN, i * 3 + 1, none⟩ = some (.slice ty.a1 ty.n1 ty.c1) ∧ w'.cell? ⟨gN, i * 3 + 2, none⟩ = some (.slice ty.a2 ty.n2 ty.c2))) wr.drew := unhide HCC _ bd0
      refine wpHold_take (i := 0) (v := ?_) rfl (by kernel_rfl) (by kernel_rfl) (by kernel_rfl) (fun _ _ _ h => h) (Or.inl ⟨by rfl, ?_⟩) hC0 ?_
      rotate_left
      · intro w hSw; clear hSw; go_simp; (try with_reducible rfl)
      (try simp only [List.getElem_toArray, List.getElem_cons_succ, List.getElem_cons_zero])
      (try simp only [Act.put, List.setIfInBounds_toArray, List.set_cons_zero, List.set_cons_succ])
      refine wpHold_take (i := 1) (v := ?_) rfl (by kernel_rfl) (by kernel_rfl) (by kernel_rfl) (fun _ _ _ h => h) (Or.inl ⟨by rfl, ?_⟩) hC0 ?_
      rotate_left
      · intro w hSw; (try dsimp only at hSw); obtain ⟨⟨z0, z1, z2⟩, zt, zn, ⟨x0, x1, x2⟩, y0, y1, y2⟩ := hSw; go_simp; (try with_reducible rfl)
      (try simp only [List.getElem_toArray, List.getElem_cons_succ, List.getElem_cons_zero])
      (try simp only [Act.put, List.setIfInBounds_toArray, List.set_cons_zero, List.set_cons_succ])
      refine wpHold_take (i := 2) (v := ?_) rfl (by kernel_rfl) (by kernel_rfl) (by kernel_rfl) (fun _ _ _ h => h) (Or.inl ⟨by rfl, ?_⟩) hC0 ?_
      rotate_left
      · intro w hSw; clear hSw; go_simp; (try with_reducible rfl)
      (try simp only [List.getElem_toArray, List.getElem_cons_succ, List.getElem_cons_zero])
      (try simp only [Act.put, List.setIfInBounds_toArray, List.set_cons_zero, List.set_cons_succ])
      refine wpHold_take (i := 3) (v := ?_) rfl (by kernel_rfl) (by kernel_rfl) (by kernel_rfl) (fun _ _ _ h => h) (Or.inl ⟨by rfl, ?_⟩) hC0 ?_
      rotate_left
      · intro w hSw; clear hSw; go_simp; (try with_reducible rfl)
      (try simp only [List.getElem_toArray, List.getElem_cons_succ, List.getElem_cons_zero])
      (try simp only [Act.put, List.setIfInBounds_toArray, List.set_cons_zero, List.set_cons_succ])
      refine wpHold_take (i := 4) (v := ?_) rfl (by kernel_rfl) (by kernel_rfl) (by kernel_rfl) (fun _ _ _ h => h) (Or.inl ⟨by rfl, ?_⟩) hC0 ?_
      rotate_left
      · intro w hSw; (try dsimp only at hSw); obtain ⟨⟨z0, z1, z2⟩, zt, zn, ⟨x0, x1, x2⟩, y0, y1, y2⟩ := hSw; go_simp; (try with_reducible rfl)
      (try simp only [List.getElem_toArray, List.getElem_cons_succ, List.getElem_cons_zero])
      (try simp only [Act.put, List.setIfInBounds_toArray, List.set_cons_zero, List.set_cons_succ])
      refine wpHold_take (i := 5) (v := ?_) rfl (by kernel_rfl) (by kernel_rfl) (by kernel_rfl) (fun _ _ _ h => h) (Or.inl ⟨by rfl, ?_⟩) hC0 ?_
      rotate_left
      · intro w hSw; clear hSw; go_simp; (try with_reducible rfl)
      (try simp only [List.getElem_toArray, List.getElem_cons_succ, List.getElem_cons_zero])
      (try simp only [Act.put, List.setIfInBounds_toArray, List.set_cons_zero, List.set_cons_succ])
      refine wpHold_take (i := 6) (v := ?_) rfl (by kernel_rfl) (by kernel_rfl) (by kernel_rfl) (fun _ _ _ h => h) (Or.inl ⟨by rfl, ?_⟩) hC0 ?_
      rotate_left
      · intro w hSw; (try dsimp only at hSw); obtain ⟨⟨z0, z1, z2⟩, zt, zn, ⟨x0, x1, x2⟩, y0, y1, y2⟩ := hSw; go_simp; (try with_reducible rfl)
      (try simp only [List.getElem_toArray, List.getElem_cons_succ, List.getElem_cons_zero])
      (try simp only [Act.put, List.setIfInBounds_toArray, List.set_cons_zero, List.set_cons_succ])
      refine wpHold_take (i := 7) (v := ?_) rfl (by kernel_rfl) (by kernel_rfl) (by kernel_rfl) (fun _ _ _ h => h) (Or.inl ⟨by rfl, ?_⟩) hC0 ?_
      rotate_left
      · intro w hSw; clear hSw; go_simp; (try with_reducible rfl)
      (try simp only [List.getElem_toArray, List.getElem_cons_succ, List.getElem_cons_zero])
      (try simp only [Act.put, List.setIfInBounds_toArray, List.set_cons_zero, List.set_cons_succ])
      refine wpHold_take (i := 8) (v := ?_) rfl (by kernel_rfl) (by kernel_rfl) (by kernel_rfl) (fun _ _ _ h => h) (Or.inl ⟨by rfl, ?_⟩) hC0 ?_
      rotate_left
      · intro w hSw; (try dsimp only at hSw); obtain ⟨⟨z0, z1, z2⟩, zt, zn, ⟨x0, x1, x2⟩, y0, y1, y2⟩ := hSw; go_simp; (try with_reducible rfl)
      (try simp only [List.getElem_toArray, List.getElem_cons_succ, List.getElem_cons_zero])
      (try simp only [Act.put, List.setIfInBounds_toArray, List.set_cons_zero, List.set_cons_succ])
      refine wpHold_take (i := 9) (v := ?_) rfl (by kernel_rfl) (by kernel_rfl) (by kernel_rfl) (fun _ _ _ h => h) (Or.inl ⟨by rfl, ?_⟩) hC0 ?_
      rotate_left
      · intro w hSw; clear hSw; go_simp; (try with_reducible rfl)
      (try simp only [List.getElem_toArray, List.getElem_cons_succ, List.getElem_cons_zero])
      (try simp only [Act.put, List.setIfInBounds_toArray, List.set_cons_zero, List.set_cons_succ])
      refine wpHold_take (i := 10) (v := ?_) rfl (by kernel_rfl) (by kernel_rfl) (by kernel_rfl) (fun _ _ _ h => h) (Or.inl ⟨by rfl, ?_⟩) hC0 ?_
      rotate_left
      · intro w hSw; clear hSw; go_simp; (try with_reducible rfl)
      (try simp only [List.getElem_toArray, List.getElem_cons_succ, List.getElem_cons_zero])
      (try simp only [Act.put, List.setIfInBounds_toArray, List.set_cons_zero, List.set_cons_succ])
      refine wpHold_take (i := 11) (v := ?_) rfl (by kernel_rfl) (by kernel_rfl) (by kernel_rfl) (fun _ _ _ h => h) (Or.inl ⟨by rfl, ?_⟩) hC0 ?_
      rotate_left
      · intro w hSw; (try dsimp only at hSw); obtain ⟨⟨z0, z1, z2⟩, zt, zn, ⟨x0, x1, x2⟩, y0, y1, y2⟩ := hSw; go_simp; (try with_reducible rfl)
      (try simp only [List.getElem_toArray, List.getElem_cons_succ, List.getElem_cons_zero])
      (try simp only [Act.put, List.setIfInBounds_toArray, List.set_cons_zero, List.set_cons_succ])
      refine wpHold_one (k := 12) (by kernel_rfl) rfl (fun K hK => ?_)
      (try simp only [List.getElem_toArray, List.getElem_cons_succ, List.getElem_cons_zero])
      go_simp
      refine (unhide HMU _ bd0).mono ?_
      rintro e xw_1 ⟨xv_1, rfl, hv_1, hb_1⟩
      have cc_1 := below_step bd0 hb_1
      have hC_1 : (fun w' : World => (w'.cell? ⟨bm, 0, none⟩ = some (.bool t.s) ∧ w'.cell? ⟨bm, 1, none⟩ = some (.slice t.a1 t.n1 t.c1) ∧ w'.cell? ⟨bm, 2, none⟩ = some (.slice t.a2 t.n2 t.c2)) ∧ w'.cell? ⟨bm, 3, none⟩ = some (.slice (some ⟨gT, 0, none⟩) n n) ∧ w'.cell? ⟨bm, 4, none⟩ = some (.slice (some ⟨gN, 0, none⟩) n n) ∧ (w'.cell? ⟨gT, i * 3, none⟩ = some (.bool tx.s) ∧ w'.cell? ⟨gT, i * 3 + 1, none⟩ = some (.slice tx.a1 tx.n1 tx.c1) ∧ w'.cell? ⟨gT, i * 3 + 2, none⟩ = some (.slice tx.a2 tx.n2 tx.c2)) ∧ (w'.cell? ⟨gN, i * 3, none⟩ = some (.bool ty.s) ∧ w'.cell? ⟨gN, i * 3 + 1, none⟩ = some (.slice ty.a1 ty.n1 ty.c1) ∧ w'.cell? ⟨gN, i * 3 + 2, none⟩ = some (.slice ty.a2 ty.n2 ty.c2))) xw_1 := unhide HCC _ cc_1
      refine hK.out _ _ hC_1 ?_
      clear hK K
      (try simp only [Act.put, List.setIfInBounds_toArray, List.set_cons_zero, List.set_cons_succ])
      refine wpHold_one (k := 13) (by kernel_rfl) rfl (fun K hK => ?_)
      (try simp only [List.getElem_toArray, List.getElem_cons_succ, List.getElem_cons_zero])
      go_simp
      refine (unhide HLK _ _ cc_1 hv_1).mono ?_
      rintro e xw_2 ⟨rfl, hb_2⟩
      have cc_2 := below_step cc_1 hb_2
      have hC_2 : (fun w' : World => (w'.cell? ⟨bm, 0, none⟩ = some (.bool t.s) ∧ w'.cell? ⟨bm, 1, none⟩ = some (.slice t.a1 t.n1 t.c1) ∧ w'.cell? ⟨bm, 2, none⟩ = some (.slice t.a2 t.n2 t.c2)) ∧ w'.cell? ⟨bm, 3, none⟩ = some (.slice (some ⟨gT, 0, none⟩) n n) ∧ w'.cell? ⟨bm, 4, none⟩ = some (.slice (some ⟨gN, 0, none⟩) n n) ∧ (w'.cell? ⟨gT, i * 3, none⟩ = some (.bool tx.s) ∧ w'.cell? ⟨gT, i * 3 + 1, none⟩ = some (.slice tx.a1 tx.n1 tx.c1) ∧ w'.cell? ⟨gT, i * 3 + 2, none⟩ = some (.slice tx.a2 tx.n2 tx.c2)) ∧ (w'.cell? ⟨gN, i * 3, none⟩ = some (.bool ty.s) ∧ w'.cell? ⟨gN, i * 3 + 1, none⟩ = some (.slice ty.a1 ty.n1 ty.c1) ∧ w'.cell? ⟨gN, i * 3 + 2, none⟩ = some (.slice ty.a2 ty.n2 ty.c2))) xw_2 := unhide HCC _ cc_2
      refine hK.out _ _ hC_2 ?_
      clear hK K
      (try simp only [Act.put, List.setIfInBounds_toArray, List.set_cons_zero, List.set_cons_succ])
      refine wpHold_take (i := 14) (v := ?_) rfl (by kernel_rfl) (by kernel_rfl) (by kernel_rfl) (fun _ _ _ h => h) (Or.inl ⟨by rfl, ?_⟩) hC_2 ?_
      rotate_left
      · intro w hSw; clear hSw; go_simp; (try with_reducible rfl)
      (try simp only [List.getElem_toArray, List.getElem_cons_succ, List.getElem_cons_zero])
      (try simp only [Act.put, List.setIfInBounds_toArray, List.set_cons_zero, List.set_cons_succ])
      refine wpHold_done (by kernel_rfl) ?_ _
      have HBN := hide (below_step (unhide HB) cc_2)
      clear HCC HMU HLK hv_1 hb_1 hb_2 cc_1 hC_1 cc_2 hC_2 bd0 hC0 HB
      go_wp2_with fail
      exact ⟨⟨i + 1, by go_num, hlt, unhide HBN⟩, by simp [intOf]; omega⟩
    · obtain rfl : n = i := by omega
      have e1 : ¬ (n : Int) < (n : Int) := by omega
      clear hb
      have hG8 := unhide HG8
      obtain ⟨ag, cg, eg, g5, g6, g7⟩ := hG8
      rw [row_length] at eg g7
      obtain rfl : a7 = ag := by injection eg
      clear eg
      obtain ⟨bg, og, rfl, hbg, hcg⟩ := g7 (by omega)
      obtain ⟨xs, xp1, xp2, xn1, xd1, xn2, xd2, xk0, xk1, xk2, xr⟩ := hcg (k + 1) (by omega)
      obtain ⟨tg, rfl, rfl, rfl, rfl, rfl, rfl, rfl⟩ : ∃ t : Tri, xs = t.s ∧ xp1 = t.a1 ∧ xp2 = t.a2 ∧ xn1 = t.n1 ∧ xd1 = t.c1 ∧ xn2 = t.n2 ∧ xd2 = t.c2 := ⟨⟨xs, xp1, xp2, xn1, xd1, xn2, xd2⟩, rfl, rfl, rfl, rfl, rfl, rfl, rfl⟩
      rw [row_get (by omega)] at xr
      obtain ⟨ys, yp1, yp2, yn1, yd1, yn2, yd2, yk0, yk1, yk2, yr⟩ := hcg k (by omega)
      obtain ⟨th, rfl, rfl, rfl, rfl, rfl, rfl, rfl⟩ : ∃ t : Tri, ys = t.s ∧ yp1 = t.a1 ∧ yp2 = t.a2 ∧ yn1 = t.n1 ∧ yd1 = t.c1 ∧ yn2 = t.n2 ∧ yd2 = t.c2 := ⟨⟨ys, yp1, yp2, yn1, yd1, yn2, yd2⟩, rfl, rfl, rfl, rfl, rfl, rfl, rfl⟩
      rw [row_get (by omega)] at yr
      have HRX := hide xr
      have HRY := hide yr
      have HCC : Hid (∀ W, Below wr.heap.size wr W → (fun w' : World => (w'.cell? ⟨bm, 0, none⟩ = some (.bool t.s) ∧ w'.cell? ⟨bm, 1, none⟩ = some (.slice t.a1 t.n1 t.c1) ∧ w'.cell? ⟨bm, 2, none⟩ = some (.slice t.a2 t.n2 t.c2)) ∧ w'.cell? ⟨bm, 4, none⟩ = some (.slice (some ⟨gN, 0, none⟩) n n) ∧ (w'.cell? ⟨bg, og + (k + 1) * 3, none⟩ = some (.bool tg.s) ∧ w'.cell? ⟨bg, og + (k + 1) * 3 + 1, none⟩ = some (.slice tg.a1 tg.n1 tg.c1) ∧ w'.cell? ⟨bg, og + (k + 1) * 3 + 2, none⟩ = some (.slice tg.a2 tg.n2 tg.c2)) ∧ (w'.cell? ⟨bg, og + k * 3, none⟩ = some (.bool th.s) ∧ w'.cell? ⟨bg, og + k * 3 + 1, none⟩ = some (.slice th.a1 th.n1 th.c1) ∧ w'.cell? ⟨bg, og + k * 3 + 2, none⟩ = some (.slice th.a2 th.n2 th.c2))) W) := fun W hW => by
        have bc := below_step (unhide HB) hW
        have ⟨⟨z0, z1, z2, z3, z4⟩, _⟩ := mean_cells (heap_kept (unhide HNW) bc)
        refine ⟨⟨z0, z1, z2⟩, z4, ?_, ?_⟩
        · rw [bc.cell (p := ⟨bg, og + (k + 1) * 3, none⟩) hbg, bc.cell (p := ⟨bg, og + (k + 1) * 3 + 1, none⟩) hbg, bc.cell (p := ⟨bg, og + (k + 1) * 3 + 2, none⟩) hbg]; exact ⟨xk0, xk1, xk2⟩
        · rw [bc.cell (p := ⟨bg, og + k * 3, none⟩) hbg, bc.cell (p := ⟨bg, og + k * 3 + 1, none⟩) hbg, bc.cell (p := ⟨bg, og + k * 3 + 2, none⟩) hbg]; exact ⟨yk0, yk1, yk2⟩
      have HMU : Hid (∀ W, Below wr.heap.size wr W → Calls Tryz.prog 15 #[.agg #[.bool t.s, .slice t.a1 t.n1 t.c1, .slice t.a2 t.n2 t.c2], .agg #[.bool tg.s, .slice tg.a1 tg.n1 tg.c1, .slice tg.a2 tg.n2 tg.c2]] W fun e w' => ∃ v, e = .returned v ∧ RatIs w' v (Net.bz d n k) ∧ Below W.heap.size W w') := fun W hW => by
        have h := mulR_any t.val tg.val _ _ W ((unhide HO8).below (below_step (unhide HB) hW)) ((unhide HRX).below (below_step (unhide HB) hW)) 35000000005 ((oft_RS (unhide HDR) hn5 (Nat.le_refl _) (by omega) (unhide HZ (k + 1))).mono (by decide)) ((bz_small (unhide HDR) hn5 (Nat.le_refl _) (by omega)).mono (by decide)) (by rw [KKe]; omega)
        rw [Net.oft_bz (unhide HZ (k + 1))] at h
        exact h
      have HLK : Hid (∀ W v, Below wr.heap.size wr W → RatIs W v (Net.bz d n k) → Calls Tryz.prog 18 #[v, .agg #[.bool th.s, .slice th.a1 th.n1 th.c1, .slice th.a2 th.n2 th.c2]] W fun e w' => e = .returned (.bool true) ∧ Below W.heap.size W w') := fun W v hW hv => like_any v th.val _ W hv ((unhide HRY).below (below_step (unhide HB) hW)) 4000000000 (bz_small (unhide HDR) hn5 (Nat.le_refl _) (by omega)) (by rw [KKe]; omega) (tab_below (unhide HTAB) (below_step (unhide HB8) (below_step (unhide HB) hW)))
      have HSU : Hid (∀ W, Below wr.heap.size wr W → Calls Tryz.prog 17 #[.slice (some ⟨gN, 0, none⟩) n n] W fun e w' => ∃ v, e = .returned v ∧ RatIs w' v (((k : Int) + 1 : Int) : Rat) ∧ Below W.heap.size W w') := fun W hW => by
        have h := fsum_any _ _ 35000000000 W ((unhide HN8).below (below_step (unhide HB) hW)) (fun j hj => by
          rw [row_length] at hj
          rw [row_get hj]
          exact num_RS (unhide HDR) hn5 (Nat.le_refl _) (by omega) (unhide HZ (k + 1)) hj) (by rw [row_length, KKe]; omega)
        rw [qsum_row _ _ _ (by rw [row_length]; exact Nat.le_refl _), row_length, Net.num_sum (unhide HZ (k + 1))] at h
        exact h
      have HWH : Hid (∀ W, Calls Tryz.prog 13 #[.int .i64 ((k : Int) + 1)] W fun e w' => ∃ v, e = .returned v ∧ RatIs w' v (((k : Int) + 1 : Int) : Rat) ∧ Below W.heap.size W w') := fun W => whole_any ((k : Int) + 1) (by omega) (by omega) W
      have HLJ : Hid (∀ W v1 v2, Below wr.heap.size wr W → RatIs W v1 (((k : Int) + 1 : Int) : Rat) → RatIs W v2 (((k : Int) + 1 : Int) : Rat) → Calls Tryz.prog 18 #[v1, v2] W fun e w' => e = .returned (.bool true) ∧ Below W.heap.size W w') := fun W v1 v2 hW h1 h2 => like_any v1 v2 _ W h1 h2 1 (whole_RS ⟨by omega, by omega⟩) (by rw [KKe]; omega) (tab_below (unhide HTAB) (below_step (unhide HB8) (below_step (unhide HB) hW)))
      have f1 : (k : Int) < (k : Int) + 1 := by omega
      have f2 : (k : Int) < (k : Int) + 1 + 1 := by omega
      have f3 : (0 : Int) ≤ (k : Int) + 1 := by omega
      have f4 : ((k : Int) + 1).toNat = k + 1 := by omega
      have f5 : IntKind.i64.wrap (k : Int) = (k : Int) := by rw [IntKind.wrap_i64]; omega
      have f6 : (0 : Int) ≤ (k : Int) := by omega
      have f7 : (k : Int) + 1 - 1 = (k : Int) := by omega
      clear g5 g6 g7 hcg xr yr xk0 xk1 xk2 yk0 yk1 yk2
      go_wp2_with fail
      refine wp_region_hold (fun w' : World => (w'.cell? ⟨bm, 0, none⟩ = some (.bool t.s) ∧ w'.cell? ⟨bm, 1, none⟩ = some (.slice t.a1 t.n1 t.c1) ∧ w'.cell? ⟨bm, 2, none⟩ = some (.slice t.a2 t.n2 t.c2)) ∧ w'.cell? ⟨bm, 4, none⟩ = some (.slice (some ⟨gN, 0, none⟩) n n) ∧ (w'.cell? ⟨bg, og + (k + 1) * 3, none⟩ = some (.bool tg.s) ∧ w'.cell? ⟨bg, og + (k + 1) * 3 + 1, none⟩ = some (.slice tg.a1 tg.n1 tg.c1) ∧ w'.cell? ⟨bg, og + (k + 1) * 3 + 2, none⟩ = some (.slice tg.a2 tg.n2 tg.c2)) ∧ (w'.cell? ⟨bg, og + k * 3, none⟩ = some (.bool th.s) ∧ w'.cell? ⟨bg, og + k * 3 + 1, none⟩ = some (.slice th.a1 th.n1 th.c1) ∧ w'.cell? ⟨bg, og + k * 3 + 2, none⟩ = some (.slice th.a2 th.n2 th.c2))) (by kernel_rfl) ?_
      have bd0 : Below wr.heap.size wr wr.drew := (Below.refl _ _).drew
      have hC0 : (fun w' : World => (w'.cell? ⟨bm, 0, none⟩ = some (.bool t.s) ∧ w'.cell? ⟨bm, 1, none⟩ = some (.slice t.a1 t.n1 t.c1) ∧ w'.cell? ⟨bm, 2, none⟩ = some (.slice t.a2 t.n2 t.c2)) ∧ w'.cell? ⟨bm, 4, none⟩ = some (.slice (some ⟨gN, 0, none⟩) n n) ∧ (w'.cell? ⟨bg, og + (k + 1) * 3, none⟩ = some (.bool tg.s) ∧ w'.cell? ⟨bg, og + (k + 1) * 3 + 1, none⟩ = some (.slice tg.a1 tg.n1 tg.c1) ∧ w'.cell? ⟨bg, og + (k + 1) * 3 + 2, none⟩ = some (.slice tg.a2 tg.n2 tg.c2)) ∧ (w'.cell? ⟨bg, og + k * 3, none⟩ = some (.bool th.s) ∧ w'.cell? ⟨bg, og + k * 3 + 1, none⟩ = some (.slice th.a1 th.n1 th.c1) ∧ w'.cell? ⟨bg, og + k * 3 + 2, none⟩ = some (.slice th.a2 th.n2 th.c2))) wr.drew := unhide HCC _ bd0
      refine wpHold_take (i := 0) (v := ?_) rfl (by kernel_rfl) (by kernel_rfl) (by kernel_rfl) (fun _ _ _ h => h) (Or.inl ⟨by rfl, ?_⟩) hC0 ?_
      rotate_left
      · intro w hSw; clear hSw; go_simp; (try with_reducible rfl)
      (try simp only [List.getElem_toArray, List.getElem_cons_succ, List.getElem_cons_zero])
      (try simp only [Act.put, List.setIfInBounds_toArray, List.set_cons_zero, List.set_cons_succ])
      refine wpHold_take (i := 1) (v := ?_) rfl (by kernel_rfl) (by kernel_rfl) (by kernel_rfl) (fun _ _ _ h => h) (Or.inl ⟨by rfl, ?_⟩) hC0 ?_
      rotate_left
      · intro w hSw; (try dsimp only at hSw); obtain ⟨⟨z0, z1, z2⟩, zn, ⟨x0, x1, x2⟩, y0, y1, y2⟩ := hSw; go_simp; (try with_reducible rfl)
      (try simp only [List.getElem_toArray, List.getElem_cons_succ, List.getElem_cons_zero])
      (try simp only [Act.put, List.setIfInBounds_toArray, List.set_cons_zero, List.set_cons_succ])
      refine wpHold_take (i := 2) (v := ?_) rfl (by kernel_rfl) (by kernel_rfl) (by kernel_rfl) (fun _ _ _ h => h) (Or.inl ⟨by rfl, ?_⟩) hC0 ?_
      rotate_left
      · intro w hSw; clear hSw; go_simp; (try with_reducible rfl)
      (try simp only [List.getElem_toArray, List.getElem_cons_succ, List.getElem_cons_zero])
      (try simp only [Act.put, List.setIfInBounds_toArray, List.set_cons_zero, List.set_cons_succ])
      refine wpHold_take (i := 3) (v := ?_) rfl (by kernel_rfl) (by kernel_rfl) (by kernel_rfl) (fun _ _ _ h => h) (Or.inl ⟨by rfl, ?_⟩) hC0 ?_
      rotate_left
      · intro w hSw; clear hSw; go_simp; (try with_reducible rfl)
      (try simp only [List.getElem_toArray, List.getElem_cons_succ, List.getElem_cons_zero])
      (try simp only [Act.put, List.setIfInBounds_toArray, List.set_cons_zero, List.set_cons_succ])
      refine wpHold_take (i := 4) (v := ?_) rfl (by kernel_rfl) (by kernel_rfl) (by kernel_rfl) (fun _ _ _ h => h) (Or.inl ⟨by rfl, ?_⟩) hC0 ?_
      rotate_left
      · intro w hSw; clear hSw; go_simp; (try with_reducible rfl)
      (try simp only [List.getElem_toArray, List.getElem_cons_succ, List.getElem_cons_zero])
      (try simp only [Act.put, List.setIfInBounds_toArray, List.set_cons_zero, List.set_cons_succ])
      refine wpHold_take (i := 5) (v := ?_) rfl (by kernel_rfl) (by kernel_rfl) (by kernel_rfl) (fun _ _ _ h => h) (Or.inl ⟨by rfl, ?_⟩) hC0 ?_
      rotate_left
      · intro w hSw; (try dsimp only at hSw); obtain ⟨⟨z0, z1, z2⟩, zn, ⟨x0, x1, x2⟩, y0, y1, y2⟩ := hSw; go_simp; (try with_reducible rfl)
      (try simp only [List.getElem_toArray, List.getElem_cons_succ, List.getElem_cons_zero])
      (try simp only [Act.put, List.setIfInBounds_toArray, List.set_cons_zero, List.set_cons_succ])
      refine wpHold_take (i := 7) (v := ?_) rfl (by kernel_rfl) (by kernel_rfl) (by kernel_rfl) (fun _ _ _ h => h) (Or.inl ⟨by rfl, ?_⟩) hC0 ?_
      rotate_left
      · intro w hSw; clear hSw; go_simp; (try with_reducible rfl)
      (try simp only [List.getElem_toArray, List.getElem_cons_succ, List.getElem_cons_zero])
      (try simp only [Act.put, List.setIfInBounds_toArray, List.set_cons_zero, List.set_cons_succ])
      refine wpHold_take (i := 8) (v := ?_) rfl (by kernel_rfl) (by kernel_rfl) (by kernel_rfl) (fun _ _ _ h => h) (Or.inl ⟨by rfl, ?_⟩) hC0 ?_
      rotate_left
      · intro w hSw; clear hSw; go_simp; (try with_reducible rfl)
      (try simp only [List.getElem_toArray, List.getElem_cons_succ, List.getElem_cons_zero])
      (try simp only [Act.put, List.setIfInBounds_toArray, List.set_cons_zero, List.set_cons_succ])
      refine wpHold_take (i := 9) (v := ?_) rfl (by kernel_rfl) (by kernel_rfl) (by kernel_rfl) (fun _ _ _ h => h) (Or.inl ⟨by rfl, ?_⟩) hC0 ?_
      rotate_left
      · intro w hSw; clear hSw; go_simp; (try with_reducible rfl)
      (try simp only [List.getElem_toArray, List.getElem_cons_succ, List.getElem_cons_zero])
      (try simp only [Act.put, List.setIfInBounds_toArray, List.set_cons_zero, List.set_cons_succ])
      refine wpHold_take (i := 10) (v := ?_) rfl (by kernel_rfl) (by kernel_rfl) (by kernel_rfl) (fun _ _ _ h => h) (Or.inl ⟨by rfl, ?_⟩) hC0 ?_
      rotate_left
      · intro w hSw; clear hSw; go_simp; (try with_reducible rfl)
      (try simp only [List.getElem_toArray, List.getElem_cons_succ, List.getElem_cons_zero])
      (try simp only [Act.put, List.setIfInBounds_toArray, List.set_cons_zero, List.set_cons_succ])
      refine wpHold_take (i := 11) (v := ?_) rfl (by kernel_rfl) (by kernel_rfl) (by kernel_rfl) (fun _ _ _ h => h) (Or.inl ⟨by rfl, ?_⟩) hC0 ?_
      rotate_left
      · intro w hSw; (try dsimp only at hSw); obtain ⟨⟨z0, z1, z2⟩, zn, ⟨x0, x1, x2⟩, y0, y1, y2⟩ := hSw; go_simp; (try with_reducible rfl)
      (try simp only [List.getElem_toArray, List.getElem_cons_succ, List.getElem_cons_zero])
      (try simp only [Act.put, List.setIfInBounds_toArray, List.set_cons_zero, List.set_cons_succ])
      refine wpHold_one (k := 6) (by kernel_rfl) rfl (fun K hK => ?_)
      (try simp only [List.getElem_toArray, List.getElem_cons_succ, List.getElem_cons_zero])
      go_simp
      refine (unhide HMU _ bd0).mono ?_
      rintro e xw_1 ⟨xv_1, rfl, hv_1, hb_1⟩
      have cc_1 := below_step bd0 hb_1
      have hC_1 : (fun w' : World => (w'.cell? ⟨bm, 0, none⟩ = some (.bool t.s) ∧ w'.cell? ⟨bm, 1, none⟩ = some (.slice t.a1 t.n1 t.c1) ∧ w'.cell? ⟨bm, 2, none⟩ = some (.slice t.a2 t.n2 t.c2)) ∧ w'.cell? ⟨bm, 4, none⟩ = some (.slice (some ⟨gN, 0, none⟩) n n) ∧ (w'.cell? ⟨bg, og + (k + 1) * 3, none⟩ = some (.bool tg.s) ∧ w'.cell? ⟨bg, og + (k + 1) * 3 + 1, none⟩ = some (.slice tg.a1 tg.n1 tg.c1) ∧ w'.cell? ⟨bg, og + (k + 1) * 3 + 2, none⟩ = some (.slice tg.a2 tg.n2 tg.c2)) ∧ (w'.cell? ⟨bg, og + k * 3, none⟩ = some (.bool th.s) ∧ w'.cell? ⟨bg, og + k * 3 + 1, none⟩ = some (.slice th.a1 th.n1 th.c1) ∧ w'.cell? ⟨bg, og + k * 3 + 2, none⟩ = some (.slice th.a2 th.n2 th.c2))) xw_1 := unhide HCC _ cc_1
      refine hK.out _ _ hC_1 ?_
      clear hK K
      (try simp only [Act.put, List.setIfInBounds_toArray, List.set_cons_zero, List.set_cons_succ])
      refine wpHold_one (k := 12) (by kernel_rfl) rfl (fun K hK => ?_)
      (try simp only [List.getElem_toArray, List.getElem_cons_succ, List.getElem_cons_zero])
      go_simp
      refine (unhide HLK _ _ cc_1 hv_1).mono ?_
      rintro e xw_2 ⟨rfl, hb_2⟩
      have cc_2 := below_step cc_1 hb_2
      have hC_2 : (fun w' : World => (w'.cell? ⟨bm, 0, none⟩ = some (.bool t.s) ∧ w'.cell? ⟨bm, 1, none⟩ = some (.slice t.a1 t.n1 t.c1) ∧ w'.cell? ⟨bm, 2, none⟩ = some (.slice t.a2 t.n2 t.c2)) ∧ w'.cell? ⟨bm, 4, none⟩ = some (.slice (some ⟨gN, 0, none⟩) n n) ∧ (w'.cell? ⟨bg, og + (k + 1) * 3, none⟩ = some (.bool tg.s) ∧ w'.cell? ⟨bg, og + (k + 1) * 3 + 1, none⟩ = some (.slice tg.a1 tg.n1 tg.c1) ∧ w'.cell? ⟨bg, og + (k + 1) * 3 + 2, none⟩ = some (.slice tg.a2 tg.n2 tg.c2)) ∧ (w'.cell? ⟨bg, og + k * 3, none⟩ = some (.bool th.s) ∧ w'.cell? ⟨bg, og + k * 3 + 1, none⟩ = some (.slice th.a1 th.n1 th.c1) ∧ w'.cell? ⟨bg, og + k * 3 + 2, none⟩ = some (.slice th.a2 th.n2 th.c2))) xw_2 := unhide HCC _ cc_2
      refine hK.out _ _ hC_2 ?_
      clear hK K
      (try simp only [Act.put, List.setIfInBounds_toArray, List.set_cons_zero, List.set_cons_succ])
      refine wpHold_take (i := 13) (v := ?_) rfl (by kernel_rfl) (by kernel_rfl) (by kernel_rfl) (fun _ _ _ h => h) (Or.inl ⟨by rfl, ?_⟩) hC_2 ?_
      rotate_left
      · intro w hSw; clear hSw; go_simp; (try with_reducible rfl)
      (try simp only [List.getElem_toArray, List.getElem_cons_succ, List.getElem_cons_zero])
      (try simp only [Act.put, List.setIfInBounds_toArray, List.set_cons_zero, List.set_cons_succ])
      refine wpHold_take (i := 14) (v := ?_) rfl (by kernel_rfl) (by kernel_rfl) (by kernel_rfl) (fun _ _ _ h => h) (Or.inl ⟨by rfl, ?_⟩) hC_2 ?_
      rotate_left
      · intro w hSw; clear hSw; go_simp; (try with_reducible rfl)
      (try simp only [List.getElem_toArray, List.getElem_cons_succ, List.getElem_cons_zero])
      (try simp only [Act.put, List.setIfInBounds_toArray, List.set_cons_zero, List.set_cons_succ])
      refine wpHold_take (i := 15) (v := ?_) rfl (by kernel_rfl) (by kernel_rfl) (by kernel_rfl) (fun _ _ _ h => h) (Or.inl ⟨by rfl, ?_⟩) hC_2 ?_
      rotate_left
      · intro w hSw; (try dsimp only at hSw); obtain ⟨⟨z0, z1, z2⟩, zn, ⟨x0, x1, x2⟩, y0, y1, y2⟩ := hSw; go_simp; (try with_reducible rfl)
      (try simp only [List.getElem_toArray, List.getElem_cons_succ, List.getElem_cons_zero])
      (try simp only [Act.put, List.setIfInBounds_toArray, List.set_cons_zero, List.set_cons_succ])
      refine wpHold_take (i := 17) (v := ?_) rfl (by kernel_rfl) (by kernel_rfl) (by kernel_rfl) (fun _ _ _ h => h) (Or.inl ⟨by rfl, ?_⟩) hC_2 ?_
      rotate_left
      · intro w hSw; clear hSw; go_simp; (try with_reducible rfl)
      (try simp only [List.getElem_toArray, List.getElem_cons_succ, List.getElem_cons_zero])
      (try simp only [Act.put, List.setIfInBounds_toArray, List.set_cons_zero, List.set_cons_succ])
      refine wpHold_one (k := 16) (by kernel_rfl) rfl (fun K hK => ?_)
      (try simp only [List.getElem_toArray, List.getElem_cons_succ, List.getElem_cons_zero])
      go_simp
      refine (unhide HSU _ cc_2).mono ?_
      rintro e xw_3 ⟨xv_3, rfl, hv_3, hb_3⟩
      have cc_3 := below_step cc_2 hb_3
      have hC_3 : (fun w' : World => (w'.cell? ⟨bm, 0, none⟩ = some (.bool t.s) ∧ w'.cell? ⟨bm, 1, none⟩ = some (.slice t.a1 t.n1 t.c1) ∧ w'.cell? ⟨bm, 2, none⟩ = some (.slice t.a2 t.n2 t.c2)) ∧ w'.cell? ⟨bm, 4, none⟩ = some (.slice (some ⟨gN, 0, none⟩) n n) ∧ (w'.cell? ⟨bg, og + (k + 1) * 3, none⟩ = some (.bool tg.s) ∧ w'.cell? ⟨bg, og + (k + 1) * 3 + 1, none⟩ = some (.slice tg.a1 tg.n1 tg.c1) ∧ w'.cell? ⟨bg, og + (k + 1) * 3 + 2, none⟩ = some (.slice tg.a2 tg.n2 tg.c2)) ∧ (w'.cell? ⟨bg, og + k * 3, none⟩ = some (.bool th.s) ∧ w'.cell? ⟨bg, og + k * 3 + 1, none⟩ = some (.slice th.a1 th.n1 th.c1) ∧ w'.cell? ⟨bg, og + k * 3 + 2, none⟩ = some (.slice th.a2 th.n2 th.c2))) xw_3 := unhide HCC _ cc_3
      refine hK.out _ _ hC_3 ?_
      clear hK K
      (try simp only [Act.put, List.setIfInBounds_toArray, List.set_cons_zero, List.set_cons_succ])
      refine wpHold_one (k := 18) (by kernel_rfl) rfl (fun K hK => ?_)
      (try simp only [List.getElem_toArray, List.getElem_cons_succ, List.getElem_cons_zero])
      go_simp
      refine (unhide HWH _).mono ?_
      rintro e xw_4 ⟨xv_4, rfl, hv_4, hb_4⟩
      have cc_4 := below_step cc_3 hb_4
      have hC_4 : (fun w' : World => (w'.cell? ⟨bm, 0, none⟩ = some (.bool t.s) ∧ w'.cell? ⟨bm, 1, none⟩ = some (.slice t.a1 t.n1 t.c1) ∧ w'.cell? ⟨bm, 2, none⟩ = some (.slice t.a2 t.n2 t.c2)) ∧ w'.cell? ⟨bm, 4, none⟩ = some (.slice (some ⟨gN, 0, none⟩) n n) ∧ (w'.cell? ⟨bg, og + (k + 1) * 3, none⟩ = some (.bool tg.s) ∧ w'.cell? ⟨bg, og + (k + 1) * 3 + 1, none⟩ = some (.slice tg.a1 tg.n1 tg.c1) ∧ w'.cell? ⟨bg, og + (k + 1) * 3 + 2, none⟩ = some (.slice tg.a2 tg.n2 tg.c2)) ∧ (w'.cell? ⟨bg, og + k * 3, none⟩ = some (.bool th.s) ∧ w'.cell? ⟨bg, og + k * 3 + 1, none⟩ = some (.slice th.a1 th.n1 th.c1) ∧ w'.cell? ⟨bg, og + k * 3 + 2, none⟩ = some (.slice th.a2 th.n2 th.c2))) xw_4 := unhide HCC _ cc_4
      refine hK.out _ _ hC_4 ?_
      clear hK K
      (try simp only [Act.put, List.setIfInBounds_toArray, List.set_cons_zero, List.set_cons_succ])
      refine wpHold_one (k := 19) (by kernel_rfl) rfl (fun K hK => ?_)
      (try simp only [List.getElem_toArray, List.getElem_cons_succ, List.getElem_cons_zero])
      go_simp
      refine (unhide HLJ _ _ _ cc_4 (hv_3.below hb_4) hv_4).mono ?_
      rintro e xw_5 ⟨rfl, hb_5⟩
      have cc_5 := below_step cc_4 hb_5
      have hC_5 : (fun w' : World => (w'.cell? ⟨bm, 0, none⟩ = some (.bool t.s) ∧ w'.cell? ⟨bm, 1, none⟩ = some (.slice t.a1 t.n1 t.c1) ∧ w'.cell? ⟨bm, 2, none⟩ = some (.slice t.a2 t.n2 t.c2)) ∧ w'.cell? ⟨bm, 4, none⟩ = some (.slice (some ⟨gN, 0, none⟩) n n) ∧ (w'.cell? ⟨bg, og + (k + 1) * 3, none⟩ = some (.bool tg.s) ∧ w'.cell? ⟨bg, og + (k + 1) * 3 + 1, none⟩ = some (.slice tg.a1 tg.n1 tg.c1) ∧ w'.cell? ⟨bg, og + (k + 1) * 3 + 2, none⟩ = some (.slice tg.a2 tg.n2 tg.c2)) ∧ (w'.cell? ⟨bg, og + k * 3, none⟩ = some (.bool th.s) ∧ w'.cell? ⟨bg, og + k * 3 + 1, none⟩ = some (.slice th.a1 th.n1 th.c1) ∧ w'.cell? ⟨bg, og + k * 3 + 2, none⟩ = some (.slice th.a2 th.n2 th.c2))) xw_5 := unhide HCC _ cc_5
      refine hK.out _ _ hC_5 ?_
      clear hK K
      (try simp only [Act.put, List.setIfInBounds_toArray, List.set_cons_zero, List.set_cons_succ])
      refine wpHold_take (i := 20) (v := ?_) rfl (by kernel_rfl) (by kernel_rfl) (by kernel_rfl) (fun _ _ _ h => h) (Or.inl ⟨by rfl, ?_⟩) hC_5 ?_
      rotate_left
      · intro w hSw; clear hSw; go_simp; (try with_reducible rfl)
      (try simp only [List.getElem_toArray, List.getElem_cons_succ, List.getElem_cons_zero])
      (try simp only [Act.put, List.setIfInBounds_toArray, List.set_cons_zero, List.set_cons_succ])
      refine wpHold_one (k := 21) (by kernel_rfl) rfl (fun K hK => ?_)
      (try simp only [List.getElem_toArray, List.getElem_cons_succ, List.getElem_cons_zero])
      go_simp
      refine hK.out _ _ hC_5 ?_
      clear hK K
      (try simp only [Act.put, List.setIfInBounds_toArray, List.set_cons_zero, List.set_cons_succ])
      refine wpHold_done (by kernel_rfl) ?_ _
      have HBZ := hide (below_step (unhide HB8) (below_step (unhide HB) cc_5))
      clear HCC HMU HLK HSU HWH HLJ hv_1 hb_1 hb_2 hv_3 hb_3 hv_4 hb_4 hb_5 cc_1 hC_1 cc_2 hC_2 cc_3 hC_3 cc_4 hC_4 cc_5 hC_5 bd0 hC0 HB
      go_wp2
      go_ret
      exact ⟨rfl, unhide HBZ⟩
end Go.Proofs.YtdaejkngmckmdaaGreatDoor
