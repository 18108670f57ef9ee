/- ChanceLeast. -/
import Derived.Test.YtnmmfcoclpapdaaGreatDoorB35
namespace Go.Proofs.YtnmmfcoclpapdaaGreatDoor
open Go.RowKit Go.Sort Go.Shelf

set_option maxHeartbeats 8000000 in
set_option maxRecDepth 100000 in
set_option linter.unusedSimpArgs false in
theorem chanceLeast_any (v : Value) (ps : List (Int × Int)) (x y : Int) (w : World) (h : PairsAre w v ps) (hx : I64 x) (hy : I64 y) (hg : ErrTy w) :
    Calls Tryz.prog 9 #[v, .agg #[.int .i64 x, .int .i64 y]] w fun e w' => e = .returned (.bool true) ∧ Below w.heap.size w w' := by
  have h' := h
  obtain ⟨a, c, hv, h1, h2, h4, -⟩ := h'
  obtain ⟨n, hn⟩ : ∃ n, ps.length = n := ⟨_, rfl⟩
  have bA := abelow w (.cells #[.int .i64 x, .int .i64 y] 23)
  have hlt : w.heap.size < (w.alloc (.cells #[.int .i64 x, .int .i64 y] 23)).heap.size := (Array.getElem?_eq_some_iff.1 (heap_alloc_new w _)).1
  have hbx : ∀ W, Below (w.alloc (.cells #[.int .i64 x, .int .i64 y] 23)).heap.size (w.alloc (.cells #[.int .i64 x, .int .i64 y] 23)) W → W.cell? ⟨w.heap.size, 0, none⟩ = some (.int .i64 x) ∧ W.cell? ⟨w.heap.size, 1, none⟩ = some (.int .i64 y) := fun W hW => by
    refine ⟨?_, ?_⟩
    · rw [hW.cell (p := ⟨w.heap.size, 0, none⟩) hlt]; simp
    · rw [hW.cell (p := ⟨w.heap.size, 1, none⟩) hlt]; simp
  obtain ⟨W1, hW1⟩ : ∃ W, w.alloc (.cells #[.int .i64 x, .int .i64 y] 23) = W := ⟨_, rfl⟩
  obtain ⟨gb, hgb⟩ : ∃ g, w.heap.size = g := ⟨_, rfl⟩
  rw [hW1] at bA hbx
  rw [hgb] at hbx
  have HBX := hide hbx
  have HB1 := hide bA
  have HPS := hide (h.below bA)
  have HGT := hide (hg.below bA)
  have HIX := hide hx
  have HIY := hide hy
  by_cases hbig : 130 < n
  · rw [hn] at hv
    subst hv
    have f1 : (130 : Int) < (n : Int) := by omega
    clear h h4 hg hx hy bA hlt hbx hn hbig
    go_enter Tryz.func9, Tryz.ntmps9
    go_wp2_with fail
    (try clear hW1 hgb)
    (try go_wp2)
    go_ret
    exact ⟨rfl, unhide HB1⟩
  · have HPL : Hid (ps.length ≤ 1099511627776) := by show _ ≤ _; omega
    have hqs : ∀ j, j < (pqs ps).length → RS (pqs ps)[j]! 1 := fun j hj => by
      rw [pqs_length] at hj
      have : (pqs ps)[j]! = pq ps[j]! := by simp [pqs, hj]
      rw [this]
      exact pq_RS (h4 j hj).1 (h4 j hj).2
    have HQ := hide hqs
    have HQC : Hid (RS (pq (x, y)) 1) := pq_RS hx hy
    have hql : (pqs ps).length = n := by rw [pqs_length]; exact hn
    have HKK : Hid (((pqs ps).length * (1 + 1) + 1 + 1) + ((pqs ps).length * (1 + 1) + 1 + 1) + 1 ≤ KK) := by show _ ≤ _; unfold KK; rw [hql]; omega
    have HKL : Hid ((pqs ps).length * (1 + 1) + 1 + 1 ≤ 390000) := by show _ ≤ _; rw [hql]; omega
    have HLI := hide (refList_any v ps W1 (h.below bA) (unhide HPL))
    have hv2 := hv
    rw [hn] at hv
    subst hv
    have f1 : ¬ (130 : Int) < (n : Int) := by omega
    have HQN := hide hql
    have HN1 : Hid (n ≤ 130) := by show _ ≤ _; omega
    clear h h4 hg hx hy bA hlt hbx hn hbig hqs hql hv2
    go_enter Tryz.func9, Tryz.ntmps9
    go_wp2_with fail
    clear hW1 hgb
    have HT3 : Hid (∀ W, Below W1.heap.size W1 W → (fun w' : World => w'.cell? ⟨gb, 0, none⟩ = some (.int .i64 x) ∧ w'.cell? ⟨gb, 1, none⟩ = some (.int .i64 y)) W) := fun W hW => unhide HBX W hW
    refine wp_region_hold (fun w' : World => w'.cell? ⟨gb, 0, none⟩ = some (.int .i64 x) ∧ w'.cell? ⟨gb, 1, none⟩ = some (.int .i64 y)) (by kernel_rfl) ?_
    have bd0 : Below W1.heap.size W1 W1.drew := (Below.refl _ _).drew
    have hC0 : (fun w' : World => w'.cell? ⟨gb, 0, none⟩ = some (.int .i64 x) ∧ w'.cell? ⟨gb, 1, none⟩ = some (.int .i64 y)) W1.drew := unhide HT3 _ bd0
    refine wpHold_take (i := 0) (v := ?_) rfl (by kernel_rfl) (by kernel_rfl) (by kernel_rfl) (fun _ _ _ h => h) (Or.inl ⟨by rfl, ?_⟩) hC0 ?_
    rotate_left
    · intro w hSw; clear hSw; go_simp; (try with_reducible rfl)
    (try simp only [List.getElem_toArray, List.getElem_cons_succ, List.getElem_cons_zero])
    (try simp only [Act.put, List.setIfInBounds_toArray, List.set_cons_zero, List.set_cons_succ])
    refine wpHold_take (i := 2) (v := ?_) rfl (by kernel_rfl) (by kernel_rfl) (by kernel_rfl) (fun _ _ _ h => h) (Or.inl ⟨by rfl, ?_⟩) hC0 ?_
    rotate_left
    · intro w hSw; (try dsimp only at hSw); obtain ⟨z0, z1⟩ := hSw; go_simp; (try with_reducible rfl)
    (try simp only [List.getElem_toArray, List.getElem_cons_succ, List.getElem_cons_zero])
    (try simp only [Act.put, List.setIfInBounds_toArray, List.set_cons_zero, List.set_cons_succ])
    refine wpHold_one (k := 1) (by kernel_rfl) rfl (fun K hK => ?_)
    (try simp only [List.getElem_toArray, List.getElem_cons_succ, List.getElem_cons_zero])
    go_simp
    refine (refList_any _ ps _ ((unhide HPS).below bd0) (unhide HPL)).mono ?_
    rintro e w2 ⟨v2, rfl, hv2, hb2⟩
    have cc2 := bstep bd0 hb2
    have hC2 : (fun w' : World => w'.cell? ⟨gb, 0, none⟩ = some (.int .i64 x) ∧ w'.cell? ⟨gb, 1, none⟩ = some (.int .i64 y)) w2 := unhide HT3 _ cc2
    refine hK.out _ _ hC2 ?_
    clear hK K
    (try simp only [Act.put, List.setIfInBounds_toArray, List.set_cons_zero, List.set_cons_succ])
    refine wpHold_one (k := 3) (by kernel_rfl) rfl (fun K hK => ?_)
    (try simp only [List.getElem_toArray, List.getElem_cons_succ, List.getElem_cons_zero])
    go_simp
    refine (refOf_any x y (unhide HIX) (unhide HIY) _).mono ?_
    rintro e w3 ⟨b3, rfl, -, hr3, hb3⟩
    have cc3 := bstep cc2 hb3
    have hC3 : (fun w' : World => w'.cell? ⟨gb, 0, none⟩ = some (.int .i64 x) ∧ w'.cell? ⟨gb, 1, none⟩ = some (.int .i64 y)) w3 := unhide HT3 _ cc3
    refine hK.out _ _ hC3 ?_
    clear hK K
    (try simp only [Act.put, List.setIfInBounds_toArray, List.set_cons_zero, List.set_cons_succ])
    refine wpHold_one (k := 4) (by kernel_rfl) rfl (fun K hK => ?_)
    (try simp only [List.getElem_toArray, List.getElem_cons_succ, List.getElem_cons_zero])
    go_simp
    refine hK.out _ _ hC3 ?_
    clear hK K
    (try simp only [Act.put, List.setIfInBounds_toArray, List.set_cons_zero, List.set_cons_succ])
    refine wpHold_one (k := 5) (by kernel_rfl) rfl (fun K hK => ?_)
    (try simp only [List.getElem_toArray, List.getElem_cons_succ, List.getElem_cons_zero])
    go_simp
    refine hK.out _ _ hC3 ?_
    clear hK K
    (try simp only [Act.put, List.setIfInBounds_toArray, List.set_cons_zero, List.set_cons_succ])
    refine wpHold_done (by kernel_rfl) ?_ _
    have HL2 := hide (hv2.below hb3)
    have HR3 := hide hr3
    have HB3 := hide cc3
    have HCK := hide (refLawCheck_any v2 (pqs ps) 1 w3 (hv2.below hb3) (unhide HQ) (by have := unhide HKL; omega))
    clear hv2 hb2 cc2 hC2 hr3 hb3 cc3 hC3 bd0 hC0 HT3 HLI
    obtain ⟨k, hk⟩ : ∃ k, chk (pqs ps) = k := ⟨_, rfl⟩
    rw [hk] at HCK
    have HK := hide hk
    clear hk
    go_wp2_with fail
    refine (unhide HCK).mono ?_
    rintro e w4 ⟨rfl, hb4⟩
    have HL4 := hide ((unhide HL2).below hb4)
    have HR4 := hide ((unhide HR3).below hb4)
    have HB4 := hide (bstep (unhide HB3) hb4)
    clear hb4 HCK HL2 HR3
    by_cases hk0 : k = 0
    · subst hk0
      have hsg := sign_le (x := (pq (x, y)).num)
      have HSI := hide (signz_any b3 0 (pq (x, y)) w4 (unhide HR4))
      obtain ⟨sz, hsz⟩ : ∃ s, (pq (x, y)).num.sign = s := ⟨_, rfl⟩
      rw [hsz] at hsg HSI
      clear hsz
      by_cases hq0 : (pq (x, y)).num ≤ 0
      · rw [decide_eq_true hq0] at hsg
        have HKE : Hid ((if chk (pqs ps) ≠ 0 then chk (pqs ps) else if (pq (x, y)).num ≤ 0 ∨ ((pq (x, y)).den : Int) < (pq (x, y)).num then 2 else 0) = 2) := by show _ = _; rw [unhide HK, if_neg (by simp), if_pos (Or.inl hq0)]
        have HNZ : Hid ((2 : Int) ≠ 0) := by show _ ≠ _; decide
        clear hq0
        go_wp2_with fail
        refine (unhide HSI).mono ?_
        rintro e w5 ⟨rfl, hw⟩
        have hw := hw.symm
        subst hw
        clear HSI
        have HBT := HB4
        go_wp2_with fail
        have HT0 : Hid (∀ W, Below w4.heap.size w4 W → (fun w' : World => w'.cell? ⟨gb, 0, none⟩ = some (.int .i64 x) ∧ w'.cell? ⟨gb, 1, none⟩ = some (.int .i64 y)) W) := fun W hW => unhide HBX W (bstep (unhide HBT) hW)
        refine wp_region_hold (fun w' : World => w'.cell? ⟨gb, 0, none⟩ = some (.int .i64 x) ∧ w'.cell? ⟨gb, 1, none⟩ = some (.int .i64 y)) (by kernel_rfl) ?_
        have bd0 : Below w4.heap.size w4 w4.drew := (Below.refl _ _).drew
        have hC0 : (fun w' : World => w'.cell? ⟨gb, 0, none⟩ = some (.int .i64 x) ∧ w'.cell? ⟨gb, 1, none⟩ = some (.int .i64 y)) w4.drew := unhide HT0 _ bd0
        refine wpHold_take (i := 0) (v := ?_) rfl (by kernel_rfl) (by kernel_rfl) (by kernel_rfl) (fun _ _ _ h => h) (Or.inl ⟨by rfl, ?_⟩) hC0 ?_
        rotate_left
        · intro w hSw; clear hSw; go_simp; (try with_reducible rfl)
        (try simp only [List.getElem_toArray, List.getElem_cons_succ, List.getElem_cons_zero])
        (try simp only [Act.put, List.setIfInBounds_toArray, List.set_cons_zero, List.set_cons_succ])
        refine wpHold_take (i := 2) (v := ?_) rfl (by kernel_rfl) (by kernel_rfl) (by kernel_rfl) (fun _ _ _ h => h) (Or.inl ⟨by rfl, ?_⟩) hC0 ?_
        rotate_left
        · intro w hSw; (try dsimp only at hSw); obtain ⟨z0, z1⟩ := hSw; go_simp; (try with_reducible rfl)
        (try simp only [List.getElem_toArray, List.getElem_cons_succ, List.getElem_cons_zero])
        (try simp only [Act.put, List.setIfInBounds_toArray, List.set_cons_zero, List.set_cons_succ])
        refine wpHold_one (k := 1) (by kernel_rfl) rfl (fun K hK => ?_)
        (try simp only [List.getElem_toArray, List.getElem_cons_succ, List.getElem_cons_zero])
        go_simp
        refine (law_any _ ps _ ((unhide HPS).below (bstep (unhide HBT) bd0)) (unhide HPL)).mono ?_
        rintro e x1 ⟨v1, rfl, hv1, hb1⟩
        have cc1 := bstep bd0 hb1
        have hC1 : (fun w' : World => w'.cell? ⟨gb, 0, none⟩ = some (.int .i64 x) ∧ w'.cell? ⟨gb, 1, none⟩ = some (.int .i64 y)) x1 := unhide HT0 _ cc1
        refine hK.out _ _ hC1 ?_
        clear hK K
        (try simp only [Act.put, List.setIfInBounds_toArray, List.set_cons_zero, List.set_cons_succ])
        refine wpHold_one (k := 3) (by kernel_rfl) rfl (fun K hK => ?_)
        (try simp only [List.getElem_toArray, List.getElem_cons_succ, List.getElem_cons_zero])
        go_simp
        refine (f_any x y (unhide HIX).1 (unhide HIX).2 (unhide HIY).1 (unhide HIY).2 _).mono ?_
        rintro e x2 ⟨v2, rfl, hv2, hb2⟩
        have cc2 := bstep cc1 hb2
        have hC2 : (fun w' : World => w'.cell? ⟨gb, 0, none⟩ = some (.int .i64 x) ∧ w'.cell? ⟨gb, 1, none⟩ = some (.int .i64 y)) x2 := unhide HT0 _ cc2
        refine hK.out _ _ hC2 ?_
        clear hK K
        (try simp only [Act.put, List.setIfInBounds_toArray, List.set_cons_zero, List.set_cons_succ])
        refine wpHold_one (k := 4) (by kernel_rfl) rfl (fun K hK => ?_)
        (try simp only [List.getElem_toArray, List.getElem_cons_succ, List.getElem_cons_zero])
        go_simp
        refine (least_any v1 v2 (pqs ps) (pq (x, y)) 1 _ (hv1.below hb2) hv2 (unhide HQ) (unhide HKK) (unhide HQC) (by decide)).mono ?_
        rintro e x3 ⟨nn, kk, rfl, hs, hb3⟩
        have cc3 := bstep cc2 hb3
        have hC3 : (fun w' : World => w'.cell? ⟨gb, 0, none⟩ = some (.int .i64 x) ∧ w'.cell? ⟨gb, 1, none⟩ = some (.int .i64 y)) x3 := unhide HT0 _ cc3
        refine hK.out _ _ hC3 ?_
        clear hK K
        (try simp only [Act.put, List.setIfInBounds_toArray, List.set_cons_zero, List.set_cons_succ])
        refine wpHold_take (i := 5) (v := ?_) rfl (by kernel_rfl) (by kernel_rfl) (by kernel_rfl) (fun _ _ _ h => h) (Or.inl ⟨by rfl, ?_⟩) hC3 ?_
        rotate_left
        · intro w hSw; clear hSw; go_simp; (try with_reducible rfl)
        (try simp only [List.getElem_toArray, List.getElem_cons_succ, List.getElem_cons_zero])
        (try simp only [Act.put, List.setIfInBounds_toArray, List.set_cons_zero, List.set_cons_succ])
        refine wpHold_take (i := 6) (v := ?_) rfl (by kernel_rfl) (by kernel_rfl) (by kernel_rfl) (fun _ _ _ h => h) (Or.inl ⟨by rfl, ?_⟩) hC3 ?_
        rotate_left
        · intro w hSw; clear hSw; go_simp; (try with_reducible rfl)
        (try simp only [List.getElem_toArray, List.getElem_cons_succ, List.getElem_cons_zero])
        (try simp only [Act.put, List.setIfInBounds_toArray, List.set_cons_zero, List.set_cons_succ])
        refine wpHold_take (i := 7) (v := ?_) rfl (by kernel_rfl) (by kernel_rfl) (by kernel_rfl) (fun _ _ _ h => h) (Or.inl ⟨by rfl, ?_⟩) hC3 ?_
        rotate_left
        · intro w hSw; clear hSw; go_simp; (try with_reducible rfl)
        (try simp only [List.getElem_toArray, List.getElem_cons_succ, List.getElem_cons_zero])
        (try simp only [Act.put, List.setIfInBounds_toArray, List.set_cons_zero, List.set_cons_succ])
        refine wpHold_one (k := 8) (by kernel_rfl) rfl (fun K hK => ?_)
        (try simp only [List.getElem_toArray, List.getElem_cons_succ, List.getElem_cons_zero])
        go_simp
        refine hK.out _ _ hC3 ?_
        clear hK K
        (try simp only [Act.put, List.setIfInBounds_toArray, List.set_cons_zero, List.set_cons_succ])
        refine wpHold_one (k := 9) (by kernel_rfl) rfl (fun K hK => ?_)
        (try simp only [List.getElem_toArray, List.getElem_cons_succ, List.getElem_cons_zero])
        go_simp
        refine hK.out _ _ hC3 ?_
        clear hK K
        (try simp only [Act.put, List.setIfInBounds_toArray, List.set_cons_zero, List.set_cons_succ])
        refine wpHold_done (by kernel_rfl) ?_ _
        have HB3 := hide (bstep (unhide HBT) cc3)
        have HG3 := hide ((unhide HGT).below (unhide HB3))
        obtain ⟨hk, hbad, -⟩ := hs
        obtain rfl : kk = 2 := by rw [hk]; exact unhide HKE
        obtain rfl := hbad (unhide HNZ)
        clear hbad
        rw [errV_not' (unhide HNZ)]
        have HW := hide (whole_bad' 0 2 (unhide HNZ) x3 (unhide HG3))
        clear hv1 hb1 cc1 hC1 hv2 hb2 cc2 hC2 hb3 cc3 hC3 hk bd0 hC0 HT0
        go_wp2_with fail
        refine (unhide HW).mono ?_
        rintro e x4 ⟨rfl, hb4⟩
        have HB4 := hide (bstep (unhide HB3) hb4)
        clear hb4 HW
        go_wp2
        go_ret
        exact ⟨rfl, bstep (unhide HB1) (unhide HB4)⟩
      · rw [decide_eq_false hq0] at hsg
        have hab := cmp_above (q := pq (x, y))
        have HIN := hide (refIntz_any 1 (by decide) (by decide) w4)
        have HQ0 := hide hq0
        clear hq0
        go_wp2_with fail
        refine (unhide HSI).mono ?_
        rintro e w5 ⟨rfl, hw⟩
        have hw := hw.symm
        subst hw
        clear HSI
        go_wp2_with fail
        refine (unhide HIN).mono ?_
        rintro e w6 ⟨b6, rfl, -, hr6, hb6⟩
        have HB6 := hide (bstep (unhide HB4) hb6)
        have HCM := hide (rcmp_any b3 0 b6 0 1 1 _ _ w6 ((unhide HR4).below hb6) hr6 (unhide HQC) ⟨by decide, by decide⟩ (by decide))
        have HL6 := hide ((unhide HL4).below hb6)
        have HR6 := hide ((unhide HR4).below hb6)
        clear hr6 hb6 HIN
        go_wp2_with fail
        refine (unhide HCM).mono ?_
        rintro e w7 ⟨rfl, hb7⟩
        have HB7 := hide (bstep (unhide HB6) hb7)
        have HL7 := hide ((unhide HL6).below hb7)
        have HR7 := hide ((unhide HR6).below hb7)
        obtain ⟨z, hz⟩ : ∃ z, Wd.sg ((pq (x, y)).num * ((1 : Int) : Rat).den) (((1 : Int) : Rat).num * (pq (x, y)).den) = z := ⟨_, rfl⟩
        rw [hz] at hab ⊢
        clear hb7 HCM hz
        by_cases hq1 : ((pq (x, y)).den : Int) < (pq (x, y)).num
        · rw [decide_eq_true hq1] at hab
          have HKE : Hid ((if chk (pqs ps) ≠ 0 then chk (pqs ps) else if (pq (x, y)).num ≤ 0 ∨ ((pq (x, y)).den : Int) < (pq (x, y)).num then 2 else 0) = 2) := by show _ = _; rw [unhide HK, if_neg (by simp), if_pos (Or.inr hq1)]
          have HNZ : Hid ((2 : Int) ≠ 0) := by show _ ≠ _; decide
          clear hq1
          have HBT := HB7
          go_wp2_with fail
          have HT0 : Hid (∀ W, Below w7.heap.size w7 W → (fun w' : World => w'.cell? ⟨gb, 0, none⟩ = some (.int .i64 x) ∧ w'.cell? ⟨gb, 1, none⟩ = some (.int .i64 y)) W) := fun W hW => unhide HBX W (bstep (unhide HBT) hW)
          refine wp_region_hold (fun w' : World => w'.cell? ⟨gb, 0, none⟩ = some (.int .i64 x) ∧ w'.cell? ⟨gb, 1, none⟩ = some (.int .i64 y)) (by kernel_rfl) ?_
          have bd0 : Below w7.heap.size w7 w7.drew := (Below.refl _ _).drew
          have hC0 : (fun w' : World => w'.cell? ⟨gb, 0, none⟩ = some (.int .i64 x) ∧ w'.cell? ⟨gb, 1, none⟩ = some (.int .i64 y)) w7.drew := unhide HT0 _ bd0
          refine wpHold_take (i := 0) (v := ?_) rfl (by kernel_rfl) (by kernel_rfl) (by kernel_rfl) (fun _ _ _ h => h) (Or.inl ⟨by rfl, ?_⟩) hC0 ?_
          rotate_left
          · intro w hSw; clear hSw; go_simp; (try with_reducible rfl)
          (try simp only [List.getElem_toArray, List.getElem_cons_succ, List.getElem_cons_zero])
          (try simp only [Act.put, List.setIfInBounds_toArray, List.set_cons_zero, List.set_cons_succ])
          refine wpHold_take (i := 2) (v := ?_) rfl (by kernel_rfl) (by kernel_rfl) (by kernel_rfl) (fun _ _ _ h => h) (Or.inl ⟨by rfl, ?_⟩) hC0 ?_
          rotate_left
          · intro w hSw; (try dsimp only at hSw); obtain ⟨z0, z1⟩ := hSw; go_simp; (try with_reducible rfl)
          (try simp only [List.getElem_toArray, List.getElem_cons_succ, List.getElem_cons_zero])
          (try simp only [Act.put, List.setIfInBounds_toArray, List.set_cons_zero, List.set_cons_succ])
          refine wpHold_one (k := 1) (by kernel_rfl) rfl (fun K hK => ?_)
          (try simp only [List.getElem_toArray, List.getElem_cons_succ, List.getElem_cons_zero])
          go_simp
          refine (law_any _ ps _ ((unhide HPS).below (bstep (unhide HBT) bd0)) (unhide HPL)).mono ?_
          rintro e x1 ⟨v1, rfl, hv1, hb1⟩
          have cc1 := bstep bd0 hb1
          have hC1 : (fun w' : World => w'.cell? ⟨gb, 0, none⟩ = some (.int .i64 x) ∧ w'.cell? ⟨gb, 1, none⟩ = some (.int .i64 y)) x1 := unhide HT0 _ cc1
          refine hK.out _ _ hC1 ?_
          clear hK K
          (try simp only [Act.put, List.setIfInBounds_toArray, List.set_cons_zero, List.set_cons_succ])
          refine wpHold_one (k := 3) (by kernel_rfl) rfl (fun K hK => ?_)
          (try simp only [List.getElem_toArray, List.getElem_cons_succ, List.getElem_cons_zero])
          go_simp
          refine (f_any x y (unhide HIX).1 (unhide HIX).2 (unhide HIY).1 (unhide HIY).2 _).mono ?_
          rintro e x2 ⟨v2, rfl, hv2, hb2⟩
          have cc2 := bstep cc1 hb2
          have hC2 : (fun w' : World => w'.cell? ⟨gb, 0, none⟩ = some (.int .i64 x) ∧ w'.cell? ⟨gb, 1, none⟩ = some (.int .i64 y)) x2 := unhide HT0 _ cc2
          refine hK.out _ _ hC2 ?_
          clear hK K
          (try simp only [Act.put, List.setIfInBounds_toArray, List.set_cons_zero, List.set_cons_succ])
          refine wpHold_one (k := 4) (by kernel_rfl) rfl (fun K hK => ?_)
          (try simp only [List.getElem_toArray, List.getElem_cons_succ, List.getElem_cons_zero])
          go_simp
          refine (least_any v1 v2 (pqs ps) (pq (x, y)) 1 _ (hv1.below hb2) hv2 (unhide HQ) (unhide HKK) (unhide HQC) (by decide)).mono ?_
          rintro e x3 ⟨nn, kk, rfl, hs, hb3⟩
          have cc3 := bstep cc2 hb3
          have hC3 : (fun w' : World => w'.cell? ⟨gb, 0, none⟩ = some (.int .i64 x) ∧ w'.cell? ⟨gb, 1, none⟩ = some (.int .i64 y)) x3 := unhide HT0 _ cc3
          refine hK.out _ _ hC3 ?_
          clear hK K
          (try simp only [Act.put, List.setIfInBounds_toArray, List.set_cons_zero, List.set_cons_succ])
          refine wpHold_take (i := 5) (v := ?_) rfl (by kernel_rfl) (by kernel_rfl) (by kernel_rfl) (fun _ _ _ h => h) (Or.inl ⟨by rfl, ?_⟩) hC3 ?_
          rotate_left
          · intro w hSw; clear hSw; go_simp; (try with_reducible rfl)
          (try simp only [List.getElem_toArray, List.getElem_cons_succ, List.getElem_cons_zero])
          (try simp only [Act.put, List.setIfInBounds_toArray, List.set_cons_zero, List.set_cons_succ])
          refine wpHold_take (i := 6) (v := ?_) rfl (by kernel_rfl) (by kernel_rfl) (by kernel_rfl) (fun _ _ _ h => h) (Or.inl ⟨by rfl, ?_⟩) hC3 ?_
          rotate_left
          · intro w hSw; clear hSw; go_simp; (try with_reducible rfl)
          (try simp only [List.getElem_toArray, List.getElem_cons_succ, List.getElem_cons_zero])
          (try simp only [Act.put, List.setIfInBounds_toArray, List.set_cons_zero, List.set_cons_succ])
          refine wpHold_take (i := 7) (v := ?_) rfl (by kernel_rfl) (by kernel_rfl) (by kernel_rfl) (fun _ _ _ h => h) (Or.inl ⟨by rfl, ?_⟩) hC3 ?_
          rotate_left
          · intro w hSw; clear hSw; go_simp; (try with_reducible rfl)
          (try simp only [List.getElem_toArray, List.getElem_cons_succ, List.getElem_cons_zero])
          (try simp only [Act.put, List.setIfInBounds_toArray, List.set_cons_zero, List.set_cons_succ])
          refine wpHold_one (k := 8) (by kernel_rfl) rfl (fun K hK => ?_)
          (try simp only [List.getElem_toArray, List.getElem_cons_succ, List.getElem_cons_zero])
          go_simp
          refine hK.out _ _ hC3 ?_
          clear hK K
          (try simp only [Act.put, List.setIfInBounds_toArray, List.set_cons_zero, List.set_cons_succ])
          refine wpHold_one (k := 9) (by kernel_rfl) rfl (fun K hK => ?_)
          (try simp only [List.getElem_toArray, List.getElem_cons_succ, List.getElem_cons_zero])
          go_simp
          refine hK.out _ _ hC3 ?_
          clear hK K
          (try simp only [Act.put, List.setIfInBounds_toArray, List.set_cons_zero, List.set_cons_succ])
          refine wpHold_done (by kernel_rfl) ?_ _
          have HB3 := hide (bstep (unhide HBT) cc3)
          have HG3 := hide ((unhide HGT).below (unhide HB3))
          obtain ⟨hk, hbad, -⟩ := hs
          obtain rfl : kk = 2 := by rw [hk]; exact unhide HKE
          obtain rfl := hbad (unhide HNZ)
          clear hbad
          rw [errV_not' (unhide HNZ)]
          have HW := hide (whole_bad' 0 2 (unhide HNZ) x3 (unhide HG3))
          clear hv1 hb1 cc1 hC1 hv2 hb2 cc2 hC2 hb3 cc3 hC3 hk bd0 hC0 HT0
          go_wp2_with fail
          refine (unhide HW).mono ?_
          rintro e x4 ⟨rfl, hb4⟩
          have HB4 := hide (bstep (unhide HB3) hb4)
          clear hb4 HW
          go_wp2
          go_ret
          exact ⟨rfl, bstep (unhide HB1) (unhide HB4)⟩
        · rw [decide_eq_false hq1] at hab
          have HKE : Hid ((if chk (pqs ps) ≠ 0 then chk (pqs ps) else if (pq (x, y)).num ≤ 0 ∨ ((pq (x, y)).den : Int) < (pq (x, y)).num then 2 else 0) = 0) := by
            show _ = _
            rw [unhide HK, if_neg (by simp), if_neg]
            rintro (h | h)
            · have := unhide HQ0; omega
            · exact hq1 h
          obtain ⟨n1, n2, n3, n4⟩ := chk_nn (unhide HK)
          have hpos : 0 < pq (x, y) := pos_of (by have := unhide HQ0; omega)
          obtain ⟨m, m1, m2, m3⟩ := least_ex hpos (by rw [n4]; exact le_one hq1)
          have HNN := hide n3
          have HM := hide m1
          have HML := hide m2
          have HMG := hide m3
          have HLE := hide (refLeast_any v2 (pqs ps) 1 m b3 (pq (x, y)) w7 (unhide HL7) (unhide HR7) (unhide HQ) (unhide HQC) (unhide HKL) m1 (fun x' hx' => by
            have := qsum_up n3 (i := x' + 1) (k := m) (by omega) (by omega)
            exact Rat.not_le.1 (fun h => absurd (Rat.le_trans h this) (Rat.not_le.2 m2))) m3 (by omega))
          clear hq1 n1 n2 n3 n4 hpos m1 m2 m3
          go_wp2_with fail
          refine (unhide HLE).mono ?_
          rintro e WT ⟨rfl, hbT⟩
          have HBT := hide (bstep (unhide HB7) hbT)
          clear hbT HLE
          go_wp2_with fail
          have HT0 : Hid (∀ W, Below WT.heap.size WT W → (fun w' : World => w'.cell? ⟨gb, 0, none⟩ = some (.int .i64 x) ∧ w'.cell? ⟨gb, 1, none⟩ = some (.int .i64 y)) W) := fun W hW => unhide HBX W (bstep (unhide HBT) hW)
          refine wp_region_hold (fun w' : World => w'.cell? ⟨gb, 0, none⟩ = some (.int .i64 x) ∧ w'.cell? ⟨gb, 1, none⟩ = some (.int .i64 y)) (by kernel_rfl) ?_
          have bd0 : Below WT.heap.size WT WT.drew := (Below.refl _ _).drew
          have hC0 : (fun w' : World => w'.cell? ⟨gb, 0, none⟩ = some (.int .i64 x) ∧ w'.cell? ⟨gb, 1, none⟩ = some (.int .i64 y)) WT.drew := unhide HT0 _ bd0
          refine wpHold_take (i := 0) (v := ?_) rfl (by kernel_rfl) (by kernel_rfl) (by kernel_rfl) (fun _ _ _ h => h) (Or.inl ⟨by rfl, ?_⟩) hC0 ?_
          rotate_left
          · intro w hSw; clear hSw; go_simp; (try with_reducible rfl)
          (try simp only [List.getElem_toArray, List.getElem_cons_succ, List.getElem_cons_zero])
          (try simp only [Act.put, List.setIfInBounds_toArray, List.set_cons_zero, List.set_cons_succ])
          refine wpHold_take (i := 2) (v := ?_) rfl (by kernel_rfl) (by kernel_rfl) (by kernel_rfl) (fun _ _ _ h => h) (Or.inl ⟨by rfl, ?_⟩) hC0 ?_
          rotate_left
          · intro w hSw; (try dsimp only at hSw); obtain ⟨z0, z1⟩ := hSw; go_simp; (try with_reducible rfl)
          (try simp only [List.getElem_toArray, List.getElem_cons_succ, List.getElem_cons_zero])
          (try simp only [Act.put, List.setIfInBounds_toArray, List.set_cons_zero, List.set_cons_succ])
          refine wpHold_one (k := 1) (by kernel_rfl) rfl (fun K hK => ?_)
          (try simp only [List.getElem_toArray, List.getElem_cons_succ, List.getElem_cons_zero])
          go_simp
          refine (law_any _ ps _ ((unhide HPS).below (bstep (unhide HBT) bd0)) (unhide HPL)).mono ?_
          rintro e x1 ⟨v1, rfl, hv1, hb1⟩
          have cc1 := bstep bd0 hb1
          have hC1 : (fun w' : World => w'.cell? ⟨gb, 0, none⟩ = some (.int .i64 x) ∧ w'.cell? ⟨gb, 1, none⟩ = some (.int .i64 y)) x1 := unhide HT0 _ cc1
          refine hK.out _ _ hC1 ?_
          clear hK K
          (try simp only [Act.put, List.setIfInBounds_toArray, List.set_cons_zero, List.set_cons_succ])
          refine wpHold_one (k := 3) (by kernel_rfl) rfl (fun K hK => ?_)
          (try simp only [List.getElem_toArray, List.getElem_cons_succ, List.getElem_cons_zero])
          go_simp
          refine (f_any x y (unhide HIX).1 (unhide HIX).2 (unhide HIY).1 (unhide HIY).2 _).mono ?_
          rintro e x2 ⟨v2, rfl, hv2, hb2⟩
          have cc2 := bstep cc1 hb2
          have hC2 : (fun w' : World => w'.cell? ⟨gb, 0, none⟩ = some (.int .i64 x) ∧ w'.cell? ⟨gb, 1, none⟩ = some (.int .i64 y)) x2 := unhide HT0 _ cc2
          refine hK.out _ _ hC2 ?_
          clear hK K
          (try simp only [Act.put, List.setIfInBounds_toArray, List.set_cons_zero, List.set_cons_succ])
          refine wpHold_one (k := 4) (by kernel_rfl) rfl (fun K hK => ?_)
          (try simp only [List.getElem_toArray, List.getElem_cons_succ, List.getElem_cons_zero])
          go_simp
          refine (least_any v1 v2 (pqs ps) (pq (x, y)) 1 _ (hv1.below hb2) hv2 (unhide HQ) (unhide HKK) (unhide HQC) (by decide)).mono ?_
          rintro e x3 ⟨nn, kk, rfl, hs, hb3⟩
          have cc3 := bstep cc2 hb3
          have hC3 : (fun w' : World => w'.cell? ⟨gb, 0, none⟩ = some (.int .i64 x) ∧ w'.cell? ⟨gb, 1, none⟩ = some (.int .i64 y)) x3 := unhide HT0 _ cc3
          refine hK.out _ _ hC3 ?_
          clear hK K
          (try simp only [Act.put, List.setIfInBounds_toArray, List.set_cons_zero, List.set_cons_succ])
          refine wpHold_take (i := 5) (v := ?_) rfl (by kernel_rfl) (by kernel_rfl) (by kernel_rfl) (fun _ _ _ h => h) (Or.inl ⟨by rfl, ?_⟩) hC3 ?_
          rotate_left
          · intro w hSw; clear hSw; go_simp; (try with_reducible rfl)
          (try simp only [List.getElem_toArray, List.getElem_cons_succ, List.getElem_cons_zero])
          (try simp only [Act.put, List.setIfInBounds_toArray, List.set_cons_zero, List.set_cons_succ])
          refine wpHold_take (i := 6) (v := ?_) rfl (by kernel_rfl) (by kernel_rfl) (by kernel_rfl) (fun _ _ _ h => h) (Or.inl ⟨by rfl, ?_⟩) hC3 ?_
          rotate_left
          · intro w hSw; clear hSw; go_simp; (try with_reducible rfl)
          (try simp only [List.getElem_toArray, List.getElem_cons_succ, List.getElem_cons_zero])
          (try simp only [Act.put, List.setIfInBounds_toArray, List.set_cons_zero, List.set_cons_succ])
          refine wpHold_take (i := 7) (v := ?_) rfl (by kernel_rfl) (by kernel_rfl) (by kernel_rfl) (fun _ _ _ h => h) (Or.inl ⟨by rfl, ?_⟩) hC3 ?_
          rotate_left
          · intro w hSw; clear hSw; go_simp; (try with_reducible rfl)
          (try simp only [List.getElem_toArray, List.getElem_cons_succ, List.getElem_cons_zero])
          (try simp only [Act.put, List.setIfInBounds_toArray, List.set_cons_zero, List.set_cons_succ])
          refine wpHold_one (k := 8) (by kernel_rfl) rfl (fun K hK => ?_)
          (try simp only [List.getElem_toArray, List.getElem_cons_succ, List.getElem_cons_zero])
          go_simp
          refine hK.out _ _ hC3 ?_
          clear hK K
          (try simp only [Act.put, List.setIfInBounds_toArray, List.set_cons_zero, List.set_cons_succ])
          refine wpHold_one (k := 9) (by kernel_rfl) rfl (fun K hK => ?_)
          (try simp only [List.getElem_toArray, List.getElem_cons_succ, List.getElem_cons_zero])
          go_simp
          refine hK.out _ _ hC3 ?_
          clear hK K
          (try simp only [Act.put, List.setIfInBounds_toArray, List.set_cons_zero, List.set_cons_succ])
          refine wpHold_done (by kernel_rfl) ?_ _
          have HB3 := hide (bstep (unhide HBT) cc3)
          have HG3 := hide ((unhide HGT).below (unhide HB3))
          obtain ⟨hk, -, hgood⟩ := hs
          obtain rfl : kk = 0 := by rw [hk]; exact unhide HKE
          obtain ⟨mm, rfl, hm1, hm2, hm3⟩ := hgood rfl
          obtain rfl : mm = m := least_one (unhide HNN) hm1 (unhide HM) hm2 hm3 (unhide HML) (unhide HMG)
          rw [errV_zero']
          have HW := hide (whole_good' (mm : Int) x3)
          clear hv1 hb1 cc1 hC1 hv2 hb2 cc2 hC2 hb3 cc3 hC3 hk bd0 hC0 HT0
          go_wp2_with fail
          refine (unhide HW).mono ?_
          rintro e x4 ⟨rfl, hb4⟩
          have HB4 := hide (bstep (unhide HB3) hb4)
          clear hb4 HW
          go_wp2
          go_ret
          exact ⟨rfl, bstep (unhide HB1) (unhide HB4)⟩
    · have hkb : (k == 0) = false := by simpa using hk0
      have HKE : Hid ((if chk (pqs ps) ≠ 0 then chk (pqs ps) else if (pq (x, y)).num ≤ 0 ∨ ((pq (x, y)).den : Int) < (pq (x, y)).num then 2 else 0) = k) := by show _ = _; rw [unhide HK, if_pos hk0]
      have HNZ : Hid (k ≠ 0) := hk0
      clear hk0
      have HBT := HB4
      go_wp2_with fail
      have HT0 : Hid (∀ W, Below w4.heap.size w4 W → (fun w' : World => w'.cell? ⟨gb, 0, none⟩ = some (.int .i64 x) ∧ w'.cell? ⟨gb, 1, none⟩ = some (.int .i64 y)) W) := fun W hW => unhide HBX W (bstep (unhide HBT) hW)
      refine wp_region_hold (fun w' : World => w'.cell? ⟨gb, 0, none⟩ = some (.int .i64 x) ∧ w'.cell? ⟨gb, 1, none⟩ = some (.int .i64 y)) (by kernel_rfl) ?_
      have bd0 : Below w4.heap.size w4 w4.drew := (Below.refl _ _).drew
      have hC0 : (fun w' : World => w'.cell? ⟨gb, 0, none⟩ = some (.int .i64 x) ∧ w'.cell? ⟨gb, 1, none⟩ = some (.int .i64 y)) w4.drew := unhide HT0 _ bd0
      refine wpHold_take (i := 0) (v := ?_) rfl (by kernel_rfl) (by kernel_rfl) (by kernel_rfl) (fun _ _ _ h => h) (Or.inl ⟨by rfl, ?_⟩) hC0 ?_
      rotate_left
      · intro w hSw; clear hSw; go_simp; (try with_reducible rfl)
      (try simp only [List.getElem_toArray, List.getElem_cons_succ, List.getElem_cons_zero])
      (try simp only [Act.put, List.setIfInBounds_toArray, List.set_cons_zero, List.set_cons_succ])
      refine wpHold_take (i := 2) (v := ?_) rfl (by kernel_rfl) (by kernel_rfl) (by kernel_rfl) (fun _ _ _ h => h) (Or.inl ⟨by rfl, ?_⟩) hC0 ?_
      rotate_left
      · intro w hSw; (try dsimp only at hSw); obtain ⟨z0, z1⟩ := hSw; go_simp; (try with_reducible rfl)
      (try simp only [List.getElem_toArray, List.getElem_cons_succ, List.getElem_cons_zero])
      (try simp only [Act.put, List.setIfInBounds_toArray, List.set_cons_zero, List.set_cons_succ])
      refine wpHold_one (k := 1) (by kernel_rfl) rfl (fun K hK => ?_)
      (try simp only [List.getElem_toArray, List.getElem_cons_succ, List.getElem_cons_zero])
      go_simp
      refine (law_any _ ps _ ((unhide HPS).below (bstep (unhide HBT) bd0)) (unhide HPL)).mono ?_
      rintro e x1 ⟨v1, rfl, hv1, hb1⟩
      have cc1 := bstep bd0 hb1
      have hC1 : (fun w' : World => w'.cell? ⟨gb, 0, none⟩ = some (.int .i64 x) ∧ w'.cell? ⟨gb, 1, none⟩ = some (.int .i64 y)) x1 := unhide HT0 _ cc1
      refine hK.out _ _ hC1 ?_
      clear hK K
      (try simp only [Act.put, List.setIfInBounds_toArray, List.set_cons_zero, List.set_cons_succ])
      refine wpHold_one (k := 3) (by kernel_rfl) rfl (fun K hK => ?_)
      (try simp only [List.getElem_toArray, List.getElem_cons_succ, List.getElem_cons_zero])
      go_simp
      refine (f_any x y (unhide HIX).1 (unhide HIX).2 (unhide HIY).1 (unhide HIY).2 _).mono ?_
      rintro e x2 ⟨v2, rfl, hv2, hb2⟩
      have cc2 := bstep cc1 hb2
      have hC2 : (fun w' : World => w'.cell? ⟨gb, 0, none⟩ = some (.int .i64 x) ∧ w'.cell? ⟨gb, 1, none⟩ = some (.int .i64 y)) x2 := unhide HT0 _ cc2
      refine hK.out _ _ hC2 ?_
      clear hK K
      (try simp only [Act.put, List.setIfInBounds_toArray, List.set_cons_zero, List.set_cons_succ])
      refine wpHold_one (k := 4) (by kernel_rfl) rfl (fun K hK => ?_)
      (try simp only [List.getElem_toArray, List.getElem_cons_succ, List.getElem_cons_zero])
      go_simp
      refine (least_any v1 v2 (pqs ps) (pq (x, y)) 1 _ (hv1.below hb2) hv2 (unhide HQ) (unhide HKK) (unhide HQC) (by decide)).mono ?_
      rintro e x3 ⟨nn, kk, rfl, hs, hb3⟩
      have cc3 := bstep cc2 hb3
      have hC3 : (fun w' : World => w'.cell? ⟨gb, 0, none⟩ = some (.int .i64 x) ∧ w'.cell? ⟨gb, 1, none⟩ = some (.int .i64 y)) x3 := unhide HT0 _ cc3
      refine hK.out _ _ hC3 ?_
      clear hK K
      (try simp only [Act.put, List.setIfInBounds_toArray, List.set_cons_zero, List.set_cons_succ])
      refine wpHold_take (i := 5) (v := ?_) rfl (by kernel_rfl) (by kernel_rfl) (by kernel_rfl) (fun _ _ _ h => h) (Or.inl ⟨by rfl, ?_⟩) hC3 ?_
      rotate_left
      · intro w hSw; clear hSw; go_simp; (try with_reducible rfl)
      (try simp only [List.getElem_toArray, List.getElem_cons_succ, List.getElem_cons_zero])
      (try simp only [Act.put, List.setIfInBounds_toArray, List.set_cons_zero, List.set_cons_succ])
      refine wpHold_take (i := 6) (v := ?_) rfl (by kernel_rfl) (by kernel_rfl) (by kernel_rfl) (fun _ _ _ h => h) (Or.inl ⟨by rfl, ?_⟩) hC3 ?_
      rotate_left
      · intro w hSw; clear hSw; go_simp; (try with_reducible rfl)
      (try simp only [List.getElem_toArray, List.getElem_cons_succ, List.getElem_cons_zero])
      (try simp only [Act.put, List.setIfInBounds_toArray, List.set_cons_zero, List.set_cons_succ])
      refine wpHold_take (i := 7) (v := ?_) rfl (by kernel_rfl) (by kernel_rfl) (by kernel_rfl) (fun _ _ _ h => h) (Or.inl ⟨by rfl, ?_⟩) hC3 ?_
      rotate_left
      · intro w hSw; clear hSw; go_simp; (try with_reducible rfl)
      (try simp only [List.getElem_toArray, List.getElem_cons_succ, List.getElem_cons_zero])
      (try simp only [Act.put, List.setIfInBounds_toArray, List.set_cons_zero, List.set_cons_succ])
      refine wpHold_one (k := 8) (by kernel_rfl) rfl (fun K hK => ?_)
      (try simp only [List.getElem_toArray, List.getElem_cons_succ, List.getElem_cons_zero])
      go_simp
      refine hK.out _ _ hC3 ?_
      clear hK K
      (try simp only [Act.put, List.setIfInBounds_toArray, List.set_cons_zero, List.set_cons_succ])
      refine wpHold_one (k := 9) (by kernel_rfl) rfl (fun K hK => ?_)
      (try simp only [List.getElem_toArray, List.getElem_cons_succ, List.getElem_cons_zero])
      go_simp
      refine hK.out _ _ hC3 ?_
      clear hK K
      (try simp only [Act.put, List.setIfInBounds_toArray, List.set_cons_zero, List.set_cons_succ])
      refine wpHold_done (by kernel_rfl) ?_ _
      have HB3 := hide (bstep (unhide HBT) cc3)
      have HG3 := hide ((unhide HGT).below (unhide HB3))
      obtain ⟨hk, hbad, -⟩ := hs
      obtain rfl : k = kk := by rw [hk]; exact (unhide HKE).symm
      obtain rfl := hbad (unhide HNZ)
      clear hbad
      rw [errV_not' (unhide HNZ)]
      have HW := hide (whole_bad' 0 k (unhide HNZ) x3 (unhide HG3))
      clear hv1 hb1 cc1 hC1 hv2 hb2 cc2 hC2 hb3 cc3 hC3 hk bd0 hC0 HT0
      go_wp2_with fail
      refine (unhide HW).mono ?_
      rintro e x4 ⟨rfl, hb4⟩
      have HB4 := hide (bstep (unhide HB3) hb4)
      clear hb4 HW
      go_wp2
      go_ret
      exact ⟨rfl, bstep (unhide HB1) (unhide HB4)⟩
end Go.Proofs.YtnmmfcoclpapdaaGreatDoor
