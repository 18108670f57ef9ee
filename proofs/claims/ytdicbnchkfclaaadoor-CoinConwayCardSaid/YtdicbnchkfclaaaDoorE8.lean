/- CoinConway: the law's walk. -/
import Derived.Test.YtdicbnchkfclaaaDoorE7
import Derived.Test.YtdicbnchkfclaaaDoorW25
import Derived.Test.YtdicbnchkfclaaaDoorA14
import Derived.Test.YtdicbnchkfclaaaDoorA16
namespace Go.Proofs.YtdicbnchkfclaaaDoor
open Go.RowKit Go.Sort Go.Shelf

theorem pqs_RSc {ps : List (Int × Int)} (h : ∀ j, j < ps.length → I64 (ps[j]!).1 ∧ I64 (ps[j]!).2) : ∀ j, j < (pqs ps).length → RS (pqs ps)[j]! 1 := fun j hj => by
  rw [pqs_length] at hj
  have e : (pqs ps)[j]! = pq ps[j]! := by simp [pqs, hj]
  rw [e]
  exact pq_RS (h j hj).1 (h j hj).2
theorem sign_pos {q : Rat} (h : 0 < q) : q.num.sign = 1 := by
  refine Int.sign_eq_one_of_pos ?_
  rw [Rat.lt_iff] at h
  have : (0 : Int) * (q.den : Int) < q.num * ((1 : Nat) : Int) := h
  omega

set_option maxHeartbeats 8000000 in
set_option maxRecDepth 100000 in
set_option linter.unusedSimpArgs false in
theorem coinConway_any (v0 : Value) (ps : List (Int × Int)) (a a' : Option Addr) (M c N c' : Nat) (g f : Nat → Int) (w : World) (htab : Tab w) (hp : PairsAre w v0 ps) (ha : IRow w a M c g) (hb' : IRow w a' N c' f) :
    Calls Tryd.prog 7 #[v0, .slice a M c, .slice a' N c'] w fun e w' => e = .returned (.bool true) ∧ Below w.heap.size w w' := by
  have HPA := hide hp
  obtain ⟨a0, c0, rfl, _, _, hI, _⟩ := hp
  by_cases h5 : 5 < ps.length
  · have d1 : decide ((5 : Int) < (ps.length : Int)) = true := decide_eq_true (by omega)
    go_enter Tryd.func7, Tryd.ntmps7
    go_wp2
    go_ret
    exact ⟨rfl, Below.refl _ _⟩
  have d1 : decide ((5 : Int) < (ps.length : Int)) = false := decide_eq_false (by omega)
  by_cases h6 : 12 < M
  · have d2 : decide ((12 : Int) < (M : Int)) = true := decide_eq_true (by omega)
    go_enter Tryd.func7, Tryd.ntmps7
    go_wp2
    go_ret
    exact ⟨rfl, Below.refl _ _⟩
  have d2 : decide ((12 : Int) < (M : Int)) = false := decide_eq_false (by omega)
  by_cases h7 : 12 < N
  · have d3 : decide ((12 : Int) < (N : Int)) = true := decide_eq_true (by omega)
    go_enter Tryd.func7, Tryd.ntmps7
    go_wp2
    go_ret
    exact ⟨rfl, Below.refl _ _⟩
  have d3 : decide ((12 : Int) < (N : Int)) = false := decide_eq_false (by omega)
  have hq := pqs_RSc hI
  have hl : (pqs ps).length ≤ 10 := by rw [pqs_length]; omega
  have HFS := hide (fs_any _ ps w (unhide HPA) (by omega))
  generalize pqs ps = qs at *
  have KKe : KK = 1099511627776 := rfl
  have HTAB := hide htab
  clear HPA hI htab h5 h6 h7
  go_enter Tryd.func7, Tryd.ntmps7
  go_wp2_with fail
  refine (unhide HFS).mono ?_
  rintro e w1 ⟨v7, rfl, hL, hb1⟩
  have HBW := hide hb1
  have HB_1 := hide (Below.refl w1.heap.size w1)
  have r1 := ha.below hb1
  have r2 := hb'.below hb1
  have HLK : Hid (∀ W v v' q, RatIs W v q → RatIs W v' q → RS q 2000 → Below w1.heap.size w1 W → Calls Tryd.prog 14 #[v, v'] W fun e w' => e = .returned (.bool true) ∧ Below W.heap.size W w') := fun W v v' q h h' r hW => like_any v v' q W h h' 2000 r (by rw [KKe]; omega) (tab_below (unhide HTAB) (below_step (unhide HBW) hW))
  have HHA : Hid (∀ W, Below w1.heap.size w1 W → Calls Tryd.prog 27 #[] W fun e w' => e = .returned (.bool true) ∧ Below W.heap.size W w') := fun W hW => half_any W (tab_below (unhide HTAB) (below_step (unhide HBW) hW))
  clear HFS ha hb' hb1
  by_cases good : chk qs = 0 ∧ GoodW qs M g
  · have HWA : Hid (∀ W, Below w1.heap.size w1 W → Calls Tryd.prog 30 #[v7, .slice a M c] W fun e w' => ∃ v, e = .returned (.tuple #[v, .nilIface]) ∧ RatIs w' v (Kmp.cw g (pOf qs) M) ∧ Below W.heap.size W w') := fun W hW => wait_ok v7 qs a M c g W (hL.below hW) (r1.below hW) hq hl good.1 good.2
    have HTI : Hid (∀ W, Below w1.heap.size w1 W → Calls Tryd.prog 31 #[v7, .slice a M c] W fun e w' => ∃ v, e = .returned (.tuple #[v, .nilIface]) ∧ RatIs w' v (Kmp.cw g (pOf qs) M) ∧ Below W.heap.size W w') := fun W hW => times_ok v7 qs a M c g W (hL.below hW) (r1.below hW) hq hl good.1 good.2
    have HRW : Hid (RS (Kmp.cw g (pOf qs) M) 2000) := (cw_RS hq good.2 (Nat.le_refl _)).mono (by omega)
    by_cases fine : GoodW qs N f ∧ ¬ StIn M N g f ∧ ¬ StIn N M f g
    · have HF1 : Hid (∀ W, Below w1.heap.size w1 W → Calls Tryd.prog 32 #[v7, .slice a M c, .slice a' N c'] W fun e w' => ∃ v, e = .returned (.tuple #[v, .nilIface]) ∧ RatIs w' v ((dl f g (pOf qs) N M) / ((dl f g (pOf qs) N M) + (dl g f (pOf qs) M N))) ∧ Below W.heap.size W w') := fun W hW => first_ok v7 qs a a' M c N c' g f W (hL.below hW) (r1.below hW) (r2.below hW) hq hl good.1 good.2 fine.1 fine.2.1 fine.2.2
      have HF2 : Hid (∀ W, Below w1.heap.size w1 W → Calls Tryd.prog 32 #[v7, .slice a' N c', .slice a M c] W fun e w' => ∃ v, e = .returned (.tuple #[v, .nilIface]) ∧ RatIs w' v ((dl g f (pOf qs) M N) / ((dl g f (pOf qs) M N) + (dl f g (pOf qs) N M))) ∧ Below W.heap.size W w') := fun W hW => first_ok v7 qs a' a N c' M c f g W (hL.below hW) (r2.below hW) (r1.below hW) hq hl good.1 fine.1 good.2 fine.2.2 fine.2.1
      have HSH := hide (Kmp.shares (dl_pos good.1 fine.1 fine.2.2) (dl_pos good.1 good.2 fine.2.1))
      have rx := dl_RS hq fine.1 good.2
      have ry := dl_RS hq good.2 fine.1
      have nz1 : ((dl f g (pOf qs) N M) + (dl g f (pOf qs) M N)).num ≠ 0 := num_of_pos (by have h1 := dl_pos good.1 fine.1 fine.2.2; have h2 := dl_pos good.1 good.2 fine.2.1; grind)
      have nz2 : ((dl g f (pOf qs) M N) + (dl f g (pOf qs) N M)).num ≠ 0 := num_of_pos (by have h1 := dl_pos good.1 fine.1 fine.2.2; have h2 := dl_pos good.1 good.2 fine.2.1; grind)
      have HRP : Hid (RS ((dl f g (pOf qs) N M) / ((dl f g (pOf qs) N M) + (dl g f (pOf qs) M N))) 2000) := (RS.div' rx (RS.add rx ry) nz1).mono (by omega)
      have HRQ : Hid (RS ((dl g f (pOf qs) M N) / ((dl g f (pOf qs) M N) + (dl f g (pOf qs) N M))) 2000) := (RS.div' ry (RS.add ry rx) nz2).mono (by omega)
      have HR1 : Hid (RS 1 2000) := one_RS'.mono (by omega)
      have HADD : Hid (∀ W v v' q q', RatIs W v q → RatIs W v' q' → RS q 2000 → RS q' 2000 → Calls Tryd.prog 15 #[v, v'] W fun e w' => ∃ v, e = .returned v ∧ RatIs w' v (q + q') ∧ Below W.heap.size W w') := fun W v v' q q' h h' r r' => addR_any v v' q q' W h h' 2000 r r' (by rw [KKe]; omega)
      have HWH : Hid (∀ W, Calls Tryd.prog 17 #[.int .i64 1] W fun e w' => ∃ v, e = .returned v ∧ RatIs w' v 1 ∧ Below W.heap.size W w') := fun W => whole_any 1 (by decide) (by decide) W
      clear rx ry nz1 nz2 fine good r1 r2 hq hL hl
      go_wp2_with fail
      refine (unhide HWA _ (unhide HB_1)).mono ?_
      rintro e w_101 ⟨v8, rfl, hv8, hbx⟩
      obtain ⟨t8, rfl, hr_101⟩ := tri_of hv8
      simp only [Tri.val]
      have HG_b8 := hide (below_step (unhide HB_1) hbx).size
      have hb_101 := below_step hbx (alloc_below w_101 (.cells #[.bool t8.s, .slice t8.a1 t8.n1 t8.c1, .slice t8.a2 t8.n2 t8.c2] 36))
      have HB_102 := hide (below_step (unhide HB_1) hb_101)
      clear HB_1
      have HX_b8_101 := hide (BoxIs.new hr_101)
      obtain ⟨Wb8, hW_101⟩ : ∃ W, w_101.alloc (.cells #[.bool t8.s, .slice t8.a1 t8.n1 t8.c1, .slice t8.a2 t8.n2 t8.c2] 36) = W := ⟨_, rfl⟩
      obtain ⟨b8, hc_101⟩ : ∃ b, w_101.heap.size = b := ⟨_, rfl⟩
      rw [hW_101] at HB_102 HX_b8_101
      rw [hc_101] at HX_b8_101 HG_b8
      clear hv8 hr_101 hbx hb_101
      go_wp2_with fail
      clear hW_101 hc_101
      refine (unhide HTI _ (unhide HB_102)).mono ?_
      rintro e w_103 ⟨v10, rfl, hv10, hbx⟩
      obtain ⟨t10, rfl, hr_103⟩ := tri_of hv10
      simp only [Tri.val]
      have HL_b8_b10 := hide (Nat.lt_of_lt_of_le (unhide HX_b8_101).lt hbx.size)
      have HG_b10 := hide (below_step (unhide HB_102) hbx).size
      have hb_103 := below_step hbx (alloc_below w_103 (.cells #[.bool t10.s, .slice t10.a1 t10.n1 t10.c1, .slice t10.a2 t10.n2 t10.c2] 36))
      have HB_104 := hide (below_step (unhide HB_102) hb_103)
      have HX_b8_104 := hide ((unhide HX_b8_101).keep hb_103)
      clear HB_102 HX_b8_101
      have HX_b10_103 := hide (BoxIs.new hr_103)
      obtain ⟨Wb10, hW_103⟩ : ∃ W, w_103.alloc (.cells #[.bool t10.s, .slice t10.a1 t10.n1 t10.c1, .slice t10.a2 t10.n2 t10.c2] 36) = W := ⟨_, rfl⟩
      obtain ⟨b10, hc_103⟩ : ∃ b, w_103.heap.size = b := ⟨_, rfl⟩
      rw [hW_103] at HB_104 HX_b8_104 HX_b10_103
      rw [hc_103] at HX_b10_103 HL_b8_b10 HG_b10
      clear hv10 hr_103 hbx hb_103
      go_wp2_with fail
      clear hW_103 hc_103
      have HCC : Hid (∀ W, Below Wb10.heap.size Wb10 W → (fun w' : World => (w'.cell? ⟨b8, 0, none⟩ = some (.bool t8.s) ∧ w'.cell? ⟨b8, 1, none⟩ = some (.slice t8.a1 t8.n1 t8.c1) ∧ w'.cell? ⟨b8, 2, none⟩ = some (.slice t8.a2 t8.n2 t8.c2)) ∧ w'.cell? ⟨b10, 0, none⟩ = some (.bool t10.s) ∧ w'.cell? ⟨b10, 1, none⟩ = some (.slice t10.a1 t10.n1 t10.c1) ∧ w'.cell? ⟨b10, 2, none⟩ = some (.slice t10.a2 t10.n2 t10.c2)) W) := fun W hW => ⟨(unhide HX_b8_104).cells W hW, (unhide HX_b10_103).cells W hW⟩
      refine wp_region_hold (fun w' : World => (w'.cell? ⟨b8, 0, none⟩ = some (.bool t8.s) ∧ w'.cell? ⟨b8, 1, none⟩ = some (.slice t8.a1 t8.n1 t8.c1) ∧ w'.cell? ⟨b8, 2, none⟩ = some (.slice t8.a2 t8.n2 t8.c2)) ∧ w'.cell? ⟨b10, 0, none⟩ = some (.bool t10.s) ∧ w'.cell? ⟨b10, 1, none⟩ = some (.slice t10.a1 t10.n1 t10.c1) ∧ w'.cell? ⟨b10, 2, none⟩ = some (.slice t10.a2 t10.n2 t10.c2)) (by kernel_rfl) ?_
      have bd0 : Below Wb10.heap.size Wb10 Wb10.drew := (Below.refl _ _).drew
      have hC0 : (fun w' : World => (w'.cell? ⟨b8, 0, none⟩ = some (.bool t8.s) ∧ w'.cell? ⟨b8, 1, none⟩ = some (.slice t8.a1 t8.n1 t8.c1) ∧ w'.cell? ⟨b8, 2, none⟩ = some (.slice t8.a2 t8.n2 t8.c2)) ∧ w'.cell? ⟨b10, 0, none⟩ = some (.bool t10.s) ∧ w'.cell? ⟨b10, 1, none⟩ = some (.slice t10.a1 t10.n1 t10.c1) ∧ w'.cell? ⟨b10, 2, none⟩ = some (.slice t10.a2 t10.n2 t10.c2)) Wb10.drew := unhide HCC _ bd0
      refine wpHold_one (k := 0) (by kernel_rfl) rfl (fun K hK => ?_)
      (try simp only [List.getElem_toArray, List.getElem_cons_succ, List.getElem_cons_zero])
      go_simp
      refine (unhide HHA _ (below_step (unhide HB_104) bd0)).mono ?_
      rintro e xw_1 ⟨rfl, hb_1⟩
      have cc_1 := below_step bd0 hb_1
      have hC_1 : (fun w' : World => (w'.cell? ⟨b8, 0, none⟩ = some (.bool t8.s) ∧ w'.cell? ⟨b8, 1, none⟩ = some (.slice t8.a1 t8.n1 t8.c1) ∧ w'.cell? ⟨b8, 2, none⟩ = some (.slice t8.a2 t8.n2 t8.c2)) ∧ w'.cell? ⟨b10, 0, none⟩ = some (.bool t10.s) ∧ w'.cell? ⟨b10, 1, none⟩ = some (.slice t10.a1 t10.n1 t10.c1) ∧ w'.cell? ⟨b10, 2, none⟩ = some (.slice t10.a2 t10.n2 t10.c2)) xw_1 := unhide HCC _ cc_1
      refine hK.out _ _ hC_1 ?_
      clear hK K
      (try simp only [Act.put, List.setIfInBounds_toArray, List.set_cons_zero, List.set_cons_succ])
      refine wpHold_take (i := 1) (v := ?_) rfl (by kernel_rfl) (by kernel_rfl) (by kernel_rfl) (fun _ _ _ h => h) (Or.inl ⟨by rfl, ?_⟩) hC_1 ?_
      rotate_left
      · intro w hSw; clear hSw; go_simp; (try with_reducible rfl)
      (try simp only [List.getElem_toArray, List.getElem_cons_succ, List.getElem_cons_zero])
      (try simp only [Act.put, List.setIfInBounds_toArray, List.set_cons_zero, List.set_cons_succ])
      refine wpHold_take (i := 2) (v := ?_) rfl (by kernel_rfl) (by kernel_rfl) (by kernel_rfl) (fun _ _ _ h => h) (Or.inl ⟨by rfl, ?_⟩) hC_1 ?_
      rotate_left
      · intro w hSw; clear hSw; go_simp; (try with_reducible rfl)
      (try simp only [List.getElem_toArray, List.getElem_cons_succ, List.getElem_cons_zero])
      (try simp only [Act.put, List.setIfInBounds_toArray, List.set_cons_zero, List.set_cons_succ])
      refine wpHold_take (i := 3) (v := ?_) rfl (by kernel_rfl) (by kernel_rfl) (by kernel_rfl) (fun _ _ _ h => h) (Or.inl ⟨by rfl, ?_⟩) hC_1 ?_
      rotate_left
      · intro w hSw; clear hSw; go_simp; (try with_reducible rfl)
      (try simp only [List.getElem_toArray, List.getElem_cons_succ, List.getElem_cons_zero])
      (try simp only [Act.put, List.setIfInBounds_toArray, List.set_cons_zero, List.set_cons_succ])
      refine wpHold_take (i := 4) (v := ?_) rfl (by kernel_rfl) (by kernel_rfl) (by kernel_rfl) (fun _ _ _ h => h) (Or.inl ⟨by rfl, ?_⟩) hC_1 ?_
      rotate_left
      · intro w hSw; clear hSw; go_simp; (try with_reducible rfl)
      (try simp only [List.getElem_toArray, List.getElem_cons_succ, List.getElem_cons_zero])
      (try simp only [Act.put, List.setIfInBounds_toArray, List.set_cons_zero, List.set_cons_succ])
      refine wpHold_take (i := 5) (v := ?_) rfl (by kernel_rfl) (by kernel_rfl) (by kernel_rfl) (fun _ _ _ h => h) (Or.inl ⟨by rfl, ?_⟩) hC_1 ?_
      rotate_left
      · intro w hSw; clear hSw; go_simp; (try with_reducible rfl)
      (try simp only [List.getElem_toArray, List.getElem_cons_succ, List.getElem_cons_zero])
      (try simp only [Act.put, List.setIfInBounds_toArray, List.set_cons_zero, List.set_cons_succ])
      refine wpHold_take (i := 6) (v := ?_) rfl (by kernel_rfl) (by kernel_rfl) (by kernel_rfl) (fun _ _ _ h => h) (Or.inl ⟨by rfl, ?_⟩) hC_1 ?_
      rotate_left
      · intro w hSw; clear hSw; go_simp; (try with_reducible rfl)
      (try simp only [List.getElem_toArray, List.getElem_cons_succ, List.getElem_cons_zero])
      (try simp only [Act.put, List.setIfInBounds_toArray, List.set_cons_zero, List.set_cons_succ])
      refine wpHold_take (i := 7) (v := ?_) rfl (by kernel_rfl) (by kernel_rfl) (by kernel_rfl) (fun _ _ _ h => h) (Or.inl ⟨by rfl, ?_⟩) hC_1 ?_
      rotate_left
      · intro w hSw; clear hSw; go_simp; (try with_reducible rfl)
      (try simp only [List.getElem_toArray, List.getElem_cons_succ, List.getElem_cons_zero])
      (try simp only [Act.put, List.setIfInBounds_toArray, List.set_cons_zero, List.set_cons_succ])
      refine wpHold_take (i := 8) (v := ?_) rfl (by kernel_rfl) (by kernel_rfl) (by kernel_rfl) (fun _ _ _ h => h) (Or.inl ⟨by rfl, ?_⟩) hC_1 ?_
      rotate_left
      · intro w hSw; clear hSw; go_simp; (try with_reducible rfl)
      (try simp only [List.getElem_toArray, List.getElem_cons_succ, List.getElem_cons_zero])
      (try simp only [Act.put, List.setIfInBounds_toArray, List.set_cons_zero, List.set_cons_succ])
      refine wpHold_take (i := 9) (v := ?_) rfl (by kernel_rfl) (by kernel_rfl) (by kernel_rfl) (fun _ _ _ h => h) (Or.inl ⟨by rfl, ?_⟩) hC_1 ?_
      rotate_left
      · intro w hSw; clear hSw; go_simp; (try with_reducible rfl)
      (try simp only [List.getElem_toArray, List.getElem_cons_succ, List.getElem_cons_zero])
      (try simp only [Act.put, List.setIfInBounds_toArray, List.set_cons_zero, List.set_cons_succ])
      refine wpHold_take (i := 10) (v := ?_) rfl (by kernel_rfl) (by kernel_rfl) (by kernel_rfl) (fun _ _ _ h => h) (Or.inl ⟨by rfl, ?_⟩) hC_1 ?_
      rotate_left
      · intro w hSw; (try dsimp only at hSw); obtain ⟨⟨z0, z1, z2⟩, z3, z4, z5⟩ := hSw; go_simp; (try with_reducible rfl)
      (try simp only [List.getElem_toArray, List.getElem_cons_succ, List.getElem_cons_zero])
      (try simp only [Act.put, List.setIfInBounds_toArray, List.set_cons_zero, List.set_cons_succ])
      refine wpHold_take (i := 11) (v := ?_) rfl (by kernel_rfl) (by kernel_rfl) (by kernel_rfl) (fun _ _ _ h => h) (Or.inl ⟨by rfl, ?_⟩) hC_1 ?_
      rotate_left
      · intro w hSw; (try dsimp only at hSw); obtain ⟨⟨z0, z1, z2⟩, z3, z4, z5⟩ := hSw; go_simp; (try with_reducible rfl)
      (try simp only [List.getElem_toArray, List.getElem_cons_succ, List.getElem_cons_zero])
      (try simp only [Act.put, List.setIfInBounds_toArray, List.set_cons_zero, List.set_cons_succ])
      refine wpHold_one (k := 12) (by kernel_rfl) rfl (fun K hK => ?_)
      (try simp only [List.getElem_toArray, List.getElem_cons_succ, List.getElem_cons_zero])
      go_simp
      refine (unhide HLK _ _ _ _ ((unhide HX_b8_104).2.below cc_1) ((unhide HX_b10_103).2.below cc_1) (unhide HRW) (below_step (unhide HB_104) cc_1)).mono ?_
      rintro e xw_2 ⟨rfl, hb_2⟩
      have cc_2 := below_step cc_1 hb_2
      have hC_2 : (fun w' : World => (w'.cell? ⟨b8, 0, none⟩ = some (.bool t8.s) ∧ w'.cell? ⟨b8, 1, none⟩ = some (.slice t8.a1 t8.n1 t8.c1) ∧ w'.cell? ⟨b8, 2, none⟩ = some (.slice t8.a2 t8.n2 t8.c2)) ∧ w'.cell? ⟨b10, 0, none⟩ = some (.bool t10.s) ∧ w'.cell? ⟨b10, 1, none⟩ = some (.slice t10.a1 t10.n1 t10.c1) ∧ w'.cell? ⟨b10, 2, none⟩ = some (.slice t10.a2 t10.n2 t10.c2)) xw_2 := unhide HCC _ cc_2
      refine hK.out _ _ hC_2 ?_
      clear hK K
      (try simp only [Act.put, List.setIfInBounds_toArray, List.set_cons_zero, List.set_cons_succ])
      refine wpHold_take (i := 13) (v := ?_) rfl (by kernel_rfl) (by kernel_rfl) (by kernel_rfl) (fun _ _ _ h => h) (Or.inl ⟨by rfl, ?_⟩) hC_2 ?_
      rotate_left
      · intro w hSw; clear hSw; go_simp; (try with_reducible rfl)
      (try simp only [List.getElem_toArray, List.getElem_cons_succ, List.getElem_cons_zero])
      (try simp only [Act.put, List.setIfInBounds_toArray, List.set_cons_zero, List.set_cons_succ])
      refine wpHold_take (i := 14) (v := ?_) rfl (by kernel_rfl) (by kernel_rfl) (by kernel_rfl) (fun _ _ _ h => h) (Or.inl ⟨by rfl, ?_⟩) hC_2 ?_
      rotate_left
      · intro w hSw; clear hSw; go_simp; (try with_reducible rfl)
      (try simp only [List.getElem_toArray, List.getElem_cons_succ, List.getElem_cons_zero])
      (try simp only [Act.put, List.setIfInBounds_toArray, List.set_cons_zero, List.set_cons_succ])
      have HB_6 := hide (below_step (unhide HB_104) cc_2)
      clear HCC
      refine wpHold_done (by kernel_rfl) ?_ _
      clear hC0 HB_104 HX_b8_104 HX_b10_103
      go_wp2_with fail
      refine (unhide HF1 _ (unhide HB_6)).mono ?_
      rintro e w_201 ⟨v12, rfl, hv12, hbx⟩
      obtain ⟨t12, rfl, hr_201⟩ := tri_of hv12
      simp only [Tri.val]
      have HG_b12 := hide (below_step (unhide HB_6) hbx).size
      have hb_201 := below_step hbx (alloc_below w_201 (.cells #[.bool t12.s, .slice t12.a1 t12.n1 t12.c1, .slice t12.a2 t12.n2 t12.c2] 36))
      have HB_202 := hide (below_step (unhide HB_6) hb_201)
      clear HB_6
      have HX_b12_201 := hide (BoxIs.new hr_201)
      obtain ⟨Wb12, hW_201⟩ : ∃ W, w_201.alloc (.cells #[.bool t12.s, .slice t12.a1 t12.n1 t12.c1, .slice t12.a2 t12.n2 t12.c2] 36) = W := ⟨_, rfl⟩
      obtain ⟨b12, hc_201⟩ : ∃ b, w_201.heap.size = b := ⟨_, rfl⟩
      rw [hW_201] at HB_202 HX_b12_201
      rw [hc_201] at HX_b12_201 HG_b12
      clear hv12 hr_201 hbx hb_201
      go_wp2_with fail
      clear hW_201 hc_201
      refine (unhide HF2 _ (unhide HB_202)).mono ?_
      rintro e w_203 ⟨v13, rfl, hv13, hbx⟩
      obtain ⟨t13, rfl, hr_203⟩ := tri_of hv13
      simp only [Tri.val]
      have HL_b12_b13 := hide (Nat.lt_of_lt_of_le (unhide HX_b12_201).lt hbx.size)
      have HG_b13 := hide (below_step (unhide HB_202) hbx).size
      have hb_203 := below_step hbx (alloc_below w_203 (.cells #[.bool t13.s, .slice t13.a1 t13.n1 t13.c1, .slice t13.a2 t13.n2 t13.c2] 36))
      have HB_204 := hide (below_step (unhide HB_202) hb_203)
      have HX_b12_204 := hide ((unhide HX_b12_201).keep hb_203)
      clear HB_202 HX_b12_201
      have HX_b13_203 := hide (BoxIs.new hr_203)
      obtain ⟨Wb13, hW_203⟩ : ∃ W, w_203.alloc (.cells #[.bool t13.s, .slice t13.a1 t13.n1 t13.c1, .slice t13.a2 t13.n2 t13.c2] 36) = W := ⟨_, rfl⟩
      obtain ⟨b13, hc_203⟩ : ∃ b, w_203.heap.size = b := ⟨_, rfl⟩
      rw [hW_203] at HB_204 HX_b12_204 HX_b13_203
      rw [hc_203] at HX_b13_203 HL_b12_b13 HG_b13
      clear hv13 hr_203 hbx hb_203
      obtain ⟨cb12_0, cb12_1, cb12_2⟩ := (unhide HX_b12_204).cells _ (Below.refl _ _)
      obtain ⟨cb13_0, cb13_1, cb13_2⟩ := (unhide HX_b13_203).cells _ (Below.refl _ _)
      go_wp2_with fail
      clear cb12_0 cb12_1 cb12_2 cb13_0 cb13_1 cb13_2
      clear hW_203 hc_203
      refine (unhide HADD _ _ _ _ _ (unhide HX_b12_204).2 (unhide HX_b13_203).2 (unhide HRP) (unhide HRQ)).mono ?_
      rintro e w_205 ⟨v14, rfl, hv14, hbx⟩
      have HB_206 := hide (below_step (unhide HB_204) hbx)
      have HX_b12_206 := hide ((unhide HX_b12_204).keep hbx)
      have HX_b13_206 := hide ((unhide HX_b13_203).keep hbx)
      clear HB_204 HX_b12_204 HX_b13_203
      clear hbx
      rw [(unhide HSH).1] at hv14
      have Hv14_0 := hide hv14
      clear hv14
      go_wp2_with fail
      refine (unhide HWH _).mono ?_
      rintro e w_207 ⟨v15, rfl, hv15, hbx⟩
      have HB_208 := hide (below_step (unhide HB_206) hbx)
      have HX_b12_208 := hide ((unhide HX_b12_206).keep hbx)
      have HX_b13_208 := hide ((unhide HX_b13_206).keep hbx)
      have Hv14_208 := hide ((unhide Hv14_0).below hbx)
      clear HB_206 HX_b12_206 HX_b13_206 Hv14_0
      clear hbx
      go_wp2_with fail
      refine (unhide HLK _ _ _ 1 (unhide Hv14_208) hv15 (unhide HR1) (unhide HB_208)).mono ?_
      rintro e w_209 ⟨rfl, hbx⟩
      have HB_210 := hide (below_step (unhide HB_208) hbx)
      have HX_b12_210 := hide ((unhide HX_b12_208).keep hbx)
      have HX_b13_210 := hide ((unhide HX_b13_208).keep hbx)
      have Hv14_210 := hide ((unhide Hv14_208).below hbx)
      clear HB_208 HX_b12_208 HX_b13_208 Hv14_208
      clear hbx
      clear hv15 Hv14_210
      obtain ⟨cb12_0, cb12_1, cb12_2⟩ := (unhide HX_b12_210).cells _ (Below.refl _ _)
      go_wp2_with fail
      clear cb12_0 cb12_1 cb12_2
      have HSG := hide (sign_any t12.val _ _ (unhide HX_b12_210).2)
      rw [sign_pos (unhide HSH).2.1] at HSG
      refine (unhide HSG).mono ?_
      rintro e w_211 ⟨rfl, hbx⟩
      have HB_212 := hide (below_step (unhide HB_210) hbx)
      have HX_b12_212 := hide ((unhide HX_b12_210).keep hbx)
      have HX_b13_212 := hide ((unhide HX_b13_210).keep hbx)
      clear HB_210 HX_b12_210 HX_b13_210
      clear hbx
      obtain ⟨cb13_0, cb13_1, cb13_2⟩ := (unhide HX_b13_212).cells _ (Below.refl _ _)
      go_wp2_with fail
      clear cb13_0 cb13_1 cb13_2
      have HSG2 := hide (sign_any t13.val _ _ (unhide HX_b13_212).2)
      rw [sign_pos (unhide HSH).2.2] at HSG2
      refine (unhide HSG2).mono ?_
      rintro e w_213 ⟨rfl, hbx⟩
      have HB_214 := hide (below_step (unhide HB_212) hbx)
      have HX_b12_214 := hide ((unhide HX_b12_212).keep hbx)
      have HX_b13_214 := hide ((unhide HX_b13_212).keep hbx)
      clear HB_212 HX_b12_212 HX_b13_212
      clear hbx
      go_wp2
      go_ret
      exact ⟨rfl, below_step (unhide HBW) (unhide HB_214)⟩
    · have HF1 : Hid (∀ W, Below w1.heap.size w1 W → Calls Tryd.prog 32 #[v7, .slice a M c, .slice a' N c'] W fun e w' => ∃ v k, e = .returned (.tuple #[v, .iface 68 (.int .i64 k)]) ∧ RatIs w' v 0 ∧ Below W.heap.size W w') := fun W hW => by
        by_cases gn : GoodW qs N f
        · refine (first_stands v7 qs a a' M c N c' g f W (hL.below hW) (r1.below hW) (r2.below hW) hq hl good.1 good.2 gn ?_).mono fun e w' ⟨k, he, hb⟩ => ⟨_, k, he, rat_zero _, hb⟩
          rcases Classical.em (StIn M N g f) with h | h
          · exact Or.inl h
          · rcases Classical.em (StIn N M f g) with h' | h'
            · exact Or.inr h'
            · exact absurd ⟨gn, h, h'⟩ fine
        · exact (first_err v7 qs a a' M c N c' g f W (hL.below hW) (r1.below hW) (r2.below hW) hq hl (fun h => gn h.2.2)).mono fun e w' ⟨k, he, hb⟩ => ⟨_, k, he, rat_zero _, hb⟩
      have HF2 : Hid (∀ W, Below w1.heap.size w1 W → Calls Tryd.prog 32 #[v7, .slice a' N c', .slice a M c] W fun e w' => ∃ v k, e = .returned (.tuple #[v, .iface 68 (.int .i64 k)]) ∧ RatIs w' v 0 ∧ Below W.heap.size W w') := fun W hW => by
        by_cases gn : GoodW qs N f
        · refine (first_stands v7 qs a' a N c' M c f g W (hL.below hW) (r2.below hW) (r1.below hW) hq hl good.1 gn good.2 ?_).mono fun e w' ⟨k, he, hb⟩ => ⟨_, k, he, rat_zero _, hb⟩
          rcases Classical.em (StIn M N g f) with h | h
          · exact Or.inr h
          · rcases Classical.em (StIn N M f g) with h' | h'
            · exact Or.inl h'
            · exact absurd ⟨gn, h, h'⟩ fine
        · exact (first_err v7 qs a' a N c' M c f g W (hL.below hW) (r2.below hW) (r1.below hW) hq hl (fun h => gn h.2.1)).mono fun e w' ⟨k, he, hb⟩ => ⟨_, k, he, rat_zero _, hb⟩
      clear fine good r1 r2 hq hL hl
      go_wp2_with fail
      refine (unhide HWA _ (unhide HB_1)).mono ?_
      rintro e w_101 ⟨v8, rfl, hv8, hbx⟩
      obtain ⟨t8, rfl, hr_101⟩ := tri_of hv8
      simp only [Tri.val]
      have HG_b8 := hide (below_step (unhide HB_1) hbx).size
      have hb_101 := below_step hbx (alloc_below w_101 (.cells #[.bool t8.s, .slice t8.a1 t8.n1 t8.c1, .slice t8.a2 t8.n2 t8.c2] 36))
      have HB_102 := hide (below_step (unhide HB_1) hb_101)
      clear HB_1
      have HX_b8_101 := hide (BoxIs.new hr_101)
      obtain ⟨Wb8, hW_101⟩ : ∃ W, w_101.alloc (.cells #[.bool t8.s, .slice t8.a1 t8.n1 t8.c1, .slice t8.a2 t8.n2 t8.c2] 36) = W := ⟨_, rfl⟩
      obtain ⟨b8, hc_101⟩ : ∃ b, w_101.heap.size = b := ⟨_, rfl⟩
      rw [hW_101] at HB_102 HX_b8_101
      rw [hc_101] at HX_b8_101 HG_b8
      clear hv8 hr_101 hbx hb_101
      go_wp2_with fail
      clear hW_101 hc_101
      refine (unhide HTI _ (unhide HB_102)).mono ?_
      rintro e w_103 ⟨v10, rfl, hv10, hbx⟩
      obtain ⟨t10, rfl, hr_103⟩ := tri_of hv10
      simp only [Tri.val]
      have HL_b8_b10 := hide (Nat.lt_of_lt_of_le (unhide HX_b8_101).lt hbx.size)
      have HG_b10 := hide (below_step (unhide HB_102) hbx).size
      have hb_103 := below_step hbx (alloc_below w_103 (.cells #[.bool t10.s, .slice t10.a1 t10.n1 t10.c1, .slice t10.a2 t10.n2 t10.c2] 36))
      have HB_104 := hide (below_step (unhide HB_102) hb_103)
      have HX_b8_104 := hide ((unhide HX_b8_101).keep hb_103)
      clear HB_102 HX_b8_101
      have HX_b10_103 := hide (BoxIs.new hr_103)
      obtain ⟨Wb10, hW_103⟩ : ∃ W, w_103.alloc (.cells #[.bool t10.s, .slice t10.a1 t10.n1 t10.c1, .slice t10.a2 t10.n2 t10.c2] 36) = W := ⟨_, rfl⟩
      obtain ⟨b10, hc_103⟩ : ∃ b, w_103.heap.size = b := ⟨_, rfl⟩
      rw [hW_103] at HB_104 HX_b8_104 HX_b10_103
      rw [hc_103] at HX_b10_103 HL_b8_b10 HG_b10
      clear hv10 hr_103 hbx hb_103
      go_wp2_with fail
      clear hW_103 hc_103
      have HCC : Hid (∀ W, Below Wb10.heap.size Wb10 W → (fun w' : World => (w'.cell? ⟨b8, 0, none⟩ = some (.bool t8.s) ∧ w'.cell? ⟨b8, 1, none⟩ = some (.slice t8.a1 t8.n1 t8.c1) ∧ w'.cell? ⟨b8, 2, none⟩ = some (.slice t8.a2 t8.n2 t8.c2)) ∧ w'.cell? ⟨b10, 0, none⟩ = some (.bool t10.s) ∧ w'.cell? ⟨b10, 1, none⟩ = some (.slice t10.a1 t10.n1 t10.c1) ∧ w'.cell? ⟨b10, 2, none⟩ = some (.slice t10.a2 t10.n2 t10.c2)) W) := fun W hW => ⟨(unhide HX_b8_104).cells W hW, (unhide HX_b10_103).cells W hW⟩
      refine wp_region_hold (fun w' : World => (w'.cell? ⟨b8, 0, none⟩ = some (.bool t8.s) ∧ w'.cell? ⟨b8, 1, none⟩ = some (.slice t8.a1 t8.n1 t8.c1) ∧ w'.cell? ⟨b8, 2, none⟩ = some (.slice t8.a2 t8.n2 t8.c2)) ∧ w'.cell? ⟨b10, 0, none⟩ = some (.bool t10.s) ∧ w'.cell? ⟨b10, 1, none⟩ = some (.slice t10.a1 t10.n1 t10.c1) ∧ w'.cell? ⟨b10, 2, none⟩ = some (.slice t10.a2 t10.n2 t10.c2)) (by kernel_rfl) ?_
      have bd0 : Below Wb10.heap.size Wb10 Wb10.drew := (Below.refl _ _).drew
      have hC0 : (fun w' : World => (w'.cell? ⟨b8, 0, none⟩ = some (.bool t8.s) ∧ w'.cell? ⟨b8, 1, none⟩ = some (.slice t8.a1 t8.n1 t8.c1) ∧ w'.cell? ⟨b8, 2, none⟩ = some (.slice t8.a2 t8.n2 t8.c2)) ∧ w'.cell? ⟨b10, 0, none⟩ = some (.bool t10.s) ∧ w'.cell? ⟨b10, 1, none⟩ = some (.slice t10.a1 t10.n1 t10.c1) ∧ w'.cell? ⟨b10, 2, none⟩ = some (.slice t10.a2 t10.n2 t10.c2)) Wb10.drew := unhide HCC _ bd0
      refine wpHold_one (k := 0) (by kernel_rfl) rfl (fun K hK => ?_)
      (try simp only [List.getElem_toArray, List.getElem_cons_succ, List.getElem_cons_zero])
      go_simp
      refine (unhide HHA _ (below_step (unhide HB_104) bd0)).mono ?_
      rintro e xw_1 ⟨rfl, hb_1⟩
      have cc_1 := below_step bd0 hb_1
      have hC_1 : (fun w' : World => (w'.cell? ⟨b8, 0, none⟩ = some (.bool t8.s) ∧ w'.cell? ⟨b8, 1, none⟩ = some (.slice t8.a1 t8.n1 t8.c1) ∧ w'.cell? ⟨b8, 2, none⟩ = some (.slice t8.a2 t8.n2 t8.c2)) ∧ w'.cell? ⟨b10, 0, none⟩ = some (.bool t10.s) ∧ w'.cell? ⟨b10, 1, none⟩ = some (.slice t10.a1 t10.n1 t10.c1) ∧ w'.cell? ⟨b10, 2, none⟩ = some (.slice t10.a2 t10.n2 t10.c2)) xw_1 := unhide HCC _ cc_1
      refine hK.out _ _ hC_1 ?_
      clear hK K
      (try simp only [Act.put, List.setIfInBounds_toArray, List.set_cons_zero, List.set_cons_succ])
      refine wpHold_take (i := 1) (v := ?_) rfl (by kernel_rfl) (by kernel_rfl) (by kernel_rfl) (fun _ _ _ h => h) (Or.inl ⟨by rfl, ?_⟩) hC_1 ?_
      rotate_left
      · intro w hSw; clear hSw; go_simp; (try with_reducible rfl)
      (try simp only [List.getElem_toArray, List.getElem_cons_succ, List.getElem_cons_zero])
      (try simp only [Act.put, List.setIfInBounds_toArray, List.set_cons_zero, List.set_cons_succ])
      refine wpHold_take (i := 2) (v := ?_) rfl (by kernel_rfl) (by kernel_rfl) (by kernel_rfl) (fun _ _ _ h => h) (Or.inl ⟨by rfl, ?_⟩) hC_1 ?_
      rotate_left
      · intro w hSw; clear hSw; go_simp; (try with_reducible rfl)
      (try simp only [List.getElem_toArray, List.getElem_cons_succ, List.getElem_cons_zero])
      (try simp only [Act.put, List.setIfInBounds_toArray, List.set_cons_zero, List.set_cons_succ])
      refine wpHold_take (i := 3) (v := ?_) rfl (by kernel_rfl) (by kernel_rfl) (by kernel_rfl) (fun _ _ _ h => h) (Or.inl ⟨by rfl, ?_⟩) hC_1 ?_
      rotate_left
      · intro w hSw; clear hSw; go_simp; (try with_reducible rfl)
      (try simp only [List.getElem_toArray, List.getElem_cons_succ, List.getElem_cons_zero])
      (try simp only [Act.put, List.setIfInBounds_toArray, List.set_cons_zero, List.set_cons_succ])
      refine wpHold_take (i := 4) (v := ?_) rfl (by kernel_rfl) (by kernel_rfl) (by kernel_rfl) (fun _ _ _ h => h) (Or.inl ⟨by rfl, ?_⟩) hC_1 ?_
      rotate_left
      · intro w hSw; clear hSw; go_simp; (try with_reducible rfl)
      (try simp only [List.getElem_toArray, List.getElem_cons_succ, List.getElem_cons_zero])
      (try simp only [Act.put, List.setIfInBounds_toArray, List.set_cons_zero, List.set_cons_succ])
      refine wpHold_take (i := 5) (v := ?_) rfl (by kernel_rfl) (by kernel_rfl) (by kernel_rfl) (fun _ _ _ h => h) (Or.inl ⟨by rfl, ?_⟩) hC_1 ?_
      rotate_left
      · intro w hSw; clear hSw; go_simp; (try with_reducible rfl)
      (try simp only [List.getElem_toArray, List.getElem_cons_succ, List.getElem_cons_zero])
      (try simp only [Act.put, List.setIfInBounds_toArray, List.set_cons_zero, List.set_cons_succ])
      refine wpHold_take (i := 6) (v := ?_) rfl (by kernel_rfl) (by kernel_rfl) (by kernel_rfl) (fun _ _ _ h => h) (Or.inl ⟨by rfl, ?_⟩) hC_1 ?_
      rotate_left
      · intro w hSw; clear hSw; go_simp; (try with_reducible rfl)
      (try simp only [List.getElem_toArray, List.getElem_cons_succ, List.getElem_cons_zero])
      (try simp only [Act.put, List.setIfInBounds_toArray, List.set_cons_zero, List.set_cons_succ])
      refine wpHold_take (i := 7) (v := ?_) rfl (by kernel_rfl) (by kernel_rfl) (by kernel_rfl) (fun _ _ _ h => h) (Or.inl ⟨by rfl, ?_⟩) hC_1 ?_
      rotate_left
      · intro w hSw; clear hSw; go_simp; (try with_reducible rfl)
      (try simp only [List.getElem_toArray, List.getElem_cons_succ, List.getElem_cons_zero])
      (try simp only [Act.put, List.setIfInBounds_toArray, List.set_cons_zero, List.set_cons_succ])
      refine wpHold_take (i := 8) (v := ?_) rfl (by kernel_rfl) (by kernel_rfl) (by kernel_rfl) (fun _ _ _ h => h) (Or.inl ⟨by rfl, ?_⟩) hC_1 ?_
      rotate_left
      · intro w hSw; clear hSw; go_simp; (try with_reducible rfl)
      (try simp only [List.getElem_toArray, List.getElem_cons_succ, List.getElem_cons_zero])
      (try simp only [Act.put, List.setIfInBounds_toArray, List.set_cons_zero, List.set_cons_succ])
      refine wpHold_take (i := 9) (v := ?_) rfl (by kernel_rfl) (by kernel_rfl) (by kernel_rfl) (fun _ _ _ h => h) (Or.inl ⟨by rfl, ?_⟩) hC_1 ?_
      rotate_left
      · intro w hSw; clear hSw; go_simp; (try with_reducible rfl)
      (try simp only [List.getElem_toArray, List.getElem_cons_succ, List.getElem_cons_zero])
      (try simp only [Act.put, List.setIfInBounds_toArray, List.set_cons_zero, List.set_cons_succ])
      refine wpHold_take (i := 10) (v := ?_) rfl (by kernel_rfl) (by kernel_rfl) (by kernel_rfl) (fun _ _ _ h => h) (Or.inl ⟨by rfl, ?_⟩) hC_1 ?_
      rotate_left
      · intro w hSw; (try dsimp only at hSw); obtain ⟨⟨z0, z1, z2⟩, z3, z4, z5⟩ := hSw; go_simp; (try with_reducible rfl)
      (try simp only [List.getElem_toArray, List.getElem_cons_succ, List.getElem_cons_zero])
      (try simp only [Act.put, List.setIfInBounds_toArray, List.set_cons_zero, List.set_cons_succ])
      refine wpHold_take (i := 11) (v := ?_) rfl (by kernel_rfl) (by kernel_rfl) (by kernel_rfl) (fun _ _ _ h => h) (Or.inl ⟨by rfl, ?_⟩) hC_1 ?_
      rotate_left
      · intro w hSw; (try dsimp only at hSw); obtain ⟨⟨z0, z1, z2⟩, z3, z4, z5⟩ := hSw; go_simp; (try with_reducible rfl)
      (try simp only [List.getElem_toArray, List.getElem_cons_succ, List.getElem_cons_zero])
      (try simp only [Act.put, List.setIfInBounds_toArray, List.set_cons_zero, List.set_cons_succ])
      refine wpHold_one (k := 12) (by kernel_rfl) rfl (fun K hK => ?_)
      (try simp only [List.getElem_toArray, List.getElem_cons_succ, List.getElem_cons_zero])
      go_simp
      refine (unhide HLK _ _ _ _ ((unhide HX_b8_104).2.below cc_1) ((unhide HX_b10_103).2.below cc_1) (unhide HRW) (below_step (unhide HB_104) cc_1)).mono ?_
      rintro e xw_2 ⟨rfl, hb_2⟩
      have cc_2 := below_step cc_1 hb_2
      have hC_2 : (fun w' : World => (w'.cell? ⟨b8, 0, none⟩ = some (.bool t8.s) ∧ w'.cell? ⟨b8, 1, none⟩ = some (.slice t8.a1 t8.n1 t8.c1) ∧ w'.cell? ⟨b8, 2, none⟩ = some (.slice t8.a2 t8.n2 t8.c2)) ∧ w'.cell? ⟨b10, 0, none⟩ = some (.bool t10.s) ∧ w'.cell? ⟨b10, 1, none⟩ = some (.slice t10.a1 t10.n1 t10.c1) ∧ w'.cell? ⟨b10, 2, none⟩ = some (.slice t10.a2 t10.n2 t10.c2)) xw_2 := unhide HCC _ cc_2
      refine hK.out _ _ hC_2 ?_
      clear hK K
      (try simp only [Act.put, List.setIfInBounds_toArray, List.set_cons_zero, List.set_cons_succ])
      refine wpHold_take (i := 13) (v := ?_) rfl (by kernel_rfl) (by kernel_rfl) (by kernel_rfl) (fun _ _ _ h => h) (Or.inl ⟨by rfl, ?_⟩) hC_2 ?_
      rotate_left
      · intro w hSw; clear hSw; go_simp; (try with_reducible rfl)
      (try simp only [List.getElem_toArray, List.getElem_cons_succ, List.getElem_cons_zero])
      (try simp only [Act.put, List.setIfInBounds_toArray, List.set_cons_zero, List.set_cons_succ])
      refine wpHold_take (i := 14) (v := ?_) rfl (by kernel_rfl) (by kernel_rfl) (by kernel_rfl) (fun _ _ _ h => h) (Or.inl ⟨by rfl, ?_⟩) hC_2 ?_
      rotate_left
      · intro w hSw; clear hSw; go_simp; (try with_reducible rfl)
      (try simp only [List.getElem_toArray, List.getElem_cons_succ, List.getElem_cons_zero])
      (try simp only [Act.put, List.setIfInBounds_toArray, List.set_cons_zero, List.set_cons_succ])
      have HB_6 := hide (below_step (unhide HB_104) cc_2)
      clear HCC
      refine wpHold_done (by kernel_rfl) ?_ _
      clear hC0 HB_104 HX_b8_104 HX_b10_103
      go_wp2_with fail
      refine (unhide HF1 _ (unhide HB_6)).mono ?_
      rintro e w_201 ⟨v12, k3, rfl, hv12, hbx⟩
      obtain ⟨t12, rfl, hr_201⟩ := tri_of hv12
      simp only [Tri.val]
      have HG_b12 := hide (below_step (unhide HB_6) hbx).size
      have hb_201 := below_step hbx (alloc_below w_201 (.cells #[.bool t12.s, .slice t12.a1 t12.n1 t12.c1, .slice t12.a2 t12.n2 t12.c2] 36))
      have HB_202 := hide (below_step (unhide HB_6) hb_201)
      clear HB_6
      have HX_b12_201 := hide (BoxIs.new hr_201)
      obtain ⟨Wb12, hW_201⟩ : ∃ W, w_201.alloc (.cells #[.bool t12.s, .slice t12.a1 t12.n1 t12.c1, .slice t12.a2 t12.n2 t12.c2] 36) = W := ⟨_, rfl⟩
      obtain ⟨b12, hc_201⟩ : ∃ b, w_201.heap.size = b := ⟨_, rfl⟩
      rw [hW_201] at HB_202 HX_b12_201
      rw [hc_201] at HX_b12_201 HG_b12
      clear hv12 hr_201 hbx hb_201
      go_wp2_with fail
      clear hW_201 hc_201
      refine (unhide HF2 _ (unhide HB_202)).mono ?_
      rintro e w_203 ⟨v13, k4, rfl, hv13, hbx⟩
      obtain ⟨t13, rfl, hr_203⟩ := tri_of hv13
      simp only [Tri.val]
      have HL_b12_b13 := hide (Nat.lt_of_lt_of_le (unhide HX_b12_201).lt hbx.size)
      have HG_b13 := hide (below_step (unhide HB_202) hbx).size
      have hb_203 := below_step hbx (alloc_below w_203 (.cells #[.bool t13.s, .slice t13.a1 t13.n1 t13.c1, .slice t13.a2 t13.n2 t13.c2] 36))
      have HB_204 := hide (below_step (unhide HB_202) hb_203)
      have HX_b12_204 := hide ((unhide HX_b12_201).keep hb_203)
      clear HB_202 HX_b12_201
      have HX_b13_203 := hide (BoxIs.new hr_203)
      obtain ⟨Wb13, hW_203⟩ : ∃ W, w_203.alloc (.cells #[.bool t13.s, .slice t13.a1 t13.n1 t13.c1, .slice t13.a2 t13.n2 t13.c2] 36) = W := ⟨_, rfl⟩
      obtain ⟨b13, hc_203⟩ : ∃ b, w_203.heap.size = b := ⟨_, rfl⟩
      rw [hW_203] at HB_204 HX_b12_204 HX_b13_203
      rw [hc_203] at HX_b13_203 HL_b12_b13 HG_b13
      clear hv13 hr_203 hbx hb_203
      go_wp2_with fail
      clear hW_203 hc_203
      have HBz := hide (unhide HB_204)
      refine wp_region_hold (fun _ => True) (by kernel_rfl) ?_
      have hC0 : (fun _ : World => True) Wb13.drew := trivial
      refine wpHold_take (i := 0) (v := ?_) rfl (by kernel_rfl) (by kernel_rfl) (by kernel_rfl) (fun _ _ _ h => h) (Or.inl ⟨by rfl, ?_⟩) hC0 ?_
      rotate_left
      · intro w hSw; clear hSw; go_simp; (try with_reducible rfl)
      (try simp only [List.getElem_toArray, List.getElem_cons_succ, List.getElem_cons_zero])
      (try simp only [Act.put, List.setIfInBounds_toArray, List.set_cons_zero, List.set_cons_succ])
      refine wpHold_take (i := 1) (v := ?_) rfl (by kernel_rfl) (by kernel_rfl) (by kernel_rfl) (fun _ _ _ h => h) (Or.inl ⟨by rfl, ?_⟩) hC0 ?_
      rotate_left
      · intro w hSw; clear hSw; go_simp; (try with_reducible rfl)
      (try simp only [List.getElem_toArray, List.getElem_cons_succ, List.getElem_cons_zero])
      (try simp only [Act.put, List.setIfInBounds_toArray, List.set_cons_zero, List.set_cons_succ])
      refine wpHold_take (i := 2) (v := ?_) rfl (by kernel_rfl) (by kernel_rfl) (by kernel_rfl) (fun _ _ _ h => h) (Or.inl ⟨by rfl, ?_⟩) hC0 ?_
      rotate_left
      · intro w hSw; clear hSw; go_simp; (try with_reducible rfl)
      (try simp only [List.getElem_toArray, List.getElem_cons_succ, List.getElem_cons_zero])
      (try simp only [Act.put, List.setIfInBounds_toArray, List.set_cons_zero, List.set_cons_succ])
      refine wpHold_take (i := 3) (v := ?_) rfl (by kernel_rfl) (by kernel_rfl) (by kernel_rfl) (fun _ _ _ h => h) (Or.inl ⟨by rfl, ?_⟩) hC0 ?_
      rotate_left
      · intro w hSw; clear hSw; go_simp; (try with_reducible rfl)
      (try simp only [List.getElem_toArray, List.getElem_cons_succ, List.getElem_cons_zero])
      (try simp only [Act.put, List.setIfInBounds_toArray, List.set_cons_zero, List.set_cons_succ])
      refine wpHold_take (i := 4) (v := ?_) rfl (by kernel_rfl) (by kernel_rfl) (by kernel_rfl) (fun _ _ _ h => h) (Or.inl ⟨by rfl, ?_⟩) hC0 ?_
      rotate_left
      · intro w hSw; clear hSw; go_simp; (try with_reducible rfl)
      (try simp only [List.getElem_toArray, List.getElem_cons_succ, List.getElem_cons_zero])
      (try simp only [Act.put, List.setIfInBounds_toArray, List.set_cons_zero, List.set_cons_succ])
      refine wpHold_one (k := 5) (by kernel_rfl) rfl (fun K hK => ?_)
      (try simp only [List.getElem_toArray, List.getElem_cons_succ, List.getElem_cons_zero])
      go_simp
      refine hK.out _ _ hC0 ?_
      clear hK K
      (try simp only [Act.put, List.setIfInBounds_toArray, List.set_cons_zero, List.set_cons_succ])
      refine wpHold_done (by kernel_rfl) ?_ _
      clear hC0
      go_wp2
      go_ret
      exact ⟨rfl, below_step (unhide HBW) (below_step (unhide HBz) ((Below.refl _ _).drew))⟩
  · have HWA : Hid (∀ W, Below w1.heap.size w1 W → Calls Tryd.prog 30 #[v7, .slice a M c] W fun e w' => ∃ v k, e = .returned (.tuple #[v, .iface 68 (.int .i64 k)]) ∧ RatIs w' v 0 ∧ Below W.heap.size W w') := fun W hW => (wait_err v7 qs a M c g W (hL.below hW) (r1.below hW) hq hl good).mono fun e w' ⟨k, he, hb⟩ => ⟨_, k, he, rat_zero _, hb⟩
    have HTI : Hid (∀ W, Below w1.heap.size w1 W → Calls Tryd.prog 31 #[v7, .slice a M c] W fun e w' => ∃ v k, e = .returned (.tuple #[v, .iface 68 (.int .i64 k)]) ∧ RatIs w' v 0 ∧ Below W.heap.size W w') := fun W hW => (times_err v7 qs a M c g W (hL.below hW) (r1.below hW) hq hl good).mono fun e w' ⟨k, he, hb⟩ => ⟨_, k, he, rat_zero _, hb⟩
    have HF1 : Hid (∀ W, Below w1.heap.size w1 W → Calls Tryd.prog 32 #[v7, .slice a M c, .slice a' N c'] W fun e w' => ∃ v k, e = .returned (.tuple #[v, .iface 68 (.int .i64 k)]) ∧ RatIs w' v 0 ∧ Below W.heap.size W w') := fun W hW => (first_err v7 qs a a' M c N c' g f W (hL.below hW) (r1.below hW) (r2.below hW) hq hl (fun h => good ⟨h.1, h.2.1⟩)).mono fun e w' ⟨k, he, hb⟩ => ⟨_, k, he, rat_zero _, hb⟩
    have HF2 : Hid (∀ W, Below w1.heap.size w1 W → Calls Tryd.prog 32 #[v7, .slice a' N c', .slice a M c] W fun e w' => ∃ v k, e = .returned (.tuple #[v, .iface 68 (.int .i64 k)]) ∧ RatIs w' v 0 ∧ Below W.heap.size W w') := fun W hW => (first_err v7 qs a' a N c' M c f g W (hL.below hW) (r2.below hW) (r1.below hW) hq hl (fun h => good ⟨h.1, h.2.2⟩)).mono fun e w' ⟨k, he, hb⟩ => ⟨_, k, he, rat_zero _, hb⟩
    have HRW : Hid (RS 0 2000) := RS.zero.mono (by omega)
    clear good r1 r2 hq hL hl
    go_wp2_with fail
    refine (unhide HWA _ (unhide HB_1)).mono ?_
    rintro e w_101 ⟨v8, k1, rfl, hv8, hbx⟩
    obtain ⟨t8, rfl, hr_101⟩ := tri_of hv8
    simp only [Tri.val]
    have HG_b8 := hide (below_step (unhide HB_1) hbx).size
    have hb_101 := below_step hbx (alloc_below w_101 (.cells #[.bool t8.s, .slice t8.a1 t8.n1 t8.c1, .slice t8.a2 t8.n2 t8.c2] 36))
    have HB_102 := hide (below_step (unhide HB_1) hb_101)
    clear HB_1
    have HX_b8_101 := hide (BoxIs.new hr_101)
    obtain ⟨Wb8, hW_101⟩ : ∃ W, w_101.alloc (.cells #[.bool t8.s, .slice t8.a1 t8.n1 t8.c1, .slice t8.a2 t8.n2 t8.c2] 36) = W := ⟨_, rfl⟩
    obtain ⟨b8, hc_101⟩ : ∃ b, w_101.heap.size = b := ⟨_, rfl⟩
    rw [hW_101] at HB_102 HX_b8_101
    rw [hc_101] at HX_b8_101 HG_b8
    clear hv8 hr_101 hbx hb_101
    go_wp2_with fail
    clear hW_101 hc_101
    refine (unhide HTI _ (unhide HB_102)).mono ?_
    rintro e w_103 ⟨v10, k2, rfl, hv10, hbx⟩
    obtain ⟨t10, rfl, hr_103⟩ := tri_of hv10
    simp only [Tri.val]
    have HL_b8_b10 := hide (Nat.lt_of_lt_of_le (unhide HX_b8_101).lt hbx.size)
    have HG_b10 := hide (below_step (unhide HB_102) hbx).size
    have hb_103 := below_step hbx (alloc_below w_103 (.cells #[.bool t10.s, .slice t10.a1 t10.n1 t10.c1, .slice t10.a2 t10.n2 t10.c2] 36))
    have HB_104 := hide (below_step (unhide HB_102) hb_103)
    have HX_b8_104 := hide ((unhide HX_b8_101).keep hb_103)
    clear HB_102 HX_b8_101
    have HX_b10_103 := hide (BoxIs.new hr_103)
    obtain ⟨Wb10, hW_103⟩ : ∃ W, w_103.alloc (.cells #[.bool t10.s, .slice t10.a1 t10.n1 t10.c1, .slice t10.a2 t10.n2 t10.c2] 36) = W := ⟨_, rfl⟩
    obtain ⟨b10, hc_103⟩ : ∃ b, w_103.heap.size = b := ⟨_, rfl⟩
    rw [hW_103] at HB_104 HX_b8_104 HX_b10_103
    rw [hc_103] at HX_b10_103 HL_b8_b10 HG_b10
    clear hv10 hr_103 hbx hb_103
    go_wp2_with fail
    clear hW_103 hc_103
    have HCC : Hid (∀ W, Below Wb10.heap.size Wb10 W → (fun w' : World => (w'.cell? ⟨b8, 0, none⟩ = some (.bool t8.s) ∧ w'.cell? ⟨b8, 1, none⟩ = some (.slice t8.a1 t8.n1 t8.c1) ∧ w'.cell? ⟨b8, 2, none⟩ = some (.slice t8.a2 t8.n2 t8.c2)) ∧ w'.cell? ⟨b10, 0, none⟩ = some (.bool t10.s) ∧ w'.cell? ⟨b10, 1, none⟩ = some (.slice t10.a1 t10.n1 t10.c1) ∧ w'.cell? ⟨b10, 2, none⟩ = some (.slice t10.a2 t10.n2 t10.c2)) W) := fun W hW => ⟨(unhide HX_b8_104).cells W hW, (unhide HX_b10_103).cells W hW⟩
    refine wp_region_hold (fun w' : World => (w'.cell? ⟨b8, 0, none⟩ = some (.bool t8.s) ∧ w'.cell? ⟨b8, 1, none⟩ = some (.slice t8.a1 t8.n1 t8.c1) ∧ w'.cell? ⟨b8, 2, none⟩ = some (.slice t8.a2 t8.n2 t8.c2)) ∧ w'.cell? ⟨b10, 0, none⟩ = some (.bool t10.s) ∧ w'.cell? ⟨b10, 1, none⟩ = some (.slice t10.a1 t10.n1 t10.c1) ∧ w'.cell? ⟨b10, 2, none⟩ = some (.slice t10.a2 t10.n2 t10.c2)) (by kernel_rfl) ?_
    have bd0 : Below Wb10.heap.size Wb10 Wb10.drew := (Below.refl _ _).drew
    have hC0 : (fun w' : World => (w'.cell? ⟨b8, 0, none⟩ = some (.bool t8.s) ∧ w'.cell? ⟨b8, 1, none⟩ = some (.slice t8.a1 t8.n1 t8.c1) ∧ w'.cell? ⟨b8, 2, none⟩ = some (.slice t8.a2 t8.n2 t8.c2)) ∧ w'.cell? ⟨b10, 0, none⟩ = some (.bool t10.s) ∧ w'.cell? ⟨b10, 1, none⟩ = some (.slice t10.a1 t10.n1 t10.c1) ∧ w'.cell? ⟨b10, 2, none⟩ = some (.slice t10.a2 t10.n2 t10.c2)) Wb10.drew := unhide HCC _ bd0
    refine wpHold_one (k := 0) (by kernel_rfl) rfl (fun K hK => ?_)
    (try simp only [List.getElem_toArray, List.getElem_cons_succ, List.getElem_cons_zero])
    go_simp
    refine (unhide HHA _ (below_step (unhide HB_104) bd0)).mono ?_
    rintro e xw_1 ⟨rfl, hb_1⟩
    have cc_1 := below_step bd0 hb_1
    have hC_1 : (fun w' : World => (w'.cell? ⟨b8, 0, none⟩ = some (.bool t8.s) ∧ w'.cell? ⟨b8, 1, none⟩ = some (.slice t8.a1 t8.n1 t8.c1) ∧ w'.cell? ⟨b8, 2, none⟩ = some (.slice t8.a2 t8.n2 t8.c2)) ∧ w'.cell? ⟨b10, 0, none⟩ = some (.bool t10.s) ∧ w'.cell? ⟨b10, 1, none⟩ = some (.slice t10.a1 t10.n1 t10.c1) ∧ w'.cell? ⟨b10, 2, none⟩ = some (.slice t10.a2 t10.n2 t10.c2)) xw_1 := unhide HCC _ cc_1
    refine hK.out _ _ hC_1 ?_
    clear hK K
    (try simp only [Act.put, List.setIfInBounds_toArray, List.set_cons_zero, List.set_cons_succ])
    refine wpHold_take (i := 1) (v := ?_) rfl (by kernel_rfl) (by kernel_rfl) (by kernel_rfl) (fun _ _ _ h => h) (Or.inl ⟨by rfl, ?_⟩) hC_1 ?_
    rotate_left
    · intro w hSw; clear hSw; go_simp; (try with_reducible rfl)
    (try simp only [List.getElem_toArray, List.getElem_cons_succ, List.getElem_cons_zero])
    (try simp only [Act.put, List.setIfInBounds_toArray, List.set_cons_zero, List.set_cons_succ])
    refine wpHold_take (i := 2) (v := ?_) rfl (by kernel_rfl) (by kernel_rfl) (by kernel_rfl) (fun _ _ _ h => h) (Or.inl ⟨by rfl, ?_⟩) hC_1 ?_
    rotate_left
    · intro w hSw; clear hSw; go_simp; (try with_reducible rfl)
    (try simp only [List.getElem_toArray, List.getElem_cons_succ, List.getElem_cons_zero])
    (try simp only [Act.put, List.setIfInBounds_toArray, List.set_cons_zero, List.set_cons_succ])
    refine wpHold_take (i := 3) (v := ?_) rfl (by kernel_rfl) (by kernel_rfl) (by kernel_rfl) (fun _ _ _ h => h) (Or.inl ⟨by rfl, ?_⟩) hC_1 ?_
    rotate_left
    · intro w hSw; clear hSw; go_simp; (try with_reducible rfl)
    (try simp only [List.getElem_toArray, List.getElem_cons_succ, List.getElem_cons_zero])
    (try simp only [Act.put, List.setIfInBounds_toArray, List.set_cons_zero, List.set_cons_succ])
    refine wpHold_take (i := 4) (v := ?_) rfl (by kernel_rfl) (by kernel_rfl) (by kernel_rfl) (fun _ _ _ h => h) (Or.inl ⟨by rfl, ?_⟩) hC_1 ?_
    rotate_left
    · intro w hSw; clear hSw; go_simp; (try with_reducible rfl)
    (try simp only [List.getElem_toArray, List.getElem_cons_succ, List.getElem_cons_zero])
    (try simp only [Act.put, List.setIfInBounds_toArray, List.set_cons_zero, List.set_cons_succ])
    refine wpHold_take (i := 5) (v := ?_) rfl (by kernel_rfl) (by kernel_rfl) (by kernel_rfl) (fun _ _ _ h => h) (Or.inl ⟨by rfl, ?_⟩) hC_1 ?_
    rotate_left
    · intro w hSw; clear hSw; go_simp; (try with_reducible rfl)
    (try simp only [List.getElem_toArray, List.getElem_cons_succ, List.getElem_cons_zero])
    (try simp only [Act.put, List.setIfInBounds_toArray, List.set_cons_zero, List.set_cons_succ])
    refine wpHold_take (i := 6) (v := ?_) rfl (by kernel_rfl) (by kernel_rfl) (by kernel_rfl) (fun _ _ _ h => h) (Or.inl ⟨by rfl, ?_⟩) hC_1 ?_
    rotate_left
    · intro w hSw; clear hSw; go_simp; (try with_reducible rfl)
    (try simp only [List.getElem_toArray, List.getElem_cons_succ, List.getElem_cons_zero])
    (try simp only [Act.put, List.setIfInBounds_toArray, List.set_cons_zero, List.set_cons_succ])
    refine wpHold_take (i := 7) (v := ?_) rfl (by kernel_rfl) (by kernel_rfl) (by kernel_rfl) (fun _ _ _ h => h) (Or.inl ⟨by rfl, ?_⟩) hC_1 ?_
    rotate_left
    · intro w hSw; clear hSw; go_simp; (try with_reducible rfl)
    (try simp only [List.getElem_toArray, List.getElem_cons_succ, List.getElem_cons_zero])
    (try simp only [Act.put, List.setIfInBounds_toArray, List.set_cons_zero, List.set_cons_succ])
    refine wpHold_take (i := 8) (v := ?_) rfl (by kernel_rfl) (by kernel_rfl) (by kernel_rfl) (fun _ _ _ h => h) (Or.inl ⟨by rfl, ?_⟩) hC_1 ?_
    rotate_left
    · intro w hSw; clear hSw; go_simp; (try with_reducible rfl)
    (try simp only [List.getElem_toArray, List.getElem_cons_succ, List.getElem_cons_zero])
    (try simp only [Act.put, List.setIfInBounds_toArray, List.set_cons_zero, List.set_cons_succ])
    refine wpHold_take (i := 9) (v := ?_) rfl (by kernel_rfl) (by kernel_rfl) (by kernel_rfl) (fun _ _ _ h => h) (Or.inl ⟨by rfl, ?_⟩) hC_1 ?_
    rotate_left
    · intro w hSw; clear hSw; go_simp; (try with_reducible rfl)
    (try simp only [List.getElem_toArray, List.getElem_cons_succ, List.getElem_cons_zero])
    (try simp only [Act.put, List.setIfInBounds_toArray, List.set_cons_zero, List.set_cons_succ])
    refine wpHold_take (i := 10) (v := ?_) rfl (by kernel_rfl) (by kernel_rfl) (by kernel_rfl) (fun _ _ _ h => h) (Or.inl ⟨by rfl, ?_⟩) hC_1 ?_
    rotate_left
    · intro w hSw; (try dsimp only at hSw); obtain ⟨⟨z0, z1, z2⟩, z3, z4, z5⟩ := hSw; go_simp; (try with_reducible rfl)
    (try simp only [List.getElem_toArray, List.getElem_cons_succ, List.getElem_cons_zero])
    (try simp only [Act.put, List.setIfInBounds_toArray, List.set_cons_zero, List.set_cons_succ])
    refine wpHold_take (i := 11) (v := ?_) rfl (by kernel_rfl) (by kernel_rfl) (by kernel_rfl) (fun _ _ _ h => h) (Or.inl ⟨by rfl, ?_⟩) hC_1 ?_
    rotate_left
    · intro w hSw; (try dsimp only at hSw); obtain ⟨⟨z0, z1, z2⟩, z3, z4, z5⟩ := hSw; go_simp; (try with_reducible rfl)
    (try simp only [List.getElem_toArray, List.getElem_cons_succ, List.getElem_cons_zero])
    (try simp only [Act.put, List.setIfInBounds_toArray, List.set_cons_zero, List.set_cons_succ])
    refine wpHold_one (k := 12) (by kernel_rfl) rfl (fun K hK => ?_)
    (try simp only [List.getElem_toArray, List.getElem_cons_succ, List.getElem_cons_zero])
    go_simp
    refine (unhide HLK _ _ _ _ ((unhide HX_b8_104).2.below cc_1) ((unhide HX_b10_103).2.below cc_1) (unhide HRW) (below_step (unhide HB_104) cc_1)).mono ?_
    rintro e xw_2 ⟨rfl, hb_2⟩
    have cc_2 := below_step cc_1 hb_2
    have hC_2 : (fun w' : World => (w'.cell? ⟨b8, 0, none⟩ = some (.bool t8.s) ∧ w'.cell? ⟨b8, 1, none⟩ = some (.slice t8.a1 t8.n1 t8.c1) ∧ w'.cell? ⟨b8, 2, none⟩ = some (.slice t8.a2 t8.n2 t8.c2)) ∧ w'.cell? ⟨b10, 0, none⟩ = some (.bool t10.s) ∧ w'.cell? ⟨b10, 1, none⟩ = some (.slice t10.a1 t10.n1 t10.c1) ∧ w'.cell? ⟨b10, 2, none⟩ = some (.slice t10.a2 t10.n2 t10.c2)) xw_2 := unhide HCC _ cc_2
    refine hK.out _ _ hC_2 ?_
    clear hK K
    (try simp only [Act.put, List.setIfInBounds_toArray, List.set_cons_zero, List.set_cons_succ])
    refine wpHold_take (i := 13) (v := ?_) rfl (by kernel_rfl) (by kernel_rfl) (by kernel_rfl) (fun _ _ _ h => h) (Or.inl ⟨by rfl, ?_⟩) hC_2 ?_
    rotate_left
    · intro w hSw; clear hSw; go_simp; (try with_reducible rfl)
    (try simp only [List.getElem_toArray, List.getElem_cons_succ, List.getElem_cons_zero])
    (try simp only [Act.put, List.setIfInBounds_toArray, List.set_cons_zero, List.set_cons_succ])
    refine wpHold_take (i := 14) (v := ?_) rfl (by kernel_rfl) (by kernel_rfl) (by kernel_rfl) (fun _ _ _ h => h) (Or.inl ⟨by rfl, ?_⟩) hC_2 ?_
    rotate_left
    · intro w hSw; clear hSw; go_simp; (try with_reducible rfl)
    (try simp only [List.getElem_toArray, List.getElem_cons_succ, List.getElem_cons_zero])
    (try simp only [Act.put, List.setIfInBounds_toArray, List.set_cons_zero, List.set_cons_succ])
    have HB_6 := hide (below_step (unhide HB_104) cc_2)
    clear HCC
    refine wpHold_done (by kernel_rfl) ?_ _
    clear hC0 HB_104 HX_b8_104 HX_b10_103
    go_wp2_with fail
    refine (unhide HF1 _ (unhide HB_6)).mono ?_
    rintro e w_201 ⟨v12, k3, rfl, hv12, hbx⟩
    obtain ⟨t12, rfl, hr_201⟩ := tri_of hv12
    simp only [Tri.val]
    have HG_b12 := hide (below_step (unhide HB_6) hbx).size
    have hb_201 := below_step hbx (alloc_below w_201 (.cells #[.bool t12.s, .slice t12.a1 t12.n1 t12.c1, .slice t12.a2 t12.n2 t12.c2] 36))
    have HB_202 := hide (below_step (unhide HB_6) hb_201)
    clear HB_6
    have HX_b12_201 := hide (BoxIs.new hr_201)
    obtain ⟨Wb12, hW_201⟩ : ∃ W, w_201.alloc (.cells #[.bool t12.s, .slice t12.a1 t12.n1 t12.c1, .slice t12.a2 t12.n2 t12.c2] 36) = W := ⟨_, rfl⟩
    obtain ⟨b12, hc_201⟩ : ∃ b, w_201.heap.size = b := ⟨_, rfl⟩
    rw [hW_201] at HB_202 HX_b12_201
    rw [hc_201] at HX_b12_201 HG_b12
    clear hv12 hr_201 hbx hb_201
    go_wp2_with fail
    clear hW_201 hc_201
    refine (unhide HF2 _ (unhide HB_202)).mono ?_
    rintro e w_203 ⟨v13, k4, rfl, hv13, hbx⟩
    obtain ⟨t13, rfl, hr_203⟩ := tri_of hv13
    simp only [Tri.val]
    have HL_b12_b13 := hide (Nat.lt_of_lt_of_le (unhide HX_b12_201).lt hbx.size)
    have HG_b13 := hide (below_step (unhide HB_202) hbx).size
    have hb_203 := below_step hbx (alloc_below w_203 (.cells #[.bool t13.s, .slice t13.a1 t13.n1 t13.c1, .slice t13.a2 t13.n2 t13.c2] 36))
    have HB_204 := hide (below_step (unhide HB_202) hb_203)
    have HX_b12_204 := hide ((unhide HX_b12_201).keep hb_203)
    clear HB_202 HX_b12_201
    have HX_b13_203 := hide (BoxIs.new hr_203)
    obtain ⟨Wb13, hW_203⟩ : ∃ W, w_203.alloc (.cells #[.bool t13.s, .slice t13.a1 t13.n1 t13.c1, .slice t13.a2 t13.n2 t13.c2] 36) = W := ⟨_, rfl⟩
    obtain ⟨b13, hc_203⟩ : ∃ b, w_203.heap.size = b := ⟨_, rfl⟩
    rw [hW_203] at HB_204 HX_b12_204 HX_b13_203
    rw [hc_203] at HX_b13_203 HL_b12_b13 HG_b13
    clear hv13 hr_203 hbx hb_203
    go_wp2_with fail
    clear hW_203 hc_203
    have HBz := hide (unhide HB_204)
    refine wp_region_hold (fun _ => True) (by kernel_rfl) ?_
    have hC0 : (fun _ : World => True) Wb13.drew := trivial
    refine wpHold_take (i := 0) (v := ?_) rfl (by kernel_rfl) (by kernel_rfl) (by kernel_rfl) (fun _ _ _ h => h) (Or.inl ⟨by rfl, ?_⟩) hC0 ?_
    rotate_left
    · intro w hSw; clear hSw; go_simp; (try with_reducible rfl)
    (try simp only [List.getElem_toArray, List.getElem_cons_succ, List.getElem_cons_zero])
    (try simp only [Act.put, List.setIfInBounds_toArray, List.set_cons_zero, List.set_cons_succ])
    refine wpHold_take (i := 1) (v := ?_) rfl (by kernel_rfl) (by kernel_rfl) (by kernel_rfl) (fun _ _ _ h => h) (Or.inl ⟨by rfl, ?_⟩) hC0 ?_
    rotate_left
    · intro w hSw; clear hSw; go_simp; (try with_reducible rfl)
    (try simp only [List.getElem_toArray, List.getElem_cons_succ, List.getElem_cons_zero])
    (try simp only [Act.put, List.setIfInBounds_toArray, List.set_cons_zero, List.set_cons_succ])
    refine wpHold_take (i := 2) (v := ?_) rfl (by kernel_rfl) (by kernel_rfl) (by kernel_rfl) (fun _ _ _ h => h) (Or.inl ⟨by rfl, ?_⟩) hC0 ?_
    rotate_left
    · intro w hSw; clear hSw; go_simp; (try with_reducible rfl)
    (try simp only [List.getElem_toArray, List.getElem_cons_succ, List.getElem_cons_zero])
    (try simp only [Act.put, List.setIfInBounds_toArray, List.set_cons_zero, List.set_cons_succ])
    refine wpHold_take (i := 3) (v := ?_) rfl (by kernel_rfl) (by kernel_rfl) (by kernel_rfl) (fun _ _ _ h => h) (Or.inl ⟨by rfl, ?_⟩) hC0 ?_
    rotate_left
    · intro w hSw; clear hSw; go_simp; (try with_reducible rfl)
    (try simp only [List.getElem_toArray, List.getElem_cons_succ, List.getElem_cons_zero])
    (try simp only [Act.put, List.setIfInBounds_toArray, List.set_cons_zero, List.set_cons_succ])
    refine wpHold_take (i := 4) (v := ?_) rfl (by kernel_rfl) (by kernel_rfl) (by kernel_rfl) (fun _ _ _ h => h) (Or.inl ⟨by rfl, ?_⟩) hC0 ?_
    rotate_left
    · intro w hSw; clear hSw; go_simp; (try with_reducible rfl)
    (try simp only [List.getElem_toArray, List.getElem_cons_succ, List.getElem_cons_zero])
    (try simp only [Act.put, List.setIfInBounds_toArray, List.set_cons_zero, List.set_cons_succ])
    refine wpHold_one (k := 5) (by kernel_rfl) rfl (fun K hK => ?_)
    (try simp only [List.getElem_toArray, List.getElem_cons_succ, List.getElem_cons_zero])
    go_simp
    refine hK.out _ _ hC0 ?_
    clear hK K
    (try simp only [Act.put, List.setIfInBounds_toArray, List.set_cons_zero, List.set_cons_succ])
    refine wpHold_done (by kernel_rfl) ?_ _
    clear hC0
    go_wp2
    go_ret
    exact ⟨rfl, below_step (unhide HBW) (below_step (unhide HBz) ((Below.refl _ _).drew))⟩

end Go.Proofs.YtdicbnchkfclaaaDoor
