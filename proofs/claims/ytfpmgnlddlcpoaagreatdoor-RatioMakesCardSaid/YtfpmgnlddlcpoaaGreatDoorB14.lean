/- The checker's fractions divided. -/
import Derived.Test.YtfpmgnlddlcpoaaGreatDoorB13
namespace Go.Proofs.YtfpmgnlddlcpoaaGreatDoor
open Go.RowKit Go.Sort Go.Shelf

theorem wpHold_two {P : Program} {md : Region.Mode} {ops : Array Oper} {Q : Exit → Act → World → Prop} {C : World → Prop} {k1 k2 : Nat} {o1 o2 : Oper} {fuel : Nat} {listed : Array Bool} {a : Act} {w : World} (hr : Region.ready md ops listed = [k1, k2]) (ho1 : ops[k1]? = some o1) (ho2 : ops[k2]? = some o2)
    (h1 : ∀ K' : Act → World → Prop, Shut (∀ a w, C w → wpHold P md ops Q C fuel (listed.setIfInBounds k1 true) a w → K' a w) → if Region.wanted o1 (yielded ops a.tmps) = true then Oper.wp P o1 a w K' Q else K' (a.put o1.dst undef) w)
    (h2 : ∀ K' : Act → World → Prop, Shut (∀ a w, C w → wpHold P md ops Q C fuel (listed.setIfInBounds k2 true) a w → K' a w) → if Region.wanted o2 (yielded ops a.tmps) = true then Oper.wp P o2 a w K' Q else K' (a.put o2.dst undef) w) :
    wpHold P md ops Q C (fuel + 1) listed a w := by
  refine ⟨fun h0 => (by rw [hr] at h0; cases h0), fun i hi => ?_⟩
  rw [hr] at hi
  rcases List.mem_cons.1 hi with rfl | hi
  · exact wpOp_step ho1 (fun K' hK => h1 K' (fun a w hS hW => hK a w ⟨hS, hW⟩))
  · obtain rfl := List.mem_singleton.1 hi
    exact wpOp_step ho2 (fun K' hK => h2 K' (fun a w hS hW => hK a w ⟨hS, hW⟩))
theorem wpHold_three {P : Program} {md : Region.Mode} {ops : Array Oper} {Q : Exit → Act → World → Prop} {C : World → Prop} {k1 k2 k3 : Nat} {o1 o2 o3 : Oper} {fuel : Nat} {listed : Array Bool} {a : Act} {w : World} (hr : Region.ready md ops listed = [k1, k2, k3]) (ho1 : ops[k1]? = some o1) (ho2 : ops[k2]? = some o2) (ho3 : ops[k3]? = some o3)
    (h1 : ∀ K' : Act → World → Prop, Shut (∀ a w, C w → wpHold P md ops Q C fuel (listed.setIfInBounds k1 true) a w → K' a w) → if Region.wanted o1 (yielded ops a.tmps) = true then Oper.wp P o1 a w K' Q else K' (a.put o1.dst undef) w)
    (h2 : ∀ K' : Act → World → Prop, Shut (∀ a w, C w → wpHold P md ops Q C fuel (listed.setIfInBounds k2 true) a w → K' a w) → if Region.wanted o2 (yielded ops a.tmps) = true then Oper.wp P o2 a w K' Q else K' (a.put o2.dst undef) w)
    (h3 : ∀ K' : Act → World → Prop, Shut (∀ a w, C w → wpHold P md ops Q C fuel (listed.setIfInBounds k3 true) a w → K' a w) → if Region.wanted o3 (yielded ops a.tmps) = true then Oper.wp P o3 a w K' Q else K' (a.put o3.dst undef) w) :
    wpHold P md ops Q C (fuel + 1) listed a w := by
  refine ⟨fun h0 => (by rw [hr] at h0; cases h0), fun i hi => ?_⟩
  rw [hr] at hi
  rcases List.mem_cons.1 hi with rfl | hi
  · exact wpOp_step ho1 (fun K' hK => h1 K' (fun a w hS hW => hK a w ⟨hS, hW⟩))
  rcases List.mem_cons.1 hi with rfl | hi
  · exact wpOp_step ho2 (fun K' hK => h2 K' (fun a w hS hW => hK a w ⟨hS, hW⟩))
  · obtain rfl := List.mem_singleton.1 hi
    exact wpOp_step ho3 (fun K' hK => h3 K' (fun a w hS hW => hK a w ⟨hS, hW⟩))

theorem quo_math (x y : Rat) : Rat.divInt (x.num * (y.den : Int)) ((x.den : Int) * y.num) = x / y := by
  rw [Rat.div_def, Rat.inv_def]
  conv => rhs; lhs; rw [← Rat.num_divInt_den x]
  rw [Rat.divInt_mul_divInt]

set_option maxHeartbeats 16000000 in
set_option maxRecDepth 100000 in
set_option linter.unusedSimpArgs false in
theorem quo_any (P : Nat → Prop) (dv : Divs P) (b o b1 o1 b2 o2 : Nat) (qx qy : Rat) (w : World) (k : SlotR w b o) (x : BRat w b1 o1 qx) (y : BRat w b2 o2 qy) (hy : qy.num ≠ 0) (p1 : P qx.num.natAbs) (p2 : P qy.den) (p3 : P qx.den) (p4 : P qy.num.natAbs) (pn : P (qx.num * (qy.den : Int)).natAbs) (pd : P ((qx.den : Int) * qy.num).natAbs) :
    Calls Tryz.prog 16 #[.pointer (some ⟨b, o, none⟩), .pointer (some ⟨b1, o1, none⟩), .pointer (some ⟨b2, o2, none⟩)] w (MakesAt w b o (qx / qy)) := by
  have S1 := hide (dv.sm _ p1)
  have S2 : Hid (SmH (((qy.den : Int).natAbs : Nat) : Int)) := by show SmH _; rw [Int.natAbs_natCast]; exact dv.sm _ p2
  have S3 : Hid (SmH (((qx.den : Int).natAbs : Nat) : Int)) := by show SmH _; rw [Int.natAbs_natCast]; exact dv.sm _ p3
  have S4 := hide (dv.sm _ p4)
  have HX := hide x
  have HY := hide y
  have HK := hide k
  have HPN := hide pn
  have HPD := hide pd
  have HDV := hide dv
  have HNZ : Hid ((qx.den : Int) * qy.num ≠ 0) := Int.mul_ne_zero (by have := qx.den_pos; omega) hy
  have HQ := hide (quo_math qx qy)
  clear x y k pn pd dv hy p1 p2 p3 p4
  go_enter Tryz.func16, Tryz.ntmps16
  go_wp2_with fail
  refine wp_region_hold (fun _ : World => True) (by kernel_rfl) ?_
  have bd0 : Below w.heap.size w w.drew := (Below.refl _ _).drew
  obtain ⟨W0, hW0⟩ : ∃ W, w.drew = W := ⟨_, rfl⟩
  rw [hW0] at bd0 ⊢
  have hC0 : (fun _ : World => True) W0 := trivial
  have BL0 := hide bd0
  clear hW0 bd0
  refine wpHold_take (i := 0) (v := ?_) rfl (by kernel_rfl) (by kernel_rfl) (by kernel_rfl) (fun _ _ _ h => h) (Or.inl ⟨by rfl, ?_⟩) hC0 ?_
  rotate_left
  · intro w hSw; clear hSw; go_simp; (try with_reducible rfl)
  (try simp only [List.getElem_toArray, List.getElem_cons_succ, List.getElem_cons_zero])
  (try simp only [Act.put, List.setIfInBounds_toArray, List.set_cons_zero, List.set_cons_succ])
  refine wpHold_take (i := 2) (v := ?_) rfl (by kernel_rfl) (by kernel_rfl) (by kernel_rfl) (fun _ _ _ h => h) (Or.inl ⟨by rfl, ?_⟩) hC0 ?_
  rotate_left
  · intro w hSw; clear hSw; go_simp; (try with_reducible rfl)
  (try simp only [List.getElem_toArray, List.getElem_cons_succ, List.getElem_cons_zero])
  (try simp only [Act.put, List.setIfInBounds_toArray, List.set_cons_zero, List.set_cons_succ])
  refine wpHold_take (i := 3) (v := ?_) rfl (by kernel_rfl) (by kernel_rfl) (by kernel_rfl) (fun _ _ _ h => h) (Or.inl ⟨by rfl, ?_⟩) hC0 ?_
  rotate_left
  · intro w hSw; clear hSw; go_simp; (try with_reducible rfl)
  (try simp only [List.getElem_toArray, List.getElem_cons_succ, List.getElem_cons_zero])
  (try simp only [Act.put, List.setIfInBounds_toArray, List.set_cons_zero, List.set_cons_succ])
  refine wpHold_take (i := 4) (v := ?_) rfl (by kernel_rfl) (by kernel_rfl) (by kernel_rfl) (fun _ _ _ h => h) (Or.inl ⟨by rfl, ?_⟩) hC0 ?_
  rotate_left
  · intro w hSw; clear hSw; go_simp; (try with_reducible rfl)
  (try simp only [List.getElem_toArray, List.getElem_cons_succ, List.getElem_cons_zero])
  (try simp only [Act.put, List.setIfInBounds_toArray, List.set_cons_zero, List.set_cons_succ])
  refine wpHold_take (i := 5) (v := ?_) rfl (by kernel_rfl) (by kernel_rfl) (by kernel_rfl) (fun _ _ _ h => h) (Or.inl ⟨by rfl, ?_⟩) hC0 ?_
  rotate_left
  · intro w hSw; clear hSw; go_simp; (try with_reducible rfl)
  (try simp only [List.getElem_toArray, List.getElem_cons_succ, List.getElem_cons_zero])
  (try simp only [Act.put, List.setIfInBounds_toArray, List.set_cons_zero, List.set_cons_succ])
  refine wpHold_take (i := 9) (v := ?_) rfl (by kernel_rfl) (by kernel_rfl) (by kernel_rfl) (fun _ _ _ h => h) (Or.inl ⟨by rfl, ?_⟩) hC0 ?_
  rotate_left
  · intro w hSw; clear hSw; go_simp; (try with_reducible rfl)
  (try simp only [List.getElem_toArray, List.getElem_cons_succ, List.getElem_cons_zero])
  (try simp only [Act.put, List.setIfInBounds_toArray, List.set_cons_zero, List.set_cons_succ])
  refine wpHold_take (i := 11) (v := ?_) rfl (by kernel_rfl) (by kernel_rfl) (by kernel_rfl) (fun _ _ _ h => h) (Or.inl ⟨by rfl, ?_⟩) hC0 ?_
  rotate_left
  · intro w hSw; clear hSw; go_simp; (try with_reducible rfl)
  (try simp only [List.getElem_toArray, List.getElem_cons_succ, List.getElem_cons_zero])
  (try simp only [Act.put, List.setIfInBounds_toArray, List.set_cons_zero, List.set_cons_succ])
  refine wpHold_take (i := 12) (v := ?_) rfl (by kernel_rfl) (by kernel_rfl) (by kernel_rfl) (fun _ _ _ h => h) (Or.inl ⟨by rfl, ?_⟩) hC0 ?_
  rotate_left
  · intro w hSw; clear hSw; go_simp; (try with_reducible rfl)
  (try simp only [List.getElem_toArray, List.getElem_cons_succ, List.getElem_cons_zero])
  (try simp only [Act.put, List.setIfInBounds_toArray, List.set_cons_zero, List.set_cons_succ])
  refine wpHold_take (i := 13) (v := ?_) rfl (by kernel_rfl) (by kernel_rfl) (by kernel_rfl) (fun _ _ _ h => h) (Or.inl ⟨by rfl, ?_⟩) hC0 ?_
  rotate_left
  · intro w hSw; clear hSw; go_simp; (try with_reducible rfl)
  (try simp only [List.getElem_toArray, List.getElem_cons_succ, List.getElem_cons_zero])
  (try simp only [Act.put, List.setIfInBounds_toArray, List.set_cons_zero, List.set_cons_succ])
  clear hC0
  refine wpHold_three (by kernel_rfl : _ = [1, 6, 8]) rfl rfl rfl (fun K hK => ?_) (fun K hK => ?_) (fun K hK => ?_)
  · (try simp only [List.getElem_toArray, List.getElem_cons_succ, List.getElem_cons_zero])
    go_simp
    refine hK.out _ _ trivial ?_
    clear hK K
    (try simp only [Act.put, List.setIfInBounds_toArray, List.set_cons_zero, List.set_cons_succ])
    obtain ⟨W1, hWm⟩ : ∃ V, W0.alloc (.cells #[.bool false, .slice none 0 0] 47) = V := ⟨_, rfl⟩
    obtain ⟨gA, hgm⟩ : ∃ g, W0.heap.size = g := ⟨_, rfl⟩
    rw [hWm, hgm]
    have FX3 := hide (int_new W0)
    rw [hWm, hgm] at FX3
    have GA : Hid (w.heap.size ≤ gA) := hgm ▸ (unhide BL0).size
    have bm := abelow W0 (.cells #[.bool false, .slice none 0 0] 47)
    rw [hWm] at bm
    have BL2 := hide (bstep (unhide BL0) bm)
    clear hWm hgm bm
    refine wpHold_two (by kernel_rfl : _ = [6, 8]) rfl rfl (fun K hK => ?_) (fun K hK => ?_)
    · (try simp only [List.getElem_toArray, List.getElem_cons_succ, List.getElem_cons_zero])
      go_simp
      refine (den_any b2 o2 _ W1 ((unhide HY).below (unhide BL2))).mono ?_
      rintro e Wm ⟨rfl, hw⟩
      have hw := hw.symm
      subst hw
      refine hK.out _ _ trivial ?_
      clear hK K
      (try simp only [Act.put, List.setIfInBounds_toArray, List.set_cons_zero, List.set_cons_succ])
      refine wpHold_two (by kernel_rfl : _ = [7, 8]) rfl rfl (fun K hK => ?_) (fun K hK => ?_)
      · (try simp only [List.getElem_toArray, List.getElem_cons_succ, List.getElem_cons_zero])
        go_simp
        refine (imul_any gA 0 b1 o1 b2 (o2 + 2) _ _ W1 (unhide FX3).slot ((unhide HX).1.below (unhide BL2)) ((unhide HY).2.below (unhide BL2)) (unhide S1) (unhide S2)).mono ?_
        intro e W4 hG
        have FX5 := hide (hG.int (unhide FX3).slot)
        have BL6 := hide (hG.bl (unhide BL2) (unhide GA))
        have he := hG.1
        subst he
        clear hG
        refine hK.out _ _ trivial ?_
        clear hK K
        (try simp only [Act.put, List.setIfInBounds_toArray, List.set_cons_zero, List.set_cons_succ])
        refine wpHold_two (by kernel_rfl : _ = [8, 10]) rfl rfl (fun K hK => ?_) (fun K hK => ?_)
        · (try simp only [List.getElem_toArray, List.getElem_cons_succ, List.getElem_cons_zero])
          go_simp
          refine hK.out _ _ trivial ?_
          clear hK K
          (try simp only [Act.put, List.setIfInBounds_toArray, List.set_cons_zero, List.set_cons_succ])
          obtain ⟨W7, hWm⟩ : ∃ V, W4.alloc (.cells #[.bool false, .slice none 0 0] 47) = V := ⟨_, rfl⟩
          obtain ⟨gB, hgm⟩ : ∃ g, W4.heap.size = g := ⟨_, rfl⟩
          rw [hWm, hgm]
          have FX9 := hide (int_new W4)
          rw [hWm, hgm] at FX9
          have GB : Hid (w.heap.size ≤ gB) := hgm ▸ (unhide BL6).size
          have bm := abelow W4 (.cells #[.bool false, .slice none 0 0] 47)
          rw [hWm] at bm
          have BL8 := hide (bstep (unhide BL6) bm)
          have FX10 := hide ((unhide FX5).below bm)
          have AP : Hid (gA ≠ gB) := by show _ ≠ _; have := (unhide FX5).lt; omega
          clear hWm hgm bm
          refine wpHold_one (k := 10) (by kernel_rfl) rfl (fun K hK => ?_)
          (try simp only [List.getElem_toArray, List.getElem_cons_succ, List.getElem_cons_zero])
          go_simp
          refine (den_any b1 o1 _ W7 ((unhide HX).below (unhide BL8))).mono ?_
          rintro e Wm ⟨rfl, hw⟩
          have hw := hw.symm
          subst hw
          refine hK.out _ _ trivial ?_
          clear hK K
          (try simp only [Act.put, List.setIfInBounds_toArray, List.set_cons_zero, List.set_cons_succ])
          refine wpHold_one (k := 14) (by kernel_rfl) rfl (fun K hK => ?_)
          (try simp only [List.getElem_toArray, List.getElem_cons_succ, List.getElem_cons_zero])
          go_simp
          refine (imul_any gB 0 b1 (o1 + 2) b2 o2 _ _ W7 (unhide FX9).slot ((unhide HX).2.below (unhide BL8)) ((unhide HY).1.below (unhide BL8)) (unhide S3) (unhide S4)).mono ?_
          intro e W11 hG
          have FX12 := hide (hG.int (unhide FX9).slot)
          have BL13 := hide (hG.bl (unhide BL8) (unhide GB))
          have FX14 := hide (hG.other (unhide FX9).slot (unhide FX10) (fun e => absurd e.symm (unhide AP)))
          have he := hG.1
          subst he
          clear hG
          refine hK.out _ _ trivial ?_
          clear hK K
          (try simp only [Act.put, List.setIfInBounds_toArray, List.set_cons_zero, List.set_cons_succ])
          refine wpHold_one (k := 15) (by kernel_rfl) rfl (fun K hK => ?_)
          (try simp only [List.getElem_toArray, List.getElem_cons_succ, List.getElem_cons_zero])
          go_simp
          refine (setFrac_any P (unhide HDV) b o gA 0 gB 0 _ _ W11 ((unhide HK).below (unhide BL13)) (unhide FX14) (unhide FX12) (unhide HNZ) (unhide HPN) (unhide HPD)).mono ?_
          rintro e wl ⟨rfl, hr, hf⟩
          have HR := hide hr
          have HFF := hide hf
          clear hr hf
          refine hK.out _ _ trivial ?_
          clear hK K
          (try simp only [Act.put, List.setIfInBounds_toArray, List.set_cons_zero, List.set_cons_succ])
          refine wpHold_one (k := 16) (by kernel_rfl) rfl (fun K hK => ?_)
          (try simp only [List.getElem_toArray, List.getElem_cons_succ, List.getElem_cons_zero])
          go_simp
          refine hK.out _ _ trivial ?_
          clear hK K
          (try simp only [Act.put, List.setIfInBounds_toArray, List.set_cons_zero, List.set_cons_succ])
          refine wpHold_done (by kernel_rfl) ?_ _
          go_wp2
          go_ret
          exact ⟨rfl, by rw [← unhide HQ]; exact unhide HR, fun w0 h0 hb => unhide HFF w0 (bstep h0 (unhide BL13)) hb⟩
        · (try simp only [List.getElem_toArray, List.getElem_cons_succ, List.getElem_cons_zero])
          go_simp
          refine (den_any b1 o1 _ W4 ((unhide HX).below (unhide BL6))).mono ?_
          rintro e Wm ⟨rfl, hw⟩
          have hw := hw.symm
          subst hw
          refine hK.out _ _ trivial ?_
          clear hK K
          (try simp only [Act.put, List.setIfInBounds_toArray, List.set_cons_zero, List.set_cons_succ])
          refine wpHold_one (k := 8) (by kernel_rfl) rfl (fun K hK => ?_)
          (try simp only [List.getElem_toArray, List.getElem_cons_succ, List.getElem_cons_zero])
          go_simp
          refine hK.out _ _ trivial ?_
          clear hK K
          (try simp only [Act.put, List.setIfInBounds_toArray, List.set_cons_zero, List.set_cons_succ])
          obtain ⟨W15, hWm⟩ : ∃ V, W4.alloc (.cells #[.bool false, .slice none 0 0] 47) = V := ⟨_, rfl⟩
          obtain ⟨gB, hgm⟩ : ∃ g, W4.heap.size = g := ⟨_, rfl⟩
          rw [hWm, hgm]
          have FX17 := hide (int_new W4)
          rw [hWm, hgm] at FX17
          have GB : Hid (w.heap.size ≤ gB) := hgm ▸ (unhide BL6).size
          have bm := abelow W4 (.cells #[.bool false, .slice none 0 0] 47)
          rw [hWm] at bm
          have BL16 := hide (bstep (unhide BL6) bm)
          have FX18 := hide ((unhide FX5).below bm)
          have AP : Hid (gA ≠ gB) := by show _ ≠ _; have := (unhide FX5).lt; omega
          clear hWm hgm bm
          refine wpHold_one (k := 14) (by kernel_rfl) rfl (fun K hK => ?_)
          (try simp only [List.getElem_toArray, List.getElem_cons_succ, List.getElem_cons_zero])
          go_simp
          refine (imul_any gB 0 b1 (o1 + 2) b2 o2 _ _ W15 (unhide FX17).slot ((unhide HX).2.below (unhide BL16)) ((unhide HY).1.below (unhide BL16)) (unhide S3) (unhide S4)).mono ?_
          intro e W19 hG
          have FX20 := hide (hG.int (unhide FX17).slot)
          have BL21 := hide (hG.bl (unhide BL16) (unhide GB))
          have FX22 := hide (hG.other (unhide FX17).slot (unhide FX18) (fun e => absurd e.symm (unhide AP)))
          have he := hG.1
          subst he
          clear hG
          refine hK.out _ _ trivial ?_
          clear hK K
          (try simp only [Act.put, List.setIfInBounds_toArray, List.set_cons_zero, List.set_cons_succ])
          refine wpHold_one (k := 15) (by kernel_rfl) rfl (fun K hK => ?_)
          (try simp only [List.getElem_toArray, List.getElem_cons_succ, List.getElem_cons_zero])
          go_simp
          refine (setFrac_any P (unhide HDV) b o gA 0 gB 0 _ _ W19 ((unhide HK).below (unhide BL21)) (unhide FX22) (unhide FX20) (unhide HNZ) (unhide HPN) (unhide HPD)).mono ?_
          rintro e wl ⟨rfl, hr, hf⟩
          have HR := hide hr
          have HFF := hide hf
          clear hr hf
          refine hK.out _ _ trivial ?_
          clear hK K
          (try simp only [Act.put, List.setIfInBounds_toArray, List.set_cons_zero, List.set_cons_succ])
          refine wpHold_one (k := 16) (by kernel_rfl) rfl (fun K hK => ?_)
          (try simp only [List.getElem_toArray, List.getElem_cons_succ, List.getElem_cons_zero])
          go_simp
          refine hK.out _ _ trivial ?_
          clear hK K
          (try simp only [Act.put, List.setIfInBounds_toArray, List.set_cons_zero, List.set_cons_succ])
          refine wpHold_done (by kernel_rfl) ?_ _
          go_wp2
          go_ret
          exact ⟨rfl, by rw [← unhide HQ]; exact unhide HR, fun w0 h0 hb => unhide HFF w0 (bstep h0 (unhide BL21)) hb⟩
      · (try simp only [List.getElem_toArray, List.getElem_cons_succ, List.getElem_cons_zero])
        go_simp
        refine hK.out _ _ trivial ?_
        clear hK K
        (try simp only [Act.put, List.setIfInBounds_toArray, List.set_cons_zero, List.set_cons_succ])
        obtain ⟨W23, hWm⟩ : ∃ V, W1.alloc (.cells #[.bool false, .slice none 0 0] 47) = V := ⟨_, rfl⟩
        obtain ⟨gB, hgm⟩ : ∃ g, W1.heap.size = g := ⟨_, rfl⟩
        rw [hWm, hgm]
        have FX25 := hide (int_new W1)
        rw [hWm, hgm] at FX25
        have GB : Hid (w.heap.size ≤ gB) := hgm ▸ (unhide BL2).size
        have bm := abelow W1 (.cells #[.bool false, .slice none 0 0] 47)
        rw [hWm] at bm
        have BL24 := hide (bstep (unhide BL2) bm)
        have FX26 := hide ((unhide FX3).below bm)
        have AP : Hid (gA ≠ gB) := by show _ ≠ _; have := (unhide FX3).lt; omega
        clear hWm hgm bm
        refine wpHold_one (k := 7) (by kernel_rfl) rfl (fun K hK => ?_)
        (try simp only [List.getElem_toArray, List.getElem_cons_succ, List.getElem_cons_zero])
        go_simp
        refine (imul_any gA 0 b1 o1 b2 (o2 + 2) _ _ W23 (unhide FX26).slot ((unhide HX).1.below (unhide BL24)) ((unhide HY).2.below (unhide BL24)) (unhide S1) (unhide S2)).mono ?_
        intro e W27 hG
        have FX28 := hide (hG.int (unhide FX26).slot)
        have BL29 := hide (hG.bl (unhide BL24) (unhide GA))
        have FX30 := hide (hG.other (unhide FX26).slot (unhide FX25) (fun e => absurd e (unhide AP)))
        have he := hG.1
        subst he
        clear hG
        refine hK.out _ _ trivial ?_
        clear hK K
        (try simp only [Act.put, List.setIfInBounds_toArray, List.set_cons_zero, List.set_cons_succ])
        refine wpHold_one (k := 10) (by kernel_rfl) rfl (fun K hK => ?_)
        (try simp only [List.getElem_toArray, List.getElem_cons_succ, List.getElem_cons_zero])
        go_simp
        refine (den_any b1 o1 _ W27 ((unhide HX).below (unhide BL29))).mono ?_
        rintro e Wm ⟨rfl, hw⟩
        have hw := hw.symm
        subst hw
        refine hK.out _ _ trivial ?_
        clear hK K
        (try simp only [Act.put, List.setIfInBounds_toArray, List.set_cons_zero, List.set_cons_succ])
        refine wpHold_one (k := 14) (by kernel_rfl) rfl (fun K hK => ?_)
        (try simp only [List.getElem_toArray, List.getElem_cons_succ, List.getElem_cons_zero])
        go_simp
        refine (imul_any gB 0 b1 (o1 + 2) b2 o2 _ _ W27 (unhide FX30).slot ((unhide HX).2.below (unhide BL29)) ((unhide HY).1.below (unhide BL29)) (unhide S3) (unhide S4)).mono ?_
        intro e W31 hG
        have FX32 := hide (hG.int (unhide FX30).slot)
        have BL33 := hide (hG.bl (unhide BL29) (unhide GB))
        have FX34 := hide (hG.other (unhide FX30).slot (unhide FX28) (fun e => absurd e.symm (unhide AP)))
        have he := hG.1
        subst he
        clear hG
        refine hK.out _ _ trivial ?_
        clear hK K
        (try simp only [Act.put, List.setIfInBounds_toArray, List.set_cons_zero, List.set_cons_succ])
        refine wpHold_one (k := 15) (by kernel_rfl) rfl (fun K hK => ?_)
        (try simp only [List.getElem_toArray, List.getElem_cons_succ, List.getElem_cons_zero])
        go_simp
        refine (setFrac_any P (unhide HDV) b o gA 0 gB 0 _ _ W31 ((unhide HK).below (unhide BL33)) (unhide FX34) (unhide FX32) (unhide HNZ) (unhide HPN) (unhide HPD)).mono ?_
        rintro e wl ⟨rfl, hr, hf⟩
        have HR := hide hr
        have HFF := hide hf
        clear hr hf
        refine hK.out _ _ trivial ?_
        clear hK K
        (try simp only [Act.put, List.setIfInBounds_toArray, List.set_cons_zero, List.set_cons_succ])
        refine wpHold_one (k := 16) (by kernel_rfl) rfl (fun K hK => ?_)
        (try simp only [List.getElem_toArray, List.getElem_cons_succ, List.getElem_cons_zero])
        go_simp
        refine hK.out _ _ trivial ?_
        clear hK K
        (try simp only [Act.put, List.setIfInBounds_toArray, List.set_cons_zero, List.set_cons_succ])
        refine wpHold_done (by kernel_rfl) ?_ _
        go_wp2
        go_ret
        exact ⟨rfl, by rw [← unhide HQ]; exact unhide HR, fun w0 h0 hb => unhide HFF w0 (bstep h0 (unhide BL33)) hb⟩
    · (try simp only [List.getElem_toArray, List.getElem_cons_succ, List.getElem_cons_zero])
      go_simp
      refine hK.out _ _ trivial ?_
      clear hK K
      (try simp only [Act.put, List.setIfInBounds_toArray, List.set_cons_zero, List.set_cons_succ])
      obtain ⟨W35, hWm⟩ : ∃ V, W1.alloc (.cells #[.bool false, .slice none 0 0] 47) = V := ⟨_, rfl⟩
      obtain ⟨gB, hgm⟩ : ∃ g, W1.heap.size = g := ⟨_, rfl⟩
      rw [hWm, hgm]
      have FX37 := hide (int_new W1)
      rw [hWm, hgm] at FX37
      have GB : Hid (w.heap.size ≤ gB) := hgm ▸ (unhide BL2).size
      have bm := abelow W1 (.cells #[.bool false, .slice none 0 0] 47)
      rw [hWm] at bm
      have BL36 := hide (bstep (unhide BL2) bm)
      have FX38 := hide ((unhide FX3).below bm)
      have AP : Hid (gA ≠ gB) := by show _ ≠ _; have := (unhide FX3).lt; omega
      clear hWm hgm bm
      refine wpHold_one (k := 6) (by kernel_rfl) rfl (fun K hK => ?_)
      (try simp only [List.getElem_toArray, List.getElem_cons_succ, List.getElem_cons_zero])
      go_simp
      refine (den_any b2 o2 _ W35 ((unhide HY).below (unhide BL36))).mono ?_
      rintro e Wm ⟨rfl, hw⟩
      have hw := hw.symm
      subst hw
      refine hK.out _ _ trivial ?_
      clear hK K
      (try simp only [Act.put, List.setIfInBounds_toArray, List.set_cons_zero, List.set_cons_succ])
      refine wpHold_one (k := 7) (by kernel_rfl) rfl (fun K hK => ?_)
      (try simp only [List.getElem_toArray, List.getElem_cons_succ, List.getElem_cons_zero])
      go_simp
      refine (imul_any gA 0 b1 o1 b2 (o2 + 2) _ _ W35 (unhide FX38).slot ((unhide HX).1.below (unhide BL36)) ((unhide HY).2.below (unhide BL36)) (unhide S1) (unhide S2)).mono ?_
      intro e W39 hG
      have FX40 := hide (hG.int (unhide FX38).slot)
      have BL41 := hide (hG.bl (unhide BL36) (unhide GA))
      have FX42 := hide (hG.other (unhide FX38).slot (unhide FX37) (fun e => absurd e (unhide AP)))
      have he := hG.1
      subst he
      clear hG
      refine hK.out _ _ trivial ?_
      clear hK K
      (try simp only [Act.put, List.setIfInBounds_toArray, List.set_cons_zero, List.set_cons_succ])
      refine wpHold_one (k := 10) (by kernel_rfl) rfl (fun K hK => ?_)
      (try simp only [List.getElem_toArray, List.getElem_cons_succ, List.getElem_cons_zero])
      go_simp
      refine (den_any b1 o1 _ W39 ((unhide HX).below (unhide BL41))).mono ?_
      rintro e Wm ⟨rfl, hw⟩
      have hw := hw.symm
      subst hw
      refine hK.out _ _ trivial ?_
      clear hK K
      (try simp only [Act.put, List.setIfInBounds_toArray, List.set_cons_zero, List.set_cons_succ])
      refine wpHold_one (k := 14) (by kernel_rfl) rfl (fun K hK => ?_)
      (try simp only [List.getElem_toArray, List.getElem_cons_succ, List.getElem_cons_zero])
      go_simp
      refine (imul_any gB 0 b1 (o1 + 2) b2 o2 _ _ W39 (unhide FX42).slot ((unhide HX).2.below (unhide BL41)) ((unhide HY).1.below (unhide BL41)) (unhide S3) (unhide S4)).mono ?_
      intro e W43 hG
      have FX44 := hide (hG.int (unhide FX42).slot)
      have BL45 := hide (hG.bl (unhide BL41) (unhide GB))
      have FX46 := hide (hG.other (unhide FX42).slot (unhide FX40) (fun e => absurd e.symm (unhide AP)))
      have he := hG.1
      subst he
      clear hG
      refine hK.out _ _ trivial ?_
      clear hK K
      (try simp only [Act.put, List.setIfInBounds_toArray, List.set_cons_zero, List.set_cons_succ])
      refine wpHold_one (k := 15) (by kernel_rfl) rfl (fun K hK => ?_)
      (try simp only [List.getElem_toArray, List.getElem_cons_succ, List.getElem_cons_zero])
      go_simp
      refine (setFrac_any P (unhide HDV) b o gA 0 gB 0 _ _ W43 ((unhide HK).below (unhide BL45)) (unhide FX46) (unhide FX44) (unhide HNZ) (unhide HPN) (unhide HPD)).mono ?_
      rintro e wl ⟨rfl, hr, hf⟩
      have HR := hide hr
      have HFF := hide hf
      clear hr hf
      refine hK.out _ _ trivial ?_
      clear hK K
      (try simp only [Act.put, List.setIfInBounds_toArray, List.set_cons_zero, List.set_cons_succ])
      refine wpHold_one (k := 16) (by kernel_rfl) rfl (fun K hK => ?_)
      (try simp only [List.getElem_toArray, List.getElem_cons_succ, List.getElem_cons_zero])
      go_simp
      refine hK.out _ _ trivial ?_
      clear hK K
      (try simp only [Act.put, List.setIfInBounds_toArray, List.set_cons_zero, List.set_cons_succ])
      refine wpHold_done (by kernel_rfl) ?_ _
      go_wp2
      go_ret
      exact ⟨rfl, by rw [← unhide HQ]; exact unhide HR, fun w0 h0 hb => unhide HFF w0 (bstep h0 (unhide BL45)) hb⟩
  · (try simp only [List.getElem_toArray, List.getElem_cons_succ, List.getElem_cons_zero])
    go_simp
    refine (den_any b2 o2 _ W0 ((unhide HY).below (unhide BL0))).mono ?_
    rintro e Wm ⟨rfl, hw⟩
    have hw := hw.symm
    subst hw
    refine hK.out _ _ trivial ?_
    clear hK K
    (try simp only [Act.put, List.setIfInBounds_toArray, List.set_cons_zero, List.set_cons_succ])
    refine wpHold_two (by kernel_rfl : _ = [1, 8]) rfl rfl (fun K hK => ?_) (fun K hK => ?_)
    · (try simp only [List.getElem_toArray, List.getElem_cons_succ, List.getElem_cons_zero])
      go_simp
      refine hK.out _ _ trivial ?_
      clear hK K
      (try simp only [Act.put, List.setIfInBounds_toArray, List.set_cons_zero, List.set_cons_succ])
      obtain ⟨W47, hWm⟩ : ∃ V, W0.alloc (.cells #[.bool false, .slice none 0 0] 47) = V := ⟨_, rfl⟩
      obtain ⟨gA, hgm⟩ : ∃ g, W0.heap.size = g := ⟨_, rfl⟩
      rw [hWm, hgm]
      have FX49 := hide (int_new W0)
      rw [hWm, hgm] at FX49
      have GA : Hid (w.heap.size ≤ gA) := hgm ▸ (unhide BL0).size
      have bm := abelow W0 (.cells #[.bool false, .slice none 0 0] 47)
      rw [hWm] at bm
      have BL48 := hide (bstep (unhide BL0) bm)
      clear hWm hgm bm
      refine wpHold_two (by kernel_rfl : _ = [7, 8]) rfl rfl (fun K hK => ?_) (fun K hK => ?_)
      · (try simp only [List.getElem_toArray, List.getElem_cons_succ, List.getElem_cons_zero])
        go_simp
        refine (imul_any gA 0 b1 o1 b2 (o2 + 2) _ _ W47 (unhide FX49).slot ((unhide HX).1.below (unhide BL48)) ((unhide HY).2.below (unhide BL48)) (unhide S1) (unhide S2)).mono ?_
        intro e W50 hG
        have FX51 := hide (hG.int (unhide FX49).slot)
        have BL52 := hide (hG.bl (unhide BL48) (unhide GA))
        have he := hG.1
        subst he
        clear hG
        refine hK.out _ _ trivial ?_
        clear hK K
        (try simp only [Act.put, List.setIfInBounds_toArray, List.set_cons_zero, List.set_cons_succ])
        refine wpHold_two (by kernel_rfl : _ = [8, 10]) rfl rfl (fun K hK => ?_) (fun K hK => ?_)
        · (try simp only [List.getElem_toArray, List.getElem_cons_succ, List.getElem_cons_zero])
          go_simp
          refine hK.out _ _ trivial ?_
          clear hK K
          (try simp only [Act.put, List.setIfInBounds_toArray, List.set_cons_zero, List.set_cons_succ])
          obtain ⟨W53, hWm⟩ : ∃ V, W50.alloc (.cells #[.bool false, .slice none 0 0] 47) = V := ⟨_, rfl⟩
          obtain ⟨gB, hgm⟩ : ∃ g, W50.heap.size = g := ⟨_, rfl⟩
          rw [hWm, hgm]
          have FX55 := hide (int_new W50)
          rw [hWm, hgm] at FX55
          have GB : Hid (w.heap.size ≤ gB) := hgm ▸ (unhide BL52).size
          have bm := abelow W50 (.cells #[.bool false, .slice none 0 0] 47)
          rw [hWm] at bm
          have BL54 := hide (bstep (unhide BL52) bm)
          have FX56 := hide ((unhide FX51).below bm)
          have AP : Hid (gA ≠ gB) := by show _ ≠ _; have := (unhide FX51).lt; omega
          clear hWm hgm bm
          refine wpHold_one (k := 10) (by kernel_rfl) rfl (fun K hK => ?_)
          (try simp only [List.getElem_toArray, List.getElem_cons_succ, List.getElem_cons_zero])
          go_simp
          refine (den_any b1 o1 _ W53 ((unhide HX).below (unhide BL54))).mono ?_
          rintro e Wm ⟨rfl, hw⟩
          have hw := hw.symm
          subst hw
          refine hK.out _ _ trivial ?_
          clear hK K
          (try simp only [Act.put, List.setIfInBounds_toArray, List.set_cons_zero, List.set_cons_succ])
          refine wpHold_one (k := 14) (by kernel_rfl) rfl (fun K hK => ?_)
          (try simp only [List.getElem_toArray, List.getElem_cons_succ, List.getElem_cons_zero])
          go_simp
          refine (imul_any gB 0 b1 (o1 + 2) b2 o2 _ _ W53 (unhide FX55).slot ((unhide HX).2.below (unhide BL54)) ((unhide HY).1.below (unhide BL54)) (unhide S3) (unhide S4)).mono ?_
          intro e W57 hG
          have FX58 := hide (hG.int (unhide FX55).slot)
          have BL59 := hide (hG.bl (unhide BL54) (unhide GB))
          have FX60 := hide (hG.other (unhide FX55).slot (unhide FX56) (fun e => absurd e.symm (unhide AP)))
          have he := hG.1
          subst he
          clear hG
          refine hK.out _ _ trivial ?_
          clear hK K
          (try simp only [Act.put, List.setIfInBounds_toArray, List.set_cons_zero, List.set_cons_succ])
          refine wpHold_one (k := 15) (by kernel_rfl) rfl (fun K hK => ?_)
          (try simp only [List.getElem_toArray, List.getElem_cons_succ, List.getElem_cons_zero])
          go_simp
          refine (setFrac_any P (unhide HDV) b o gA 0 gB 0 _ _ W57 ((unhide HK).below (unhide BL59)) (unhide FX60) (unhide FX58) (unhide HNZ) (unhide HPN) (unhide HPD)).mono ?_
          rintro e wl ⟨rfl, hr, hf⟩
          have HR := hide hr
          have HFF := hide hf
          clear hr hf
          refine hK.out _ _ trivial ?_
          clear hK K
          (try simp only [Act.put, List.setIfInBounds_toArray, List.set_cons_zero, List.set_cons_succ])
          refine wpHold_one (k := 16) (by kernel_rfl) rfl (fun K hK => ?_)
          (try simp only [List.getElem_toArray, List.getElem_cons_succ, List.getElem_cons_zero])
          go_simp
          refine hK.out _ _ trivial ?_
          clear hK K
          (try simp only [Act.put, List.setIfInBounds_toArray, List.set_cons_zero, List.set_cons_succ])
          refine wpHold_done (by kernel_rfl) ?_ _
          go_wp2
          go_ret
          exact ⟨rfl, by rw [← unhide HQ]; exact unhide HR, fun w0 h0 hb => unhide HFF w0 (bstep h0 (unhide BL59)) hb⟩
        · (try simp only [List.getElem_toArray, List.getElem_cons_succ, List.getElem_cons_zero])
          go_simp
          refine (den_any b1 o1 _ W50 ((unhide HX).below (unhide BL52))).mono ?_
          rintro e Wm ⟨rfl, hw⟩
          have hw := hw.symm
          subst hw
          refine hK.out _ _ trivial ?_
          clear hK K
          (try simp only [Act.put, List.setIfInBounds_toArray, List.set_cons_zero, List.set_cons_succ])
          refine wpHold_one (k := 8) (by kernel_rfl) rfl (fun K hK => ?_)
          (try simp only [List.getElem_toArray, List.getElem_cons_succ, List.getElem_cons_zero])
          go_simp
          refine hK.out _ _ trivial ?_
          clear hK K
          (try simp only [Act.put, List.setIfInBounds_toArray, List.set_cons_zero, List.set_cons_succ])
          obtain ⟨W61, hWm⟩ : ∃ V, W50.alloc (.cells #[.bool false, .slice none 0 0] 47) = V := ⟨_, rfl⟩
          obtain ⟨gB, hgm⟩ : ∃ g, W50.heap.size = g := ⟨_, rfl⟩
          rw [hWm, hgm]
          have FX63 := hide (int_new W50)
          rw [hWm, hgm] at FX63
          have GB : Hid (w.heap.size ≤ gB) := hgm ▸ (unhide BL52).size
          have bm := abelow W50 (.cells #[.bool false, .slice none 0 0] 47)
          rw [hWm] at bm
          have BL62 := hide (bstep (unhide BL52) bm)
          have FX64 := hide ((unhide FX51).below bm)
          have AP : Hid (gA ≠ gB) := by show _ ≠ _; have := (unhide FX51).lt; omega
          clear hWm hgm bm
          refine wpHold_one (k := 14) (by kernel_rfl) rfl (fun K hK => ?_)
          (try simp only [List.getElem_toArray, List.getElem_cons_succ, List.getElem_cons_zero])
          go_simp
          refine (imul_any gB 0 b1 (o1 + 2) b2 o2 _ _ W61 (unhide FX63).slot ((unhide HX).2.below (unhide BL62)) ((unhide HY).1.below (unhide BL62)) (unhide S3) (unhide S4)).mono ?_
          intro e W65 hG
          have FX66 := hide (hG.int (unhide FX63).slot)
          have BL67 := hide (hG.bl (unhide BL62) (unhide GB))
          have FX68 := hide (hG.other (unhide FX63).slot (unhide FX64) (fun e => absurd e.symm (unhide AP)))
          have he := hG.1
          subst he
          clear hG
          refine hK.out _ _ trivial ?_
          clear hK K
          (try simp only [Act.put, List.setIfInBounds_toArray, List.set_cons_zero, List.set_cons_succ])
          refine wpHold_one (k := 15) (by kernel_rfl) rfl (fun K hK => ?_)
          (try simp only [List.getElem_toArray, List.getElem_cons_succ, List.getElem_cons_zero])
          go_simp
          refine (setFrac_any P (unhide HDV) b o gA 0 gB 0 _ _ W65 ((unhide HK).below (unhide BL67)) (unhide FX68) (unhide FX66) (unhide HNZ) (unhide HPN) (unhide HPD)).mono ?_
          rintro e wl ⟨rfl, hr, hf⟩
          have HR := hide hr
          have HFF := hide hf
          clear hr hf
          refine hK.out _ _ trivial ?_
          clear hK K
          (try simp only [Act.put, List.setIfInBounds_toArray, List.set_cons_zero, List.set_cons_succ])
          refine wpHold_one (k := 16) (by kernel_rfl) rfl (fun K hK => ?_)
          (try simp only [List.getElem_toArray, List.getElem_cons_succ, List.getElem_cons_zero])
          go_simp
          refine hK.out _ _ trivial ?_
          clear hK K
          (try simp only [Act.put, List.setIfInBounds_toArray, List.set_cons_zero, List.set_cons_succ])
          refine wpHold_done (by kernel_rfl) ?_ _
          go_wp2
          go_ret
          exact ⟨rfl, by rw [← unhide HQ]; exact unhide HR, fun w0 h0 hb => unhide HFF w0 (bstep h0 (unhide BL67)) hb⟩
      · (try simp only [List.getElem_toArray, List.getElem_cons_succ, List.getElem_cons_zero])
        go_simp
        refine hK.out _ _ trivial ?_
        clear hK K
        (try simp only [Act.put, List.setIfInBounds_toArray, List.set_cons_zero, List.set_cons_succ])
        obtain ⟨W69, hWm⟩ : ∃ V, W47.alloc (.cells #[.bool false, .slice none 0 0] 47) = V := ⟨_, rfl⟩
        obtain ⟨gB, hgm⟩ : ∃ g, W47.heap.size = g := ⟨_, rfl⟩
        rw [hWm, hgm]
        have FX71 := hide (int_new W47)
        rw [hWm, hgm] at FX71
        have GB : Hid (w.heap.size ≤ gB) := hgm ▸ (unhide BL48).size
        have bm := abelow W47 (.cells #[.bool false, .slice none 0 0] 47)
        rw [hWm] at bm
        have BL70 := hide (bstep (unhide BL48) bm)
        have FX72 := hide ((unhide FX49).below bm)
        have AP : Hid (gA ≠ gB) := by show _ ≠ _; have := (unhide FX49).lt; omega
        clear hWm hgm bm
        refine wpHold_one (k := 7) (by kernel_rfl) rfl (fun K hK => ?_)
        (try simp only [List.getElem_toArray, List.getElem_cons_succ, List.getElem_cons_zero])
        go_simp
        refine (imul_any gA 0 b1 o1 b2 (o2 + 2) _ _ W69 (unhide FX72).slot ((unhide HX).1.below (unhide BL70)) ((unhide HY).2.below (unhide BL70)) (unhide S1) (unhide S2)).mono ?_
        intro e W73 hG
        have FX74 := hide (hG.int (unhide FX72).slot)
        have BL75 := hide (hG.bl (unhide BL70) (unhide GA))
        have FX76 := hide (hG.other (unhide FX72).slot (unhide FX71) (fun e => absurd e (unhide AP)))
        have he := hG.1
        subst he
        clear hG
        refine hK.out _ _ trivial ?_
        clear hK K
        (try simp only [Act.put, List.setIfInBounds_toArray, List.set_cons_zero, List.set_cons_succ])
        refine wpHold_one (k := 10) (by kernel_rfl) rfl (fun K hK => ?_)
        (try simp only [List.getElem_toArray, List.getElem_cons_succ, List.getElem_cons_zero])
        go_simp
        refine (den_any b1 o1 _ W73 ((unhide HX).below (unhide BL75))).mono ?_
        rintro e Wm ⟨rfl, hw⟩
        have hw := hw.symm
        subst hw
        refine hK.out _ _ trivial ?_
        clear hK K
        (try simp only [Act.put, List.setIfInBounds_toArray, List.set_cons_zero, List.set_cons_succ])
        refine wpHold_one (k := 14) (by kernel_rfl) rfl (fun K hK => ?_)
        (try simp only [List.getElem_toArray, List.getElem_cons_succ, List.getElem_cons_zero])
        go_simp
        refine (imul_any gB 0 b1 (o1 + 2) b2 o2 _ _ W73 (unhide FX76).slot ((unhide HX).2.below (unhide BL75)) ((unhide HY).1.below (unhide BL75)) (unhide S3) (unhide S4)).mono ?_
        intro e W77 hG
        have FX78 := hide (hG.int (unhide FX76).slot)
        have BL79 := hide (hG.bl (unhide BL75) (unhide GB))
        have FX80 := hide (hG.other (unhide FX76).slot (unhide FX74) (fun e => absurd e.symm (unhide AP)))
        have he := hG.1
        subst he
        clear hG
        refine hK.out _ _ trivial ?_
        clear hK K
        (try simp only [Act.put, List.setIfInBounds_toArray, List.set_cons_zero, List.set_cons_succ])
        refine wpHold_one (k := 15) (by kernel_rfl) rfl (fun K hK => ?_)
        (try simp only [List.getElem_toArray, List.getElem_cons_succ, List.getElem_cons_zero])
        go_simp
        refine (setFrac_any P (unhide HDV) b o gA 0 gB 0 _ _ W77 ((unhide HK).below (unhide BL79)) (unhide FX80) (unhide FX78) (unhide HNZ) (unhide HPN) (unhide HPD)).mono ?_
        rintro e wl ⟨rfl, hr, hf⟩
        have HR := hide hr
        have HFF := hide hf
        clear hr hf
        refine hK.out _ _ trivial ?_
        clear hK K
        (try simp only [Act.put, List.setIfInBounds_toArray, List.set_cons_zero, List.set_cons_succ])
        refine wpHold_one (k := 16) (by kernel_rfl) rfl (fun K hK => ?_)
        (try simp only [List.getElem_toArray, List.getElem_cons_succ, List.getElem_cons_zero])
        go_simp
        refine hK.out _ _ trivial ?_
        clear hK K
        (try simp only [Act.put, List.setIfInBounds_toArray, List.set_cons_zero, List.set_cons_succ])
        refine wpHold_done (by kernel_rfl) ?_ _
        go_wp2
        go_ret
        exact ⟨rfl, by rw [← unhide HQ]; exact unhide HR, fun w0 h0 hb => unhide HFF w0 (bstep h0 (unhide BL79)) hb⟩
    · (try simp only [List.getElem_toArray, List.getElem_cons_succ, List.getElem_cons_zero])
      go_simp
      refine hK.out _ _ trivial ?_
      clear hK K
      (try simp only [Act.put, List.setIfInBounds_toArray, List.set_cons_zero, List.set_cons_succ])
      obtain ⟨W81, hWm⟩ : ∃ V, W0.alloc (.cells #[.bool false, .slice none 0 0] 47) = V := ⟨_, rfl⟩
      obtain ⟨gB, hgm⟩ : ∃ g, W0.heap.size = g := ⟨_, rfl⟩
      rw [hWm, hgm]
      have FX83 := hide (int_new W0)
      rw [hWm, hgm] at FX83
      have GB : Hid (w.heap.size ≤ gB) := hgm ▸ (unhide BL0).size
      have bm := abelow W0 (.cells #[.bool false, .slice none 0 0] 47)
      rw [hWm] at bm
      have BL82 := hide (bstep (unhide BL0) bm)
      clear hWm hgm bm
      refine wpHold_one (k := 1) (by kernel_rfl) rfl (fun K hK => ?_)
      (try simp only [List.getElem_toArray, List.getElem_cons_succ, List.getElem_cons_zero])
      go_simp
      refine hK.out _ _ trivial ?_
      clear hK K
      (try simp only [Act.put, List.setIfInBounds_toArray, List.set_cons_zero, List.set_cons_succ])
      obtain ⟨W84, hWm⟩ : ∃ V, W81.alloc (.cells #[.bool false, .slice none 0 0] 47) = V := ⟨_, rfl⟩
      obtain ⟨gA, hgm⟩ : ∃ g, W81.heap.size = g := ⟨_, rfl⟩
      rw [hWm, hgm]
      have FX86 := hide (int_new W81)
      rw [hWm, hgm] at FX86
      have GA : Hid (w.heap.size ≤ gA) := hgm ▸ (unhide BL82).size
      have bm := abelow W81 (.cells #[.bool false, .slice none 0 0] 47)
      rw [hWm] at bm
      have BL85 := hide (bstep (unhide BL82) bm)
      have FX87 := hide ((unhide FX83).below bm)
      have AP : Hid (gA ≠ gB) := by show _ ≠ _; have := (unhide FX83).lt; omega
      clear hWm hgm bm
      refine wpHold_one (k := 7) (by kernel_rfl) rfl (fun K hK => ?_)
      (try simp only [List.getElem_toArray, List.getElem_cons_succ, List.getElem_cons_zero])
      go_simp
      refine (imul_any gA 0 b1 o1 b2 (o2 + 2) _ _ W84 (unhide FX86).slot ((unhide HX).1.below (unhide BL85)) ((unhide HY).2.below (unhide BL85)) (unhide S1) (unhide S2)).mono ?_
      intro e W88 hG
      have FX89 := hide (hG.int (unhide FX86).slot)
      have BL90 := hide (hG.bl (unhide BL85) (unhide GA))
      have FX91 := hide (hG.other (unhide FX86).slot (unhide FX87) (fun e => absurd e (unhide AP)))
      have he := hG.1
      subst he
      clear hG
      refine hK.out _ _ trivial ?_
      clear hK K
      (try simp only [Act.put, List.setIfInBounds_toArray, List.set_cons_zero, List.set_cons_succ])
      refine wpHold_one (k := 10) (by kernel_rfl) rfl (fun K hK => ?_)
      (try simp only [List.getElem_toArray, List.getElem_cons_succ, List.getElem_cons_zero])
      go_simp
      refine (den_any b1 o1 _ W88 ((unhide HX).below (unhide BL90))).mono ?_
      rintro e Wm ⟨rfl, hw⟩
      have hw := hw.symm
      subst hw
      refine hK.out _ _ trivial ?_
      clear hK K
      (try simp only [Act.put, List.setIfInBounds_toArray, List.set_cons_zero, List.set_cons_succ])
      refine wpHold_one (k := 14) (by kernel_rfl) rfl (fun K hK => ?_)
      (try simp only [List.getElem_toArray, List.getElem_cons_succ, List.getElem_cons_zero])
      go_simp
      refine (imul_any gB 0 b1 (o1 + 2) b2 o2 _ _ W88 (unhide FX91).slot ((unhide HX).2.below (unhide BL90)) ((unhide HY).1.below (unhide BL90)) (unhide S3) (unhide S4)).mono ?_
      intro e W92 hG
      have FX93 := hide (hG.int (unhide FX91).slot)
      have BL94 := hide (hG.bl (unhide BL90) (unhide GB))
      have FX95 := hide (hG.other (unhide FX91).slot (unhide FX89) (fun e => absurd e.symm (unhide AP)))
      have he := hG.1
      subst he
      clear hG
      refine hK.out _ _ trivial ?_
      clear hK K
      (try simp only [Act.put, List.setIfInBounds_toArray, List.set_cons_zero, List.set_cons_succ])
      refine wpHold_one (k := 15) (by kernel_rfl) rfl (fun K hK => ?_)
      (try simp only [List.getElem_toArray, List.getElem_cons_succ, List.getElem_cons_zero])
      go_simp
      refine (setFrac_any P (unhide HDV) b o gA 0 gB 0 _ _ W92 ((unhide HK).below (unhide BL94)) (unhide FX95) (unhide FX93) (unhide HNZ) (unhide HPN) (unhide HPD)).mono ?_
      rintro e wl ⟨rfl, hr, hf⟩
      have HR := hide hr
      have HFF := hide hf
      clear hr hf
      refine hK.out _ _ trivial ?_
      clear hK K
      (try simp only [Act.put, List.setIfInBounds_toArray, List.set_cons_zero, List.set_cons_succ])
      refine wpHold_one (k := 16) (by kernel_rfl) rfl (fun K hK => ?_)
      (try simp only [List.getElem_toArray, List.getElem_cons_succ, List.getElem_cons_zero])
      go_simp
      refine hK.out _ _ trivial ?_
      clear hK K
      (try simp only [Act.put, List.setIfInBounds_toArray, List.set_cons_zero, List.set_cons_succ])
      refine wpHold_done (by kernel_rfl) ?_ _
      go_wp2
      go_ret
      exact ⟨rfl, by rw [← unhide HQ]; exact unhide HR, fun w0 h0 hb => unhide HFF w0 (bstep h0 (unhide BL94)) hb⟩
  · (try simp only [List.getElem_toArray, List.getElem_cons_succ, List.getElem_cons_zero])
    go_simp
    refine hK.out _ _ trivial ?_
    clear hK K
    (try simp only [Act.put, List.setIfInBounds_toArray, List.set_cons_zero, List.set_cons_succ])
    obtain ⟨W96, hWm⟩ : ∃ V, W0.alloc (.cells #[.bool false, .slice none 0 0] 47) = V := ⟨_, rfl⟩
    obtain ⟨gB, hgm⟩ : ∃ g, W0.heap.size = g := ⟨_, rfl⟩
    rw [hWm, hgm]
    have FX98 := hide (int_new W0)
    rw [hWm, hgm] at FX98
    have GB : Hid (w.heap.size ≤ gB) := hgm ▸ (unhide BL0).size
    have bm := abelow W0 (.cells #[.bool false, .slice none 0 0] 47)
    rw [hWm] at bm
    have BL97 := hide (bstep (unhide BL0) bm)
    clear hWm hgm bm
    refine wpHold_two (by kernel_rfl : _ = [1, 6]) rfl rfl (fun K hK => ?_) (fun K hK => ?_)
    · (try simp only [List.getElem_toArray, List.getElem_cons_succ, List.getElem_cons_zero])
      go_simp
      refine hK.out _ _ trivial ?_
      clear hK K
      (try simp only [Act.put, List.setIfInBounds_toArray, List.set_cons_zero, List.set_cons_succ])
      obtain ⟨W99, hWm⟩ : ∃ V, W96.alloc (.cells #[.bool false, .slice none 0 0] 47) = V := ⟨_, rfl⟩
      obtain ⟨gA, hgm⟩ : ∃ g, W96.heap.size = g := ⟨_, rfl⟩
      rw [hWm, hgm]
      have FX101 := hide (int_new W96)
      rw [hWm, hgm] at FX101
      have GA : Hid (w.heap.size ≤ gA) := hgm ▸ (unhide BL97).size
      have bm := abelow W96 (.cells #[.bool false, .slice none 0 0] 47)
      rw [hWm] at bm
      have BL100 := hide (bstep (unhide BL97) bm)
      have FX102 := hide ((unhide FX98).below bm)
      have AP : Hid (gA ≠ gB) := by show _ ≠ _; have := (unhide FX98).lt; omega
      clear hWm hgm bm
      refine wpHold_one (k := 6) (by kernel_rfl) rfl (fun K hK => ?_)
      (try simp only [List.getElem_toArray, List.getElem_cons_succ, List.getElem_cons_zero])
      go_simp
      refine (den_any b2 o2 _ W99 ((unhide HY).below (unhide BL100))).mono ?_
      rintro e Wm ⟨rfl, hw⟩
      have hw := hw.symm
      subst hw
      refine hK.out _ _ trivial ?_
      clear hK K
      (try simp only [Act.put, List.setIfInBounds_toArray, List.set_cons_zero, List.set_cons_succ])
      refine wpHold_one (k := 7) (by kernel_rfl) rfl (fun K hK => ?_)
      (try simp only [List.getElem_toArray, List.getElem_cons_succ, List.getElem_cons_zero])
      go_simp
      refine (imul_any gA 0 b1 o1 b2 (o2 + 2) _ _ W99 (unhide FX101).slot ((unhide HX).1.below (unhide BL100)) ((unhide HY).2.below (unhide BL100)) (unhide S1) (unhide S2)).mono ?_
      intro e W103 hG
      have FX104 := hide (hG.int (unhide FX101).slot)
      have BL105 := hide (hG.bl (unhide BL100) (unhide GA))
      have FX106 := hide (hG.other (unhide FX101).slot (unhide FX102) (fun e => absurd e (unhide AP)))
      have he := hG.1
      subst he
      clear hG
      refine hK.out _ _ trivial ?_
      clear hK K
      (try simp only [Act.put, List.setIfInBounds_toArray, List.set_cons_zero, List.set_cons_succ])
      refine wpHold_one (k := 10) (by kernel_rfl) rfl (fun K hK => ?_)
      (try simp only [List.getElem_toArray, List.getElem_cons_succ, List.getElem_cons_zero])
      go_simp
      refine (den_any b1 o1 _ W103 ((unhide HX).below (unhide BL105))).mono ?_
      rintro e Wm ⟨rfl, hw⟩
      have hw := hw.symm
      subst hw
      refine hK.out _ _ trivial ?_
      clear hK K
      (try simp only [Act.put, List.setIfInBounds_toArray, List.set_cons_zero, List.set_cons_succ])
      refine wpHold_one (k := 14) (by kernel_rfl) rfl (fun K hK => ?_)
      (try simp only [List.getElem_toArray, List.getElem_cons_succ, List.getElem_cons_zero])
      go_simp
      refine (imul_any gB 0 b1 (o1 + 2) b2 o2 _ _ W103 (unhide FX106).slot ((unhide HX).2.below (unhide BL105)) ((unhide HY).1.below (unhide BL105)) (unhide S3) (unhide S4)).mono ?_
      intro e W107 hG
      have FX108 := hide (hG.int (unhide FX106).slot)
      have BL109 := hide (hG.bl (unhide BL105) (unhide GB))
      have FX110 := hide (hG.other (unhide FX106).slot (unhide FX104) (fun e => absurd e.symm (unhide AP)))
      have he := hG.1
      subst he
      clear hG
      refine hK.out _ _ trivial ?_
      clear hK K
      (try simp only [Act.put, List.setIfInBounds_toArray, List.set_cons_zero, List.set_cons_succ])
      refine wpHold_one (k := 15) (by kernel_rfl) rfl (fun K hK => ?_)
      (try simp only [List.getElem_toArray, List.getElem_cons_succ, List.getElem_cons_zero])
      go_simp
      refine (setFrac_any P (unhide HDV) b o gA 0 gB 0 _ _ W107 ((unhide HK).below (unhide BL109)) (unhide FX110) (unhide FX108) (unhide HNZ) (unhide HPN) (unhide HPD)).mono ?_
      rintro e wl ⟨rfl, hr, hf⟩
      have HR := hide hr
      have HFF := hide hf
      clear hr hf
      refine hK.out _ _ trivial ?_
      clear hK K
      (try simp only [Act.put, List.setIfInBounds_toArray, List.set_cons_zero, List.set_cons_succ])
      refine wpHold_one (k := 16) (by kernel_rfl) rfl (fun K hK => ?_)
      (try simp only [List.getElem_toArray, List.getElem_cons_succ, List.getElem_cons_zero])
      go_simp
      refine hK.out _ _ trivial ?_
      clear hK K
      (try simp only [Act.put, List.setIfInBounds_toArray, List.set_cons_zero, List.set_cons_succ])
      refine wpHold_done (by kernel_rfl) ?_ _
      go_wp2
      go_ret
      exact ⟨rfl, by rw [← unhide HQ]; exact unhide HR, fun w0 h0 hb => unhide HFF w0 (bstep h0 (unhide BL109)) hb⟩
    · (try simp only [List.getElem_toArray, List.getElem_cons_succ, List.getElem_cons_zero])
      go_simp
      refine (den_any b2 o2 _ W96 ((unhide HY).below (unhide BL97))).mono ?_
      rintro e Wm ⟨rfl, hw⟩
      have hw := hw.symm
      subst hw
      refine hK.out _ _ trivial ?_
      clear hK K
      (try simp only [Act.put, List.setIfInBounds_toArray, List.set_cons_zero, List.set_cons_succ])
      refine wpHold_one (k := 1) (by kernel_rfl) rfl (fun K hK => ?_)
      (try simp only [List.getElem_toArray, List.getElem_cons_succ, List.getElem_cons_zero])
      go_simp
      refine hK.out _ _ trivial ?_
      clear hK K
      (try simp only [Act.put, List.setIfInBounds_toArray, List.set_cons_zero, List.set_cons_succ])
      obtain ⟨W111, hWm⟩ : ∃ V, W96.alloc (.cells #[.bool false, .slice none 0 0] 47) = V := ⟨_, rfl⟩
      obtain ⟨gA, hgm⟩ : ∃ g, W96.heap.size = g := ⟨_, rfl⟩
      rw [hWm, hgm]
      have FX113 := hide (int_new W96)
      rw [hWm, hgm] at FX113
      have GA : Hid (w.heap.size ≤ gA) := hgm ▸ (unhide BL97).size
      have bm := abelow W96 (.cells #[.bool false, .slice none 0 0] 47)
      rw [hWm] at bm
      have BL112 := hide (bstep (unhide BL97) bm)
      have FX114 := hide ((unhide FX98).below bm)
      have AP : Hid (gA ≠ gB) := by show _ ≠ _; have := (unhide FX98).lt; omega
      clear hWm hgm bm
      refine wpHold_one (k := 7) (by kernel_rfl) rfl (fun K hK => ?_)
      (try simp only [List.getElem_toArray, List.getElem_cons_succ, List.getElem_cons_zero])
      go_simp
      refine (imul_any gA 0 b1 o1 b2 (o2 + 2) _ _ W111 (unhide FX113).slot ((unhide HX).1.below (unhide BL112)) ((unhide HY).2.below (unhide BL112)) (unhide S1) (unhide S2)).mono ?_
      intro e W115 hG
      have FX116 := hide (hG.int (unhide FX113).slot)
      have BL117 := hide (hG.bl (unhide BL112) (unhide GA))
      have FX118 := hide (hG.other (unhide FX113).slot (unhide FX114) (fun e => absurd e (unhide AP)))
      have he := hG.1
      subst he
      clear hG
      refine hK.out _ _ trivial ?_
      clear hK K
      (try simp only [Act.put, List.setIfInBounds_toArray, List.set_cons_zero, List.set_cons_succ])
      refine wpHold_one (k := 10) (by kernel_rfl) rfl (fun K hK => ?_)
      (try simp only [List.getElem_toArray, List.getElem_cons_succ, List.getElem_cons_zero])
      go_simp
      refine (den_any b1 o1 _ W115 ((unhide HX).below (unhide BL117))).mono ?_
      rintro e Wm ⟨rfl, hw⟩
      have hw := hw.symm
      subst hw
      refine hK.out _ _ trivial ?_
      clear hK K
      (try simp only [Act.put, List.setIfInBounds_toArray, List.set_cons_zero, List.set_cons_succ])
      refine wpHold_one (k := 14) (by kernel_rfl) rfl (fun K hK => ?_)
      (try simp only [List.getElem_toArray, List.getElem_cons_succ, List.getElem_cons_zero])
      go_simp
      refine (imul_any gB 0 b1 (o1 + 2) b2 o2 _ _ W115 (unhide FX118).slot ((unhide HX).2.below (unhide BL117)) ((unhide HY).1.below (unhide BL117)) (unhide S3) (unhide S4)).mono ?_
      intro e W119 hG
      have FX120 := hide (hG.int (unhide FX118).slot)
      have BL121 := hide (hG.bl (unhide BL117) (unhide GB))
      have FX122 := hide (hG.other (unhide FX118).slot (unhide FX116) (fun e => absurd e.symm (unhide AP)))
      have he := hG.1
      subst he
      clear hG
      refine hK.out _ _ trivial ?_
      clear hK K
      (try simp only [Act.put, List.setIfInBounds_toArray, List.set_cons_zero, List.set_cons_succ])
      refine wpHold_one (k := 15) (by kernel_rfl) rfl (fun K hK => ?_)
      (try simp only [List.getElem_toArray, List.getElem_cons_succ, List.getElem_cons_zero])
      go_simp
      refine (setFrac_any P (unhide HDV) b o gA 0 gB 0 _ _ W119 ((unhide HK).below (unhide BL121)) (unhide FX122) (unhide FX120) (unhide HNZ) (unhide HPN) (unhide HPD)).mono ?_
      rintro e wl ⟨rfl, hr, hf⟩
      have HR := hide hr
      have HFF := hide hf
      clear hr hf
      refine hK.out _ _ trivial ?_
      clear hK K
      (try simp only [Act.put, List.setIfInBounds_toArray, List.set_cons_zero, List.set_cons_succ])
      refine wpHold_one (k := 16) (by kernel_rfl) rfl (fun K hK => ?_)
      (try simp only [List.getElem_toArray, List.getElem_cons_succ, List.getElem_cons_zero])
      go_simp
      refine hK.out _ _ trivial ?_
      clear hK K
      (try simp only [Act.put, List.setIfInBounds_toArray, List.set_cons_zero, List.set_cons_succ])
      refine wpHold_done (by kernel_rfl) ?_ _
      go_wp2
      go_ret
      exact ⟨rfl, by rw [← unhide HQ]; exact unhide HR, fun w0 h0 hb => unhide HFF w0 (bstep h0 (unhide BL121)) hb⟩

set_option maxHeartbeats 16000000 in
set_option maxRecDepth 100000 in
set_option linter.unusedSimpArgs false in
theorem refDiv_any (P : Nat → Prop) (dv : Divs P) (b1 o1 b2 o2 : Nat) (qx qy : Rat) (w : World) (x : BRat w b1 o1 qx) (y : BRat w b2 o2 qy) (hy : qy.num ≠ 0) (p1 : P qx.num.natAbs) (p2 : P qy.den) (p3 : P qx.den) (p4 : P qy.num.natAbs) (pn : P (qx.num * (qy.den : Int)).natAbs) (pd : P ((qx.den : Int) * qy.num).natAbs) :
    Calls Tryz.prog 6 #[.pointer (some ⟨b1, o1, none⟩), .pointer (some ⟨b2, o2, none⟩)] w (NewsR w (qx / qy)) := by
  have k := slotR_new w
  have bA := abelow w (.cells #[.bool false, .slice none 0 0, .bool false, .slice none 0 0] 49)
  obtain ⟨W0, hW0⟩ : ∃ W, w.alloc (.cells #[.bool false, .slice none 0 0, .bool false, .slice none 0 0] 49) = W := ⟨_, rfl⟩
  obtain ⟨g, hg⟩ : ∃ g, w.heap.size = g := ⟨_, rfl⟩
  rw [hW0, hg] at k
  rw [hW0] at bA
  have HSG := hide (rsign_any b2 o2 qy w y)
  have HQU := hide (quo_any P dv g 0 b1 o1 b2 o2 qx qy W0 k (x.below bA) (y.below bA) hy p1 p2 p3 p4 pn pd)
  have HB := hide bA
  have HG := hide hg
  have hs : (qy.num.sign == 0) = false := by
    rw [beq_eq_false_iff_ne]
    exact fun e => hy (Int.sign_eq_zero_iff_zero.1 e)
  have HW0 := hide hW0
  clear k bA hy p1 p2 p3 p4 pn pd x y dv hW0 hg
  go_enter Tryz.func6, Tryz.ntmps6
  go_wp2_with fail
  refine (unhide HSG).mono ?_
  rintro e w1 ⟨rfl, hw⟩
  have hw := hw.symm
  subst hw
  have hW0 := unhide HW0
  have hg := unhide HG
  go_wp2_with fail
  clear hW0 hg
  refine (unhide HQU).mono ?_
  rintro e w2 ⟨rfl, hr, hf⟩
  have HR := hide hr
  have HF := hide (hf w (unhide HB) (Nat.le_of_eq (unhide HG)))
  clear hr hf HQU
  go_wp2
  go_ret
  exact ⟨g, rfl, Nat.le_of_eq (unhide HG), unhide HR, unhide HF⟩

set_option maxHeartbeats 16000000 in
set_option maxRecDepth 100000 in
set_option linter.unusedSimpArgs false in
theorem refDiv_zero (v : Value) (b2 o2 : Nat) (qy : Rat) (w : World) (y : BRat w b2 o2 qy) (hy : qy.num = 0) :
    Calls Tryz.prog 6 #[v, .pointer (some ⟨b2, o2, none⟩)] w fun e w' => ∃ g, e = .returned (.pointer (some ⟨g, 0, none⟩)) ∧ Below w.heap.size w w' := by
  have hsg := rsign_any b2 o2 qy w y
  rw [hy] at hsg
  have HSG := hide hsg
  have HB := hide (abelow w (.cells #[.bool false, .slice none 0 0, .bool false, .slice none 0 0] 49))
  clear y hy hsg
  go_enter Tryz.func6, Tryz.ntmps6
  go_wp2_with fail
  refine (unhide HSG).mono ?_
  rintro e w1 ⟨rfl, hw⟩
  have hw := hw.symm
  subst hw
  go_wp2
  go_ret
  exact ⟨_, rfl, unhide HB⟩
end Go.Proofs.YtfpmgnlddlcpoaaGreatDoor
