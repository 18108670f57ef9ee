/- Waits, Stays. -/
import Derived.Test.YtbboacmjbffmhaaGreatDoorS6
namespace Go.Proofs.YtbboacmjbffmhaaGreatDoor
open Go.RowKit Go.Sort Go.Shelf

def WaitsPost (w : World) (ks : List (Rat × List Rat)) (e : Ending) (w' : World) : Prop :=
  (FitC ks ∧ ∃ v, e = .returned (.tuple #[v, .nilIface]) ∧ LawIs w' v (row (waitsC ks) ks.length) ∧ Below w.heap.size w w') ∨
  (¬ FitC ks ∧ ∃ k : Int, e = .returned (.tuple #[.slice none 0 0, .iface 56 (.int .i64 k)]) ∧ Below w.heap.size w w')

set_option maxHeartbeats 8000000 in
set_option maxRecDepth 100000 in
set_option linter.unusedSimpArgs false in
theorem waits_any (v : Value) (ks : List (Rat × List Rat)) (w : World) (h : ClassesAre w v ks) (sm : SmC ks) (hl : ks.length ≤ 6) :
    Calls Tryz.prog 10 #[v] w (WaitsPost w ks) := by
  have KKe : KK = 1099511627776 := rfl
  have HAH := hide (ahead_any v ks _ h sm hl)
  have HSM := hide sm
  obtain ⟨a, c, rfl, h1, h2, h3⟩ := h
  clear h3 sm
  go_enter Tryz.func10, Tryz.ntmps10
  go_wp2_with fail
  refine (unhide HAH).mono ?_
  rintro e w1 (⟨hg, vm, vl, vh, rfl, hm, hvl, hvh, hb1⟩ | ⟨hng, k, rfl, hb1⟩)
  rotate_left
  · have HNG := hide hng
    have HB1 := hide hb1
    clear hb1 hng HAH
    go_wp2
    exact bodyPost_ret (v := .tuple #[.slice none 0 0, .iface 56 (.int .i64 k)]) (by simp [results, Tryz.results10, go_sem]) rfl (Or.inr ⟨unhide HNG, k, rfl, unhide HB1⟩)
  have HFIT := hide hg
  have HB1 := hide hb1
  have HVm := hide hm
  obtain ⟨am, cm, rfl, m1, m2, m3⟩ := hm
  rw [row_length] at m1 m3 ⊢
  have Hm3 := hide m3
  clear m3
  have HVl := hide hvl
  obtain ⟨al, cl, rfl, l1, l2, l3⟩ := hvl
  rw [row_length] at l1 l3 ⊢
  have Hl3 := hide l3
  clear l3
  have HVh := hide hvh
  obtain ⟨ah, ch, rfl, h1, h2, h3⟩ := hvh
  rw [row_length] at h1 h3 ⊢
  have Hh3 := hide h3
  clear h3
  clear hg hb1 HAH
  have qmk := make_ratios (ks.length : Int) (by omega) (by omega) w1
  rw [Int.toNat_natCast] at qmk
  have S0 := SumsAt.start w1 w1 ks.length (Below.refl _ _)
  rw [fill_zero (waitsC ks) ks.length] at S0
  obtain ⟨W0, hW0⟩ : ∃ W, w1.alloc (.cells (tcells (List.replicate ks.length zTri)).toArray 42) = W := ⟨_, rfl⟩
  obtain ⟨G, hG⟩ : ∃ G, w1.heap.size = G := ⟨_, rfl⟩
  rw [hW0, hG] at qmk S0
  have HS0 := hide S0
  clear S0 hW0 hG
  go_wp2_with fail
  clear qmk
  go_loopw [25] (fun vi wr => ∃ (i : Nat) (us : List Tri), vi = .int .i64 (i : Int) ∧ i ≤ ks.length ∧ SumsAt w1 wr G us (fill (waitsC ks) ks.length i)) (fun vi _ => ks.length - (intOf vi).toNat)
  case atStart => exact ⟨0, _, rfl, Nat.zero_le _, unhide HS0⟩
  case round =>
    obtain ⟨i, us, rfl, hi, S⟩ := hrel
    have hul : us.length = ks.length := by rw [S.len, fill_length]
    clear HS0
    by_cases hlt : i < ks.length
    · obtain ⟨bl, ol, rfl, hbl, hcl⟩ := unhide Hl3 (by omega)
      obtain ⟨bh, oh, rfl, hbh, hch⟩ := unhide Hh3 (by omega)
      have HBL := hide S.bl
      have HS1 := hide S
      have e1 : (i : Int) < (ks.length : Int) := by omega
      have e0 : (0 : Int) ≤ (i : Int) := by omega
      have e5 : (i : Int) < (ks.length : Int) + 1 := by omega
      have e6 : (0 : Int) ≤ (i : Int) + 1 := by omega
      have e7 : (i : Int) + 1 < (ks.length : Int) + 1 := by omega
      have e8 : IntKind.i64.wrap ((i : Int) + 1) = (i : Int) + 1 := by rw [IntKind.wrap_i64]; omega
      have e9 : ((i : Int) + 1).toNat = i + 1 := by omega
      have q1 : (ks.length : Int) < (ks.length : Int) + 1 := by omega
      have q2 : (0 : Int) ≤ (ks.length : Int) := by omega
      have LP : ∀ k, k ≤ ks.length → (lfC ks k).num ≠ 0 := fun k hk => num_of_pos (lfC_pos (unhide HFIT).1.2 (unhide HFIT).2 hk)
      have HLP := hide LP
      have LR : ∀ k, k ≤ ks.length → RS (lfC ks k) 300 := fun k hk => (lfC_RS (unhide HSM) k hk).mono (by omega)
      have HLR := hide LR
      have HR : ∀ k, k ≤ ks.length → RS (hfC ks k) 300 := fun k hk => (hfC_RS (unhide HSM) k hk).mono (by omega)
      have HHR := hide HR
      clear S LP LR HR
      obtain ⟨xs, xp1, xp2, xn1, xd1, xn2, xd2, xk0, xk1, xk2, xr⟩ := hch ks.length (by omega)
      obtain ⟨th, rfl, rfl, rfl, rfl, rfl, rfl, rfl⟩ : ∃ t : Tri, xs = t.s ∧ xp1 = t.a1 ∧ xp2 = t.a2 ∧ xn1 = t.n1 ∧ xd1 = t.c1 ∧ xn2 = t.n2 ∧ xd2 = t.c2 := ⟨⟨xs, xp1, xp2, xn1, xd1, xn2, xd2⟩, rfl, rfl, rfl, rfl, rfl, rfl, rfl⟩
      obtain ⟨ys, yp1, yp2, yn1, yd1, yn2, yd2, yk0, yk1, yk2, yr⟩ := hcl i (by omega)
      obtain ⟨ta, rfl, rfl, rfl, rfl, rfl, rfl, rfl⟩ : ∃ t : Tri, ys = t.s ∧ yp1 = t.a1 ∧ yp2 = t.a2 ∧ yn1 = t.n1 ∧ yd1 = t.c1 ∧ yn2 = t.n2 ∧ yd2 = t.c2 := ⟨⟨ys, yp1, yp2, yn1, yd1, yn2, yd2⟩, rfl, rfl, rfl, rfl, rfl, rfl, rfl⟩
      obtain ⟨vs, vp1, vp2, vn1, vd1, vn2, vd2, vk0, vk1, vk2, vr⟩ := hcl (i + 1) (by omega)
      obtain ⟨tb, rfl, rfl, rfl, rfl, rfl, rfl, rfl⟩ : ∃ t : Tri, vs = t.s ∧ vp1 = t.a1 ∧ vp2 = t.a2 ∧ vn1 = t.n1 ∧ vd1 = t.c1 ∧ vn2 = t.n2 ∧ vd2 = t.c2 := ⟨⟨vs, vp1, vp2, vn1, vd1, vn2, vd2⟩, rfl, rfl, rfl, rfl, rfl, rfl, rfl⟩
      rw [row_get (by omega)] at xr yr vr
      have HRH := hide (xr.below (unhide HBL))
      have HRA := hide (yr.below (unhide HBL))
      have HRB := hide (vr.below (unhide HBL))
      have HCC : Hid (∀ W, Below wr.heap.size wr W → (fun w' : World => (w'.cell? ⟨bh, oh + ks.length * 3, none⟩ = some (.bool th.s) ∧ w'.cell? ⟨bh, oh + ks.length * 3 + 1, none⟩ = some (.slice th.a1 th.n1 th.c1) ∧ w'.cell? ⟨bh, oh + ks.length * 3 + 2, none⟩ = some (.slice th.a2 th.n2 th.c2)) ∧ (w'.cell? ⟨bl, ol + i * 3, none⟩ = some (.bool ta.s) ∧ w'.cell? ⟨bl, ol + i * 3 + 1, none⟩ = some (.slice ta.a1 ta.n1 ta.c1) ∧ w'.cell? ⟨bl, ol + i * 3 + 2, none⟩ = some (.slice ta.a2 ta.n2 ta.c2)) ∧ (w'.cell? ⟨bl, ol + (i + 1) * 3, none⟩ = some (.bool tb.s) ∧ w'.cell? ⟨bl, ol + (i + 1) * 3 + 1, none⟩ = some (.slice tb.a1 tb.n1 tb.c1) ∧ w'.cell? ⟨bl, ol + (i + 1) * 3 + 2, none⟩ = some (.slice tb.a2 tb.n2 tb.c2))) W) := fun W hW => by
        have bc := below_step (unhide HBL) hW
        refine ⟨?_, ?_, ?_⟩
        · rw [bc.cell (p := ⟨bh, oh + ks.length * 3, none⟩) hbh, bc.cell (p := ⟨bh, oh + ks.length * 3 + 1, none⟩) hbh, bc.cell (p := ⟨bh, oh + ks.length * 3 + 2, none⟩) hbh]; exact ⟨xk0, xk1, xk2⟩
        · rw [bc.cell (p := ⟨bl, ol + i * 3, none⟩) hbl, bc.cell (p := ⟨bl, ol + i * 3 + 1, none⟩) hbl, bc.cell (p := ⟨bl, ol + i * 3 + 2, none⟩) hbl]; exact ⟨yk0, yk1, yk2⟩
        · rw [bc.cell (p := ⟨bl, ol + (i + 1) * 3, none⟩) hbl, bc.cell (p := ⟨bl, ol + (i + 1) * 3 + 1, none⟩) hbl, bc.cell (p := ⟨bl, ol + (i + 1) * 3 + 2, none⟩) hbl]; exact ⟨vk0, vk1, vk2⟩
      have HMU : Hid (∀ W, Below wr.heap.size wr W → Calls Tryz.prog 13 #[.agg #[.bool ta.s, .slice ta.a1 ta.n1 ta.c1, .slice ta.a2 ta.n2 ta.c2], .agg #[.bool tb.s, .slice tb.a1 tb.n1 tb.c1, .slice tb.a2 tb.n2 tb.c2]] W fun e w' => ∃ v, e = .returned v ∧ RatIs w' v (lfC ks i * lfC ks (i + 1)) ∧ Below W.heap.size W w') := fun W hW => mulR_any ta.val tb.val _ _ W ((unhide HRA).below hW) ((unhide HRB).below hW) 300 (unhide HLR i (by omega)) (unhide HLR (i + 1) (by omega)) (by rw [KKe]; omega)
      have HDV : Hid (∀ W v (hW : Below wr.heap.size wr W) (hv : RatIs W v (lfC ks i * lfC ks (i + 1))), Calls Tryz.prog 25 #[.agg #[.bool th.s, .slice th.a1 th.n1 th.c1, .slice th.a2 th.n2 th.c2], v] W fun e w' => ∃ v, e = .returned v ∧ RatIs w' v (waitsC ks i) ∧ Below W.heap.size W w') := fun W v hW hv => sdivided_any th.val v _ _ W ((unhide HRH).below hW) hv 700 ((unhide HHR ks.length (Nat.le_refl _)).mono (by omega)) ((RS.mul (unhide HLR i (by omega)) (unhide HLR (i + 1) (by omega))).mono (by omega)) (by rw [KKe]; omega) (fun e => by
        rcases Rat.mul_eq_zero.1 (Rat.num_eq_zero.1 e) with h | h
        · exact unhide HLP i (by omega) (Rat.num_eq_zero.2 h)
        · exact unhide HLP (i + 1) (by omega) (Rat.num_eq_zero.2 h))
      clear xr yr vr xk0 xk1 xk2 yk0 yk1 yk2 vk0 vk1 vk2 hcl hch HBL
      go_wp2_with fail
      refine wp_region_till (fun w' : World => (w'.cell? ⟨bh, oh + ks.length * 3, none⟩ = some (.bool th.s) ∧ w'.cell? ⟨bh, oh + ks.length * 3 + 1, none⟩ = some (.slice th.a1 th.n1 th.c1) ∧ w'.cell? ⟨bh, oh + ks.length * 3 + 2, none⟩ = some (.slice th.a2 th.n2 th.c2)) ∧ (w'.cell? ⟨bl, ol + i * 3, none⟩ = some (.bool ta.s) ∧ w'.cell? ⟨bl, ol + i * 3 + 1, none⟩ = some (.slice ta.a1 ta.n1 ta.c1) ∧ w'.cell? ⟨bl, ol + i * 3 + 2, none⟩ = some (.slice ta.a2 ta.n2 ta.c2)) ∧ (w'.cell? ⟨bl, ol + (i + 1) * 3, none⟩ = some (.bool tb.s) ∧ w'.cell? ⟨bl, ol + (i + 1) * 3 + 1, none⟩ = some (.slice tb.a1 tb.n1 tb.c1) ∧ w'.cell? ⟨bl, ol + (i + 1) * 3 + 2, none⟩ = some (.slice tb.a2 tb.n2 tb.c2))) 19 (by kernel_rfl) ?_
      have bd0 : Below wr.heap.size wr wr.drew := (Below.refl _ _).drew
      have hC0 : (fun w' : World => (w'.cell? ⟨bh, oh + ks.length * 3, none⟩ = some (.bool th.s) ∧ w'.cell? ⟨bh, oh + ks.length * 3 + 1, none⟩ = some (.slice th.a1 th.n1 th.c1) ∧ w'.cell? ⟨bh, oh + ks.length * 3 + 2, none⟩ = some (.slice th.a2 th.n2 th.c2)) ∧ (w'.cell? ⟨bl, ol + i * 3, none⟩ = some (.bool ta.s) ∧ w'.cell? ⟨bl, ol + i * 3 + 1, none⟩ = some (.slice ta.a1 ta.n1 ta.c1) ∧ w'.cell? ⟨bl, ol + i * 3 + 2, none⟩ = some (.slice ta.a2 ta.n2 ta.c2)) ∧ (w'.cell? ⟨bl, ol + (i + 1) * 3, none⟩ = some (.bool tb.s) ∧ w'.cell? ⟨bl, ol + (i + 1) * 3 + 1, none⟩ = some (.slice tb.a1 tb.n1 tb.c1) ∧ w'.cell? ⟨bl, ol + (i + 1) * 3 + 2, none⟩ = some (.slice tb.a2 tb.n2 tb.c2))) wr.drew := unhide HCC _ bd0
      refine wpTill_pure (i := 0) (v := ?_) rfl (by kernel_rfl) (by kernel_rfl) (by kernel_rfl) (by kernel_rfl) (fun _ _ _ h => h) (Or.inl ⟨by rfl, ?_⟩) (fun _ => hC0) ?_
      rotate_left
      · intro w hSw; clear hSw; go_simp; (try with_reducible rfl)
      (try simp only [List.getElem_toArray, List.getElem_cons_succ, List.getElem_cons_zero])
      (try simp only [Act.put, List.setIfInBounds_toArray, List.set_cons_zero, List.set_cons_succ])
      refine wpTill_pure (i := 1) (v := ?_) rfl (by kernel_rfl) (by kernel_rfl) (by kernel_rfl) (by kernel_rfl) (fun _ _ _ h => h) (Or.inl ⟨by rfl, ?_⟩) (fun _ => hC0) ?_
      rotate_left
      · intro w hSw; clear hSw; go_simp; (try with_reducible rfl)
      (try simp only [List.getElem_toArray, List.getElem_cons_succ, List.getElem_cons_zero])
      (try simp only [Act.put, List.setIfInBounds_toArray, List.set_cons_zero, List.set_cons_succ])
      refine wpTill_pure (i := 2) (v := ?_) rfl (by kernel_rfl) (by kernel_rfl) (by kernel_rfl) (by kernel_rfl) (fun _ _ _ h => h) (Or.inl ⟨by rfl, ?_⟩) (fun _ => hC0) ?_
      rotate_left
      · intro w hSw; clear hSw; go_simp; (try with_reducible rfl)
      (try simp only [List.getElem_toArray, List.getElem_cons_succ, List.getElem_cons_zero])
      (try simp only [Act.put, List.setIfInBounds_toArray, List.set_cons_zero, List.set_cons_succ])
      refine wpTill_pure (i := 3) (v := ?_) rfl (by kernel_rfl) (by kernel_rfl) (by kernel_rfl) (by kernel_rfl) (fun _ _ _ h => h) (Or.inl ⟨by rfl, ?_⟩) (fun _ => hC0) ?_
      rotate_left
      · intro w hSw; clear hSw; go_simp; (try with_reducible rfl)
      (try simp only [List.getElem_toArray, List.getElem_cons_succ, List.getElem_cons_zero])
      (try simp only [Act.put, List.setIfInBounds_toArray, List.set_cons_zero, List.set_cons_succ])
      refine wpTill_pure (i := 4) (v := ?_) rfl (by kernel_rfl) (by kernel_rfl) (by kernel_rfl) (by kernel_rfl) (fun _ _ _ h => h) (Or.inl ⟨by rfl, ?_⟩) (fun _ => hC0) ?_
      rotate_left
      · intro w hSw; clear hSw; go_simp; (try with_reducible rfl)
      (try simp only [List.getElem_toArray, List.getElem_cons_succ, List.getElem_cons_zero])
      (try simp only [Act.put, List.setIfInBounds_toArray, List.set_cons_zero, List.set_cons_succ])
      refine wpTill_pure (i := 5) (v := ?_) rfl (by kernel_rfl) (by kernel_rfl) (by kernel_rfl) (by kernel_rfl) (fun _ _ _ h => h) (Or.inl ⟨by rfl, ?_⟩) (fun _ => hC0) ?_
      rotate_left
      · intro w hSw; clear hSw; go_simp; (try with_reducible rfl)
      (try simp only [List.getElem_toArray, List.getElem_cons_succ, List.getElem_cons_zero])
      (try simp only [Act.put, List.setIfInBounds_toArray, List.set_cons_zero, List.set_cons_succ])
      refine wpTill_take (i := 6) (v := ?_) rfl (by kernel_rfl) (by kernel_rfl) (by kernel_rfl) (by kernel_rfl) (by kernel_rfl) (by kernel_rfl) (fun _ _ _ h => h) (Or.inl ⟨by rfl, ?_⟩) hC0 ?_
      rotate_left
      · intro w hSw; (try dsimp only at hSw); obtain ⟨⟨z0, z1, z2⟩, ⟨z3, z4, z5⟩, z6, z7, z8⟩ := hSw; go_simp; (try with_reducible rfl)
      (try simp only [List.getElem_toArray, List.getElem_cons_succ, List.getElem_cons_zero])
      (try simp only [Act.put, List.setIfInBounds_toArray, List.set_cons_zero, List.set_cons_succ])
      refine wpTill_pure (i := 7) (v := ?_) rfl (by kernel_rfl) (by kernel_rfl) (by kernel_rfl) (by kernel_rfl) (fun _ _ _ h => h) (Or.inl ⟨by rfl, ?_⟩) (fun _ => hC0) ?_
      rotate_left
      · intro w hSw; clear hSw; go_simp; (try with_reducible rfl)
      (try simp only [List.getElem_toArray, List.getElem_cons_succ, List.getElem_cons_zero])
      (try simp only [Act.put, List.setIfInBounds_toArray, List.set_cons_zero, List.set_cons_succ])
      refine wpTill_pure (i := 8) (v := ?_) rfl (by kernel_rfl) (by kernel_rfl) (by kernel_rfl) (by kernel_rfl) (fun _ _ _ h => h) (Or.inl ⟨by rfl, ?_⟩) (fun _ => hC0) ?_
      rotate_left
      · intro w hSw; clear hSw; go_simp; (try with_reducible rfl)
      (try simp only [List.getElem_toArray, List.getElem_cons_succ, List.getElem_cons_zero])
      (try simp only [Act.put, List.setIfInBounds_toArray, List.set_cons_zero, List.set_cons_succ])
      refine wpTill_pure (i := 9) (v := ?_) rfl (by kernel_rfl) (by kernel_rfl) (by kernel_rfl) (by kernel_rfl) (fun _ _ _ h => h) (Or.inl ⟨by rfl, ?_⟩) (fun _ => hC0) ?_
      rotate_left
      · intro w hSw; clear hSw; go_simp; (try with_reducible rfl)
      (try simp only [List.getElem_toArray, List.getElem_cons_succ, List.getElem_cons_zero])
      (try simp only [Act.put, List.setIfInBounds_toArray, List.set_cons_zero, List.set_cons_succ])
      refine wpTill_take (i := 10) (v := ?_) rfl (by kernel_rfl) (by kernel_rfl) (by kernel_rfl) (by kernel_rfl) (by kernel_rfl) (by kernel_rfl) (fun _ _ _ h => h) (Or.inl ⟨by rfl, ?_⟩) hC0 ?_
      rotate_left
      · intro w hSw; (try dsimp only at hSw); obtain ⟨⟨z0, z1, z2⟩, ⟨z3, z4, z5⟩, z6, z7, z8⟩ := hSw; go_simp; (try with_reducible rfl)
      (try simp only [List.getElem_toArray, List.getElem_cons_succ, List.getElem_cons_zero])
      (try simp only [Act.put, List.setIfInBounds_toArray, List.set_cons_zero, List.set_cons_succ])
      refine wpTill_pure (i := 11) (v := ?_) rfl (by kernel_rfl) (by kernel_rfl) (by kernel_rfl) (by kernel_rfl) (fun _ _ _ h => h) (Or.inl ⟨by rfl, ?_⟩) (fun _ => hC0) ?_
      rotate_left
      · intro w hSw; clear hSw; go_simp; (try with_reducible rfl)
      (try simp only [List.getElem_toArray, List.getElem_cons_succ, List.getElem_cons_zero])
      (try simp only [Act.put, List.setIfInBounds_toArray, List.set_cons_zero, List.set_cons_succ])
      refine wpTill_pure (i := 12) (v := ?_) rfl (by kernel_rfl) (by kernel_rfl) (by kernel_rfl) (by kernel_rfl) (fun _ _ _ h => h) (Or.inl ⟨by rfl, ?_⟩) (fun _ => hC0) ?_
      rotate_left
      · intro w hSw; clear hSw; go_simp; (try with_reducible rfl)
      (try simp only [List.getElem_toArray, List.getElem_cons_succ, List.getElem_cons_zero])
      (try simp only [Act.put, List.setIfInBounds_toArray, List.set_cons_zero, List.set_cons_succ])
      refine wpTill_pure (i := 13) (v := ?_) rfl (by kernel_rfl) (by kernel_rfl) (by kernel_rfl) (by kernel_rfl) (fun _ _ _ h => h) (Or.inl ⟨by rfl, ?_⟩) (fun _ => hC0) ?_
      rotate_left
      · intro w hSw; clear hSw; go_simp; (try with_reducible rfl)
      (try simp only [List.getElem_toArray, List.getElem_cons_succ, List.getElem_cons_zero])
      (try simp only [Act.put, List.setIfInBounds_toArray, List.set_cons_zero, List.set_cons_succ])
      refine wpTill_pure (i := 14) (v := ?_) rfl (by kernel_rfl) (by kernel_rfl) (by kernel_rfl) (by kernel_rfl) (fun _ _ _ h => h) (Or.inl ⟨by rfl, ?_⟩) (fun _ => hC0) ?_
      rotate_left
      · intro w hSw; clear hSw; go_simp; (try with_reducible rfl)
      (try simp only [List.getElem_toArray, List.getElem_cons_succ, List.getElem_cons_zero])
      (try simp only [Act.put, List.setIfInBounds_toArray, List.set_cons_zero, List.set_cons_succ])
      refine wpTill_take (i := 15) (v := ?_) rfl (by kernel_rfl) (by kernel_rfl) (by kernel_rfl) (by kernel_rfl) (by kernel_rfl) (by kernel_rfl) (fun _ _ _ h => h) (Or.inl ⟨by rfl, ?_⟩) hC0 ?_
      rotate_left
      · intro w hSw; (try dsimp only at hSw); obtain ⟨⟨z0, z1, z2⟩, ⟨z3, z4, z5⟩, z6, z7, z8⟩ := hSw; go_simp; (try with_reducible rfl)
      (try simp only [List.getElem_toArray, List.getElem_cons_succ, List.getElem_cons_zero])
      (try simp only [Act.put, List.setIfInBounds_toArray, List.set_cons_zero, List.set_cons_succ])
      refine wpTill_one (k := 16) (by kernel_rfl) rfl (fun K hK => ?_)
      (try simp only [List.getElem_toArray, List.getElem_cons_succ, List.getElem_cons_zero])
      go_simp
      refine (unhide HMU _ bd0).mono ?_
      rintro e xw_1 ⟨xv_1, rfl, hv_1, hb_1⟩
      have cc_1 := below_step bd0 hb_1
      have hC_1 : (fun w' : World => (w'.cell? ⟨bh, oh + ks.length * 3, none⟩ = some (.bool th.s) ∧ w'.cell? ⟨bh, oh + ks.length * 3 + 1, none⟩ = some (.slice th.a1 th.n1 th.c1) ∧ w'.cell? ⟨bh, oh + ks.length * 3 + 2, none⟩ = some (.slice th.a2 th.n2 th.c2)) ∧ (w'.cell? ⟨bl, ol + i * 3, none⟩ = some (.bool ta.s) ∧ w'.cell? ⟨bl, ol + i * 3 + 1, none⟩ = some (.slice ta.a1 ta.n1 ta.c1) ∧ w'.cell? ⟨bl, ol + i * 3 + 2, none⟩ = some (.slice ta.a2 ta.n2 ta.c2)) ∧ (w'.cell? ⟨bl, ol + (i + 1) * 3, none⟩ = some (.bool tb.s) ∧ w'.cell? ⟨bl, ol + (i + 1) * 3 + 1, none⟩ = some (.slice tb.a1 tb.n1 tb.c1) ∧ w'.cell? ⟨bl, ol + (i + 1) * 3 + 2, none⟩ = some (.slice tb.a2 tb.n2 tb.c2))) xw_1 := unhide HCC _ cc_1
      refine hK.out _ _ (fun _ => hC_1) ?_
      clear hK K
      (try simp only [Act.put, List.setIfInBounds_toArray, List.set_cons_zero, List.set_cons_succ])
      refine wpTill_one (k := 17) (by kernel_rfl) rfl (fun K hK => ?_)
      (try simp only [List.getElem_toArray, List.getElem_cons_succ, List.getElem_cons_zero])
      go_simp
      refine (unhide HDV _ _ cc_1 hv_1).mono ?_
      rintro e xw_2 ⟨xv_2, rfl, hv_2, hb_2⟩
      have cc_2 := below_step cc_1 hb_2
      have hC_2 : (fun w' : World => (w'.cell? ⟨bh, oh + ks.length * 3, none⟩ = some (.bool th.s) ∧ w'.cell? ⟨bh, oh + ks.length * 3 + 1, none⟩ = some (.slice th.a1 th.n1 th.c1) ∧ w'.cell? ⟨bh, oh + ks.length * 3 + 2, none⟩ = some (.slice th.a2 th.n2 th.c2)) ∧ (w'.cell? ⟨bl, ol + i * 3, none⟩ = some (.bool ta.s) ∧ w'.cell? ⟨bl, ol + i * 3 + 1, none⟩ = some (.slice ta.a1 ta.n1 ta.c1) ∧ w'.cell? ⟨bl, ol + i * 3 + 2, none⟩ = some (.slice ta.a2 ta.n2 ta.c2)) ∧ (w'.cell? ⟨bl, ol + (i + 1) * 3, none⟩ = some (.bool tb.s) ∧ w'.cell? ⟨bl, ol + (i + 1) * 3 + 1, none⟩ = some (.slice tb.a1 tb.n1 tb.c1) ∧ w'.cell? ⟨bl, ol + (i + 1) * 3 + 2, none⟩ = some (.slice tb.a2 tb.n2 tb.c2))) xw_2 := unhide HCC _ cc_2
      refine hK.out _ _ (fun _ => hC_2) ?_
      clear hK K
      (try simp only [Act.put, List.setIfInBounds_toArray, List.set_cons_zero, List.set_cons_succ])
      refine wpTill_pure (i := 18) (v := ?_) rfl (by kernel_rfl) (by kernel_rfl) (by kernel_rfl) (by kernel_rfl) (fun _ _ _ h => h) (Or.inl ⟨by rfl, ?_⟩) (fun _ => hC_2) ?_
      rotate_left
      · intro w hSw; clear hSw; go_simp; (try with_reducible rfl)
      (try simp only [List.getElem_toArray, List.getElem_cons_succ, List.getElem_cons_zero])
      (try simp only [Act.put, List.setIfInBounds_toArray, List.set_cons_zero, List.set_cons_succ])
      obtain ⟨tn, rfl, rn⟩ := tri_of hv_2
      simp only [Tri.val]
      have S8 := (unhide HS1).keep cc_2
      have ⟨⟨y0, y1, y2⟩, l0, l1, l2⟩ := S8.cells i (by omega)
      have FZ := S8.set i (by omega) tn _ rn
      rw [fill_set (waitsC ks)] at FZ
      obtain ⟨W9, hW9⟩ : ∃ W, ((xw_2.setCell ⟨G, i * 3, none⟩ (.bool tn.s)).setCell ⟨G, i * 3 + 1, none⟩ (.slice tn.a1 tn.n1 tn.c1)).setCell ⟨G, i * 3 + 2, none⟩ (.slice tn.a2 tn.n2 tn.c2) = W := ⟨_, rfl⟩
      rw [hW9] at FZ
      have HFS := hide FZ
      clear S8 FZ rn hv_1 hb_1 hv_2 hb_2
      refine wpTill_one (k := 19) (by kernel_rfl) rfl (fun K hK => ?_)
      (try simp only [List.getElem_toArray, List.getElem_cons_succ, List.getElem_cons_zero])
      go_simp
      refine hK.out _ _ (fun h => absurd (h.symm.trans (by kernel_rfl)) Bool.false_ne_true) ?_
      clear hK K
      (try simp only [Act.put, List.setIfInBounds_toArray, List.set_cons_zero, List.set_cons_succ])
      refine wpTill_done (by kernel_rfl) ?_ _
      clear l0 l1 l2 y0 y1 y2 hW9 hC0 hC_1 hC_2 cc_1 cc_2 bd0 HCC HMU HDV
      go_wp2_with fail
      exact ⟨⟨i + 1, _, by go_num, hlt, unhide HFS⟩, by simp [intOf]; omega⟩
    · obtain rfl : i = ks.length := by omega
      have e1 : ¬ (ks.length : Int) < (ks.length : Int) := by omega
      have LW := S.law (by omega)
      rw [hul] at LW
      have HLW : Hid (LawIs wr (.slice (some ⟨G, 0, none⟩) ks.length ks.length) (row (waitsC ks) ks.length)) := LW
      have HBB := hide (below_step (unhide HB1) S.bl)
      clear S LW
      go_wp2
      exact bodyPost_ret (v := .tuple #[.slice (some ⟨G, 0, none⟩) ks.length ks.length, .nilIface]) (by simp [results, Tryz.results10, go_sem]) rfl (Or.inl ⟨unhide HFIT, _, rfl, unhide HLW, unhide HBB⟩)

end Go.Proofs.YtbboacmjbffmhaaGreatDoor
