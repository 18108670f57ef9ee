/- Stays. -/
import Derived.Test.YtbboacmjbffmhaaDoorS6
namespace Go.Proofs.YtbboacmjbffmhaaDoor
open Go.RowKit Go.Sort Go.Shelf

def StaysPost (w : World) (ks : List (Rat × List Rat)) (e : Ending) (w' : World) : Prop :=
  (FitC ks ∧ ∃ v, e = .returned (.tuple #[v, .nilIface]) ∧ LawIs w' v (row (staysC ks) ks.length) ∧ Below w.heap.size w w') ∨
  (¬ FitC ks ∧ ∃ k : Int, e = .returned (.tuple #[.slice none 0 0, .iface 71 (.int .i64 k)]) ∧ Below w.heap.size w w')

set_option maxHeartbeats 8000000 in
set_option maxRecDepth 100000 in
set_option linter.unusedSimpArgs false in
theorem stays_any (v : Value) (ks : List (Rat × List Rat)) (w : World) (h : ClassesAre w v ks) (sm : SmC ks) (hl : ks.length ≤ 6) :
    Calls Tryd.prog 15 #[v] w (StaysPost w ks) := by
  have KKe : KK = 1099511627776 := rfl
  have HAH := hide (ahead_any v ks _ h sm hl)
  have HSM := hide sm
  obtain ⟨a, c, rfl, h1, h2, h3⟩ := h
  clear h3 sm
  go_enter Tryd.func15, Tryd.ntmps15
  go_wp2_with fail
  refine (unhide HAH).mono ?_
  rintro e w1 (⟨hg, vm, vl, vh, rfl, hm, hvl, hvh, hb1⟩ | ⟨hng, k, rfl, hb1⟩)
  rotate_left
  · have HNG := hide hng
    have HB1 := hide hb1
    clear hb1 hng HAH
    go_wp2
    exact bodyPost_ret (v := .tuple #[.slice none 0 0, .iface 71 (.int .i64 k)]) (by simp [results, Tryd.results15, go_sem]) rfl (Or.inr ⟨unhide HNG, k, rfl, unhide HB1⟩)
  have HFIT := hide hg
  have HB1 := hide hb1
  have HVm := hide hm
  obtain ⟨am, cm, rfl, m1, m2, m3⟩ := hm
  rw [row_length] at m1 m3 ⊢
  have Hm3 := hide m3
  clear m3
  have HVl := hide hvl
  obtain ⟨al, cl, rfl, l1, l2, l3⟩ := hvl
  rw [row_length] at l1 l3 ⊢
  have Hl3 := hide l3
  clear l3
  have HVh := hide hvh
  obtain ⟨ah, ch, rfl, h1, h2, h3⟩ := hvh
  rw [row_length] at h1 h3 ⊢
  have Hh3 := hide h3
  clear h3
  clear hg hb1 HAH
  have qmk := make_ratios (ks.length : Int) (by omega) (by omega) w1
  rw [Int.toNat_natCast] at qmk
  have S0 := SumsAt.start w1 w1 ks.length (Below.refl _ _)
  rw [fill_zero (staysC ks) ks.length] at S0
  obtain ⟨W0, hW0⟩ : ∃ W, w1.alloc (.cells (tcells (List.replicate ks.length zTri)).toArray 33) = W := ⟨_, rfl⟩
  obtain ⟨G, hG⟩ : ∃ G, w1.heap.size = G := ⟨_, rfl⟩
  rw [hW0, hG] at qmk S0
  have HS0 := hide S0
  clear S0 hW0 hG
  go_wp2_with fail
  clear qmk
  go_loopw [26] (fun vi wr => ∃ (i : Nat) (us : List Tri), vi = .int .i64 (i : Int) ∧ i ≤ ks.length ∧ SumsAt w1 wr G us (fill (staysC ks) ks.length i)) (fun vi _ => ks.length - (intOf vi).toNat)
  case atStart => exact ⟨0, _, rfl, Nat.zero_le _, unhide HS0⟩
  case round =>
    obtain ⟨i, us, rfl, hi, S⟩ := hrel
    have hul : us.length = ks.length := by rw [S.len, fill_length]
    clear HS0
    by_cases hlt : i < ks.length
    · obtain ⟨bl, ol, rfl, hbl, hcl⟩ := unhide Hl3 (by omega)
      obtain ⟨bh, oh, rfl, hbh, hch⟩ := unhide Hh3 (by omega)
      have HBL := hide S.bl
      have HS1 := hide S
      have e1 : (i : Int) < (ks.length : Int) := by omega
      have e0 : (0 : Int) ≤ (i : Int) := by omega
      have e5 : (i : Int) < (ks.length : Int) + 1 := by omega
      have e6 : (0 : Int) ≤ (i : Int) + 1 := by omega
      have e7 : (i : Int) + 1 < (ks.length : Int) + 1 := by omega
      have e8 : IntKind.i64.wrap ((i : Int) + 1) = (i : Int) + 1 := by rw [IntKind.wrap_i64]; omega
      have e9 : ((i : Int) + 1).toNat = i + 1 := by omega
      have q1 : (ks.length : Int) < (ks.length : Int) + 1 := by omega
      have q2 : (0 : Int) ≤ (ks.length : Int) := by omega
      have LP : ∀ k, k ≤ ks.length → (lfC ks k).num ≠ 0 := fun k hk => num_of_pos (lfC_pos (unhide HFIT).1.2 (unhide HFIT).2 hk)
      have HLP := hide LP
      have LR : ∀ k, k ≤ ks.length → RS (lfC ks k) 300 := fun k hk => (lfC_RS (unhide HSM) k hk).mono (by omega)
      have HLR := hide LR
      have HR : ∀ k, k ≤ ks.length → RS (hfC ks k) 300 := fun k hk => (hfC_RS (unhide HSM) k hk).mono (by omega)
      have HHR := hide HR
      clear S LP LR HR
      obtain ⟨xs, xp1, xp2, xn1, xd1, xn2, xd2, xk0, xk1, xk2, xr⟩ := hch (i + 1) (by omega)
      obtain ⟨th, rfl, rfl, rfl, rfl, rfl, rfl, rfl⟩ : ∃ t : Tri, xs = t.s ∧ xp1 = t.a1 ∧ xp2 = t.a2 ∧ xn1 = t.n1 ∧ xd1 = t.c1 ∧ xn2 = t.n2 ∧ xd2 = t.c2 := ⟨⟨xs, xp1, xp2, xn1, xd1, xn2, xd2⟩, rfl, rfl, rfl, rfl, rfl, rfl, rfl⟩
      obtain ⟨ys, yp1, yp2, yn1, yd1, yn2, yd2, yk0, yk1, yk2, yr⟩ := hcl i (by omega)
      obtain ⟨ta, rfl, rfl, rfl, rfl, rfl, rfl, rfl⟩ : ∃ t : Tri, ys = t.s ∧ yp1 = t.a1 ∧ yp2 = t.a2 ∧ yn1 = t.n1 ∧ yd1 = t.c1 ∧ yn2 = t.n2 ∧ yd2 = t.c2 := ⟨⟨ys, yp1, yp2, yn1, yd1, yn2, yd2⟩, rfl, rfl, rfl, rfl, rfl, rfl, rfl⟩
      obtain ⟨vs, vp1, vp2, vn1, vd1, vn2, vd2, vk0, vk1, vk2, vr⟩ := hcl (i + 1) (by omega)
      obtain ⟨tb, rfl, rfl, rfl, rfl, rfl, rfl, rfl⟩ : ∃ t : Tri, vs = t.s ∧ vp1 = t.a1 ∧ vp2 = t.a2 ∧ vn1 = t.n1 ∧ vd1 = t.c1 ∧ vn2 = t.n2 ∧ vd2 = t.c2 := ⟨⟨vs, vp1, vp2, vn1, vd1, vn2, vd2⟩, rfl, rfl, rfl, rfl, rfl, rfl, rfl⟩
      obtain ⟨bq, oq, rfl, hbq, hcq⟩ := unhide Hm3 (by omega)
      obtain ⟨us, up1, up2, un1, ud1, un2, ud2, uk0, uk1, uk2, ur⟩ := hcq i hlt
      obtain ⟨tm, rfl, rfl, rfl, rfl, rfl, rfl, rfl⟩ : ∃ t : Tri, us = t.s ∧ up1 = t.a1 ∧ up2 = t.a2 ∧ un1 = t.n1 ∧ ud1 = t.c1 ∧ un2 = t.n2 ∧ ud2 = t.c2 := ⟨⟨us, up1, up2, un1, ud1, un2, ud2⟩, rfl, rfl, rfl, rfl, rfl, rfl, rfl⟩
      rw [row_get (by omega)] at xr yr vr ur
      have HRH := hide (xr.below (unhide HBL))
      have HRA := hide (yr.below (unhide HBL))
      have HRB := hide (vr.below (unhide HBL))
      have HRM := hide (ur.below (unhide HBL))
      have HCC : Hid (∀ W, Below wr.heap.size wr W → (fun w' : World => (w'.cell? ⟨bh, oh + (i + 1) * 3, none⟩ = some (.bool th.s) ∧ w'.cell? ⟨bh, oh + (i + 1) * 3 + 1, none⟩ = some (.slice th.a1 th.n1 th.c1) ∧ w'.cell? ⟨bh, oh + (i + 1) * 3 + 2, none⟩ = some (.slice th.a2 th.n2 th.c2)) ∧ (w'.cell? ⟨bl, ol + (i + 1) * 3, none⟩ = some (.bool tb.s) ∧ w'.cell? ⟨bl, ol + (i + 1) * 3 + 1, none⟩ = some (.slice tb.a1 tb.n1 tb.c1) ∧ w'.cell? ⟨bl, ol + (i + 1) * 3 + 2, none⟩ = some (.slice tb.a2 tb.n2 tb.c2))) W) := fun W hW => by
        have bc := below_step (unhide HBL) hW
        refine ⟨?_, ?_⟩
        · rw [bc.cell (p := ⟨bh, oh + (i + 1) * 3, none⟩) hbh, bc.cell (p := ⟨bh, oh + (i + 1) * 3 + 1, none⟩) hbh, bc.cell (p := ⟨bh, oh + (i + 1) * 3 + 2, none⟩) hbh]; exact ⟨xk0, xk1, xk2⟩
        · rw [bc.cell (p := ⟨bl, ol + (i + 1) * 3, none⟩) hbl, bc.cell (p := ⟨bl, ol + (i + 1) * 3 + 1, none⟩) hbl, bc.cell (p := ⟨bl, ol + (i + 1) * 3 + 2, none⟩) hbl]; exact ⟨vk0, vk1, vk2⟩
      have HDV : Hid (∀ W, Below wr.heap.size wr W → Calls Tryd.prog 21 #[.agg #[.bool th.s, .slice th.a1 th.n1 th.c1, .slice th.a2 th.n2 th.c2], .agg #[.bool tb.s, .slice tb.a1 tb.n1 tb.c1, .slice tb.a2 tb.n2 tb.c2]] W fun e w' => ∃ v, e = .returned v ∧ RatIs w' v (hfC ks (i + 1) / lfC ks (i + 1)) ∧ Below W.heap.size W w') := fun W hW => sdivided_any th.val tb.val _ _ W ((unhide HRH).below hW) ((unhide HRB).below hW) 300 (unhide HHR (i + 1) (by omega)) (unhide HLR (i + 1) (by omega)) (by rw [KKe]; omega) (unhide HLP (i + 1) (by omega))
      have HCY : Hid (∀ W, Below wr.heap.size wr W → (fun w' : World => (w'.cell? ⟨bl, ol + i * 3, none⟩ = some (.bool ta.s) ∧ w'.cell? ⟨bl, ol + i * 3 + 1, none⟩ = some (.slice ta.a1 ta.n1 ta.c1) ∧ w'.cell? ⟨bl, ol + i * 3 + 2, none⟩ = some (.slice ta.a2 ta.n2 ta.c2)) ∧ (w'.cell? ⟨bq, oq + i * 3, none⟩ = some (.bool tm.s) ∧ w'.cell? ⟨bq, oq + i * 3 + 1, none⟩ = some (.slice tm.a1 tm.n1 tm.c1) ∧ w'.cell? ⟨bq, oq + i * 3 + 2, none⟩ = some (.slice tm.a2 tm.n2 tm.c2))) W) := fun W hW => by
        have bc := below_step (unhide HBL) hW
        refine ⟨?_, ?_⟩
        · rw [bc.cell (p := ⟨bl, ol + i * 3, none⟩) hbl, bc.cell (p := ⟨bl, ol + i * 3 + 1, none⟩) hbl, bc.cell (p := ⟨bl, ol + i * 3 + 2, none⟩) hbl]; exact ⟨yk0, yk1, yk2⟩
        · rw [bc.cell (p := ⟨bq, oq + i * 3, none⟩) hbq, bc.cell (p := ⟨bq, oq + i * 3 + 1, none⟩) hbq, bc.cell (p := ⟨bq, oq + i * 3 + 2, none⟩) hbq]; exact ⟨uk0, uk1, uk2⟩
      clear xr yr vr ur xk0 xk1 xk2 yk0 yk1 yk2 vk0 vk1 vk2 uk0 uk1 uk2 hcl hch hcq HBL
      go_wp2_with fail
      refine wp_region_hold (fun w' : World => (w'.cell? ⟨bh, oh + (i + 1) * 3, none⟩ = some (.bool th.s) ∧ w'.cell? ⟨bh, oh + (i + 1) * 3 + 1, none⟩ = some (.slice th.a1 th.n1 th.c1) ∧ w'.cell? ⟨bh, oh + (i + 1) * 3 + 2, none⟩ = some (.slice th.a2 th.n2 th.c2)) ∧ (w'.cell? ⟨bl, ol + (i + 1) * 3, none⟩ = some (.bool tb.s) ∧ w'.cell? ⟨bl, ol + (i + 1) * 3 + 1, none⟩ = some (.slice tb.a1 tb.n1 tb.c1) ∧ w'.cell? ⟨bl, ol + (i + 1) * 3 + 2, none⟩ = some (.slice tb.a2 tb.n2 tb.c2))) (by kernel_rfl) ?_
      have bd0 : Below wr.heap.size wr wr.drew := (Below.refl _ _).drew
      obtain ⟨Wx, hWx⟩ : ∃ W, wr.drew = W := ⟨_, rfl⟩
      rw [hWx] at bd0 ⊢
      have hC0 : (fun w' : World => (w'.cell? ⟨bh, oh + (i + 1) * 3, none⟩ = some (.bool th.s) ∧ w'.cell? ⟨bh, oh + (i + 1) * 3 + 1, none⟩ = some (.slice th.a1 th.n1 th.c1) ∧ w'.cell? ⟨bh, oh + (i + 1) * 3 + 2, none⟩ = some (.slice th.a2 th.n2 th.c2)) ∧ (w'.cell? ⟨bl, ol + (i + 1) * 3, none⟩ = some (.bool tb.s) ∧ w'.cell? ⟨bl, ol + (i + 1) * 3 + 1, none⟩ = some (.slice tb.a1 tb.n1 tb.c1) ∧ w'.cell? ⟨bl, ol + (i + 1) * 3 + 2, none⟩ = some (.slice tb.a2 tb.n2 tb.c2))) Wx := unhide HCC _ bd0
      refine wpHold_take (i := 0) (v := ?_) rfl (by kernel_rfl) (by kernel_rfl) (by kernel_rfl) (fun _ _ _ h => h) (Or.inl ⟨by rfl, ?_⟩) hC0 ?_
      rotate_left
      · intro w hSw; clear hSw; go_simp; (try with_reducible rfl)
      (try simp only [List.getElem_toArray, List.getElem_cons_succ, List.getElem_cons_zero])
      (try simp only [Act.put, List.setIfInBounds_toArray, List.set_cons_zero, List.set_cons_succ])
      refine wpHold_take (i := 1) (v := ?_) rfl (by kernel_rfl) (by kernel_rfl) (by kernel_rfl) (fun _ _ _ h => h) (Or.inl ⟨by rfl, ?_⟩) hC0 ?_
      rotate_left
      · intro w hSw; clear hSw; go_simp; (try with_reducible rfl)
      (try simp only [List.getElem_toArray, List.getElem_cons_succ, List.getElem_cons_zero])
      (try simp only [Act.put, List.setIfInBounds_toArray, List.set_cons_zero, List.set_cons_succ])
      refine wpHold_take (i := 2) (v := ?_) rfl (by kernel_rfl) (by kernel_rfl) (by kernel_rfl) (fun _ _ _ h => h) (Or.inl ⟨by rfl, ?_⟩) hC0 ?_
      rotate_left
      · intro w hSw; clear hSw; go_simp; (try with_reducible rfl)
      (try simp only [List.getElem_toArray, List.getElem_cons_succ, List.getElem_cons_zero])
      (try simp only [Act.put, List.setIfInBounds_toArray, List.set_cons_zero, List.set_cons_succ])
      refine wpHold_take (i := 3) (v := ?_) rfl (by kernel_rfl) (by kernel_rfl) (by kernel_rfl) (fun _ _ _ h => h) (Or.inl ⟨by rfl, ?_⟩) hC0 ?_
      rotate_left
      · intro w hSw; clear hSw; go_simp; (try with_reducible rfl)
      (try simp only [List.getElem_toArray, List.getElem_cons_succ, List.getElem_cons_zero])
      (try simp only [Act.put, List.setIfInBounds_toArray, List.set_cons_zero, List.set_cons_succ])
      refine wpHold_take (i := 4) (v := ?_) rfl (by kernel_rfl) (by kernel_rfl) (by kernel_rfl) (fun _ _ _ h => h) (Or.inl ⟨by rfl, ?_⟩) hC0 ?_
      rotate_left
      · intro w hSw; (try dsimp only at hSw); obtain ⟨⟨z0, z1, z2⟩, z3, z4, z5⟩ := hSw; go_simp; (try with_reducible rfl)
      (try simp only [List.getElem_toArray, List.getElem_cons_succ, List.getElem_cons_zero])
      (try simp only [Act.put, List.setIfInBounds_toArray, List.set_cons_zero, List.set_cons_succ])
      refine wpHold_take (i := 5) (v := ?_) rfl (by kernel_rfl) (by kernel_rfl) (by kernel_rfl) (fun _ _ _ h => h) (Or.inl ⟨by rfl, ?_⟩) hC0 ?_
      rotate_left
      · intro w hSw; clear hSw; go_simp; (try with_reducible rfl)
      (try simp only [List.getElem_toArray, List.getElem_cons_succ, List.getElem_cons_zero])
      (try simp only [Act.put, List.setIfInBounds_toArray, List.set_cons_zero, List.set_cons_succ])
      refine wpHold_take (i := 6) (v := ?_) rfl (by kernel_rfl) (by kernel_rfl) (by kernel_rfl) (fun _ _ _ h => h) (Or.inl ⟨by rfl, ?_⟩) hC0 ?_
      rotate_left
      · intro w hSw; clear hSw; go_simp; (try with_reducible rfl)
      (try simp only [List.getElem_toArray, List.getElem_cons_succ, List.getElem_cons_zero])
      (try simp only [Act.put, List.setIfInBounds_toArray, List.set_cons_zero, List.set_cons_succ])
      refine wpHold_take (i := 7) (v := ?_) rfl (by kernel_rfl) (by kernel_rfl) (by kernel_rfl) (fun _ _ _ h => h) (Or.inl ⟨by rfl, ?_⟩) hC0 ?_
      rotate_left
      · intro w hSw; clear hSw; go_simp; (try with_reducible rfl)
      (try simp only [List.getElem_toArray, List.getElem_cons_succ, List.getElem_cons_zero])
      (try simp only [Act.put, List.setIfInBounds_toArray, List.set_cons_zero, List.set_cons_succ])
      refine wpHold_take (i := 8) (v := ?_) rfl (by kernel_rfl) (by kernel_rfl) (by kernel_rfl) (fun _ _ _ h => h) (Or.inl ⟨by rfl, ?_⟩) hC0 ?_
      rotate_left
      · intro w hSw; clear hSw; go_simp; (try with_reducible rfl)
      (try simp only [List.getElem_toArray, List.getElem_cons_succ, List.getElem_cons_zero])
      (try simp only [Act.put, List.setIfInBounds_toArray, List.set_cons_zero, List.set_cons_succ])
      refine wpHold_take (i := 9) (v := ?_) rfl (by kernel_rfl) (by kernel_rfl) (by kernel_rfl) (fun _ _ _ h => h) (Or.inl ⟨by rfl, ?_⟩) hC0 ?_
      rotate_left
      · intro w hSw; (try dsimp only at hSw); obtain ⟨⟨z0, z1, z2⟩, z3, z4, z5⟩ := hSw; go_simp; (try with_reducible rfl)
      (try simp only [List.getElem_toArray, List.getElem_cons_succ, List.getElem_cons_zero])
      (try simp only [Act.put, List.setIfInBounds_toArray, List.set_cons_zero, List.set_cons_succ])
      refine wpHold_listed (n := 3) (L' := (fun nc nl => #[true, true, true, true, true, true, true, true, true, true, decide (1 ≤ nc), nl, false]) 0 false) (by kernel_rfl) (by kernel_rfl) ?_
      refine wpHold_name (fun a0 ha0 => ?_)
      refine chain_one_any 1 (fun nc nl => #[true, true, true, true, true, true, true, true, true, true, decide (1 ≤ nc), nl, false]) (fun _ => 10) 11 1 (fun nc nl na W => ∃ s1 s3, na = (a0.put (some 39) s1).put (some 10) s3 ∧ OneJ (hfC ks (i + 1) / lfC ks (i + 1)) Wx nc nl W s1 s3) ?_ ?_ ?_ (fun c => rfl) ?_ ?_ ?_ 2 0 false (by omega) (by rfl) _ _ ⟨u39, u10, by subst ha0; rfl, Below.refl _ _, fun h => absurd h (by decide), fun h => by cases h⟩
      · clear ha0
        intro nc nl hnc
        match nc, hnc with
        | 0, _ => cases nl <;> (show (_ : Bool) = _; kernel_rfl)
        | 1, _ => cases nl <;> (show (_ : Bool) = _; kernel_rfl)
      · clear ha0
        intro nc nl hnc
        match nc, hnc with
        | 0, _ => cases nl <;> (intro _; show (_ : Bool) = _; kernel_rfl)
        | 1, _ => cases nl <;> (intro h; first | (show (_ : Bool) = _; kernel_rfl) | exact absurd h (by decide))
      · clear ha0
        intro nc nl hnc
        match nc, hnc with
        | 0, _ => rfl
      · rintro nc nl na wv hnc ⟨s1, s3, rfl, J⟩
        obtain rfl : nc = 0 := by omega
        subst ha0
        refine wpOp_step rfl (fun K hK => ?_)
        (try simp only [Act.put, List.setIfInBounds_toArray, List.set_cons_zero, List.set_cons_succ] at hK ⊢)
        (try simp only [List.getElem_toArray, List.getElem_cons_succ, List.getElem_cons_zero])
        go_simp
        refine (unhide HDV wv (below_step bd0 J.bl)).mono ?_
        rintro e wz ⟨v, rfl, hv, hb⟩
        exact hK _ _ ⟨unhide HCC _ (below_step bd0 (below_step J.bl hb)), v, s3, rfl, below_step J.bl hb, fun _ => hv, fun h => by
          obtain ⟨b, e1, e2, e3⟩ := J.al h
          exact ⟨b, e1, e2.keep hb, e3⟩⟩
      · rintro nc na wv ⟨s1, s3, rfl, J⟩
        subst ha0
        refine wpOp_step rfl (fun K hK => ?_)
        (try simp only [Act.put, List.setIfInBounds_toArray, List.set_cons_zero, List.set_cons_succ] at hK ⊢)
        (try simp only [List.getElem_toArray, List.getElem_cons_succ, List.getElem_cons_zero])
        go_simp
        have hb := alloc_below wv (.cells #[.bool false, .slice none 0 0, .slice none 0 0] 33)
        exact hK _ _ ⟨unhide HCC _ (below_step bd0 (below_step J.bl hb)), s1, .pointer (some ⟨wv.heap.size, 0, none⟩), rfl, below_step J.bl hb, fun h => (J.r1 h).below hb, fun _ => ⟨wv.heap.size, rfl, BoxIs.new (t := zTri) (rat_zero _), J.bl.size⟩⟩
      · rintro na wv ⟨s1, s3, rfl, J⟩
        subst ha0
        obtain ⟨bx, rfl, B10, e10⟩ := J.al rfl
        obtain ⟨tq, rfl, r0⟩ := tri_of (J.r1 (by decide))
        simp only [Tri.val]
        (try simp only [Act.put, List.setIfInBounds_toArray, List.set_cons_zero, List.set_cons_succ])
        have ⟨l0, l1, l2⟩ := B10.free
        have ⟨k0, k1, k2⟩ := B10.cells _ (Below.refl _ _)
        have NB := B10.set r0
        have e10' : wr.heap.size ≤ bx := Nat.le_trans bd0.size e10
        have YB := (((below_step bd0 J.bl).setCell (p := ⟨bx, 0, none⟩) e10' (.bool tq.s)).setCell (p := ⟨bx, 1, none⟩) e10' (.slice tq.a1 tq.n1 tq.c1)).setCell (p := ⟨bx, 2, none⟩) e10' (.slice tq.a2 tq.n2 tq.c2)
        have HG_bx := hide e10'
        have hCn : (fun w' : World => (w'.cell? ⟨bh, oh + (i + 1) * 3, none⟩ = some (.bool th.s) ∧ w'.cell? ⟨bh, oh + (i + 1) * 3 + 1, none⟩ = some (.slice th.a1 th.n1 th.c1) ∧ w'.cell? ⟨bh, oh + (i + 1) * 3 + 2, none⟩ = some (.slice th.a2 th.n2 th.c2)) ∧ (w'.cell? ⟨bl, ol + (i + 1) * 3, none⟩ = some (.bool tb.s) ∧ w'.cell? ⟨bl, ol + (i + 1) * 3 + 1, none⟩ = some (.slice tb.a1 tb.n1 tb.c1) ∧ w'.cell? ⟨bl, ol + (i + 1) * 3 + 2, none⟩ = some (.slice tb.a2 tb.n2 tb.c2))) _ := unhide HCC _ YB
        obtain ⟨Wbx, hWy⟩ : ∃ W, ((wv.setCell ⟨bx, 0, none⟩ (.bool tq.s)).setCell ⟨bx, 1, none⟩ (.slice tq.a1 tq.n1 tq.c1)).setCell ⟨bx, 2, none⟩ (.slice tq.a2 tq.n2 tq.c2) = W := ⟨_, rfl⟩
        rw [hWy] at NB YB hCn
        have HX_bx := hide NB
        have HY_bx := hide YB
        clear J B10 r0 hC0 YB NB e10'
        refine wpHold_one (k := 12) (by kernel_rfl) rfl (fun K hK => ?_)
        (try simp only [List.getElem_toArray, List.getElem_cons_succ, List.getElem_cons_zero])
        go_simp
        refine hK.out _ _ hCn ?_
        clear hK K
        (try simp only [Act.put, List.setIfInBounds_toArray, List.set_cons_zero, List.set_cons_succ])
        refine wpHold_done (by kernel_rfl) ?_ _
        clear hCn l0 l1 l2 k0 k1 k2 hWy e10 bd0 hWx
        have HS2 := hide ((unhide HS1).keep (unhide HY_bx))
        have HCZ : Hid (∀ W, Below Wbx.heap.size Wbx W → (fun w' : World => (w'.cell? ⟨bl, ol + i * 3, none⟩ = some (.bool ta.s) ∧ w'.cell? ⟨bl, ol + i * 3 + 1, none⟩ = some (.slice ta.a1 ta.n1 ta.c1) ∧ w'.cell? ⟨bl, ol + i * 3 + 2, none⟩ = some (.slice ta.a2 ta.n2 ta.c2)) ∧ (w'.cell? ⟨bq, oq + i * 3, none⟩ = some (.bool tm.s) ∧ w'.cell? ⟨bq, oq + i * 3 + 1, none⟩ = some (.slice tm.a1 tm.n1 tm.c1) ∧ w'.cell? ⟨bq, oq + i * 3 + 2, none⟩ = some (.slice tm.a2 tm.n2 tm.c2)) ∧ (w'.cell? ⟨bx, 0, none⟩ = some (.bool tq.s) ∧ w'.cell? ⟨bx, 1, none⟩ = some (.slice tq.a1 tq.n1 tq.c1) ∧ w'.cell? ⟨bx, 2, none⟩ = some (.slice tq.a2 tq.n2 tq.c2))) W) := fun W hW => by
          have ⟨p1, p2⟩ := unhide HCY W (below_step (unhide HY_bx) hW)
          exact ⟨p1, p2, (unhide HX_bx).cells W hW⟩
        have HAD : Hid (∀ W, Below Wbx.heap.size Wbx W → Calls Tryd.prog 12 #[.agg #[.bool tm.s, .slice tm.a1 tm.n1 tm.c1, .slice tm.a2 tm.n2 tm.c2], .agg #[.bool tq.s, .slice tq.a1 tq.n1 tq.c1, .slice tq.a2 tq.n2 tq.c2]] W fun e w' => ∃ v, e = .returned v ∧ RatIs w' v (mo 1 ks i + hfC ks (i + 1) / lfC ks (i + 1)) ∧ Below W.heap.size W w') := fun W hW => addR_any tm.val tq.val _ _ W ((unhide HRM).below (below_step (unhide HY_bx) hW)) ((unhide HX_bx).2.below hW) 600 ((mo_RS (unhide HSM) (by omega) hlt).mono (by omega)) ((RS.div' (unhide HHR (i + 1) (by omega)) (unhide HLR (i + 1) (by omega)) (unhide HLP (i + 1) (by omega))).mono (by omega)) (by rw [KKe]; omega)
        have HDW : Hid (∀ W v (hW : Below Wbx.heap.size Wbx W) (hv : RatIs W v (mo 1 ks i + hfC ks (i + 1) / lfC ks (i + 1))), Calls Tryd.prog 21 #[v, .agg #[.bool ta.s, .slice ta.a1 ta.n1 ta.c1, .slice ta.a2 ta.n2 ta.c2]] W fun e w' => ∃ v, e = .returned v ∧ RatIs w' v (staysC ks i) ∧ Below W.heap.size W w') := fun W v hW hv => sdivided_any v ta.val _ _ W hv ((unhide HRA).below (below_step (unhide HY_bx) hW)) 700 ((RS.add (mo_RS (unhide HSM) (by omega) hlt) (RS.div' (unhide HHR (i + 1) (by omega)) (unhide HLR (i + 1) (by omega)) (unhide HLP (i + 1) (by omega)))).mono (by omega)) ((unhide HLR i (by omega)).mono (by omega)) (by rw [KKe]; omega) (unhide HLP i (by omega))
        go_wp2_with fail
        refine wp_region_till (fun w' : World => (w'.cell? ⟨bl, ol + i * 3, none⟩ = some (.bool ta.s) ∧ w'.cell? ⟨bl, ol + i * 3 + 1, none⟩ = some (.slice ta.a1 ta.n1 ta.c1) ∧ w'.cell? ⟨bl, ol + i * 3 + 2, none⟩ = some (.slice ta.a2 ta.n2 ta.c2)) ∧ (w'.cell? ⟨bq, oq + i * 3, none⟩ = some (.bool tm.s) ∧ w'.cell? ⟨bq, oq + i * 3 + 1, none⟩ = some (.slice tm.a1 tm.n1 tm.c1) ∧ w'.cell? ⟨bq, oq + i * 3 + 2, none⟩ = some (.slice tm.a2 tm.n2 tm.c2)) ∧ (w'.cell? ⟨bx, 0, none⟩ = some (.bool tq.s) ∧ w'.cell? ⟨bx, 1, none⟩ = some (.slice tq.a1 tq.n1 tq.c1) ∧ w'.cell? ⟨bx, 2, none⟩ = some (.slice tq.a2 tq.n2 tq.c2))) 14 (by kernel_rfl) ?_
        have bd0 : Below Wbx.heap.size Wbx Wbx.drew := (Below.refl _ _).drew
        have hC0 : (fun w' : World => (w'.cell? ⟨bl, ol + i * 3, none⟩ = some (.bool ta.s) ∧ w'.cell? ⟨bl, ol + i * 3 + 1, none⟩ = some (.slice ta.a1 ta.n1 ta.c1) ∧ w'.cell? ⟨bl, ol + i * 3 + 2, none⟩ = some (.slice ta.a2 ta.n2 ta.c2)) ∧ (w'.cell? ⟨bq, oq + i * 3, none⟩ = some (.bool tm.s) ∧ w'.cell? ⟨bq, oq + i * 3 + 1, none⟩ = some (.slice tm.a1 tm.n1 tm.c1) ∧ w'.cell? ⟨bq, oq + i * 3 + 2, none⟩ = some (.slice tm.a2 tm.n2 tm.c2)) ∧ (w'.cell? ⟨bx, 0, none⟩ = some (.bool tq.s) ∧ w'.cell? ⟨bx, 1, none⟩ = some (.slice tq.a1 tq.n1 tq.c1) ∧ w'.cell? ⟨bx, 2, none⟩ = some (.slice tq.a2 tq.n2 tq.c2))) Wbx.drew := unhide HCZ _ bd0
        refine wpTill_pure (i := 0) (v := ?_) rfl (by kernel_rfl) (by kernel_rfl) (by kernel_rfl) (by kernel_rfl) (fun _ _ _ h => h) (Or.inl ⟨by rfl, ?_⟩) (fun _ => hC0) ?_
        rotate_left
        · intro w hSw; clear hSw; go_simp; (try with_reducible rfl)
        (try simp only [List.getElem_toArray, List.getElem_cons_succ, List.getElem_cons_zero])
        (try simp only [Act.put, List.setIfInBounds_toArray, List.set_cons_zero, List.set_cons_succ])
        refine wpTill_pure (i := 1) (v := ?_) rfl (by kernel_rfl) (by kernel_rfl) (by kernel_rfl) (by kernel_rfl) (fun _ _ _ h => h) (Or.inl ⟨by rfl, ?_⟩) (fun _ => hC0) ?_
        rotate_left
        · intro w hSw; clear hSw; go_simp; (try with_reducible rfl)
        (try simp only [List.getElem_toArray, List.getElem_cons_succ, List.getElem_cons_zero])
        (try simp only [Act.put, List.setIfInBounds_toArray, List.set_cons_zero, List.set_cons_succ])
        refine wpTill_pure (i := 2) (v := ?_) rfl (by kernel_rfl) (by kernel_rfl) (by kernel_rfl) (by kernel_rfl) (fun _ _ _ h => h) (Or.inl ⟨by rfl, ?_⟩) (fun _ => hC0) ?_
        rotate_left
        · intro w hSw; clear hSw; go_simp; (try with_reducible rfl)
        (try simp only [List.getElem_toArray, List.getElem_cons_succ, List.getElem_cons_zero])
        (try simp only [Act.put, List.setIfInBounds_toArray, List.set_cons_zero, List.set_cons_succ])
        refine wpTill_pure (i := 3) (v := ?_) rfl (by kernel_rfl) (by kernel_rfl) (by kernel_rfl) (by kernel_rfl) (fun _ _ _ h => h) (Or.inl ⟨by rfl, ?_⟩) (fun _ => hC0) ?_
        rotate_left
        · intro w hSw; clear hSw; go_simp; (try with_reducible rfl)
        (try simp only [List.getElem_toArray, List.getElem_cons_succ, List.getElem_cons_zero])
        (try simp only [Act.put, List.setIfInBounds_toArray, List.set_cons_zero, List.set_cons_succ])
        refine wpTill_pure (i := 4) (v := ?_) rfl (by kernel_rfl) (by kernel_rfl) (by kernel_rfl) (by kernel_rfl) (fun _ _ _ h => h) (Or.inl ⟨by rfl, ?_⟩) (fun _ => hC0) ?_
        rotate_left
        · intro w hSw; clear hSw; go_simp; (try with_reducible rfl)
        (try simp only [List.getElem_toArray, List.getElem_cons_succ, List.getElem_cons_zero])
        (try simp only [Act.put, List.setIfInBounds_toArray, List.set_cons_zero, List.set_cons_succ])
        refine wpTill_take (i := 5) (v := ?_) rfl (by kernel_rfl) (by kernel_rfl) (by kernel_rfl) (by kernel_rfl) (by kernel_rfl) (by kernel_rfl) (fun _ _ _ h => h) (Or.inl ⟨by rfl, ?_⟩) hC0 ?_
        rotate_left
        · intro w hSw; (try dsimp only at hSw); obtain ⟨⟨z0, z1, z2⟩, ⟨z3, z4, z5⟩, z6, z7, z8⟩ := hSw; go_simp; (try with_reducible rfl)
        (try simp only [List.getElem_toArray, List.getElem_cons_succ, List.getElem_cons_zero])
        (try simp only [Act.put, List.setIfInBounds_toArray, List.set_cons_zero, List.set_cons_succ])
        refine wpTill_take (i := 6) (v := ?_) rfl (by kernel_rfl) (by kernel_rfl) (by kernel_rfl) (by kernel_rfl) (by kernel_rfl) (by kernel_rfl) (fun _ _ _ h => h) (Or.inl ⟨by rfl, ?_⟩) hC0 ?_
        rotate_left
        · intro w hSw; (try dsimp only at hSw); obtain ⟨⟨z0, z1, z2⟩, ⟨z3, z4, z5⟩, z6, z7, z8⟩ := hSw; go_simp; (try with_reducible rfl)
        (try simp only [List.getElem_toArray, List.getElem_cons_succ, List.getElem_cons_zero])
        (try simp only [Act.put, List.setIfInBounds_toArray, List.set_cons_zero, List.set_cons_succ])
        refine wpTill_pure (i := 8) (v := ?_) rfl (by kernel_rfl) (by kernel_rfl) (by kernel_rfl) (by kernel_rfl) (fun _ _ _ h => h) (Or.inl ⟨by rfl, ?_⟩) (fun _ => hC0) ?_
        rotate_left
        · intro w hSw; clear hSw; go_simp; (try with_reducible rfl)
        (try simp only [List.getElem_toArray, List.getElem_cons_succ, List.getElem_cons_zero])
        (try simp only [Act.put, List.setIfInBounds_toArray, List.set_cons_zero, List.set_cons_succ])
        refine wpTill_pure (i := 9) (v := ?_) rfl (by kernel_rfl) (by kernel_rfl) (by kernel_rfl) (by kernel_rfl) (fun _ _ _ h => h) (Or.inl ⟨by rfl, ?_⟩) (fun _ => hC0) ?_
        rotate_left
        · intro w hSw; clear hSw; go_simp; (try with_reducible rfl)
        (try simp only [List.getElem_toArray, List.getElem_cons_succ, List.getElem_cons_zero])
        (try simp only [Act.put, List.setIfInBounds_toArray, List.set_cons_zero, List.set_cons_succ])
        refine wpTill_pure (i := 10) (v := ?_) rfl (by kernel_rfl) (by kernel_rfl) (by kernel_rfl) (by kernel_rfl) (fun _ _ _ h => h) (Or.inl ⟨by rfl, ?_⟩) (fun _ => hC0) ?_
        rotate_left
        · intro w hSw; clear hSw; go_simp; (try with_reducible rfl)
        (try simp only [List.getElem_toArray, List.getElem_cons_succ, List.getElem_cons_zero])
        (try simp only [Act.put, List.setIfInBounds_toArray, List.set_cons_zero, List.set_cons_succ])
        refine wpTill_take (i := 11) (v := ?_) rfl (by kernel_rfl) (by kernel_rfl) (by kernel_rfl) (by kernel_rfl) (by kernel_rfl) (by kernel_rfl) (fun _ _ _ h => h) (Or.inl ⟨by rfl, ?_⟩) hC0 ?_
        rotate_left
        · intro w hSw; (try dsimp only at hSw); obtain ⟨⟨z0, z1, z2⟩, ⟨z3, z4, z5⟩, z6, z7, z8⟩ := hSw; go_simp; (try with_reducible rfl)
        (try simp only [List.getElem_toArray, List.getElem_cons_succ, List.getElem_cons_zero])
        (try simp only [Act.put, List.setIfInBounds_toArray, List.set_cons_zero, List.set_cons_succ])
        refine wpTill_one (k := 7) (by kernel_rfl) rfl (fun K hK => ?_)
        (try simp only [List.getElem_toArray, List.getElem_cons_succ, List.getElem_cons_zero])
        go_simp
        refine (unhide HAD _ bd0).mono ?_
        rintro e xw_1 ⟨xv_1, rfl, hv_1, hb_1⟩
        have cc_1 := below_step bd0 hb_1
        have hC_1 : (fun w' : World => (w'.cell? ⟨bl, ol + i * 3, none⟩ = some (.bool ta.s) ∧ w'.cell? ⟨bl, ol + i * 3 + 1, none⟩ = some (.slice ta.a1 ta.n1 ta.c1) ∧ w'.cell? ⟨bl, ol + i * 3 + 2, none⟩ = some (.slice ta.a2 ta.n2 ta.c2)) ∧ (w'.cell? ⟨bq, oq + i * 3, none⟩ = some (.bool tm.s) ∧ w'.cell? ⟨bq, oq + i * 3 + 1, none⟩ = some (.slice tm.a1 tm.n1 tm.c1) ∧ w'.cell? ⟨bq, oq + i * 3 + 2, none⟩ = some (.slice tm.a2 tm.n2 tm.c2)) ∧ (w'.cell? ⟨bx, 0, none⟩ = some (.bool tq.s) ∧ w'.cell? ⟨bx, 1, none⟩ = some (.slice tq.a1 tq.n1 tq.c1) ∧ w'.cell? ⟨bx, 2, none⟩ = some (.slice tq.a2 tq.n2 tq.c2))) xw_1 := unhide HCZ _ cc_1
        refine hK.out _ _ (fun _ => hC_1) ?_
        clear hK K
        (try simp only [Act.put, List.setIfInBounds_toArray, List.set_cons_zero, List.set_cons_succ])
        refine wpTill_one (k := 12) (by kernel_rfl) rfl (fun K hK => ?_)
        (try simp only [List.getElem_toArray, List.getElem_cons_succ, List.getElem_cons_zero])
        go_simp
        refine (unhide HDW _ _ cc_1 hv_1).mono ?_
        rintro e xw_2 ⟨xv_2, rfl, hv_2, hb_2⟩
        have cc_2 := below_step cc_1 hb_2
        have hC_2 : (fun w' : World => (w'.cell? ⟨bl, ol + i * 3, none⟩ = some (.bool ta.s) ∧ w'.cell? ⟨bl, ol + i * 3 + 1, none⟩ = some (.slice ta.a1 ta.n1 ta.c1) ∧ w'.cell? ⟨bl, ol + i * 3 + 2, none⟩ = some (.slice ta.a2 ta.n2 ta.c2)) ∧ (w'.cell? ⟨bq, oq + i * 3, none⟩ = some (.bool tm.s) ∧ w'.cell? ⟨bq, oq + i * 3 + 1, none⟩ = some (.slice tm.a1 tm.n1 tm.c1) ∧ w'.cell? ⟨bq, oq + i * 3 + 2, none⟩ = some (.slice tm.a2 tm.n2 tm.c2)) ∧ (w'.cell? ⟨bx, 0, none⟩ = some (.bool tq.s) ∧ w'.cell? ⟨bx, 1, none⟩ = some (.slice tq.a1 tq.n1 tq.c1) ∧ w'.cell? ⟨bx, 2, none⟩ = some (.slice tq.a2 tq.n2 tq.c2))) xw_2 := unhide HCZ _ cc_2
        refine hK.out _ _ (fun _ => hC_2) ?_
        clear hK K
        (try simp only [Act.put, List.setIfInBounds_toArray, List.set_cons_zero, List.set_cons_succ])
        refine wpTill_pure (i := 13) (v := ?_) rfl (by kernel_rfl) (by kernel_rfl) (by kernel_rfl) (by kernel_rfl) (fun _ _ _ h => h) (Or.inl ⟨by rfl, ?_⟩) (fun _ => hC_2) ?_
        rotate_left
        · intro w hSw; clear hSw; go_simp; (try with_reducible rfl)
        (try simp only [List.getElem_toArray, List.getElem_cons_succ, List.getElem_cons_zero])
        (try simp only [Act.put, List.setIfInBounds_toArray, List.set_cons_zero, List.set_cons_succ])
        obtain ⟨tn, rfl, rn⟩ := tri_of hv_2
        simp only [Tri.val]
        have S8 := (unhide HS2).keep cc_2
        have ⟨⟨y0, y1, y2⟩, l0, l1, l2⟩ := S8.cells i (by omega)
        have FZ := S8.set i (by omega) tn _ rn
        rw [fill_set (staysC ks)] at FZ
        obtain ⟨W9, hW9⟩ : ∃ W, ((xw_2.setCell ⟨G, i * 3, none⟩ (.bool tn.s)).setCell ⟨G, i * 3 + 1, none⟩ (.slice tn.a1 tn.n1 tn.c1)).setCell ⟨G, i * 3 + 2, none⟩ (.slice tn.a2 tn.n2 tn.c2) = W := ⟨_, rfl⟩
        rw [hW9] at FZ
        have HFS := hide FZ
        clear S8 FZ rn hv_1 hb_1 hv_2 hb_2
        refine wpTill_one (k := 14) (by kernel_rfl) rfl (fun K hK => ?_)
        (try simp only [List.getElem_toArray, List.getElem_cons_succ, List.getElem_cons_zero])
        go_simp
        refine hK.out _ _ (fun h => absurd (h.symm.trans (by kernel_rfl)) Bool.false_ne_true) ?_
        clear hK K
        (try simp only [Act.put, List.setIfInBounds_toArray, List.set_cons_zero, List.set_cons_succ])
        refine wpTill_done (by kernel_rfl) ?_ _
        clear l0 l1 l2 y0 y1 y2 hW9 hC0 hC_1 hC_2 cc_1 cc_2 bd0 HCC HDV HCZ HAD HDW
        go_wp2_with fail
        exact ⟨⟨i + 1, _, by go_num, hlt, unhide HFS⟩, by simp [intOf]; omega⟩
    · obtain rfl : i = ks.length := by omega
      have e1 : ¬ (ks.length : Int) < (ks.length : Int) := by omega
      have LW := S.law (by omega)
      rw [hul] at LW
      have HLW : Hid (LawIs wr (.slice (some ⟨G, 0, none⟩) ks.length ks.length) (row (staysC ks) ks.length)) := LW
      have HBB := hide (below_step (unhide HB1) S.bl)
      clear S LW
      go_wp2
      exact bodyPost_ret (v := .tuple #[.slice (some ⟨G, 0, none⟩) ks.length ks.length, .nilIface]) (by simp [results, Tryd.results15, go_sem]) rfl (Or.inl ⟨unhide HFIT, _, rfl, unhide HLW, unhide HBB⟩)

end Go.Proofs.YtbboacmjbffmhaaDoor
