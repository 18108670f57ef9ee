/- coin.Times. -/
import Derived.Test.YtdicbnchkfclaaaDoorE6
namespace Go.Proofs.YtdicbnchkfclaaaDoor
open Go.RowKit Go.Sort Go.Shelf

set_option maxHeartbeats 8000000 in
set_option maxRecDepth 100000 in
set_option linter.unusedSimpArgs false in
theorem times_ok (v : Value) (qs : List Rat) (a : Option Addr) (M c : Nat) (g : Nat → Int) (w : World) (hL : LawIs w v qs) (ha : IRow w a M c g) (hq : ∀ j, j < qs.length → RS qs[j]! 1) (hl : qs.length ≤ 10) (hck : chk qs = 0) (hg : GoodW qs M g) :
    Calls Tryd.prog 31 #[v, .slice a M c] w fun e w' => ∃ v, e = .returned (.tuple #[v, .nilIface]) ∧ RatIs w' v (Kmp.cw g (pOf qs) M) ∧ Below w.heap.size w w' := by
  have HROW := hide ha
  have HGD := hide hg
  have HWD := hide (word_of hck hg)
  have m1 := hg.1
  have hlen : 0 < qs.length := by have := hg.2 0 (by omega); omega
  have KKe : KK = 1099511627776 := rfl
  have HWH : Hid (∀ W, Calls Tryd.prog 17 #[.int .i64 1] W fun e w' => ∃ v, e = .returned v ∧ RatIs w' v ((1 : Int) : Rat) ∧ Below W.heap.size W w') := fun W => whole_any 1 (by decide) (by decide) W
  have HADD : Hid (∀ W v v' q q', RatIs W v q → RatIs W v' q' → RS q 3000 → RS q' 3000 → Calls Tryd.prog 15 #[v, v'] W fun e w' => ∃ v, e = .returned v ∧ RatIs w' v (q + q') ∧ Below W.heap.size W w') := fun W v v' q q' h h' r r' => addR_any v v' q q' W h h' 3000 r r' (by rw [KKe]; omega)
  have HSUB : Hid (∀ W v v' q q', RatIs W v q → RatIs W v' q' → RS q 3000 → RS q' 3000 → Calls Tryd.prog 12 #[v, v'] W fun e w' => ∃ v, e = .returned v ∧ RatIs w' v (q - q') ∧ Below W.heap.size W w') := fun W v v' q q' h h' r r' => subR_any v v' q q' W h h' 3000 r r' (by rw [KKe]; omega)
  have HMUL : Hid (∀ W v v' q q', RatIs W v q → RatIs W v' q' → RS q 3000 → RS q' 3000 → Calls Tryd.prog 13 #[v, v'] W fun e w' => ∃ v, e = .returned v ∧ RatIs w' v (q * q') ∧ Below W.heap.size W w') := fun W v v' q q' h h' r r' => mulR_any v v' q q' W h h' 3000 r r' (by rw [KKe]; omega)
  have HDIV : Hid (∀ W v v' q q', RatIs W v q → RatIs W v' q' → RS q 3000 → RS q' 3000 → q'.num ≠ 0 → Calls Tryd.prog 62 #[v, v'] W fun e w' => ∃ v, e = .returned v ∧ RatIs w' v (q / q') ∧ Below W.heap.size W w') := fun W v v' q q' h h' r r' z => cdivided_any v v' q q' W h h' 3000 r r' (by rw [KKe]; omega) z
  have HSTP : Hid (∀ W, Below w.heap.size w W → Calls Tryd.prog 61 #[.int .i64 (qs.length : Int), .slice a M c] W (StepsSays g M qs.length W)) := fun W hW => steps_any a c M qs.length g W (ha.below hW) m1.1 (by omega) hlen (by omega) (fun i hi => ⟨(hg.2 i hi).1, (hg.2 i hi).2.1⟩)
  obtain ⟨hb0, hx0, _, _⟩ := wordsBox_parts w #[.slice a M c]
  have HC := hide (ck1 v qs a M c g w hL ha hq hl)
  have HB_0 := hide hb0
  have HX_b4_0 := hide hx0
  have HLAW := hide hL
  have HQ := hide hq
  have hWE : (w.alloc (.cells #[.bool false, .slice none 0 0, .slice none 0 0] 36)).alloc (.cells #[.slice a M c] 60) = wordsBox w #[.slice a M c] := rfl
  obtain ⟨W0, hW0⟩ : ∃ W, wordsBox w #[.slice a M c] = W := ⟨_, rfl⟩
  rw [hW0] at HC HB_0 HX_b4_0 hWE
  have HWE := hide hWE
  clear hWE hW0 hb0 hx0 hL hq
  go_enter Tryd.func31, Tryd.ntmps31
  go_wp2_with fail
  rw [unhide HWE]
  clear HWE
  obtain ⟨b4, hb4⟩ : ∃ b, w.heap.size = b := ⟨_, rfl⟩
  have HG_b4 : Hid (w.heap.size ≤ b4) := by rw [hb4]; exact Nat.le_refl _
  rw [hb4] at HX_b4_0 HC ⊢
  clear hb4
  refine (unhide HC).mono ?_
  rintro e w_1 ⟨k, rfl, hk, hbx⟩
  clear HC
  obtain rfl : k = 0 := hk.2 ⟨hck, hg⟩
  simp only [show errV 0 = Value.nilIface from rfl]
  have hB1 := below_step (unhide HB_0) hbx
  have X41 := (unhide HX_b4_0).keep hbx
  have qmk := make_ratios ((M : Int) + 1) (by omega) (by omega) w_1
  have hKi : ((M : Int) + 1).toNat = M + 1 := by omega
  rw [hKi] at qmk
  have S0 := SumsAt.start w w_1 (M + 1) hB1
  have X42 := X41.keep (alloc_below w_1 (.cells (tcells (List.replicate (M + 1) zTri)).toArray 36))
  have h4G : b4 < w_1.heap.size := X41.lt
  rw [savedL_zero g (pOf qs) M] at S0
  obtain ⟨W2, hW2⟩ : ∃ W, w_1.alloc (.cells (tcells (List.replicate (M + 1) zTri)).toArray 36) = W := ⟨_, rfl⟩
  obtain ⟨G, hG⟩ : ∃ G, w_1.heap.size = G := ⟨_, rfl⟩
  rw [hW2, hG] at qmk S0
  rw [hW2] at X42
  rw [hG] at h4G
  have HS0 := hide S0
  have HX42 := hide X42
  have H4G := hide h4G
  obtain ⟨al, cl, rfl, l1, l2, l3⟩ := unhide HLAW
  obtain ⟨bq, oq, rfl, hbq, hcq⟩ := l3 hlen
  obtain ⟨ha1, ha2, ha3⟩ := ha
  obtain ⟨b, o, rfl, hbl, hc⟩ := ha3 (by omega)
  have HCQ := hide hcq
  have HCW := hide hc
  have i0 : (M : Int) ≤ (M : Int) + 1 := by omega
  clear hk hbx HX_b4_0 HB_0 hck hg ha1 ha2 ha3 hB1 X41 X42 S0 h4G hW2 hG hKi l3 hcq hc hlen HLAW
  go_wp2_with fail
  clear qmk
  refine (unhide HSTP W2 (unhide HS0).bl).mono ?_
  rintro e w_3 ⟨Gr, gs, R, rfl, ST, hgs, hst⟩
  have HS3 := hide ((unhide HS0).keep ST.bl)
  have HX43 := hide ((unhide HX42).keep ST.bl)
  have HRA : Hid (RowsAt w_3 Gr qs.length (M + 1) gs R) := ⟨ST.top, ST.row⟩
  have HST := hide hst
  have HGS := hide hgs
  clear ST hst hgs HS0 HX42 HSTP
  go_wp2_with fail
  go_loopw [33] (fun vi wr => ∃ (k : Nat) (us : List Tri), vi = .int .i64 (k : Int) ∧ k ≤ M ∧ SumsAt w wr G us (savedL g (pOf qs) M k) ∧ BoxIs wr b4 zTri 0 ∧ RowsAt wr Gr qs.length (M + 1) gs R) (fun vi _ => M - (intOf vi).toNat)
  case atStart => exact ⟨0, _, rfl, Nat.zero_le _, unhide HS3, unhide HX43, unhide HRA⟩
  case round =>
    obtain ⟨k, us, rfl, hk, S, X4, RA⟩ := hrel
    have hul : us.length = M + 1 := by rw [S.len, savedL_length]
    obtain ⟨wq, hwq⟩ : ∃ W, W = wr := ⟨_, rfl⟩
    subst hwq
    have HS := hide S
    have HX4 := hide X4
    have HR := hide RA
    clear S X4 RA HS3 HX43 HRA
    by_cases hlt : k < M
    · have i1 : (k : Int) < (M : Int) := by omega
      have i2 : (0 : Int) ≤ (k : Int) := by omega
      have i3 : (k : Int) < (M : Int) + 1 := by omega
      have hgk : k < gs.length := by have := unhide HGS; omega
      have y0 := (unhide HR).slot hgk
      have HRC : Hid (∀ l, l < qs.length → wq.cell? ⟨gs[k]!, l, none⟩ = some (.int .i64 ((R[k]!)[l]!)) ∧ gs[k]! < wq.heap.size) := fun l hl => ⟨(unhide HR).cell hgk hl, (Array.getElem?_eq_some_iff.1 ((unhide HR).row k hgk).1).1⟩
      obtain ⟨x, hx⟩ : ∃ x : Nat → Nat, ∀ l, l < qs.length → (R[k]!)[l]! = ((x l : Nat) : Int) ∧ Kmp.Top (fun n => Kmp.Ds g n k (l : Int)) (k + 1) (x l) := ⟨fun l => ((R[k]!)[l]!).toNat, fun l hl => by
        obtain ⟨y, e, ht⟩ := unhide HST k l hk hl
        rw [show min M (k + 1) = k + 1 by omega] at ht
        have ey : ((R[k]!)[l]!).toNat = y := by rw [e]; exact Int.toNat_natCast y
        refine ⟨?_, ?_⟩
        · show (R[k]!)[l]! = ((((R[k]!)[l]!).toNat : Nat) : Int)
          rw [ey]; exact e
        · show Kmp.Top _ _ ((R[k]!)[l]!).toNat
          rw [ey]; exact ht⟩
      have HXX := hide hx
      have HRC2 : Hid (∀ l, l < qs.length → wq.cell? ⟨gs[k]!, l, none⟩ = some (.int .i64 ((x l : Nat) : Int)) ∧ gs[k]! < wq.heap.size) := fun l hl => by
        have h := unhide HRC l hl
        rw [(hx l hl).1] at h
        exact h
      generalize gs[k]! = gr at *
      obtain ⟨sk0, _⟩ := (unhide HS).cells k (by omega)
      have rk := (unhide HS).rat k (by omega)
      rw [savedL_get hk (Nat.le_refl _)] at rk
      obtain ⟨tk, htk⟩ : ∃ t, us[k]! = t := ⟨_, rfl⟩
      rw [htk] at sk0 rk
      have hGlt : G < wq.heap.size := (Array.getElem?_eq_some_iff.1 (unhide HS).row).1
      have HRK := hide rk
      have bd0 : Below wq.heap.size wq wq.drew := (Below.refl _ _).drew
      have HCC : Hid (∀ W, Below wq.heap.size wq W → (fun w' : World => (w'.cell? ⟨G, k * 3, none⟩ = some (.bool tk.s) ∧ w'.cell? ⟨G, k * 3 + 1, none⟩ = some (.slice tk.a1 tk.n1 tk.c1) ∧ w'.cell? ⟨G, k * 3 + 2, none⟩ = some (.slice tk.a2 tk.n2 tk.c2))) W) := fun W hW => by
        show _ ∧ _ ∧ _
        rw [hW.cell (p := ⟨G, k * 3, none⟩) hGlt, hW.cell (p := ⟨G, k * 3 + 1, none⟩) hGlt, hW.cell (p := ⟨G, k * 3 + 2, none⟩) hGlt]
        exact sk0
      clear rk sk0 hx HRC htk
      go_wp2_with fail
      clear y0
      refine wp_region_hold (fun w' : World => (w'.cell? ⟨G, k * 3, none⟩ = some (.bool tk.s) ∧ w'.cell? ⟨G, k * 3 + 1, none⟩ = some (.slice tk.a1 tk.n1 tk.c1) ∧ w'.cell? ⟨G, k * 3 + 2, none⟩ = some (.slice tk.a2 tk.n2 tk.c2))) (by kernel_rfl) ?_
      obtain ⟨Wx, hWx⟩ : ∃ W, wq.drew = W := ⟨_, rfl⟩
      rw [hWx] at bd0 ⊢
      have hC0 : (fun w' : World => (w'.cell? ⟨G, k * 3, none⟩ = some (.bool tk.s) ∧ w'.cell? ⟨G, k * 3 + 1, none⟩ = some (.slice tk.a1 tk.n1 tk.c1) ∧ w'.cell? ⟨G, k * 3 + 2, none⟩ = some (.slice tk.a2 tk.n2 tk.c2))) Wx := unhide HCC _ bd0
      refine wpHold_take (i := 0) (v := ?_) rfl (by kernel_rfl) (by kernel_rfl) (by kernel_rfl) (fun _ _ _ h => h) (Or.inl ⟨by rfl, ?_⟩) hC0 ?_
      rotate_left
      · intro w hSw; clear hSw; go_simp; (try with_reducible rfl)
      (try simp only [List.getElem_toArray, List.getElem_cons_succ, List.getElem_cons_zero])
      (try simp only [Act.put, List.setIfInBounds_toArray, List.set_cons_zero, List.set_cons_succ])
      refine wpHold_take (i := 1) (v := ?_) rfl (by kernel_rfl) (by kernel_rfl) (by kernel_rfl) (fun _ _ _ h => h) (Or.inl ⟨by rfl, ?_⟩) hC0 ?_
      rotate_left
      · intro w hSw; clear hSw; go_simp; (try with_reducible rfl)
      (try simp only [List.getElem_toArray, List.getElem_cons_succ, List.getElem_cons_zero])
      (try simp only [Act.put, List.setIfInBounds_toArray, List.set_cons_zero, List.set_cons_succ])
      refine wpHold_take (i := 2) (v := ?_) rfl (by kernel_rfl) (by kernel_rfl) (by kernel_rfl) (fun _ _ _ h => h) (Or.inl ⟨by rfl, ?_⟩) hC0 ?_
      rotate_left
      · intro w hSw; clear hSw; go_simp; (try with_reducible rfl)
      (try simp only [List.getElem_toArray, List.getElem_cons_succ, List.getElem_cons_zero])
      (try simp only [Act.put, List.setIfInBounds_toArray, List.set_cons_zero, List.set_cons_succ])
      refine wpHold_take (i := 3) (v := ?_) rfl (by kernel_rfl) (by kernel_rfl) (by kernel_rfl) (fun _ _ _ h => h) (Or.inl ⟨by rfl, ?_⟩) hC0 ?_
      rotate_left
      · intro w hSw; (try dsimp only at hSw); obtain ⟨z0, z1, z2⟩ := hSw; go_simp; (try with_reducible rfl)
      (try simp only [List.getElem_toArray, List.getElem_cons_succ, List.getElem_cons_zero])
      (try simp only [Act.put, List.setIfInBounds_toArray, List.set_cons_zero, List.set_cons_succ])
      refine wpHold_listed (n := 4) (L' := (fun c l => #[true, true, true, true, decide (1 ≤ c), decide (2 ≤ c), l, false]) 0 false) (by kernel_rfl) (by kernel_rfl) ?_
      refine wpHold_name (fun a0 ha0 => ?_)
      refine two_one_any (fun c l => #[true, true, true, true, decide (1 ≤ c), decide (2 ≤ c), l, false]) 4 5 6 1 (fun c l a W => ∃ s1 s2 s3, a = ((a0.put (some 42) s1).put (some 43) s2).put (some 10) s3 ∧ TwoJ ((1 : Int) : Rat) (Kmp.cw g (pOf qs) k + ((1 : Int) : Rat)) Wx c l W s1 s2 s3) ?_ ?_ (fun l => rfl) (fun l => rfl) (fun c => rfl) ?_ ?_ ?_ ?_ 3 0 false (by omega) (by rfl) _ _ ⟨u42, u43, u10, by subst ha0; rfl, Below.refl _ _, fun h => absurd h (by decide), fun h => absurd h (by decide), fun h => by cases h⟩
      · clear ha0
        intro c l hc
        match c, hc with
        | 0, _ => cases l <;> (show (_ : Bool) = _; kernel_rfl)
        | 1, _ => cases l <;> (show (_ : Bool) = _; kernel_rfl)
        | 2, _ => cases l <;> (show (_ : Bool) = _; kernel_rfl)
      · clear ha0
        intro c l hc
        match c, hc with
        | 0, _ => cases l <;> (intro _; show (_ : Bool) = _; kernel_rfl)
        | 1, _ => cases l <;> (intro _; show (_ : Bool) = _; kernel_rfl)
        | 2, _ => cases l <;> (intro h; first | (show (_ : Bool) = _; kernel_rfl) | exact absurd h (by decide))
      · rintro l a wv ⟨s1, s2, s3, rfl, J⟩
        subst ha0
        refine wpOp_step rfl (fun K hK => ?_)
        (try simp only [Act.put, List.setIfInBounds_toArray, List.set_cons_zero, List.set_cons_succ] at hK ⊢)
        (try simp only [List.getElem_toArray, List.getElem_cons_succ, List.getElem_cons_zero])
        go_simp
        refine (unhide HWH wv).mono ?_
        rintro e wz ⟨v, rfl, hv, hb⟩
        exact hK _ _ ⟨unhide HCC _ (below_step bd0 (below_step J.bl hb)), v, s2, s3, rfl, below_step J.bl hb, fun _ => hv, fun h => absurd h (by decide), fun h => by
          obtain ⟨b, e1, e2, e3⟩ := J.al h
          exact ⟨b, e1, e2.keep hb, e3⟩⟩
      · rintro l a wv ⟨s1, s2, s3, rfl, J⟩
        subst ha0
        refine wpOp_step rfl (fun K hK => ?_)
        (try simp only [Act.put, List.setIfInBounds_toArray, List.set_cons_zero, List.set_cons_succ] at hK ⊢)
        (try simp only [List.getElem_toArray, List.getElem_cons_succ, List.getElem_cons_zero])
        go_simp
        refine (unhide HADD wv _ _ _ _ (((unhide HRK).below bd0).below J.bl) (J.r1 (by decide)) ((cw_RS (unhide HQ) (unhide HGD) hk).mono (by omega)) (onei_RS.mono (by omega))).mono ?_
        rintro e wz ⟨v, rfl, hv, hb⟩
        exact hK _ _ ⟨unhide HCC _ (below_step bd0 (below_step J.bl hb)), s1, v, s3, rfl, below_step J.bl hb, fun _ => (J.r1 (by decide)).below hb, fun _ => hv, fun h => by
          obtain ⟨b, e1, e2, e3⟩ := J.al h
          exact ⟨b, e1, e2.keep hb, e3⟩⟩
      · rintro c a wv ⟨s1, s2, s3, rfl, J⟩
        subst ha0
        refine wpOp_step rfl (fun K hK => ?_)
        (try simp only [Act.put, List.setIfInBounds_toArray, List.set_cons_zero, List.set_cons_succ] at hK ⊢)
        (try simp only [List.getElem_toArray, List.getElem_cons_succ, List.getElem_cons_zero])
        go_simp
        have hb := alloc_below wv (.cells #[.bool false, .slice none 0 0, .slice none 0 0] 36)
        exact hK _ _ ⟨unhide HCC _ (below_step bd0 (below_step J.bl hb)), s1, s2, .pointer (some ⟨wv.heap.size, 0, none⟩), rfl, below_step J.bl hb, fun h => (J.r1 h).below hb, fun h => (J.r2 h).below hb, fun _ => ⟨wv.heap.size, rfl, BoxIs.new (t := zTri) (rat_zero _), J.bl.size⟩⟩
      · rintro a wv ⟨s1, s2, s3, rfl, J⟩
        subst ha0
        obtain ⟨b10, rfl, B10, e10⟩ := J.al rfl
        obtain ⟨t0, rfl, r0⟩ := tri_of (J.r2 (by decide))
        simp only [Tri.val]
        (try simp only [Act.put, List.setIfInBounds_toArray, List.set_cons_zero, List.set_cons_succ])
        have ⟨l0, l1, l2⟩ := B10.free
        have ⟨k0, k1, k2⟩ := B10.cells _ (Below.refl _ _)
        have HX10 := hide (B10.set r0)
        have e10' : wq.heap.size ≤ b10 := Nat.le_trans bd0.size e10
        have YB := (((below_step bd0 J.bl).setCell (p := ⟨b10, 0, none⟩) e10' (.bool t0.s)).setCell (p := ⟨b10, 1, none⟩) e10' (.slice t0.a1 t0.n1 t0.c1)).setCell (p := ⟨b10, 2, none⟩) e10' (.slice t0.a2 t0.n2 t0.c2)
        have HYB := hide YB
        have HE10 := hide e10'
        have hCn : (fun w' : World => (w'.cell? ⟨G, k * 3, none⟩ = some (.bool tk.s) ∧ w'.cell? ⟨G, k * 3 + 1, none⟩ = some (.slice tk.a1 tk.n1 tk.c1) ∧ w'.cell? ⟨G, k * 3 + 2, none⟩ = some (.slice tk.a2 tk.n2 tk.c2))) _ := unhide HCC _ YB
        obtain ⟨Wy, hWy⟩ : ∃ W, ((wv.setCell ⟨b10, 0, none⟩ (.bool t0.s)).setCell ⟨b10, 1, none⟩ (.slice t0.a1 t0.n1 t0.c1)).setCell ⟨b10, 2, none⟩ (.slice t0.a2 t0.n2 t0.c2) = W := ⟨_, rfl⟩
        rw [hWy] at HX10 HYB hCn
        rw [partv_zero g (pOf qs) x k] at HX10
        clear J B10 r0 HCC hC0 YB e10' HRK
        refine wpHold_one (k := 7) (by kernel_rfl) rfl (fun K hK => ?_)
        (try simp only [List.getElem_toArray, List.getElem_cons_succ, List.getElem_cons_zero])
        go_simp
        refine hK.out _ _ hCn ?_
        clear hK K
        (try simp only [Act.put, List.setIfInBounds_toArray, List.set_cons_zero, List.set_cons_succ])
        refine wpHold_done (by kernel_rfl) ?_ _
        clear hCn l0 l1 l2 k0 k1 k2 hWy e10 bd0 hWx
        go_wp2_with fail
        go_loopw [46] (fun vi wr => ∃ (l : Nat) (t10 : Tri), vi = .int .i64 (l : Int) ∧ l ≤ qs.length ∧ Below wq.heap.size wq wr ∧ BoxIs wr b10 t10 (partv g (pOf qs) x k l)) (fun vi _ => qs.length - (intOf vi).toNat)
        case atStart => exact ⟨0, t0, rfl, Nat.zero_le _, unhide HYB, unhide HX10⟩
        case round =>
          obtain ⟨l, t10, rfl, hl2, bl, X10⟩ := hrel
          have HBL := hide bl
          have HX10r := hide X10
          clear X10 HX10 HYB
          by_cases hll : l < qs.length
          · have j1 : (l : Int) < (qs.length : Int) := by omega
            have j2 : (0 : Int) ≤ (l : Int) := by omega
            obtain ⟨yc, hgrl⟩ := unhide HRC2 l hll
            have hxl : x l ≤ k + 1 := (unhide HXX l hll).2.2.1
            rw [← bl.cell (p := ⟨gr, l, none⟩) hgrl] at yc
            obtain ⟨n, hn⟩ : ∃ n, x l = n := ⟨_, rfl⟩
            rw [hn] at yc hxl
            have HN := hide hn
            clear hn
            by_cases hnk : n ≤ k
            · have j3 : (n : Int) ≤ (k : Int) := by omega
              have j4 : (n : Int) < (M : Int) + 1 := by omega
              have j5 : (0 : Int) ≤ (n : Int) := by omega
              obtain ⟨s', p1, p2, n1, d1, n2, d2, k0, k1, k2, r⟩ := unhide HCQ l hll
              obtain ⟨tx, rfl, rfl, rfl, rfl, rfl, rfl, rfl⟩ : ∃ t : Tri, s' = t.s ∧ p1 = t.a1 ∧ p2 = t.a2 ∧ n1 = t.n1 ∧ d1 = t.c1 ∧ n2 = t.n2 ∧ d2 = t.c2 := ⟨⟨s', p1, p2, n1, d1, n2, d2⟩, rfl, rfl, rfl, rfl, rfl, rfl, rfl⟩
              obtain ⟨sn0, _⟩ := (unhide HS).cells n (by omega)
              have rn := (unhide HS).rat n (by omega)
              rw [savedL_get (by omega) hnk] at rn
              obtain ⟨ty, hty⟩ : ∃ t, us[n]! = t := ⟨_, rfl⟩
              rw [hty] at sn0 rn
              have bB := below_step (unhide HS).bl bl
              have bd0 : Below wr.heap.size wr wr.drew := (Below.refl _ _).drew
              have HCC : Hid (∀ W, Below wr.heap.size wr W → (fun w' : World => (w'.cell? ⟨b10, 0, none⟩ = some (.bool t10.s) ∧ w'.cell? ⟨b10, 1, none⟩ = some (.slice t10.a1 t10.n1 t10.c1) ∧ w'.cell? ⟨b10, 2, none⟩ = some (.slice t10.a2 t10.n2 t10.c2)) ∧ (w'.cell? ⟨bq, oq + l * 3, none⟩ = some (.bool tx.s) ∧ w'.cell? ⟨bq, oq + l * 3 + 1, none⟩ = some (.slice tx.a1 tx.n1 tx.c1) ∧ w'.cell? ⟨bq, oq + l * 3 + 2, none⟩ = some (.slice tx.a2 tx.n2 tx.c2)) ∧ (w'.cell? ⟨G, n * 3, none⟩ = some (.bool ty.s) ∧ w'.cell? ⟨G, n * 3 + 1, none⟩ = some (.slice ty.a1 ty.n1 ty.c1) ∧ w'.cell? ⟨G, n * 3 + 2, none⟩ = some (.slice ty.a2 ty.n2 ty.c2))) W) := fun W hW => ⟨(unhide HX10r).cells W hW, by
                have bb := below_step bB hW
                have bc := below_step bl hW
                show (_ ∧ _ ∧ _) ∧ _ ∧ _ ∧ _
                rw [bb.cell (p := ⟨bq, oq + l * 3, none⟩) hbq, bb.cell (p := ⟨bq, oq + l * 3 + 1, none⟩) hbq, bb.cell (p := ⟨bq, oq + l * 3 + 2, none⟩) hbq, bc.cell (p := ⟨G, n * 3, none⟩) hGlt, bc.cell (p := ⟨G, n * 3 + 1, none⟩) hGlt, bc.cell (p := ⟨G, n * 3 + 2, none⟩) hGlt]
                exact ⟨⟨k0, k1, k2⟩, sn0⟩⟩
              have rcn := cw_RS (unhide HQ) (unhide HGD) (show n ≤ M by omega)
              have rql := unhide HQ l hll
              have HMU := hide (unhide HMUL wr.drew _ _ _ _ ((r.below bB).below bd0) ((rn.below bl).below bd0) (rql.mono (by omega)) (rcn.mono (by omega)))
              have HRM := hide ((RS.mul rql rcn).mono (show 1 + 200 ≤ 3000 by omega))
              have HRP := hide ((partv_RS (x := x) (unhide HQ) (unhide HGD) hlt l hl2).mono (show l * 203 + 203 ≤ 3000 by omega))
              have HPY : Hid (partv g (pOf qs) x k (l + 1) = partv g (pOf qs) x k l - qs[l]! * Kmp.cw g (pOf qs) n) := by
                have h := partv_yes (g := g) (p := pOf qs) (x := x) (k := k) (l := l) (by rw [unhide HN]; exact hnk)
                rw [unhide HN] at h
                exact h
              clear k0 k1 k2 r sn0 rn hty rcn rql bl
              go_wp2_with fail
              clear yc
              refine wp_region_till (fun w' : World => (w'.cell? ⟨b10, 0, none⟩ = some (.bool t10.s) ∧ w'.cell? ⟨b10, 1, none⟩ = some (.slice t10.a1 t10.n1 t10.c1) ∧ w'.cell? ⟨b10, 2, none⟩ = some (.slice t10.a2 t10.n2 t10.c2)) ∧ (w'.cell? ⟨bq, oq + l * 3, none⟩ = some (.bool tx.s) ∧ w'.cell? ⟨bq, oq + l * 3 + 1, none⟩ = some (.slice tx.a1 tx.n1 tx.c1) ∧ w'.cell? ⟨bq, oq + l * 3 + 2, none⟩ = some (.slice tx.a2 tx.n2 tx.c2)) ∧ (w'.cell? ⟨G, n * 3, none⟩ = some (.bool ty.s) ∧ w'.cell? ⟨G, n * 3 + 1, none⟩ = some (.slice ty.a1 ty.n1 ty.c1) ∧ w'.cell? ⟨G, n * 3 + 2, none⟩ = some (.slice ty.a2 ty.n2 ty.c2))) 11 (by kernel_rfl) ?_
              have hC0 : (fun w' : World => (w'.cell? ⟨b10, 0, none⟩ = some (.bool t10.s) ∧ w'.cell? ⟨b10, 1, none⟩ = some (.slice t10.a1 t10.n1 t10.c1) ∧ w'.cell? ⟨b10, 2, none⟩ = some (.slice t10.a2 t10.n2 t10.c2)) ∧ (w'.cell? ⟨bq, oq + l * 3, none⟩ = some (.bool tx.s) ∧ w'.cell? ⟨bq, oq + l * 3 + 1, none⟩ = some (.slice tx.a1 tx.n1 tx.c1) ∧ w'.cell? ⟨bq, oq + l * 3 + 2, none⟩ = some (.slice tx.a2 tx.n2 tx.c2)) ∧ (w'.cell? ⟨G, n * 3, none⟩ = some (.bool ty.s) ∧ w'.cell? ⟨G, n * 3 + 1, none⟩ = some (.slice ty.a1 ty.n1 ty.c1) ∧ w'.cell? ⟨G, n * 3 + 2, none⟩ = some (.slice ty.a2 ty.n2 ty.c2))) wr.drew := unhide HCC _ bd0
              refine wpTill_take (i := 0) (v := ?_) rfl (by kernel_rfl) (by kernel_rfl) (by kernel_rfl) (by kernel_rfl) (by kernel_rfl) (by kernel_rfl) (fun _ _ _ h => h) (Or.inl ⟨by rfl, ?_⟩) hC0 ?_
              rotate_left
              · intro w hSw; (try dsimp only at hSw); obtain ⟨⟨z0, z1, z2⟩, ⟨z3, z4, z5⟩, z6, z7, z8⟩ := hSw; go_simp; (try with_reducible rfl)
              (try simp only [List.getElem_toArray, List.getElem_cons_succ, List.getElem_cons_zero])
              (try simp only [Act.put, List.setIfInBounds_toArray, List.set_cons_zero, List.set_cons_succ])
              refine wpTill_pure (i := 1) (v := ?_) rfl (by kernel_rfl) (by kernel_rfl) (by kernel_rfl) (by kernel_rfl) (fun _ _ _ h => h) (Or.inl ⟨by rfl, ?_⟩) (fun _ => hC0) ?_
              rotate_left
              · intro w hSw; clear hSw; go_simp; (try with_reducible rfl)
              (try simp only [List.getElem_toArray, List.getElem_cons_succ, List.getElem_cons_zero])
              (try simp only [Act.put, List.setIfInBounds_toArray, List.set_cons_zero, List.set_cons_succ])
              refine wpTill_pure (i := 2) (v := ?_) rfl (by kernel_rfl) (by kernel_rfl) (by kernel_rfl) (by kernel_rfl) (fun _ _ _ h => h) (Or.inl ⟨by rfl, ?_⟩) (fun _ => hC0) ?_
              rotate_left
              · intro w hSw; clear hSw; go_simp; (try with_reducible rfl)
              (try simp only [List.getElem_toArray, List.getElem_cons_succ, List.getElem_cons_zero])
              (try simp only [Act.put, List.setIfInBounds_toArray, List.set_cons_zero, List.set_cons_succ])
              refine wpTill_pure (i := 3) (v := ?_) rfl (by kernel_rfl) (by kernel_rfl) (by kernel_rfl) (by kernel_rfl) (fun _ _ _ h => h) (Or.inl ⟨by rfl, ?_⟩) (fun _ => hC0) ?_
              rotate_left
              · intro w hSw; clear hSw; go_simp; (try with_reducible rfl)
              (try simp only [List.getElem_toArray, List.getElem_cons_succ, List.getElem_cons_zero])
              (try simp only [Act.put, List.setIfInBounds_toArray, List.set_cons_zero, List.set_cons_succ])
              refine wpTill_take (i := 4) (v := ?_) rfl (by kernel_rfl) (by kernel_rfl) (by kernel_rfl) (by kernel_rfl) (by kernel_rfl) (by kernel_rfl) (fun _ _ _ h => h) (Or.inl ⟨by rfl, ?_⟩) hC0 ?_
              rotate_left
              · intro w hSw; (try dsimp only at hSw); obtain ⟨⟨z0, z1, z2⟩, ⟨z3, z4, z5⟩, z6, z7, z8⟩ := hSw; go_simp; (try with_reducible rfl)
              (try simp only [List.getElem_toArray, List.getElem_cons_succ, List.getElem_cons_zero])
              (try simp only [Act.put, List.setIfInBounds_toArray, List.set_cons_zero, List.set_cons_succ])
              refine wpTill_pure (i := 5) (v := ?_) rfl (by kernel_rfl) (by kernel_rfl) (by kernel_rfl) (by kernel_rfl) (fun _ _ _ h => h) (Or.inl ⟨by rfl, ?_⟩) (fun _ => hC0) ?_
              rotate_left
              · intro w hSw; clear hSw; go_simp; (try with_reducible rfl)
              (try simp only [List.getElem_toArray, List.getElem_cons_succ, List.getElem_cons_zero])
              (try simp only [Act.put, List.setIfInBounds_toArray, List.set_cons_zero, List.set_cons_succ])
              refine wpTill_pure (i := 6) (v := ?_) rfl (by kernel_rfl) (by kernel_rfl) (by kernel_rfl) (by kernel_rfl) (fun _ _ _ h => h) (Or.inl ⟨by rfl, ?_⟩) (fun _ => hC0) ?_
              rotate_left
              · intro w hSw; clear hSw; go_simp; (try with_reducible rfl)
              (try simp only [List.getElem_toArray, List.getElem_cons_succ, List.getElem_cons_zero])
              (try simp only [Act.put, List.setIfInBounds_toArray, List.set_cons_zero, List.set_cons_succ])
              refine wpTill_pure (i := 7) (v := ?_) rfl (by kernel_rfl) (by kernel_rfl) (by kernel_rfl) (by kernel_rfl) (fun _ _ _ h => h) (Or.inl ⟨by rfl, ?_⟩) (fun _ => hC0) ?_
              rotate_left
              · intro w hSw; clear hSw; go_simp; (try with_reducible rfl)
              (try simp only [List.getElem_toArray, List.getElem_cons_succ, List.getElem_cons_zero])
              (try simp only [Act.put, List.setIfInBounds_toArray, List.set_cons_zero, List.set_cons_succ])
              refine wpTill_take (i := 8) (v := ?_) rfl (by kernel_rfl) (by kernel_rfl) (by kernel_rfl) (by kernel_rfl) (by kernel_rfl) (by kernel_rfl) (fun _ _ _ h => h) (Or.inl ⟨by rfl, ?_⟩) hC0 ?_
              rotate_left
              · intro w hSw; (try dsimp only at hSw); obtain ⟨⟨z0, z1, z2⟩, ⟨z3, z4, z5⟩, z6, z7, z8⟩ := hSw; go_simp; (try with_reducible rfl)
              (try simp only [List.getElem_toArray, List.getElem_cons_succ, List.getElem_cons_zero])
              (try simp only [Act.put, List.setIfInBounds_toArray, List.set_cons_zero, List.set_cons_succ])
              refine wpTill_one (k := 9) (by kernel_rfl) rfl (fun K hK => ?_)
              (try simp only [List.getElem_toArray, List.getElem_cons_succ, List.getElem_cons_zero])
              go_simp
              refine (unhide HMU).mono ?_
              rintro e w9 ⟨v9, rfl, hv9, hb9⟩
              have b9 := below_step bd0 hb9
              have hC9 : (fun w' : World => (w'.cell? ⟨b10, 0, none⟩ = some (.bool t10.s) ∧ w'.cell? ⟨b10, 1, none⟩ = some (.slice t10.a1 t10.n1 t10.c1) ∧ w'.cell? ⟨b10, 2, none⟩ = some (.slice t10.a2 t10.n2 t10.c2)) ∧ (w'.cell? ⟨bq, oq + l * 3, none⟩ = some (.bool tx.s) ∧ w'.cell? ⟨bq, oq + l * 3 + 1, none⟩ = some (.slice tx.a1 tx.n1 tx.c1) ∧ w'.cell? ⟨bq, oq + l * 3 + 2, none⟩ = some (.slice tx.a2 tx.n2 tx.c2)) ∧ (w'.cell? ⟨G, n * 3, none⟩ = some (.bool ty.s) ∧ w'.cell? ⟨G, n * 3 + 1, none⟩ = some (.slice ty.a1 ty.n1 ty.c1) ∧ w'.cell? ⟨G, n * 3 + 2, none⟩ = some (.slice ty.a2 ty.n2 ty.c2))) w9 := unhide HCC _ b9
              have HSU := hide (unhide HSUB w9 _ _ _ _ ((unhide HX10r).2.below b9) hv9 (unhide HRP) (unhide HRM))
              rw [← unhide HPY] at HSU
              refine hK.out _ _ (fun _ => hC9) ?_
              clear hK K
              (try simp only [Act.put, List.setIfInBounds_toArray, List.set_cons_zero, List.set_cons_succ])
              refine wpTill_one (k := 10) (by kernel_rfl) rfl (fun K hK => ?_)
              (try simp only [List.getElem_toArray, List.getElem_cons_succ, List.getElem_cons_zero])
              go_simp
              refine (unhide HSU).mono ?_
              rintro e w10 ⟨v10, rfl, hv10, hb10⟩
              have b10b := below_step b9 hb10
              have hC10 : (fun w' : World => (w'.cell? ⟨b10, 0, none⟩ = some (.bool t10.s) ∧ w'.cell? ⟨b10, 1, none⟩ = some (.slice t10.a1 t10.n1 t10.c1) ∧ w'.cell? ⟨b10, 2, none⟩ = some (.slice t10.a2 t10.n2 t10.c2)) ∧ (w'.cell? ⟨bq, oq + l * 3, none⟩ = some (.bool tx.s) ∧ w'.cell? ⟨bq, oq + l * 3 + 1, none⟩ = some (.slice tx.a1 tx.n1 tx.c1) ∧ w'.cell? ⟨bq, oq + l * 3 + 2, none⟩ = some (.slice tx.a2 tx.n2 tx.c2)) ∧ (w'.cell? ⟨G, n * 3, none⟩ = some (.bool ty.s) ∧ w'.cell? ⟨G, n * 3 + 1, none⟩ = some (.slice ty.a1 ty.n1 ty.c1) ∧ w'.cell? ⟨G, n * 3 + 2, none⟩ = some (.slice ty.a2 ty.n2 ty.c2))) w10 := unhide HCC _ b10b
              obtain ⟨t11, rfl, hr11⟩ := tri_of hv10
              have Y10 := (unhide HX10r).keep b10b
              have ⟨l0, l1, l2⟩ := Y10.free
              have ⟨⟨y0, y1, y2⟩, _⟩ := hC10
              have FX := hide (Y10.set hr11)
              have FB := hide ((((below_step (unhide HBL) b10b).setCell (p := ⟨b10, 0, none⟩) (unhide HE10) (.bool t11.s)).setCell (p := ⟨b10, 1, none⟩) (unhide HE10) (.slice t11.a1 t11.n1 t11.c1)).setCell (p := ⟨b10, 2, none⟩) (unhide HE10) (.slice t11.a2 t11.n2 t11.c2))
              simp only [Tri.val]
              clear Y10 hv10 hr11
              refine hK.out _ _ (fun _ => hC10) ?_
              clear hK K
              (try simp only [Act.put, List.setIfInBounds_toArray, List.set_cons_zero, List.set_cons_succ])
              refine wpTill_one (k := 11) (by kernel_rfl) rfl (fun K hK => ?_)
              (try simp only [List.getElem_toArray, List.getElem_cons_succ, List.getElem_cons_zero])
              go_simp
              refine hK.out _ _ (fun h => absurd (h.symm.trans (by kernel_rfl)) Bool.false_ne_true) ?_
              clear hK K
              (try simp only [Act.put, List.setIfInBounds_toArray, List.set_cons_zero, List.set_cons_succ])
              refine wpTill_done (by kernel_rfl) ?_ _
              clear hC0 hC9 hC10 bd0 b9 b10b hb9 hb10 y0 y1 y2 l0 l1 l2 HCC HSU HMU hv9
              go_wp2_with fail
              exact ⟨⟨l + 1, t11, by go_num, hll, unhide FB, unhide FX⟩, by simp [intOf]; omega⟩
            · have j3 : ¬ (n : Int) ≤ (k : Int) := by omega
              clear bl
              go_wp2_with fail
              exact ⟨⟨l + 1, t10, by go_num, hll, unhide HBL, (by rw [partv_no (by rw [unhide HN]; exact hnk)]; exact unhide HX10r)⟩, by simp [intOf]; omega⟩
          · obtain rfl : l = qs.length := by omega
            have j1 : ¬ (qs.length : Int) < (qs.length : Int) := by omega
            obtain ⟨f1, f2, f3⟩ := (unhide HGD).2 k hlt
            have cf := unhide HCW k hlt
            have rnx := Kmp.cw_next (unhide HWD) hlt x (fun l hl => (unhide HXX l hl).2)
            obtain ⟨n, hn⟩ : ∃ n : Nat, g k = (n : Int) := ⟨(g k).toNat, by omega⟩
            rw [hn] at f1 f2 f3 cf rnx
            rw [Int.toNat_natCast] at f3 rnx
            have HNX : Hid (partv g (pOf qs) x k qs.length / qs[n]! = Kmp.cw g (pOf qs) (k + 1)) := rnx
            obtain ⟨s', p1, p2, n1, d1, n2, d2, k0, k1, k2, r⟩ := unhide HCQ n (by omega)
            obtain ⟨tx, rfl, rfl, rfl, rfl, rfl, rfl, rfl⟩ : ∃ t : Tri, s' = t.s ∧ p1 = t.a1 ∧ p2 = t.a2 ∧ n1 = t.n1 ∧ d1 = t.c1 ∧ n2 = t.n2 ∧ d2 = t.c2 := ⟨⟨s', p1, p2, n1, d1, n2, d2⟩, rfl, rfl, rfl, rfl, rfl, rfl, rfl⟩
            have bB := below_step (unhide HS).bl bl
            have HWC : Hid (∀ W, Below w.heap.size w W → W.cell? ⟨b, o + k, none⟩ = some (.int .i64 (n : Int)) ∧ (W.cell? ⟨bq, oq + n * 3, none⟩ = some (.bool tx.s) ∧ W.cell? ⟨bq, oq + n * 3 + 1, none⟩ = some (.slice tx.a1 tx.n1 tx.c1) ∧ W.cell? ⟨bq, oq + n * 3 + 2, none⟩ = some (.slice tx.a2 tx.n2 tx.c2))) := fun W hW => by
              rw [hW.cell (p := ⟨b, o + k, none⟩) hbl, hW.cell (p := ⟨bq, oq + n * 3, none⟩) hbq, hW.cell (p := ⟨bq, oq + n * 3 + 1, none⟩) hbq, hW.cell (p := ⟨bq, oq + n * 3 + 2, none⟩) hbq]
              exact ⟨cf, k0, k1, k2⟩
            have HCC : Hid (∀ W, Below wr.heap.size wr W → (fun w' : World => (w'.cell? ⟨b10, 0, none⟩ = some (.bool t10.s) ∧ w'.cell? ⟨b10, 1, none⟩ = some (.slice t10.a1 t10.n1 t10.c1) ∧ w'.cell? ⟨b10, 2, none⟩ = some (.slice t10.a2 t10.n2 t10.c2)) ∧ w'.cell? ⟨b, o + k, none⟩ = some (.int .i64 (n : Int)) ∧ (w'.cell? ⟨bq, oq + n * 3, none⟩ = some (.bool tx.s) ∧ w'.cell? ⟨bq, oq + n * 3 + 1, none⟩ = some (.slice tx.a1 tx.n1 tx.c1) ∧ w'.cell? ⟨bq, oq + n * 3 + 2, none⟩ = some (.slice tx.a2 tx.n2 tx.c2))) W) := fun W hW => ⟨(unhide HX10r).cells W hW, unhide HWC W (below_step bB hW)⟩
            have HRX := hide (r.below bB)
            have HRP := hide ((partv_RS (x := x) (unhide HQ) (unhide HGD) hlt qs.length (Nat.le_refl _)).mono (show qs.length * 203 + 203 ≤ 3000 by omega))
            have HRQ := hide ((unhide HQ n (by omega)).mono (show 1 ≤ 3000 by omega))
            have HS1 := hide ((unhide HS).keep bl)
            have HX41 := hide ((unhide HX4).keep bl)
            have HR1 := hide ((unhide HR).keep bl)
            have q1 : (n : Int) < (qs.length : Int) := by omega
            have q2 : (0 : Int) ≤ (n : Int) := by omega
            have q3 : (k : Int) + 1 < (M : Int) + 1 := by omega
            have q4 : (0 : Int) ≤ (k : Int) + 1 := by omega
            have q5 : IntKind.i64.wrap ((k : Int) + 1) = (k : Int) + 1 := by rw [IntKind.wrap_i64]; omega
            have q6 : ((k : Int) + 1).toNat = k + 1 := by omega
            have h10 := unhide HE10
            have H10G : Hid (b10 ≠ G) := fun e => by omega
            have H4N : Hid (b4 ≠ G) := Nat.ne_of_lt (unhide H4G)
            clear k0 k1 k2 r cf hn f1 f2 rnx bl bB h10
            go_wp2_with fail
            refine wp_region_hold (fun w' : World => (w'.cell? ⟨b10, 0, none⟩ = some (.bool t10.s) ∧ w'.cell? ⟨b10, 1, none⟩ = some (.slice t10.a1 t10.n1 t10.c1) ∧ w'.cell? ⟨b10, 2, none⟩ = some (.slice t10.a2 t10.n2 t10.c2)) ∧ w'.cell? ⟨b, o + k, none⟩ = some (.int .i64 (n : Int)) ∧ (w'.cell? ⟨bq, oq + n * 3, none⟩ = some (.bool tx.s) ∧ w'.cell? ⟨bq, oq + n * 3 + 1, none⟩ = some (.slice tx.a1 tx.n1 tx.c1) ∧ w'.cell? ⟨bq, oq + n * 3 + 2, none⟩ = some (.slice tx.a2 tx.n2 tx.c2))) (by kernel_rfl) ?_
            have bd0 : Below wr.heap.size wr wr.drew := (Below.refl _ _).drew
            have hC0 : (fun w' : World => (w'.cell? ⟨b10, 0, none⟩ = some (.bool t10.s) ∧ w'.cell? ⟨b10, 1, none⟩ = some (.slice t10.a1 t10.n1 t10.c1) ∧ w'.cell? ⟨b10, 2, none⟩ = some (.slice t10.a2 t10.n2 t10.c2)) ∧ w'.cell? ⟨b, o + k, none⟩ = some (.int .i64 (n : Int)) ∧ (w'.cell? ⟨bq, oq + n * 3, none⟩ = some (.bool tx.s) ∧ w'.cell? ⟨bq, oq + n * 3 + 1, none⟩ = some (.slice tx.a1 tx.n1 tx.c1) ∧ w'.cell? ⟨bq, oq + n * 3 + 2, none⟩ = some (.slice tx.a2 tx.n2 tx.c2))) wr.drew := unhide HCC _ bd0
            refine wpHold_take (i := 0) (v := ?_) rfl (by kernel_rfl) (by kernel_rfl) (by kernel_rfl) (fun _ _ _ h => h) (Or.inl ⟨by rfl, ?_⟩) hC0 ?_
            rotate_left
            · intro w hSw; clear hSw; go_simp; (try with_reducible rfl)
            (try simp only [List.getElem_toArray, List.getElem_cons_succ, List.getElem_cons_zero])
            (try simp only [Act.put, List.setIfInBounds_toArray, List.set_cons_zero, List.set_cons_succ])
            refine wpHold_take (i := 1) (v := ?_) rfl (by kernel_rfl) (by kernel_rfl) (by kernel_rfl) (fun _ _ _ h => h) (Or.inl ⟨by rfl, ?_⟩) hC0 ?_
            rotate_left
            · intro w hSw; clear hSw; go_simp; (try with_reducible rfl)
            (try simp only [List.getElem_toArray, List.getElem_cons_succ, List.getElem_cons_zero])
            (try simp only [Act.put, List.setIfInBounds_toArray, List.set_cons_zero, List.set_cons_succ])
            refine wpHold_take (i := 2) (v := ?_) rfl (by kernel_rfl) (by kernel_rfl) (by kernel_rfl) (fun _ _ _ h => h) (Or.inl ⟨by rfl, ?_⟩) hC0 ?_
            rotate_left
            · intro w hSw; clear hSw; go_simp; (try with_reducible rfl)
            (try simp only [List.getElem_toArray, List.getElem_cons_succ, List.getElem_cons_zero])
            (try simp only [Act.put, List.setIfInBounds_toArray, List.set_cons_zero, List.set_cons_succ])
            refine wpHold_take (i := 3) (v := ?_) rfl (by kernel_rfl) (by kernel_rfl) (by kernel_rfl) (fun _ _ _ h => h) (Or.inl ⟨by rfl, ?_⟩) hC0 ?_
            rotate_left
            · intro w hSw; (try dsimp only at hSw); obtain ⟨⟨z0, z1, z2⟩, z3, z4, z5, z6⟩ := hSw; go_simp; (try with_reducible rfl)
            (try simp only [List.getElem_toArray, List.getElem_cons_succ, List.getElem_cons_zero])
            (try simp only [Act.put, List.setIfInBounds_toArray, List.set_cons_zero, List.set_cons_succ])
            refine wpHold_take (i := 4) (v := ?_) rfl (by kernel_rfl) (by kernel_rfl) (by kernel_rfl) (fun _ _ _ h => h) (Or.inl ⟨by rfl, ?_⟩) hC0 ?_
            rotate_left
            · intro w hSw; clear hSw; go_simp; (try with_reducible rfl)
            (try simp only [List.getElem_toArray, List.getElem_cons_succ, List.getElem_cons_zero])
            (try simp only [Act.put, List.setIfInBounds_toArray, List.set_cons_zero, List.set_cons_succ])
            refine wpHold_take (i := 5) (v := ?_) rfl (by kernel_rfl) (by kernel_rfl) (by kernel_rfl) (fun _ _ _ h => h) (Or.inl ⟨by rfl, ?_⟩) hC0 ?_
            rotate_left
            · intro w hSw; clear hSw; go_simp; (try with_reducible rfl)
            (try simp only [List.getElem_toArray, List.getElem_cons_succ, List.getElem_cons_zero])
            (try simp only [Act.put, List.setIfInBounds_toArray, List.set_cons_zero, List.set_cons_succ])
            refine wpHold_take (i := 6) (v := ?_) rfl (by kernel_rfl) (by kernel_rfl) (by kernel_rfl) (fun _ _ _ h => h) (Or.inl ⟨by rfl, ?_⟩) hC0 ?_
            rotate_left
            · intro w hSw; clear hSw; go_simp; (try with_reducible rfl)
            (try simp only [List.getElem_toArray, List.getElem_cons_succ, List.getElem_cons_zero])
            (try simp only [Act.put, List.setIfInBounds_toArray, List.set_cons_zero, List.set_cons_succ])
            refine wpHold_take (i := 7) (v := ?_) rfl (by kernel_rfl) (by kernel_rfl) (by kernel_rfl) (fun _ _ _ h => h) (Or.inl ⟨by rfl, ?_⟩) hC0 ?_
            rotate_left
            · intro w hSw; clear hSw; go_simp; (try with_reducible rfl)
            (try simp only [List.getElem_toArray, List.getElem_cons_succ, List.getElem_cons_zero])
            (try simp only [Act.put, List.setIfInBounds_toArray, List.set_cons_zero, List.set_cons_succ])
            refine wpHold_take (i := 8) (v := ?_) rfl (by kernel_rfl) (by kernel_rfl) (by kernel_rfl) (fun _ _ _ h => h) (Or.inl ⟨by rfl, ?_⟩) hC0 ?_
            rotate_left
            · intro w hSw; (try dsimp only at hSw); obtain ⟨⟨z0, z1, z2⟩, z3, z4, z5, z6⟩ := hSw; go_simp; (try with_reducible rfl)
            (try simp only [List.getElem_toArray, List.getElem_cons_succ, List.getElem_cons_zero])
            (try simp only [Act.put, List.setIfInBounds_toArray, List.set_cons_zero, List.set_cons_succ])
            refine wpHold_take (i := 9) (v := ?_) rfl (by kernel_rfl) (by kernel_rfl) (by kernel_rfl) (fun _ _ _ h => h) (Or.inl ⟨by rfl, ?_⟩) hC0 ?_
            rotate_left
            · intro w hSw; clear hSw; go_simp; (try with_reducible rfl)
            (try simp only [List.getElem_toArray, List.getElem_cons_succ, List.getElem_cons_zero])
            (try simp only [Act.put, List.setIfInBounds_toArray, List.set_cons_zero, List.set_cons_succ])
            refine wpHold_take (i := 10) (v := ?_) rfl (by kernel_rfl) (by kernel_rfl) (by kernel_rfl) (fun _ _ _ h => h) (Or.inl ⟨by rfl, ?_⟩) hC0 ?_
            rotate_left
            · intro w hSw; (try dsimp only at hSw); obtain ⟨⟨z0, z1, z2⟩, z3, z4, z5, z6⟩ := hSw; go_simp; (try with_reducible rfl)
            (try simp only [List.getElem_toArray, List.getElem_cons_succ, List.getElem_cons_zero])
            (try simp only [Act.put, List.setIfInBounds_toArray, List.set_cons_zero, List.set_cons_succ])
            refine wpHold_one (k := 11) (by kernel_rfl) rfl (fun K hK => ?_)
            (try simp only [List.getElem_toArray, List.getElem_cons_succ, List.getElem_cons_zero])
            go_simp
            refine (unhide HDIV _ _ _ _ _ ((unhide HX10r).2.below bd0) ((unhide HRX).below bd0) (unhide HRP) (unhide HRQ) f3).mono ?_
            rintro e xw_1 ⟨xv_1, rfl, hv_1, hb_1⟩
            have cc_1 := below_step bd0 hb_1
            have hC_1 : (fun w' : World => (w'.cell? ⟨b10, 0, none⟩ = some (.bool t10.s) ∧ w'.cell? ⟨b10, 1, none⟩ = some (.slice t10.a1 t10.n1 t10.c1) ∧ w'.cell? ⟨b10, 2, none⟩ = some (.slice t10.a2 t10.n2 t10.c2)) ∧ w'.cell? ⟨b, o + k, none⟩ = some (.int .i64 (n : Int)) ∧ (w'.cell? ⟨bq, oq + n * 3, none⟩ = some (.bool tx.s) ∧ w'.cell? ⟨bq, oq + n * 3 + 1, none⟩ = some (.slice tx.a1 tx.n1 tx.c1) ∧ w'.cell? ⟨bq, oq + n * 3 + 2, none⟩ = some (.slice tx.a2 tx.n2 tx.c2))) xw_1 := unhide HCC _ cc_1
            refine hK.out _ _ hC_1 ?_
            clear hK K
            (try simp only [Act.put, List.setIfInBounds_toArray, List.set_cons_zero, List.set_cons_succ])
            refine wpHold_take (i := 12) (v := ?_) rfl (by kernel_rfl) (by kernel_rfl) (by kernel_rfl) (fun _ _ _ h => h) (Or.inl ⟨by rfl, ?_⟩) hC_1 ?_
            rotate_left
            · intro w hSw; clear hSw; go_simp; (try with_reducible rfl)
            (try simp only [List.getElem_toArray, List.getElem_cons_succ, List.getElem_cons_zero])
            (try simp only [Act.put, List.setIfInBounds_toArray, List.set_cons_zero, List.set_cons_succ])
            rw [unhide HNX] at hv_1
            obtain ⟨ta, rfl, ra⟩ := tri_of hv_1
            simp only [Tri.val]
            have S2 := (unhide HS1).keep cc_1
            have X42 := (unhide HX41).keep cc_1
            have X102 := (unhide HX10r).keep cc_1
            have R2 := (unhide HR1).keep cc_1
            have ⟨⟨y0, y1, y2⟩, l0, l1, l2⟩ := S2.cells (k + 1) (by omega)
            have FZ := S2.set (k + 1) (by omega) ta _ ra
            rw [savedL_set] at FZ
            have FX4 := X42.rowed S2.row (unhide H4N) ((k + 1) * 3) ((k + 1) * 3 + 1) ((k + 1) * 3 + 2) (.bool ta.s) (.slice ta.a1 ta.n1 ta.c1) (.slice ta.a2 ta.n2 ta.c2)
            have FX10 := X102.rowed S2.row (unhide H10G) ((k + 1) * 3) ((k + 1) * 3 + 1) ((k + 1) * 3 + 2) (.bool ta.s) (.slice ta.a1 ta.n1 ta.c1) (.slice ta.a2 ta.n2 ta.c2)
            have FR := R2.far S2.row ((k + 1) * 3) ((k + 1) * 3 + 1) ((k + 1) * 3 + 2) (.bool ta.s) (.slice ta.a1 ta.n1 ta.c1) (.slice ta.a2 ta.n2 ta.c2)
            obtain ⟨Wz, hWz⟩ : ∃ W, ((xw_1.setCell ⟨G, (k + 1) * 3, none⟩ (.bool ta.s)).setCell ⟨G, (k + 1) * 3 + 1, none⟩ (.slice ta.a1 ta.n1 ta.c1)).setCell ⟨G, (k + 1) * 3 + 2, none⟩ (.slice ta.a2 ta.n2 ta.c2) = W := ⟨_, rfl⟩
            rw [hWz] at FZ FX4 FX10 FR
            have hCz : (fun w' : World => (w'.cell? ⟨b10, 0, none⟩ = some (.bool t10.s) ∧ w'.cell? ⟨b10, 1, none⟩ = some (.slice t10.a1 t10.n1 t10.c1) ∧ w'.cell? ⟨b10, 2, none⟩ = some (.slice t10.a2 t10.n2 t10.c2)) ∧ w'.cell? ⟨b, o + k, none⟩ = some (.int .i64 (n : Int)) ∧ (w'.cell? ⟨bq, oq + n * 3, none⟩ = some (.bool tx.s) ∧ w'.cell? ⟨bq, oq + n * 3 + 1, none⟩ = some (.slice tx.a1 tx.n1 tx.c1) ∧ w'.cell? ⟨bq, oq + n * 3 + 2, none⟩ = some (.slice tx.a2 tx.n2 tx.c2))) Wz := ⟨FX10.cells _ (Below.refl _ _), unhide HWC _ FZ.bl⟩
            have HFS := hide FZ
            have HFX4 := hide FX4
            have HFR := hide FR
            clear S2 X42 X102 R2 FZ FX4 FX10 FR ra hb_1
            refine wpHold_one (k := 13) (by kernel_rfl) rfl (fun K hK => ?_)
            (try simp only [List.getElem_toArray, List.getElem_cons_succ, List.getElem_cons_zero])
            go_simp
            refine hK.out _ _ hCz ?_
            clear hK K
            (try simp only [Act.put, List.setIfInBounds_toArray, List.set_cons_zero, List.set_cons_succ])
            refine wpHold_done (by kernel_rfl) ?_ _
            clear hCz l0 l1 l2 y0 y1 y2 hWz hC0
            go_wp2_with fail
            exact ⟨⟨k + 1, us.set (k + 1) ta, by go_num, by omega, unhide HFS, unhide HFX4, unhide HFR⟩, by simp [intOf]; omega⟩
    · obtain rfl : M = k := by omega
      have i1 : ¬ (M : Int) < (M : Int) := by omega
      have i2 : (M : Int) < (M : Int) + 1 := by omega
      have i3 : (0 : Int) ≤ (M : Int) := by omega
      obtain ⟨sk0, _⟩ := (unhide HS).cells M (by omega)
      have rk := (unhide HS).rat M (by omega)
      rw [savedL_get (Nat.le_refl _) (Nat.le_refl _)] at rk
      obtain ⟨tk, htk⟩ : ∃ t, us[M]! = t := ⟨_, rfl⟩
      rw [htk] at sk0 rk
      have HG_b4' := hide (unhide HG_b4)
      have ⟨g0, g1, g2⟩ := sk0
      have ⟨h0, h1, h2⟩ := (unhide HX4).cells _ (Below.refl _ _)
      have ⟨l0, l1, l2⟩ := (unhide HX4).free
      have FIN := hide ((unhide HX4).set rk)
      have FB := hide ((((unhide HS).bl.setCell (p := ⟨b4, 0, none⟩) (unhide HG_b4) (.bool tk.s)).setCell (p := ⟨b4, 1, none⟩) (unhide HG_b4) (.slice tk.a1 tk.n1 tk.c1)).setCell (p := ⟨b4, 2, none⟩) (unhide HG_b4) (.slice tk.a2 tk.n2 tk.c2))
      obtain ⟨Wf, hWf⟩ : ∃ W, ((wq.setCell ⟨b4, 0, none⟩ (.bool tk.s)).setCell ⟨b4, 1, none⟩ (.slice tk.a1 tk.n1 tk.c1)).setCell ⟨b4, 2, none⟩ (.slice tk.a2 tk.n2 tk.c2) = W := ⟨_, rfl⟩
      rw [hWf] at FIN FB
      have ⟨x0, x1, x2⟩ := (unhide FIN).cells _ (Below.refl _ _)
      clear rk sk0 htk
      go_wp2
      exact bodyPost_ret (v := .tuple #[.agg #[.bool tk.s, .slice tk.a1 tk.n1 tk.c1, .slice tk.a2 tk.n2 tk.c2], .nilIface]) (by simp [results, Tryd.results31, go_sem, x0, x1, x2]) rfl ⟨_, rfl, (unhide FIN).2, unhide FB⟩

end Go.Proofs.YtdicbnchkfclaaaDoor
