/- RiskRow: the walk. -/
import Derived.Test.YtcelbgleajpenaaGreatDoorRW1
import Derived.Test.YtcelbgleajpenaaGreatDoorBI
import Derived.Test.YtcelbgleajpenaaGreatDoorBH
import Derived.Test.YtcelbgleajpenaaGreatDoorT1
namespace Go.Proofs.YtcelbgleajpenaaGreatDoor
open Go.RowKit Go.Sort Go.Shelf

theorem sign_lt {q : Rat} : q.num.sign < 0 ↔ q < 0 := by
  constructor
  · intro h
    rcases Int.lt_or_le q.num 0 with a | a
    · exact Rat.not_le.1 (fun c => by have := Rat.num_nonneg.2 c; omega)
    · have := Int.sign_nonneg_iff.2 a
      omega
  · intro h
    have : q.num < 0 := by
      rcases Int.lt_or_le q.num 0 with a | a
      · exact a
      · exact absurd (Rat.num_nonneg.1 a) (Rat.not_le.2 h)
    rw [Int.sign_eq_neg_one_of_neg this]; decide
theorem cmp_gt1 {q : Rat} : 0 < Wd.sg (q.num * ((1 : Int) : Rat).den) (((1 : Int) : Rat).num * q.den) ↔ 1 < q := by
  have e : (1 : Rat) < q ↔ (1 : Rat).num * q.den < q.num * (1 : Rat).den := Rat.lt_iff 1 q
  have e1 : ((1 : Int) : Rat) = 1 := by simp
  rw [e1, e]
  constructor
  · intro h
    rcases Int.lt_or_le ((1 : Rat).num * (q.den : Int)) (q.num * ((1 : Rat).den : Int)) with a | a
    · exact a
    · rcases Int.lt_or_eq_of_le a with c | c
      · rw [Wd.sg_lt c] at h; exact absurd h (by decide)
      · rw [Wd.sg_eq c] at h; exact absurd h (by decide)
  · intro h
    rw [Wd.sg_gt h]; decide
set_option maxHeartbeats 16000000 in
set_option maxRecDepth 100000 in
set_option linter.unusedSimpArgs false in
theorem riskRow_any (n b x y : Int) (w : World) (htab : Tab w) (hg : ErrTy w) (hx : I64 x) (hy : I64 y) :
    Calls Tryz.prog 5 #[.int .i64 n, .int .i64 b, .agg #[.int .i64 x, .int .i64 y]] w fun e w' => e = .returned (.bool true) ∧ Below w.heap.size w w' := by
  have KKe : KK = 1099511627776 := rfl
  have b0_ := alloc_below w (.cells #[.int .i64 x, .int .i64 y] 51)
  have X0 := heap_alloc_new w (.cells #[.int .i64 x, .int .i64 y] 51)
  obtain ⟨W0, hW0⟩ : ∃ W, w.alloc (.cells #[.int .i64 x, .int .i64 y] 51) = W := ⟨_, rfl⟩
  obtain ⟨p5, hp5⟩ : ∃ b, w.heap.size = b := ⟨_, rfl⟩
  rw [hW0] at b0_ X0
  rw [hp5] at X0
  have HCC : Hid (∀ W, Below W0.heap.size W0 W → (fun w' : World => w'.cell? ⟨p5, 0, none⟩ = some (.int .i64 x) ∧ w'.cell? ⟨p5, 1, none⟩ = some (.int .i64 y)) W) := fun W hW => by
    have e1 := heap_kept X0 hW
    exact ⟨by simp [World.cell?, e1], by simp [World.cell?, e1]⟩
  have HB0 := hide b0_
  have HTB : Hid (∀ W, Below W0.heap.size W0 W → Tab W) := fun W hW => tab_below htab (below_step (unhide HB0) hW)
  have HGT : Hid (∀ W, Below W0.heap.size W0 W → ErrTy W) := fun W hW => hg.below (below_step (unhide HB0) hW)
  have HFQ : Hid (∀ W, Calls Tryz.prog 25 #[.agg #[.int .i64 x, .int .i64 y]] W fun e w' => ∃ v, e = .returned v ∧ RatIs w' v (pq (x, y)) ∧ Below W.heap.size W w') := fun W => f_any x y hx.1 hx.2 hy.1 hy.2 W
  have HRO := hide (refOf_any x y hx hy W0)
  have HRQ : Hid (RS (pq (x, y)) 1) := pq_RS hx hy
  obtain ⟨q, hq⟩ : ∃ q, pq (x, y) = q := ⟨_, rfl⟩
  rw [hq] at HFQ HRO HRQ
  have ⟨z0, z1⟩ := unhide HCC W0 (Below.refl _ _)
  clear hx hy hq X0 b0_ htab hg
  by_cases a1 : 15 < n
  · by_cases a2 : n ≤ 100
    · go_enter Tryz.func5, Tryz.ntmps5
      go_wp2
      go_ret
      exact ⟨rfl, by have h := unhide HB0; first | exact h | (rw [← hp5]; exact h) | (rw [hp5] at h; exact h)⟩
    · have a3 : ¬ n < 0 := by omega
      have a4 : 100 < n := by omega
      go_enter Tryz.func5, Tryz.ntmps5
      go_wp2_with fail
      clear hW0 hp5 z0 z1
      refine (unhide HRO).mono ?_
      rintro e w1 ⟨b7, rfl, -, zq, hb1⟩
      have HZQ : Hid (∀ W, Below w1.heap.size w1 W → BRz W b7 0 q) := fun W hW => zq.below hW
      have HB1 := hide hb1
      clear zq hb1 HRO
      have HI0 := hide (refIntz_any 0 (by decide) (by decide) w1)
      go_wp2_with fail
      refine (unhide HI0).mono ?_
      rintro e w3 ⟨b9, rfl, -, z9, hb3⟩
      have HB3 := hide (below_step (unhide HB1) hb3)
      have ⟨c0, c1⟩ := unhide HCC w3 (unhide HB3)
      clear z9 hb3 HI0 HB1
      go_wp2_with fail
      refine (unhide HFQ w3).mono ?_
      rintro e w4 ⟨v4, rfl, hv4, hb4⟩
      obtain ⟨t4, rfl, r4⟩ := tri_of hv4
      simp only [Tri.val]
      have HB4 := hide (below_step (unhide HB3) hb4)
      have HRR := hide (rRow_range n b t4.val q w4 r4 (by omega))
      simp only [Tri.val] at HRR
      clear hv4 hb4 c0 c1 r4 HB3
      go_wp2_with fail
      refine (unhide HRR).mono ?_
      rintro e w5 ⟨rfl, hb5⟩
      have X4 := BoxIs.new (w := w5) (t := zTri) (q := 0) (rat_zero _)
      have b4 := below_step hb5 (alloc_below w5 (.cells #[.bool false, .slice none 0 0, .slice none 0 0] 37))
      obtain ⟨W4, hW4⟩ : ∃ W, w5.alloc (.cells #[.bool false, .slice none 0 0, .slice none 0 0] 37) = W := ⟨_, rfl⟩
      obtain ⟨b8, hb8⟩ : ∃ b, w5.heap.size = b := ⟨_, rfl⟩
      have X4' : BoxIs W4 b8 zTri 0 := by rw [← hW4, ← hb8]; exact X4
      rw [hW4] at b4
      have X5 := X4'.set (t' := zTri) (q' := 0) (rat_zero _)
      have e8 : w4.heap.size ≤ b8 := by rw [← hb8]; exact hb5.size
      have b5 := ((b4.setCell (p := ⟨b8, 0, none⟩) e8 (.bool false)).setCell (p := ⟨b8, 1, none⟩) e8 (.slice none 0 0)).setCell (p := ⟨b8, 2, none⟩) e8 (.slice none 0 0)
      have ⟨g0, g1, g2, f0, f1, f2⟩ := box_cell X4'.1
      have ⟨k0, k1, k2, _⟩ := box_cell X5.1
      have HB5 := hide (below_step (unhide HB4) b5)
      have HON := hide (one_err zTri.val b9 2 (by decide) _ X5.2 (unhide HTB _ (unhide HB5)) (unhide HGT _ (unhide HB5)))
      have h0 := k0
      have h1 := k1
      have h2 := k2
      simp only [zTri] at h0 h1 h2
      simp only [Tri.val, zTri] at HON
      clear X4 X4' b4 hb5 HRR X5 b5 e8 HB4
      go_wp2_with fail
      clear hW4 hb8 g0 g1 g2 f0 f1 f2 k0 k1 k2 h0 h1 h2
      refine (unhide HON).mono ?_
      rintro e w6 ⟨rfl, hb6⟩
      have HB6 := hide (below_step (unhide HB0) (below_step (unhide HB5) hb6))
      clear hb6 HB5 HON
      go_wp2
      go_ret
      exact ⟨rfl, unhide HB6⟩
  · by_cases a3 : n < 0
    · go_enter Tryz.func5, Tryz.ntmps5
      go_wp2_with fail
      clear hW0 hp5 z0 z1
      refine (unhide HRO).mono ?_
      rintro e w1 ⟨b7, rfl, -, zq, hb1⟩
      have HZQ : Hid (∀ W, Below w1.heap.size w1 W → BRz W b7 0 q) := fun W hW => zq.below hW
      have HB1 := hide hb1
      clear zq hb1 HRO
      have HI0 := hide (refIntz_any 0 (by decide) (by decide) w1)
      go_wp2_with fail
      refine (unhide HI0).mono ?_
      rintro e w3 ⟨b9, rfl, -, z9, hb3⟩
      have HB3 := hide (below_step (unhide HB1) hb3)
      have ⟨c0, c1⟩ := unhide HCC w3 (unhide HB3)
      clear z9 hb3 HI0 HB1
      go_wp2_with fail
      refine (unhide HFQ w3).mono ?_
      rintro e w4 ⟨v4, rfl, hv4, hb4⟩
      obtain ⟨t4, rfl, r4⟩ := tri_of hv4
      simp only [Tri.val]
      have HB4 := hide (below_step (unhide HB3) hb4)
      have HRR := hide (rRow_range n b t4.val q w4 r4 (by omega))
      simp only [Tri.val] at HRR
      clear hv4 hb4 c0 c1 r4 HB3
      go_wp2_with fail
      refine (unhide HRR).mono ?_
      rintro e w5 ⟨rfl, hb5⟩
      have X4 := BoxIs.new (w := w5) (t := zTri) (q := 0) (rat_zero _)
      have b4 := below_step hb5 (alloc_below w5 (.cells #[.bool false, .slice none 0 0, .slice none 0 0] 37))
      obtain ⟨W4, hW4⟩ : ∃ W, w5.alloc (.cells #[.bool false, .slice none 0 0, .slice none 0 0] 37) = W := ⟨_, rfl⟩
      obtain ⟨b8, hb8⟩ : ∃ b, w5.heap.size = b := ⟨_, rfl⟩
      have X4' : BoxIs W4 b8 zTri 0 := by rw [← hW4, ← hb8]; exact X4
      rw [hW4] at b4
      have X5 := X4'.set (t' := zTri) (q' := 0) (rat_zero _)
      have e8 : w4.heap.size ≤ b8 := by rw [← hb8]; exact hb5.size
      have b5 := ((b4.setCell (p := ⟨b8, 0, none⟩) e8 (.bool false)).setCell (p := ⟨b8, 1, none⟩) e8 (.slice none 0 0)).setCell (p := ⟨b8, 2, none⟩) e8 (.slice none 0 0)
      have ⟨g0, g1, g2, f0, f1, f2⟩ := box_cell X4'.1
      have ⟨k0, k1, k2, _⟩ := box_cell X5.1
      have HB5 := hide (below_step (unhide HB4) b5)
      have HON := hide (one_err zTri.val b9 2 (by decide) _ X5.2 (unhide HTB _ (unhide HB5)) (unhide HGT _ (unhide HB5)))
      have h0 := k0
      have h1 := k1
      have h2 := k2
      simp only [zTri] at h0 h1 h2
      simp only [Tri.val, zTri] at HON
      clear X4 X4' b4 hb5 HRR X5 b5 e8 HB4
      go_wp2_with fail
      clear hW4 hb8 g0 g1 g2 f0 f1 f2 k0 k1 k2 h0 h1 h2
      refine (unhide HON).mono ?_
      rintro e w6 ⟨rfl, hb6⟩
      have HB6 := hide (below_step (unhide HB0) (below_step (unhide HB5) hb6))
      clear hb6 HB5 HON
      go_wp2
      go_ret
      exact ⟨rfl, unhide HB6⟩
    · have a4 : ¬ 100 < n := by omega
      by_cases a5 : b < 1
      · go_enter Tryz.func5, Tryz.ntmps5
        go_wp2_with fail
        clear hW0 hp5 z0 z1
        refine (unhide HRO).mono ?_
        rintro e w1 ⟨b7, rfl, -, zq, hb1⟩
        have HZQ : Hid (∀ W, Below w1.heap.size w1 W → BRz W b7 0 q) := fun W hW => zq.below hW
        have HB1 := hide hb1
        clear zq hb1 HRO
        have HI0 := hide (refIntz_any 0 (by decide) (by decide) w1)
        go_wp2_with fail
        refine (unhide HI0).mono ?_
        rintro e w3 ⟨b9, rfl, -, z9, hb3⟩
        have HB3 := hide (below_step (unhide HB1) hb3)
        have ⟨c0, c1⟩ := unhide HCC w3 (unhide HB3)
        clear z9 hb3 HI0 HB1
        go_wp2_with fail
        refine (unhide HFQ w3).mono ?_
        rintro e w4 ⟨v4, rfl, hv4, hb4⟩
        obtain ⟨t4, rfl, r4⟩ := tri_of hv4
        simp only [Tri.val]
        have HB4 := hide (below_step (unhide HB3) hb4)
        have HRR := hide (rRow_range n b t4.val q w4 r4 (by omega))
        simp only [Tri.val] at HRR
        clear hv4 hb4 c0 c1 r4 HB3
        go_wp2_with fail
        refine (unhide HRR).mono ?_
        rintro e w5 ⟨rfl, hb5⟩
        have X4 := BoxIs.new (w := w5) (t := zTri) (q := 0) (rat_zero _)
        have b4 := below_step hb5 (alloc_below w5 (.cells #[.bool false, .slice none 0 0, .slice none 0 0] 37))
        obtain ⟨W4, hW4⟩ : ∃ W, w5.alloc (.cells #[.bool false, .slice none 0 0, .slice none 0 0] 37) = W := ⟨_, rfl⟩
        obtain ⟨b8, hb8⟩ : ∃ b, w5.heap.size = b := ⟨_, rfl⟩
        have X4' : BoxIs W4 b8 zTri 0 := by rw [← hW4, ← hb8]; exact X4
        rw [hW4] at b4
        have X5 := X4'.set (t' := zTri) (q' := 0) (rat_zero _)
        have e8 : w4.heap.size ≤ b8 := by rw [← hb8]; exact hb5.size
        have b5 := ((b4.setCell (p := ⟨b8, 0, none⟩) e8 (.bool false)).setCell (p := ⟨b8, 1, none⟩) e8 (.slice none 0 0)).setCell (p := ⟨b8, 2, none⟩) e8 (.slice none 0 0)
        have ⟨g0, g1, g2, f0, f1, f2⟩ := box_cell X4'.1
        have ⟨k0, k1, k2, _⟩ := box_cell X5.1
        have HB5 := hide (below_step (unhide HB4) b5)
        have HON := hide (one_err zTri.val b9 2 (by decide) _ X5.2 (unhide HTB _ (unhide HB5)) (unhide HGT _ (unhide HB5)))
        have h0 := k0
        have h1 := k1
        have h2 := k2
        simp only [zTri] at h0 h1 h2
        simp only [Tri.val, zTri] at HON
        clear X4 X4' b4 hb5 HRR X5 b5 e8 HB4
        go_wp2_with fail
        clear hW4 hb8 g0 g1 g2 f0 f1 f2 k0 k1 k2 h0 h1 h2
        refine (unhide HON).mono ?_
        rintro e w6 ⟨rfl, hb6⟩
        have HB6 := hide (below_step (unhide HB0) (below_step (unhide HB5) hb6))
        clear hb6 HB5 HON
        go_wp2
        go_ret
        exact ⟨rfl, unhide HB6⟩
      · by_cases a6 : 100 < b
        · go_enter Tryz.func5, Tryz.ntmps5
          go_wp2_with fail
          clear hW0 hp5 z0 z1
          refine (unhide HRO).mono ?_
          rintro e w1 ⟨b7, rfl, -, zq, hb1⟩
          have HZQ : Hid (∀ W, Below w1.heap.size w1 W → BRz W b7 0 q) := fun W hW => zq.below hW
          have HB1 := hide hb1
          clear zq hb1 HRO
          have HI0 := hide (refIntz_any 0 (by decide) (by decide) w1)
          go_wp2_with fail
          refine (unhide HI0).mono ?_
          rintro e w3 ⟨b9, rfl, -, z9, hb3⟩
          have HB3 := hide (below_step (unhide HB1) hb3)
          have ⟨c0, c1⟩ := unhide HCC w3 (unhide HB3)
          clear z9 hb3 HI0 HB1
          go_wp2_with fail
          refine (unhide HFQ w3).mono ?_
          rintro e w4 ⟨v4, rfl, hv4, hb4⟩
          obtain ⟨t4, rfl, r4⟩ := tri_of hv4
          simp only [Tri.val]
          have HB4 := hide (below_step (unhide HB3) hb4)
          have HRR := hide (rRow_range n b t4.val q w4 r4 (by omega))
          simp only [Tri.val] at HRR
          clear hv4 hb4 c0 c1 r4 HB3
          go_wp2_with fail
          refine (unhide HRR).mono ?_
          rintro e w5 ⟨rfl, hb5⟩
          have X4 := BoxIs.new (w := w5) (t := zTri) (q := 0) (rat_zero _)
          have b4 := below_step hb5 (alloc_below w5 (.cells #[.bool false, .slice none 0 0, .slice none 0 0] 37))
          obtain ⟨W4, hW4⟩ : ∃ W, w5.alloc (.cells #[.bool false, .slice none 0 0, .slice none 0 0] 37) = W := ⟨_, rfl⟩
          obtain ⟨b8, hb8⟩ : ∃ b, w5.heap.size = b := ⟨_, rfl⟩
          have X4' : BoxIs W4 b8 zTri 0 := by rw [← hW4, ← hb8]; exact X4
          rw [hW4] at b4
          have X5 := X4'.set (t' := zTri) (q' := 0) (rat_zero _)
          have e8 : w4.heap.size ≤ b8 := by rw [← hb8]; exact hb5.size
          have b5 := ((b4.setCell (p := ⟨b8, 0, none⟩) e8 (.bool false)).setCell (p := ⟨b8, 1, none⟩) e8 (.slice none 0 0)).setCell (p := ⟨b8, 2, none⟩) e8 (.slice none 0 0)
          have ⟨g0, g1, g2, f0, f1, f2⟩ := box_cell X4'.1
          have ⟨k0, k1, k2, _⟩ := box_cell X5.1
          have HB5 := hide (below_step (unhide HB4) b5)
          have HON := hide (one_err zTri.val b9 2 (by decide) _ X5.2 (unhide HTB _ (unhide HB5)) (unhide HGT _ (unhide HB5)))
          have h0 := k0
          have h1 := k1
          have h2 := k2
          simp only [zTri] at h0 h1 h2
          simp only [Tri.val, zTri] at HON
          clear X4 X4' b4 hb5 HRR X5 b5 e8 HB4
          go_wp2_with fail
          clear hW4 hb8 g0 g1 g2 f0 f1 f2 k0 k1 k2 h0 h1 h2
          refine (unhide HON).mono ?_
          rintro e w6 ⟨rfl, hb6⟩
          have HB6 := hide (below_step (unhide HB0) (below_step (unhide HB5) hb6))
          clear hb6 HB5 HON
          go_wp2
          go_ret
          exact ⟨rfl, unhide HB6⟩
        · cases hic : icB q with
          | false =>
            have hnb : q < 0 ∨ 1 < q := by
              have := of_decide_eq_false hic
              rcases Classical.em (0 ≤ q) with a | a
              · exact Or.inr (Rat.not_le.1 (fun c => this ⟨a, c⟩))
              · exact Or.inl (Rat.not_le.1 a)
            by_cases hneg : q < 0
            · have hsn := sign_lt.2 hneg
              go_enter Tryz.func5, Tryz.ntmps5
              go_wp2_with fail
              clear hW0 hp5 z0 z1
              refine (unhide HRO).mono ?_
              rintro e w1 ⟨b7, rfl, -, zq, hb1⟩
              have HZQ : Hid (∀ W, Below w1.heap.size w1 W → BRz W b7 0 q) := fun W hW => zq.below hW
              have HB1 := hide hb1
              clear zq hb1 HRO
              have HSG := hide (signz_any b7 0 q w1 (unhide HZQ w1 (Below.refl _ _)))
              obtain ⟨sg, hsg⟩ : ∃ s, q.num.sign = s := ⟨_, rfl⟩
              rw [hsg] at HSG hsn
              clear hsg
              go_wp2_with fail
              refine (unhide HSG).mono ?_
              rintro e w2 ⟨rfl, hw⟩
              have hw' := hw.symm
              subst hw'
              clear hw HSG
              have HI0 := hide (refIntz_any 0 (by decide) (by decide) w1)
              go_wp2_with fail
              refine (unhide HI0).mono ?_
              rintro e w3 ⟨b9, rfl, -, z9, hb3⟩
              have HB3 := hide (below_step (unhide HB1) hb3)
              have ⟨c0, c1⟩ := unhide HCC w3 (unhide HB3)
              clear z9 hb3 HI0 HB1
              go_wp2_with fail
              refine (unhide HFQ w3).mono ?_
              rintro e w4 ⟨v4, rfl, hv4, hb4⟩
              obtain ⟨t4, rfl, r4⟩ := tri_of hv4
              simp only [Tri.val]
              have HB4 := hide (below_step (unhide HB3) hb4)
              have HRR := hide (rRow_arg n b t4.val q 1 w4 r4 (unhide HRQ) (by decide) (by rw [KKe]; decide) (by omega) (by omega) (by omega) (by omega) hic)
              simp only [Tri.val] at HRR
              clear hv4 hb4 c0 c1 r4 HB3
              go_wp2_with fail
              refine (unhide HRR).mono ?_
              rintro e w5 ⟨rfl, hb5⟩
              have X4 := BoxIs.new (w := w5) (t := zTri) (q := 0) (rat_zero _)
              have b4 := below_step hb5 (alloc_below w5 (.cells #[.bool false, .slice none 0 0, .slice none 0 0] 37))
              obtain ⟨W4, hW4⟩ : ∃ W, w5.alloc (.cells #[.bool false, .slice none 0 0, .slice none 0 0] 37) = W := ⟨_, rfl⟩
              obtain ⟨b8, hb8⟩ : ∃ b, w5.heap.size = b := ⟨_, rfl⟩
              have X4' : BoxIs W4 b8 zTri 0 := by rw [← hW4, ← hb8]; exact X4
              rw [hW4] at b4
              have X5 := X4'.set (t' := zTri) (q' := 0) (rat_zero _)
              have e8 : w4.heap.size ≤ b8 := by rw [← hb8]; exact hb5.size
              have b5 := ((b4.setCell (p := ⟨b8, 0, none⟩) e8 (.bool false)).setCell (p := ⟨b8, 1, none⟩) e8 (.slice none 0 0)).setCell (p := ⟨b8, 2, none⟩) e8 (.slice none 0 0)
              have ⟨g0, g1, g2, f0, f1, f2⟩ := box_cell X4'.1
              have ⟨k0, k1, k2, _⟩ := box_cell X5.1
              have HB5 := hide (below_step (unhide HB4) b5)
              have HON := hide (one_err zTri.val b9 1 (by decide) _ X5.2 (unhide HTB _ (unhide HB5)) (unhide HGT _ (unhide HB5)))
              have h0 := k0
              have h1 := k1
              have h2 := k2
              simp only [zTri] at h0 h1 h2
              simp only [Tri.val, zTri] at HON
              clear X4 X4' b4 hb5 HRR X5 b5 e8 HB4
              go_wp2_with fail
              clear hW4 hb8 g0 g1 g2 f0 f1 f2 k0 k1 k2 h0 h1 h2
              refine (unhide HON).mono ?_
              rintro e w6 ⟨rfl, hb6⟩
              have HB6 := hide (below_step (unhide HB0) (below_step (unhide HB5) hb6))
              clear hb6 HB5 HON
              go_wp2
              go_ret
              exact ⟨rfl, unhide HB6⟩
            · have hsn : ¬ q.num.sign < 0 := fun h => hneg (sign_lt.1 h)
              have hcg := cmp_gt1.2 (hnb.resolve_left hneg)
              go_enter Tryz.func5, Tryz.ntmps5
              go_wp2_with fail
              clear hW0 hp5 z0 z1
              refine (unhide HRO).mono ?_
              rintro e w1 ⟨b7, rfl, -, zq, hb1⟩
              have HZQ : Hid (∀ W, Below w1.heap.size w1 W → BRz W b7 0 q) := fun W hW => zq.below hW
              have HB1 := hide hb1
              clear zq hb1 HRO
              have HSG := hide (signz_any b7 0 q w1 (unhide HZQ w1 (Below.refl _ _)))
              obtain ⟨sg, hsg⟩ : ∃ s, q.num.sign = s := ⟨_, rfl⟩
              rw [hsg] at HSG hsn
              clear hsg
              go_wp2_with fail
              refine (unhide HSG).mono ?_
              rintro e w2 ⟨rfl, hw⟩
              have hw' := hw.symm
              subst hw'
              clear hw HSG
              have HI1 := hide (refIntz_any 1 (by decide) (by decide) w1)
              go_wp2_with fail
              refine (unhide HI1).mono ?_
              rintro e w21 ⟨b41, rfl, -, z41, hb21⟩
              have HCM := hide (rcmp_any b7 0 b41 0 1 1 q _ w21 (unhide HZQ w21 hb21) z41 (unhide HRQ) (RS_int ⟨by decide, by decide⟩) (by decide))
              obtain ⟨cz, hcz⟩ : ∃ s, Wd.sg (q.num * ((1 : Int) : Rat).den) (((1 : Int) : Rat).num * q.den) = s := ⟨_, rfl⟩
              rw [hcz] at HCM hcg
              have HB21 := hide (below_step (unhide HB1) hb21)
              clear z41 hb21 HI1 hcz
              go_wp2_with fail
              refine (unhide HCM).mono ?_
              rintro e w22 ⟨rfl, hb22⟩
              have HB22 := hide (below_step (unhide HB21) hb22)
              clear hb22 HCM HB21
              have HI0 := hide (refIntz_any 0 (by decide) (by decide) w22)
              go_wp2_with fail
              refine (unhide HI0).mono ?_
              rintro e w3 ⟨b9, rfl, -, z9, hb3⟩
              have HB3 := hide (below_step (unhide HB22) hb3)
              have ⟨c0, c1⟩ := unhide HCC w3 (unhide HB3)
              clear z9 hb3 HI0 HB22
              go_wp2_with fail
              refine (unhide HFQ w3).mono ?_
              rintro e w4 ⟨v4, rfl, hv4, hb4⟩
              obtain ⟨t4, rfl, r4⟩ := tri_of hv4
              simp only [Tri.val]
              have HB4 := hide (below_step (unhide HB3) hb4)
              have HRR := hide (rRow_arg n b t4.val q 1 w4 r4 (unhide HRQ) (by decide) (by rw [KKe]; decide) (by omega) (by omega) (by omega) (by omega) hic)
              simp only [Tri.val] at HRR
              clear hv4 hb4 c0 c1 r4 HB3
              go_wp2_with fail
              refine (unhide HRR).mono ?_
              rintro e w5 ⟨rfl, hb5⟩
              have X4 := BoxIs.new (w := w5) (t := zTri) (q := 0) (rat_zero _)
              have b4 := below_step hb5 (alloc_below w5 (.cells #[.bool false, .slice none 0 0, .slice none 0 0] 37))
              obtain ⟨W4, hW4⟩ : ∃ W, w5.alloc (.cells #[.bool false, .slice none 0 0, .slice none 0 0] 37) = W := ⟨_, rfl⟩
              obtain ⟨b8, hb8⟩ : ∃ b, w5.heap.size = b := ⟨_, rfl⟩
              have X4' : BoxIs W4 b8 zTri 0 := by rw [← hW4, ← hb8]; exact X4
              rw [hW4] at b4
              have X5 := X4'.set (t' := zTri) (q' := 0) (rat_zero _)
              have e8 : w4.heap.size ≤ b8 := by rw [← hb8]; exact hb5.size
              have b5 := ((b4.setCell (p := ⟨b8, 0, none⟩) e8 (.bool false)).setCell (p := ⟨b8, 1, none⟩) e8 (.slice none 0 0)).setCell (p := ⟨b8, 2, none⟩) e8 (.slice none 0 0)
              have ⟨g0, g1, g2, f0, f1, f2⟩ := box_cell X4'.1
              have ⟨k0, k1, k2, _⟩ := box_cell X5.1
              have HB5 := hide (below_step (unhide HB4) b5)
              have HON := hide (one_err zTri.val b9 1 (by decide) _ X5.2 (unhide HTB _ (unhide HB5)) (unhide HGT _ (unhide HB5)))
              have h0 := k0
              have h1 := k1
              have h2 := k2
              simp only [zTri] at h0 h1 h2
              simp only [Tri.val, zTri] at HON
              clear X4 X4' b4 hb5 HRR X5 b5 e8 HB4
              go_wp2_with fail
              clear hW4 hb8 g0 g1 g2 f0 f1 f2 k0 k1 k2 h0 h1 h2
              refine (unhide HON).mono ?_
              rintro e w6 ⟨rfl, hb6⟩
              have HB6 := hide (below_step (unhide HB0) (below_step (unhide HB5) hb6))
              clear hb6 HB5 HON
              go_wp2
              go_ret
              exact ⟨rfl, unhide HB6⟩
          | true =>
            obtain ⟨n', rfl⟩ : ∃ m : Nat, n = (m : Int) := ⟨n.toNat, by omega⟩
            obtain ⟨b', rfl⟩ : ∃ m : Nat, b = (m : Int) := ⟨b.toNat, by omega⟩
            have hnn := of_decide_eq_true hic
            have hsn : ¬ q.num.sign < 0 := fun h => Rat.not_le.2 (sign_lt.1 h) hnn.1
            have hcg : ¬ 0 < Wd.sg (q.num * ((1 : Int) : Rat).den) (((1 : Int) : Rat).num * q.den) := fun h => Rat.not_le.2 (cmp_gt1.1 h) hnn.2
            have hRwS : RwS q b' := rwS hic (unhide HRQ)
            have HEQ : Hid (Rsk.rwv q (Rsk.pwr (((1 : Int) : Rat) - q) b') b' n' = Rsk.rrv q (((1 : Int) : Rat) - q) b' n') := (Rsk.rrv_rwv hRwS.pq (by omega) n').symm
            have HRV : Hid (RS (Rsk.rrv q (((1 : Int) : Rat) - q) b' n') 200000) := (hRwS.w n').mono (by omega)
            go_enter Tryz.func5, Tryz.ntmps5
            go_wp2_with fail
            clear hW0 hp5 z0 z1
            refine (unhide HRO).mono ?_
            rintro e w1 ⟨b7, rfl, -, zq, hb1⟩
            have HZQ : Hid (∀ W, Below w1.heap.size w1 W → BRz W b7 0 q) := fun W hW => zq.below hW
            have HB1 := hide hb1
            clear zq hb1 HRO
            have HSG := hide (signz_any b7 0 q w1 (unhide HZQ w1 (Below.refl _ _)))
            obtain ⟨sg, hsg⟩ : ∃ s, q.num.sign = s := ⟨_, rfl⟩
            rw [hsg] at HSG hsn
            clear hsg
            go_wp2_with fail
            refine (unhide HSG).mono ?_
            rintro e w2 ⟨rfl, hw⟩
            have hw' := hw.symm
            subst hw'
            clear hw HSG
            have HI1 := hide (refIntz_any 1 (by decide) (by decide) w1)
            go_wp2_with fail
            refine (unhide HI1).mono ?_
            rintro e w21 ⟨b41, rfl, -, z41, hb21⟩
            have HCM := hide (rcmp_any b7 0 b41 0 1 1 q _ w21 (unhide HZQ w21 hb21) z41 (unhide HRQ) (RS_int ⟨by decide, by decide⟩) (by decide))
            obtain ⟨cz, hcz⟩ : ∃ s, Wd.sg (q.num * ((1 : Int) : Rat).den) (((1 : Int) : Rat).num * q.den) = s := ⟨_, rfl⟩
            rw [hcz] at HCM hcg
            have HB21 := hide hb21
            clear z41 hb21 HI1 hcz
            go_wp2_with fail
            refine (unhide HCM).mono ?_
            rintro e w22 ⟨rfl, hb22⟩
            have HB22 := hide (below_step (unhide HB21) hb22)
            have HI0 := hide (refIntz_any 0 (by decide) (by decide) w22)
            clear hb22 HCM HB21
            go_wp2_with fail
            refine (unhide HI0).mono ?_
            rintro e w3 ⟨b9, rfl, -, z9, hb3⟩
            have HB3 := hide (below_step (unhide HB22) hb3)
            have HRW := hide (refRow_any q n' b' b7 w3 (unhide HZQ w3 (unhide HB3)) hRwS (by omega) (by omega) (by omega))
            clear z9 hb3 HI0 HB22
            go_wp2_with fail
            refine (unhide HRW).mono ?_
            rintro e w4 ⟨b10, rfl, z10, hb4⟩
            have HB4 := hide (below_step (unhide HB1) (below_step (unhide HB3) hb4))
            have HZW : Hid (∀ W, Below w4.heap.size w4 W → BRz W b10 0 _) := fun W hW => z10.below hW
            have ⟨c0, c1⟩ := unhide HCC w4 (unhide HB4)
            clear z10 hb4 HRW HB3
            go_wp2_with fail
            refine (unhide HFQ w4).mono ?_
            rintro e w5 ⟨v5, rfl, hv5, hb5⟩
            obtain ⟨t5, rfl, r5⟩ := tri_of hv5
            simp only [Tri.val]
            have HB5 := hide hb5
            have HRR := hide (rRow_ok n' b' t5.val q w5 r5 (unhide HRQ) hic (by omega) (by omega) (by omega))
            rw [unhide HEQ] at HRR
            simp only [Tri.val] at HRR
            clear hv5 hb5 c0 c1 r5
            go_wp2_with fail
            refine (unhide HRR).mono ?_
            rintro e w6 ⟨v6, rfl, hv6, hb6⟩
            obtain ⟨t6, rfl, r6⟩ := tri_of hv6
            simp only [Tri.val]
            have X6 := BoxIs.new r6
            have b6 := below_step hb6 (alloc_below w6 (.cells #[.bool t6.s, .slice t6.a1 t6.n1 t6.c1, .slice t6.a2 t6.n2 t6.c2] 37))
            obtain ⟨W6, hW6⟩ : ∃ W, w6.alloc (.cells #[.bool t6.s, .slice t6.a1 t6.n1 t6.c1, .slice t6.a2 t6.n2 t6.c2] 37) = W := ⟨_, rfl⟩
            obtain ⟨b8, hb8⟩ : ∃ b, w6.heap.size = b := ⟨_, rfl⟩
            rw [hW6] at X6 b6
            rw [hb8] at X6
            have HB6 := hide (below_step (unhide HB4) (below_step (unhide HB5) b6))
            have ⟨k0, k1, k2⟩ := X6.cells _ (Below.refl _ _)
            have HON := hide (one_ok t6.val _ b10 200000 W6 X6.2 (unhide HRV) (Nat.le_refl _) (unhide HTB W6 (unhide HB6)) (unhide HZW W6 (below_step (unhide HB5) b6)))
            simp only [Tri.val] at HON
            clear hv6 r6 X6 b6 hb6 HRR HB5 HB4
            go_wp2_with fail
            clear hW6 hb8 k0 k1 k2
            refine (unhide HON).mono ?_
            rintro e w7 ⟨rfl, hb7⟩
            have HB7 := hide (below_step (unhide HB0) (below_step (unhide HB6) hb7))
            clear hb7 HB6 HON
            go_wp2
            go_ret
            exact ⟨rfl, unhide HB7⟩
end Go.Proofs.YtcelbgleajpenaaGreatDoor
