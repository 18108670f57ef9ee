/- BanditMost: the walk. -/
import Derived.Test.YtjlohghknejjoaaGreatDoorGT13
namespace Go.Proofs.YtjlohghknejjoaaGreatDoor
open Go.RowKit Go.Sort Go.Shelf

set_option maxHeartbeats 16000000 in
set_option maxRecDepth 100000 in
set_option linter.unusedSimpArgs false in
theorem banditMost_any (v : Value) (ps : List (Int × Int)) (pss : List (List (Int × Int))) (x y : Int) (vs : Value) (nb : Nat) (fb : Nat → Bool) (w : World) (htab : Tab w) (h : PArmIs w v ps pss) (hx : I64 x) (hy : I64 y) (sm : SmP pss) (hps : ps.length ≤ 1048576) (hq : BRow w vs nb fb) :
    Calls Tryz.prog 4 #[v, .agg #[.int .i64 x, .int .i64 y], vs] w fun e w' => e = .returned (.bool true) ∧ Below w.heap.size w w' := by
  have KKe : KK = 1099511627776 := rfl
  have HTB := hide htab
  have HSP := hide sm
  have HPS := hide hps
  have HI1 := hide hx
  have HI2 := hide hy
  have HPC := hide h
  have HBR := hide hq
  obtain ⟨aq, cq, rfl, hq1, hq2, hq3⟩ := hq
  clear hq3
  obtain ⟨m, l, rfl, hT, hP⟩ := h
  have hpn := prows_len hP
  have htn := pairs_len hT
  obtain ⟨np, hnp⟩ : ∃ n, pss.length = n := ⟨_, rfl⟩
  obtain ⟨nt, hnt⟩ : ∃ n, ps.length = n := ⟨_, rfl⟩
  rw [hnp] at hpn
  rw [hnt] at htn
  have HNP := hide hnp
  have HNT := hide hnt
  have HPV : Hid (aval m l = .agg #[.slice m.a nt m.c, .slice l.a np l.c]) := by show aval m l = _; unfold aval; rw [hpn, htn]
  rw [unhide HPV] at HPC ⊢
  have hPv : l.val = .slice l.a np l.c := by show Value.slice l.a l.n l.c = _; rw [hpn]
  rw [hPv] at hP
  have b0 := alloc_below w (.cells #[.slice m.a nt m.c, .slice l.a np l.c] 25)
  have n0 := heap_alloc_new w (.cells #[.slice m.a nt m.c, .slice l.a np l.c] 25)
  obtain ⟨Wp, hWp⟩ : ∃ W, w.alloc (.cells #[.slice m.a nt m.c, .slice l.a np l.c] 25) = W := ⟨_, rfl⟩
  obtain ⟨bx, hbx⟩ : ∃ b, w.heap.size = b := ⟨_, rfl⟩
  rw [hWp] at b0 n0
  rw [hbx] at n0
  have b1 := alloc_below Wp (.cells #[.int .i64 x, .int .i64 y] 27)
  have n1 := heap_alloc_new Wp (.cells #[.int .i64 x, .int .i64 y] 27)
  obtain ⟨W0, hW0⟩ : ∃ W, Wp.alloc (.cells #[.int .i64 x, .int .i64 y] 27) = W := ⟨_, rfl⟩
  obtain ⟨bq, hbq⟩ : ∃ b, Wp.heap.size = b := ⟨_, rfl⟩
  rw [hW0] at b1 n1
  rw [hbq] at n1
  have n0' := heap_kept n0 b1
  have HCB : Hid (∀ W, Below W0.heap.size W0 W → (fun w' : World => (w'.cell? ⟨bx, 0, none⟩ = some (.slice m.a nt m.c) ∧ w'.cell? ⟨bx, 1, none⟩ = some (.slice l.a np l.c)) ∧ w'.cell? ⟨bq, 0, none⟩ = some (.int .i64 x) ∧ w'.cell? ⟨bq, 1, none⟩ = some (.int .i64 y)) W) := fun W hW => by
    have h' := heap_kept n0' hW
    have h'' := heap_kept n1 hW
    simp [World.cell?, h', h'']
  have HPA0 : Hid (∀ W, Below W0.heap.size W0 W → PArmIs W (.agg #[.slice m.a nt m.c, .slice l.a np l.c]) ps pss) := fun W hW => ((unhide HPC).below (below_step b0 b1)).below hW
  have ⟨⟨i0, i1⟩, i2, i3⟩ := unhide HCB _ (Below.refl _ _)
  have HWI := hide (wide_any (.slice l.a np l.c) pss 30 W0 ((hP.below b0).below b1) sm (by decide))
  have HB0 := hide (below_step b0 b1)
  clear hP hT hx hy hpn htn hnp hnt hPv b0 b1 n0 n1 n0' sm hps htab
  go_enter Tryz.func4, Tryz.ntmps4
  go_wp2_with fail
  clear hWp hbx hW0 hbq i0 i1 i2 i3
  refine (unhide HWI).mono ?_
  rintro e w1 ⟨(⟨hw, rfl⟩ | ⟨hw, rfl⟩), hb1⟩
  · have HB1 := hide (below_step (unhide HB0) hb1)
    clear hw hb1 HWI
    go_wp2
    go_ret
    exact ⟨rfl, unhide HB1⟩
  have HTOT : Hid (tot pss ≤ 30) := Nat.le_of_not_lt hw
  have HB1 := hide (below_step (unhide HB0) hb1)
  have HC1 : Hid (∀ W, Below w1.heap.size w1 W → (fun w' : World => (w'.cell? ⟨bx, 0, none⟩ = some (.slice m.a nt m.c) ∧ w'.cell? ⟨bx, 1, none⟩ = some (.slice l.a np l.c)) ∧ w'.cell? ⟨bq, 0, none⟩ = some (.int .i64 x) ∧ w'.cell? ⟨bq, 1, none⟩ = some (.int .i64 y)) W) := fun W hW => unhide HCB W (below_step hb1 hW)
  have HPA : Hid (∀ W, Below w1.heap.size w1 W → PArmIs W (.agg #[.slice m.a nt m.c, .slice l.a np l.c]) ps pss) := fun W hW => unhide HPA0 W (below_step hb1 hW)
  have ⟨⟨i0, i1⟩, i2, i3⟩ := unhide HCB w1 hb1
  have hnt0 : nt ≤ 9223372036854775807 := by have := unhide HNT; have := unhide HPS; omega
  clear hw hb1 HWI
  by_cases h6 : (5 : Int) < (nt : Int)
  · go_wp2
    go_ret
    exact ⟨rfl, unhide HB1⟩
  by_cases hbn : nb = nt
  rotate_left
  · have e3 : ((nb : Int) == (nt : Int)) = false := by rw [beq_eq_false_iff_ne]; omega
    have e4 : ((nb : Int) != (nt : Int)) = true := by rw [bne_iff_ne]; omega
    go_wp2
    go_ret
    exact ⟨rfl, unhide HB1⟩
  obtain rfl := hbn
  have e3 : ((nb : Int) == (nb : Int)) = true := by rw [beq_iff_eq]
  have e4 : ((nb : Int) != (nb : Int)) = false := by simp
  go_wp2_with fail
  clear i0 i1 i2 i3
  refine wp_region_hold (fun w' : World => (w'.cell? ⟨bx, 0, none⟩ = some (.slice m.a nb m.c) ∧ w'.cell? ⟨bx, 1, none⟩ = some (.slice l.a np l.c)) ∧ w'.cell? ⟨bq, 0, none⟩ = some (.int .i64 x) ∧ w'.cell? ⟨bq, 1, none⟩ = some (.int .i64 y)) (by kernel_rfl) ?_
  have bd0 : Below w1.heap.size w1 w1.drew := (Below.refl _ _).drew
  obtain ⟨Wx, hWx⟩ : ∃ W, w1.drew = W := ⟨_, rfl⟩
  rw [hWx] at bd0 ⊢
  have hC0 : (fun w' : World => (w'.cell? ⟨bx, 0, none⟩ = some (.slice m.a nb m.c) ∧ w'.cell? ⟨bx, 1, none⟩ = some (.slice l.a np l.c)) ∧ w'.cell? ⟨bq, 0, none⟩ = some (.int .i64 x) ∧ w'.cell? ⟨bq, 1, none⟩ = some (.int .i64 y)) Wx := unhide HC1 _ bd0
  have BD0 := hide bd0
  refine wpHold_take (i := 0) (v := ?_) rfl (by kernel_rfl) (by kernel_rfl) (by kernel_rfl) (fun _ _ _ h => h) (Or.inl ⟨by rfl, ?_⟩) hC0 ?_
  rotate_left
  · intro w hSw; (try dsimp only at hSw); obtain ⟨⟨z0, z1⟩, z2, z3⟩ := hSw; go_simp; (try with_reducible rfl)
  (try simp only [List.getElem_toArray, List.getElem_cons_succ, List.getElem_cons_zero])
  (try simp only [Act.put, List.setIfInBounds_toArray, List.set_cons_zero, List.set_cons_succ])
  refine wpHold_take (i := 2) (v := ?_) rfl (by kernel_rfl) (by kernel_rfl) (by kernel_rfl) (fun _ _ _ h => h) (Or.inl ⟨by rfl, ?_⟩) hC0 ?_
  rotate_left
  · intro w hSw; (try dsimp only at hSw); obtain ⟨⟨z0, z1⟩, z2, z3⟩ := hSw; go_simp; (try with_reducible rfl)
  (try simp only [List.getElem_toArray, List.getElem_cons_succ, List.getElem_cons_zero])
  (try simp only [Act.put, List.setIfInBounds_toArray, List.set_cons_zero, List.set_cons_succ])
  refine wpHold_listed (n := 6) (L' := (fun s : Nat × Bool × Bool => #[true, decide (1 ≤ s.1), true, decide (2 ≤ s.1), s.2.1, s.2.2, false, false]) (0, false, false)) (by kernel_rfl) (by kernel_rfl) ?_
  refine wpHold_name (fun a0 ha0 => ?_)
  refine walk_any (fun s : Nat × Bool × Bool => #[true, decide (1 ≤ s.1), true, decide (2 ≤ s.1), s.2.1, s.2.2, false, false]) (fun s : Nat × Bool × Bool => 6 - s.1 - s.2.1.toNat - s.2.2.toNat) (fun s : Nat × Bool × Bool => decide (2 < s.1) || (decide (2 ≤ s.1) && s.2.1 && s.2.2)) nextArm (fun s na W => ∃ v17 v19 v5 v6, na = ((((a0.put (some 32) v17).put (some 34) v19).put (some 7) v5).put (some 8) v6) ∧ ArmJ Wx (pqs ps) (pqss pss) (pq (x, y)) s W v17 v19 v5 v6) ?_ ?_ ?_ ?_ 6 (0, false, false) rfl _ _ ⟨undef, undef, undef, undef, by subst ha0; rfl, Below.refl _ _, (fun h => absurd h (by decide)), (fun h => absurd h (by decide)), (fun h => by cases h), (fun h => by cases h), by decide⟩
  · clear ha0
    intro s hs
    exact not_of (checkArm (g := fun s => !(Region.ready _ _ ((fun s : Nat × Bool × Bool => #[true, decide (1 ≤ s.1), true, decide (2 ≤ s.1), s.2.1, s.2.2, false, false]) s)).isEmpty) (fin := (fun s : Nat × Bool × Bool => decide (2 < s.1) || (decide (2 ≤ s.1) && s.2.1 && s.2.2))) (fun s h => by simp [show 2 < s.1 by omega]) (by kernel_rfl) s hs)
  · clear ha0
    exact checkArm (fun s h => by simp [show 2 < s.1 by omega]) (by kernel_rfl)
  · rintro ⟨kc, c0, c1⟩ i s' hn na wv ⟨v17, v19, v5, v6, rfl, J⟩
    subst ha0
    unfold nextArm at hn
    simp only at hn
    by_cases h : i = 4 ∧ c0 = false
    · rw [if_pos h] at hn
      obtain ⟨rfl, rfl⟩ := h
      obtain rfl := Option.some.inj hn
      refine wpOp_step rfl (fun K hK => ?_)
      (try simp only [Act.put, List.setIfInBounds_toArray, List.set_cons_zero, List.set_cons_succ] at hK ⊢)
      (try simp only [List.getElem_toArray, List.getElem_cons_succ, List.getElem_cons_zero])
      go_simp
      have hb := alloc_below wv (.cells #[.slice none 0 0, .slice none 0 0] 32)
      have J' := J.keep hb
      exact hK _ _ ⟨unhide HC1 _ (below_step (unhide BD0) J'.bl), v17, v19, .pointer (some ⟨wv.heap.size, 0, none⟩), v6, rfl, J'.bl, fun h => by
        obtain ⟨B, T, h1, h2, h3⟩ := J'.r1 h
        obtain ⟨B0, T0, g1, _⟩ := J.r1 h
        obtain ⟨B1, T1, k1, _, k3⟩ := J.r1 h
        exact ⟨B1, T1, k1.below hb, fun _ b e => by injection e with e; injection e with e; injection e with e; rw [← e]; exact Or.inr k1.1, k3⟩, J'.r2, fun _ => ⟨wv.heap.size, rfl, heap_alloc_new _ _, J.bl.size⟩, J'.a2, J'.bd⟩
    rw [if_neg h] at hn
    clear h
    by_cases h : i = 5 ∧ c1 = false
    · rw [if_pos h] at hn
      obtain ⟨rfl, rfl⟩ := h
      obtain rfl := Option.some.inj hn
      refine wpOp_step rfl (fun K hK => ?_)
      (try simp only [Act.put, List.setIfInBounds_toArray, List.set_cons_zero, List.set_cons_succ] at hK ⊢)
      (try simp only [List.getElem_toArray, List.getElem_cons_succ, List.getElem_cons_zero])
      go_simp
      have hb := alloc_below wv (.cells #[.bool false, .slice none 0 0, .slice none 0 0] 37)
      have J' := J.keep hb
      exact hK _ _ ⟨unhide HC1 _ (below_step (unhide BD0) J'.bl), v17, v19, v5, .pointer (some ⟨wv.heap.size, 0, none⟩), rfl, J'.bl, fun h => by
        obtain ⟨B1, T1, k1, k2, _⟩ := J.r1 h
        exact ⟨B1, T1, k1.below hb, k2, fun _ b e => by injection e with e; injection e with e; injection e with e; rw [← e]; exact Or.inr k1.1⟩, J'.r2, J'.a1, fun _ => ⟨wv.heap.size, rfl, BoxIs.new (t := zTri) (rat_zero _), J.bl.size⟩, J'.bd⟩
    rw [if_neg h] at hn
    clear h
    by_cases h : i = 1 ∧ kc = 0
    · rw [if_pos h] at hn
      obtain ⟨rfl, rfl⟩ := h
      obtain rfl := Option.some.inj hn
      refine wpOp_step rfl (fun K hK => ?_)
      (try simp only [Act.put, List.setIfInBounds_toArray, List.set_cons_zero, List.set_cons_succ] at hK ⊢)
      (try simp only [List.getElem_toArray, List.getElem_cons_succ, List.getElem_cons_zero])
      go_simp
      refine (pbandit_any _ ps pss wv (unhide HPA wv (below_step (unhide BD0) J.bl)) (unhide HSP) (unhide HPS)).mono ?_
      rintro e wz ⟨v, rfl, hv, hb⟩
      have J' := J.keep hb
      exact hK _ _ ⟨unhide HC1 _ (below_step (unhide BD0) J'.bl), v, v19, v5, v6, rfl, J'.bl, fun _ => ⟨wv.heap.size, wz.heap.size, hv.bt, fun h b e => by
        obtain ⟨b', e1, e2, _⟩ := J.a1 h
        rw [e1] at e
        injection e with e; injection e with e; injection e with e
        rw [← e]
        exact Or.inl (Array.getElem?_eq_some_iff.1 e2).1, fun h b e => by
        obtain ⟨b', e1, e2, _⟩ := J.a2 h
        rw [e1] at e
        injection e with e; injection e with e; injection e with e
        rw [← e]
        exact Or.inl e2.lt⟩, (fun h => absurd h (by simp)), J'.a1, J'.a2, by simp⟩
    rw [if_neg h] at hn
    clear h
    by_cases h : i = 3 ∧ kc = 1
    · rw [if_pos h] at hn
      obtain ⟨rfl, rfl⟩ := h
      obtain rfl := Option.some.inj hn
      refine wpOp_step rfl (fun K hK => ?_)
      (try simp only [Act.put, List.setIfInBounds_toArray, List.set_cons_zero, List.set_cons_succ] at hK ⊢)
      (try simp only [List.getElem_toArray, List.getElem_cons_succ, List.getElem_cons_zero])
      go_simp
      refine (f_any x y (unhide HI1).1 (unhide HI1).2 (unhide HI2).1 (unhide HI2).2 wv).mono ?_
      rintro e wz ⟨v, rfl, hv, hb⟩
      have J' := J.keep hb
      exact hK _ _ ⟨unhide HC1 _ (below_step (unhide BD0) J'.bl), v17, v, v5, v6, rfl, J'.bl, fun _ => J'.r1 (by simp), fun _ => hv, J'.a1, J'.a2, by simp⟩
    rw [if_neg h] at hn
    cases hn
  · rintro ⟨kc, c0, c1⟩ hfin na wv ⟨v17, v19, v5, v6, rfl, J⟩
    subst ha0
    have hbd : kc ≤ 2 := J.bd
    simp only [Bool.or_eq_true, Bool.and_eq_true, decide_eq_true_eq] at hfin
    obtain rfl : kc = 2 := by omega
    obtain rfl : c0 = true := hfin.elim (fun h => absurd h (by simp)) (fun h => h.1.2)
    obtain rfl : c1 = true := hfin.elim (fun h => absurd h (by simp)) (fun h => h.2)
    obtain ⟨b5, rfl, B5, e5⟩ := J.a1 rfl
    obtain ⟨b6, rfl, B6, e6⟩ := J.a2 rfl
    have hne : b6 ≠ b5 := fun e => by
      have h1 := B6.1
      rw [e, B5] at h1
      injection h1 with h1
      injection h1 with _ h1
      exact absurd h1 (by decide)
    obtain ⟨B, T, hAB, hO5, hO6⟩ := J.r1 (by simp)
    obtain ⟨t, rfl, q2⟩ := tri_of (J.r2 (by simp))
    have bl := J.bl
    have ho5 := hO5 rfl b5 rfl
    have ho6 := hO6 rfl b6 rfl
    obtain ⟨_, mb, lb, rfl, _⟩ := id hAB
    have hmb : mb.n = nb := by obtain ⟨_, m', l', e, h1, _⟩ := hAB; have h2 := law_len h1; rw [pqs_length, unhide HNT] at h2; injection e with e; have := congrArg (fun a : Array Value => a[0]?) e; simp only [List.getElem?_toArray, List.getElem?_cons_zero] at this; injection this with this; injection this with _ this; rw [this]; exact h2
    have hlb : lb.n = np := by obtain ⟨_, m', l', e, _, _, h1⟩ := hAB; have h2 := rows_len h1.rows; rw [pqss_length, unhide HNP] at h2; injection e with e; have := congrArg (fun a : Array Value => a[1]?) e; simp only [List.getElem?_toArray, List.getElem?_cons_succ, List.getElem?_cons_zero] at this; injection this with this; injection this with _ this; rw [this]; exact h2
    have HMB := hide hmb
    have HLB := hide hlb
    unfold aval
    rw [hmb, hlb]
    simp only [Tri.val]
    (try simp only [Act.put, List.setIfInBounds_toArray, List.set_cons_zero, List.set_cons_succ])
    clear J hfin hbd hC0 hO5 hO6 hmb hlb
    have l0 : wv.frozen? ⟨b5, 0, none⟩ = false := by simp [World.frozen?, B5]
    have l1 : wv.frozen? ⟨b5, 1, none⟩ = false := by simp [World.frozen?, B5]
    have k0 : wv.cell? ⟨b5, 0, none⟩ = some (.slice none 0 0) := by simp [World.cell?, B5]
    have k1 : wv.cell? ⟨b5, 1, none⟩ = some (.slice none 0 0) := by simp [World.cell?, B5]
    have NB5 : ((wv.setCell ⟨b5, 0, none⟩ (.slice mb.a nb mb.c)).setCell ⟨b5, 1, none⟩ (.slice lb.a np lb.c)).heap[b5]? = some (.cells #[.slice mb.a nb mb.c, .slice lb.a np lb.c] 32) := by
      simp [setCell_eq, mapBlock, onCells, Array.getElem?_modify, B5]
    have hg5 := grown_set2 wv b5 (.slice mb.a nb mb.c) (.slice lb.a np lb.c)
    have NAB := hAB.far hg5 (armz_wordless B5) ho5
    have nq2 := q2.far hg5 (fun g e => by injection e with e; rw [← e]; exact armz_wordless B5)
    have NB6 : BoxIs ((wv.setCell ⟨b5, 0, none⟩ (.slice mb.a nb mb.c)).setCell ⟨b5, 1, none⟩ (.slice lb.a np lb.c)) b6 zTri 0 := ⟨by rw [Below.heap_setCell _ _ _ _ hne, Below.heap_setCell _ _ _ _ hne]; exact B6.1, rat_zero _⟩
    have bl2 : Below Wx.heap.size Wx ((wv.setCell ⟨b5, 0, none⟩ (.slice mb.a nb mb.c)).setCell ⟨b5, 1, none⟩ (.slice lb.a np lb.c)) := (bl.setCell (p := ⟨b5, 0, none⟩) e5 _).setCell (p := ⟨b5, 1, none⟩) e5 _
    have hC2 : (fun w' : World => (w'.cell? ⟨bx, 0, none⟩ = some (.slice m.a nb m.c) ∧ w'.cell? ⟨bx, 1, none⟩ = some (.slice l.a np l.c)) ∧ w'.cell? ⟨bq, 0, none⟩ = some (.int .i64 x) ∧ w'.cell? ⟨bq, 1, none⟩ = some (.int .i64 y)) _ := unhide HC1 _ (below_step (unhide BD0) bl2)
    obtain ⟨Wy, hWy⟩ : ∃ W, ((wv.setCell ⟨b5, 0, none⟩ (.slice mb.a nb mb.c)).setCell ⟨b5, 1, none⟩ (.slice lb.a np lb.c)) = W := ⟨_, rfl⟩
    rw [hWy] at NB5 NAB nq2 NB6 bl2 hC2
    refine wpHold_one (k := 6) (by kernel_rfl) rfl (fun K hK => ?_)
    (try simp only [List.getElem_toArray, List.getElem_cons_succ, List.getElem_cons_zero])
    go_simp
    refine hK.out _ _ hC2 ?_
    clear hK K
    (try simp only [Act.put, List.setIfInBounds_toArray, List.set_cons_zero, List.set_cons_succ])
    have ⟨m0, m1, m2⟩ := NB6.free
    have ⟨n0, n1, n2⟩ := NB6.cells _ (Below.refl _ _)
    have MB6 := NB6.set nq2
    have hg6 := grown_set3 Wy b6 (.bool t.s) (.slice t.a1 t.n1 t.c1) (.slice t.a2 t.n2 t.c2)
    have MAB := NAB.far hg6 (box_wordless NB6) ho6
    have MB5 : (((Wy.setCell ⟨b6, 0, none⟩ (.bool t.s)).setCell ⟨b6, 1, none⟩ (.slice t.a1 t.n1 t.c1)).setCell ⟨b6, 2, none⟩ (.slice t.a2 t.n2 t.c2)).heap[b5]? = some (.cells #[.slice mb.a nb mb.c, .slice lb.a np lb.c] 32) := by
      rw [Below.heap_setCell _ _ _ _ (Ne.symm hne), Below.heap_setCell _ _ _ _ (Ne.symm hne), Below.heap_setCell _ _ _ _ (Ne.symm hne)]; exact NB5
    have bl3 : Below Wx.heap.size Wx (((Wy.setCell ⟨b6, 0, none⟩ (.bool t.s)).setCell ⟨b6, 1, none⟩ (.slice t.a1 t.n1 t.c1)).setCell ⟨b6, 2, none⟩ (.slice t.a2 t.n2 t.c2)) := ((bl2.setCell (p := ⟨b6, 0, none⟩) e6 _).setCell (p := ⟨b6, 1, none⟩) e6 _).setCell (p := ⟨b6, 2, none⟩) e6 _
    have hC3 : (fun w' : World => (w'.cell? ⟨bx, 0, none⟩ = some (.slice m.a nb m.c) ∧ w'.cell? ⟨bx, 1, none⟩ = some (.slice l.a np l.c)) ∧ w'.cell? ⟨bq, 0, none⟩ = some (.int .i64 x) ∧ w'.cell? ⟨bq, 1, none⟩ = some (.int .i64 y)) _ := unhide HC1 _ (below_step (unhide BD0) bl3)
    obtain ⟨W2, hW2⟩ : ∃ W, (((Wy.setCell ⟨b6, 0, none⟩ (.bool t.s)).setCell ⟨b6, 1, none⟩ (.slice t.a1 t.n1 t.c1)).setCell ⟨b6, 2, none⟩ (.slice t.a2 t.n2 t.c2)) = W := ⟨_, rfl⟩
    rw [hW2] at MB5 MB6 MAB bl3 hC3
    refine wpHold_one (k := 7) (by kernel_rfl) rfl (fun K hK => ?_)
    (try simp only [List.getElem_toArray, List.getElem_cons_succ, List.getElem_cons_zero])
    go_simp
    refine hK.out _ _ hC3 ?_
    clear hK K
    (try simp only [Act.put, List.setIfInBounds_toArray, List.set_cons_zero, List.set_cons_succ])
    refine wpHold_done (by kernel_rfl) ?_ _
    have HX5 : Hid (ArmIs W2 (.agg #[.slice mb.a nb mb.c, .slice lb.a np lb.c]) (pqs ps) (pqss pss)) := by
      obtain ⟨_, m', l', e, h1, _, h3⟩ := MAB
      exact ⟨m', l', by rw [← e]; unfold aval; rw [unhide HMB, unhide HLB], h1, h3.rows⟩
    have HXA := hide MB5
    have HX6 := hide MB6
    have HB2 := hide (below_step (unhide BD0) bl3)
    clear B5 B6 e5 e6 hne q2 bl l0 l1 k0 k1 NB5 NB6 NAB nq2 bl2 hC2 hWy m0 m1 m2 n0 n1 n2 MB5 MB6 MAB bl3 hC3 hW2 hWx bd0 hg5 hg6 hAB ho5 ho6
    have hnt5 : nb ≤ 5 := by omega
    have hSm := smA_of (unhide HPC) (unhide HTOT) (by have := unhide HNT; omega)
    have hRB : RS (pq (x, y)) 1 := pq_RS (unhide HI1) (unhide HI2)
    have hgl : (pqs ps).length = nb := by rw [pqs_length]; exact unhide HNT
    obtain ⟨P, eP⟩ : ∃ P, pqss pss = P := ⟨_, rfl⟩
    obtain ⟨gs, eg⟩ : ∃ g, pqs ps = g := ⟨_, rfl⟩
    obtain ⟨b, eb⟩ : ∃ c, pq (x, y) = c := ⟨_, rfl⟩
    have HX6 : Hid (BoxIs W2 b6 t b) := by show BoxIs _ _ _ _; rw [← eb]; exact unhide HX6
    rw [eP, eg] at HX5 hSm
    rw [eb] at hRB
    rw [eg] at hgl
    have HSM := hide hSm
    have HRB := hide hRB
    have HGL := hide hgl
    have HAR : Hid (∀ W, Below W2.heap.size W2 W → ArmIs W (.agg #[.slice mb.a nb mb.c, .slice lb.a np lb.c]) gs P) := fun W hW => (unhide HX5).below hW
    have HRW : Hid (∀ W, Below W2.heap.size W2 W → RatIs W (.agg #[.bool t.s, .slice t.a1 t.n1 t.c1, .slice t.a2 t.n2 t.c2]) b) := fun W hW => (unhide HX6).2.below hW
    have HC2 : Hid (∀ W, Below W2.heap.size W2 W → (fun w' : World => w'.cell? ⟨b5, 0, none⟩ = some (.slice mb.a nb mb.c) ∧ w'.cell? ⟨b5, 1, none⟩ = some (.slice lb.a np lb.c) ∧ w'.cell? ⟨b6, 0, none⟩ = some (.bool t.s) ∧ w'.cell? ⟨b6, 1, none⟩ = some (.slice t.a1 t.n1 t.c1) ∧ w'.cell? ⟨b6, 2, none⟩ = some (.slice t.a2 t.n2 t.c2)) W) := fun W hW => by
      have h' := heap_kept (unhide HXA) hW
      exact ⟨by simp [World.cell?, h'], by simp [World.cell?, h'], (unhide HX6).cells W hW⟩
    have HB3 : Hid (∀ W, Below W2.heap.size W2 W → Below w.heap.size w W) := fun W hW => below_step (below_step (unhide HB1) (unhide HB2)) hW
    have HIN := hide (Index_any _ _ gs P b W2 (unhide HAR W2 (Below.refl _ _)) (unhide HRW W2 (Below.refl _ _)) hSm hRB)
    have ⟨j0, j1, j2, j3, j4⟩ := unhide HC2 W2 (Below.refl _ _)
    have ⟨⟨ii0, ii1⟩, _⟩ := unhide HC1 W2 (unhide HB2)
    clear hSm hRB hgl eP eg eb HX5 HXA HPA HPA0 HCB
    go_wp2_with fail
    clear j0 j1 j2 j3 j4 ii0 ii1
    refine (unhide HIN).mono ?_
    rintro e w4 (⟨hz, rfl, hb4⟩ | ⟨hz, v4, xx, rfl, hv4, hx4, hr4, hb4⟩)
    · obtain ⟨z, hzz⟩ : ∃ z, wcode gs P b = z := ⟨_, rfl⟩
      rw [hzz] at hz ⊢
      have e5 : errV z = .iface 76 (.int .i64 z) := by unfold errV; rw [if_neg hz]
      rw [e5]
      have HB4 := hide (unhide HB3 w4 hb4)
      clear hz hzz e5 hb4 HIN
      go_wp2_with fail
      refine (armed_any w4 (tab_below (unhide HTB) (unhide HB4))).mono ?_
      rintro e w5 ⟨rfl, hb5⟩
      have HB5 := hide (below_step (unhide HB4) hb5)
      clear hb5 HB4
      go_wp2_with fail
      refine (armed_any w5 (tab_below (unhide HTB) (unhide HB5))).mono ?_
      rintro e w6 ⟨rfl, hb6⟩
      have HB6 := hide (below_step (unhide HB5) hb6)
      clear hb6 HB5
      go_wp2
      go_ret
      exact ⟨rfl, unhide HB6⟩
    have HZ := hide hz
    have ⟨ga, gb, gc⟩ := wcode_zero hz
    have hn1 : 1 ≤ nb := by have := ga.n1; have := unhide HGL; omega
    have HOK := hide (good_aok (b := b) ga gb gc)
    have HAN : Hid ((arm gs P b).n = nb) := unhide HGL
    rw [unhide HGL] at hv4 hr4
    obtain ⟨a4, c4, rfl, _, _, z4⟩ := hv4
    rw [row_length] at z4 ⊢
    obtain ⟨bv, ov, rfl, hbv, hcv⟩ := z4 (by omega)
    have HXB : Hid (16 * XBn nb + 200 ≤ KK) := xbn_le nb (by omega)
    have HX4 := hide hx4
    have HR4 := hide hr4
    have HCV := hide hcv
    have HBV := hide hbv
    have HW4 := hide hb4
    have HB4 := hide (unhide HB3 w4 hb4)
    clear hz ga gb gc hx4 hr4 z4 hcv hbv hb4 HIN
    go_wp2_with fail
    refine (armed_any w4 (tab_below (unhide HTB) (unhide HB4))).mono ?_
    rintro e w5 ⟨rfl, hb5⟩
    have HB5 := hide hb5
    clear hb5
    go_wp2_with fail
    go_loopw [11] (fun vi wr => ∃ i : Nat, vi = .int .i64 (i : Int) ∧ i ≤ nb ∧ Below w4.heap.size w4 wr) (fun vi _ => nb - (intOf vi).toNat)
    case atStart => exact ⟨0, rfl, Nat.zero_le _, unhide HB5⟩
    case round =>
      obtain ⟨i, rfl, hi, hbi⟩ := hrel
      have HBI := hide hbi
      have HWI := hide (below_step (unhide HW4) hbi)
      clear HB5 hbi
      by_cases hlt : i < nb
      · have e1 : (i : Int) < (nb : Int) := by omega
        have e0 : (0 : Int) ≤ (i : Int) := by omega
        have ⟨j0, j1, j2, j3, j4⟩ := unhide HC2 wr (unhide HWI)
        have HCL := hide (While_any _ _ (.slice aq nb cq) gs P b fb i wr (unhide HAR wr (unhide HWI)) (unhide HRW wr (unhide HWI)) (by rw [unhide HGL]; exact (unhide HBR).below (unhide HB3 wr (unhide HWI))) (unhide HSM) (unhide HRB) (by rw [unhide HGL]; exact hlt) (unhide HZ))
        go_wp2_with fail
        clear j0 j1 j2 j3 j4
        refine (unhide HCL).mono ?_
        rintro e w6 ⟨v6, N, D, rfl, hv6, hN, hD, hr6, hb6⟩
        obtain ⟨ty, rfl, ry⟩ := tri_of hv6
        simp only [Tri.val]
        have hle : N i / D i ≤ xx i := by
          have h1 := (unhide HX4 i (by rw [unhide HAN]; exact hlt)).1 fb N D hN hD
          have h2 := Git.whl_ge (unhide HOK) hD i (by rw [unhide HAN]; exact hlt)
          have h3 : N i / D i * D i = N i := Rat.div_mul_cancel (by grind)
          by_cases c : N i / D i ≤ xx i
          · exact c
          · have : 0 < (N i / D i - xx i) * D i := Rat.mul_pos (by grind) (by grind)
            grind
        rw [unhide HAN] at hr6
        have HR6 := hide hr6
        have HLE := hide hle
        clear hv6 hN hD hr6 hle
        have bA := alloc_below w6 (.cells #[.bool ty.s, .slice ty.a1 ty.n1 ty.c1, .slice ty.a2 ty.n2 ty.c2] 37)
        have X7 := BoxIs.new ry
        obtain ⟨W7, hW7⟩ : ∃ W, w6.alloc (.cells #[.bool ty.s, .slice ty.a1 ty.n1 ty.c1, .slice ty.a2 ty.n2 ty.c2] 37) = W := ⟨_, rfl⟩
        obtain ⟨gy, hgy⟩ : ∃ g, w6.heap.size = g := ⟨_, rfl⟩
        rw [hW7] at bA X7
        rw [hgy] at X7
        have hb47 := below_step (below_step (unhide HBI) hb6) bA
        have HX7 := hide X7
        have HB47 := hide hb47
        obtain ⟨xs_, xp1, xp2, xn1, xd1, xn2, xd2, xk0, xk1, xk2, xr⟩ := unhide HCV i hlt
        obtain ⟨tx, rfl, rfl, rfl, rfl, rfl, rfl, rfl⟩ : ∃ t : Tri, xs_ = t.s ∧ xp1 = t.a1 ∧ xp2 = t.a2 ∧ xn1 = t.n1 ∧ xd1 = t.c1 ∧ xn2 = t.n2 ∧ xd2 = t.c2 := ⟨⟨xs_, xp1, xp2, xn1, xd1, xn2, xd2⟩, rfl, rfl, rfl, rfl, rfl, rfl, rfl⟩
        rw [row_get hlt] at xr
        have HCC : Hid (∀ W, Below W7.heap.size W7 W → (fun w' : World => (w'.cell? ⟨gy, 0, none⟩ = some (.bool ty.s) ∧ w'.cell? ⟨gy, 1, none⟩ = some (.slice ty.a1 ty.n1 ty.c1) ∧ w'.cell? ⟨gy, 2, none⟩ = some (.slice ty.a2 ty.n2 ty.c2)) ∧ w'.cell? ⟨bv, ov + i * 3, none⟩ = some (.bool tx.s) ∧ w'.cell? ⟨bv, ov + i * 3 + 1, none⟩ = some (.slice tx.a1 tx.n1 tx.c1) ∧ w'.cell? ⟨bv, ov + i * 3 + 2, none⟩ = some (.slice tx.a2 tx.n2 tx.c2)) W) := fun W hW => by
          have hh := below_step hb47 hW
          refine ⟨(unhide HX7).cells W hW, ?_, ?_, ?_⟩
          · rw [hh.cell (p := ⟨bv, ov + i * 3, none⟩) (unhide HBV)]; exact xk0
          · rw [hh.cell (p := ⟨bv, ov + i * 3 + 1, none⟩) (unhide HBV)]; exact xk1
          · rw [hh.cell (p := ⟨bv, ov + i * 3 + 2, none⟩) (unhide HBV)]; exact xk2
        have HXR := hide (xr.below hb47)
        have ⟨y0, y1⟩ := cmpv_le (unhide HLE)
        have HCM : Hid (∀ W, Below W7.heap.size W7 W → Calls Tryz.prog 14 #[.agg #[.bool ty.s, .slice ty.a1 ty.n1 ty.c1, .slice ty.a2 ty.n2 ty.c2], .agg #[.bool tx.s, .slice tx.a1 tx.n1 tx.c1, .slice tx.a2 tx.n2 tx.c2]] W fun e w' => e = .returned (.int .i64 (cmpv (N i / D i) (xx i))) ∧ Below W.heap.size W w') := fun W hW => cmpR_all ty.val tx.val _ _ W ((unhide HX7).2.below hW) ((unhide HXR).below hW) (2 * XBn nb) (unhide HR6) (unhide HR4 i hlt) (by have := unhide HXB; omega)
        obtain ⟨yy, hyy⟩ : ∃ y, cmpv (N i / D i) (xx i) = y := ⟨_, rfl⟩
        rw [hyy] at y0 y1 HCM
        have hd2 : decide (0 < yy) = false := decide_eq_false (by omega)
        clear hyy
        clear bA X7 hb47 hb6 xr xk0 xk1 xk2 ry HCL
        go_wp2_with fail
        clear hW7 hgy
        refine wp_region_hold (fun w' : World => (w'.cell? ⟨gy, 0, none⟩ = some (.bool ty.s) ∧ w'.cell? ⟨gy, 1, none⟩ = some (.slice ty.a1 ty.n1 ty.c1) ∧ w'.cell? ⟨gy, 2, none⟩ = some (.slice ty.a2 ty.n2 ty.c2)) ∧ w'.cell? ⟨bv, ov + i * 3, none⟩ = some (.bool tx.s) ∧ w'.cell? ⟨bv, ov + i * 3 + 1, none⟩ = some (.slice tx.a1 tx.n1 tx.c1) ∧ w'.cell? ⟨bv, ov + i * 3 + 2, none⟩ = some (.slice tx.a2 tx.n2 tx.c2)) (by kernel_rfl) ?_
        have bd0 : Below W7.heap.size W7 W7.drew := (Below.refl _ _).drew
        have hC0 : (fun w' : World => (w'.cell? ⟨gy, 0, none⟩ = some (.bool ty.s) ∧ w'.cell? ⟨gy, 1, none⟩ = some (.slice ty.a1 ty.n1 ty.c1) ∧ w'.cell? ⟨gy, 2, none⟩ = some (.slice ty.a2 ty.n2 ty.c2)) ∧ w'.cell? ⟨bv, ov + i * 3, none⟩ = some (.bool tx.s) ∧ w'.cell? ⟨bv, ov + i * 3 + 1, none⟩ = some (.slice tx.a1 tx.n1 tx.c1) ∧ w'.cell? ⟨bv, ov + i * 3 + 2, none⟩ = some (.slice tx.a2 tx.n2 tx.c2)) W7.drew := unhide HCC _ bd0
        refine wpHold_take (i := 0) (v := ?_) rfl (by kernel_rfl) (by kernel_rfl) (by kernel_rfl) (fun _ _ _ h => h) (Or.inl ⟨by rfl, ?_⟩) hC0 ?_
        rotate_left
        · intro w hSw; clear hSw; go_simp; (try with_reducible rfl)
        (try simp only [List.getElem_toArray, List.getElem_cons_succ, List.getElem_cons_zero])
        (try simp only [Act.put, List.setIfInBounds_toArray, List.set_cons_zero, List.set_cons_succ])
        refine wpHold_take (i := 1) (v := ?_) rfl (by kernel_rfl) (by kernel_rfl) (by kernel_rfl) (fun _ _ _ h => h) (Or.inl ⟨by rfl, ?_⟩) hC0 ?_
        rotate_left
        · intro w hSw; clear hSw; go_simp; (try with_reducible rfl)
        (try simp only [List.getElem_toArray, List.getElem_cons_succ, List.getElem_cons_zero])
        (try simp only [Act.put, List.setIfInBounds_toArray, List.set_cons_zero, List.set_cons_succ])
        refine wpHold_take (i := 2) (v := ?_) rfl (by kernel_rfl) (by kernel_rfl) (by kernel_rfl) (fun _ _ _ h => h) (Or.inl ⟨by rfl, ?_⟩) hC0 ?_
        rotate_left
        · intro w hSw; clear hSw; go_simp; (try with_reducible rfl)
        (try simp only [List.getElem_toArray, List.getElem_cons_succ, List.getElem_cons_zero])
        (try simp only [Act.put, List.setIfInBounds_toArray, List.set_cons_zero, List.set_cons_succ])
        refine wpHold_take (i := 3) (v := ?_) rfl (by kernel_rfl) (by kernel_rfl) (by kernel_rfl) (fun _ _ _ h => h) (Or.inl ⟨by rfl, ?_⟩) hC0 ?_
        rotate_left
        · intro w hSw; (try dsimp only at hSw); obtain ⟨⟨z0, z1, z2⟩, z3, z4, z5⟩ := hSw; go_simp; (try with_reducible rfl)
        (try simp only [List.getElem_toArray, List.getElem_cons_succ, List.getElem_cons_zero])
        (try simp only [Act.put, List.setIfInBounds_toArray, List.set_cons_zero, List.set_cons_succ])
        refine wpHold_take (i := 4) (v := ?_) rfl (by kernel_rfl) (by kernel_rfl) (by kernel_rfl) (fun _ _ _ h => h) (Or.inl ⟨by rfl, ?_⟩) hC0 ?_
        rotate_left
        · intro w hSw; clear hSw; go_simp; (try with_reducible rfl)
        (try simp only [List.getElem_toArray, List.getElem_cons_succ, List.getElem_cons_zero])
        (try simp only [Act.put, List.setIfInBounds_toArray, List.set_cons_zero, List.set_cons_succ])
        refine wpHold_take (i := 5) (v := ?_) rfl (by kernel_rfl) (by kernel_rfl) (by kernel_rfl) (fun _ _ _ h => h) (Or.inl ⟨by rfl, ?_⟩) hC0 ?_
        rotate_left
        · intro w hSw; clear hSw; go_simp; (try with_reducible rfl)
        (try simp only [List.getElem_toArray, List.getElem_cons_succ, List.getElem_cons_zero])
        (try simp only [Act.put, List.setIfInBounds_toArray, List.set_cons_zero, List.set_cons_succ])
        refine wpHold_take (i := 6) (v := ?_) rfl (by kernel_rfl) (by kernel_rfl) (by kernel_rfl) (fun _ _ _ h => h) (Or.inl ⟨by rfl, ?_⟩) hC0 ?_
        rotate_left
        · intro w hSw; clear hSw; go_simp; (try with_reducible rfl)
        (try simp only [List.getElem_toArray, List.getElem_cons_succ, List.getElem_cons_zero])
        (try simp only [Act.put, List.setIfInBounds_toArray, List.set_cons_zero, List.set_cons_succ])
        refine wpHold_take (i := 7) (v := ?_) rfl (by kernel_rfl) (by kernel_rfl) (by kernel_rfl) (fun _ _ _ h => h) (Or.inl ⟨by rfl, ?_⟩) hC0 ?_
        rotate_left
        · intro w hSw; (try dsimp only at hSw); obtain ⟨⟨z0, z1, z2⟩, z3, z4, z5⟩ := hSw; go_simp; (try with_reducible rfl)
        (try simp only [List.getElem_toArray, List.getElem_cons_succ, List.getElem_cons_zero])
        (try simp only [Act.put, List.setIfInBounds_toArray, List.set_cons_zero, List.set_cons_succ])
        refine wpHold_one (k := 8) (by kernel_rfl) rfl (fun K hK => ?_)
        (try simp only [List.getElem_toArray, List.getElem_cons_succ, List.getElem_cons_zero])
        go_simp
        refine (unhide HCM _ bd0).mono ?_
        rintro e xw_1 ⟨rfl, hb_1⟩
        have cc_1 := below_step bd0 hb_1
        have hC_1 : (fun w' : World => (w'.cell? ⟨gy, 0, none⟩ = some (.bool ty.s) ∧ w'.cell? ⟨gy, 1, none⟩ = some (.slice ty.a1 ty.n1 ty.c1) ∧ w'.cell? ⟨gy, 2, none⟩ = some (.slice ty.a2 ty.n2 ty.c2)) ∧ w'.cell? ⟨bv, ov + i * 3, none⟩ = some (.bool tx.s) ∧ w'.cell? ⟨bv, ov + i * 3 + 1, none⟩ = some (.slice tx.a1 tx.n1 tx.c1) ∧ w'.cell? ⟨bv, ov + i * 3 + 2, none⟩ = some (.slice tx.a2 tx.n2 tx.c2)) xw_1 := unhide HCC _ cc_1
        refine hK.out _ _ hC_1 ?_
        clear hK K
        (try simp only [Act.put, List.setIfInBounds_toArray, List.set_cons_zero, List.set_cons_succ])
        refine wpHold_take (i := 9) (v := ?_) rfl (by kernel_rfl) (by kernel_rfl) (by kernel_rfl) (fun _ _ _ h => h) (Or.inl ⟨by rfl, ?_⟩) hC_1 ?_
        rotate_left
        · intro w hSw; clear hSw; go_simp; (try with_reducible rfl)
        (try simp only [List.getElem_toArray, List.getElem_cons_succ, List.getElem_cons_zero])
        (try simp only [Act.put, List.setIfInBounds_toArray, List.set_cons_zero, List.set_cons_succ])
        refine wpHold_take (i := 10) (v := ?_) rfl (by kernel_rfl) (by kernel_rfl) (by kernel_rfl) (fun _ _ _ h => h) (Or.inl ⟨by rfl, ?_⟩) hC_1 ?_
        rotate_left
        · intro w hSw; clear hSw; go_simp; (try with_reducible rfl)
        (try simp only [List.getElem_toArray, List.getElem_cons_succ, List.getElem_cons_zero])
        (try simp only [Act.put, List.setIfInBounds_toArray, List.set_cons_zero, List.set_cons_succ])
        refine wpHold_done (by kernel_rfl) ?_ _
        have HB8 := hide (below_step (unhide HB47) cc_1)
        clear hC0 hC_1 cc_1 hb_1 bd0 HCC
        go_wp2_with fail
        exact ⟨⟨i + 1, by go_num, hlt, unhide HB8⟩, by simp [intOf]; omega⟩
      · have ei : i = nb := by omega
        rw [ei]
        have e1 : ¬ (nb : Int) < (nb : Int) := by omega
        have e9 : ((nb : Int) == (nb : Int)) = true := by rw [beq_iff_eq]
        have ⟨⟨i0, i1⟩, _⟩ := unhide HC1 wr (below_step (unhide HB2) (unhide HWI))
        have HB9 := hide (unhide HB3 wr (unhide HWI))
        go_wp2
        go_ret
        exact ⟨rfl, unhide HB9⟩

end Go.Proofs.YtjlohghknejjoaaGreatDoor
