/- StoreLoss: the walk. -/
import Derived.Test.YtjadhoembmenkaaGreatDoorCL1
import Derived.Test.YtjadhoembmenkaaGreatDoorO0
namespace Go.Proofs.YtjadhoembmenkaaGreatDoor
open Go.RowKit Go.Sort Go.Shelf

theorem lossV_RS {qs : List Rat} {a b : Rat} {n : Nat} (hq : ∀ j, j < qs.length → RS qs[j]! 1) (hl : qs.length ≤ 101) (ha : RS a 1) (hb : RS b 1) (hn : n ≤ 100) : RS (lossV qs a b n) 2000 := lossP_RS hq hl ha hb hn (Nat.le_refl _)
/-- 4 calls one behind the other, and a box. -/
structure Nj4 (P1 P2 P3 P4 : World → Value → Prop) (w0 : World) (c : Nat) (l : Bool) (w : World) (s1 s2 s3 s4 s5 : Value) : Prop where
  bl : Below w0.heap.size w0 w
  r1 : 1 ≤ c → P1 w s1
  r2 : 2 ≤ c → P2 w s2
  r3 : 3 ≤ c → P3 w s3
  r4 : 4 ≤ c → P4 w s4
  al : l = true → ∃ b, s5 = .pointer (some ⟨b, 0, none⟩) ∧ BoxIs w b zTri 0 ∧ w0.heap.size ≤ b
set_option maxHeartbeats 16000000 in
set_option maxRecDepth 100000 in
set_option linter.unusedSimpArgs false in
theorem storeLoss_any (v : Value) (ps : List (Int × Int)) (x y z u p : Int) (w : World) (h : PairsAre w v ps) (hx : I64 x) (hy : I64 y) (hz : I64 z) (hu : I64 u) (hp : I64 p) (htab : Tab w) (hg : ErrTy w) :
    Calls Tryz.prog 4 #[v, .agg #[.int .i64 x, .int .i64 y], .agg #[.int .i64 z, .int .i64 u], .int .i64 p] w fun e w' => e = .returned (.bool true) ∧ Below w.heap.size w w' := by
  have h' := h
  obtain ⟨a, c, hv, h1, h2, h4, -⟩ := h'
  obtain ⟨n, hn⟩ : ∃ n, ps.length = n := ⟨_, rfl⟩
  have HIX := hide hx
  have HIY := hide hy
  have HIZ := hide hz
  have HIU := hide hu
  have b1 := alloc_below w (.cells #[.int .i64 x, .int .i64 y] 38)
  have n1 := heap_alloc_new w (.cells #[.int .i64 x, .int .i64 y] 38)
  obtain ⟨W1, hW1⟩ : ∃ W, w.alloc (.cells #[.int .i64 x, .int .i64 y] 38) = W := ⟨_, rfl⟩
  obtain ⟨g0, hg0⟩ : ∃ g, w.heap.size = g := ⟨_, rfl⟩
  rw [hW1] at b1 n1
  rw [hg0] at n1
  have b2 := alloc_below W1 (.cells #[.int .i64 z, .int .i64 u] 38)
  have n2 := heap_alloc_new W1 (.cells #[.int .i64 z, .int .i64 u] 38)
  obtain ⟨W2, hW2⟩ : ∃ W, W1.alloc (.cells #[.int .i64 z, .int .i64 u] 38) = W := ⟨_, rfl⟩
  obtain ⟨g1, hg1⟩ : ∃ g, W1.heap.size = g := ⟨_, rfl⟩
  rw [hW2] at b2 n2
  rw [hg1] at n2
  have n1' := heap_kept n1 b2
  have HCQ : Hid (∀ W, Below W2.heap.size W2 W → (fun w' : World => (w'.cell? ⟨g0, 0, none⟩ = some (.int .i64 x) ∧ w'.cell? ⟨g0, 1, none⟩ = some (.int .i64 y)) ∧ w'.cell? ⟨g1, 0, none⟩ = some (.int .i64 z) ∧ w'.cell? ⟨g1, 1, none⟩ = some (.int .i64 u)) W) := fun W hW => by
    have h' := heap_kept n1' hW
    have h'' := heap_kept n2 hW
    simp [World.cell?, h', h'']
  have hB := below_step b1 b2
  have HB0 := hide hB
  have HPW : Hid (∀ W, Below W2.heap.size W2 W → PairsAre W v ps) := fun W hW => (h.below hB).below hW
  have HGT := hide hg
  have HTB := hide htab
  by_cases hbig : 130 < n
  · rw [hn] at hv
    subst hv
    have f1 : (130 : Int) < (n : Int) := by omega
    clear h h4 hg htab hn hbig hp hx hy hz hu b1 b2 n1 n2 n1' hB
    go_enter Tryz.func4, Tryz.ntmps4
    go_wp2
    go_ret
    exact ⟨rfl, by rw [← hg0]; exact unhide HB0⟩
  have HPL : Hid (ps.length ≤ 1099511627776) := by show _ ≤ _; omega
  have hqs : ∀ j, j < (pqs ps).length → RS (pqs ps)[j]! 1 := fun j hj => by
    rw [pqs_length] at hj
    have : (pqs ps)[j]! = pq ps[j]! := by simp [pqs, hj]
    rw [this]
    exact pq_RS (h4 j hj).1 (h4 j hj).2
  have HQ := hide hqs
  have HRA : Hid (RS (pq (x, y)) 1) := pq_RS hx hy
  have HRB : Hid (RS (pq (z, u)) 1) := pq_RS hz hu
  have hql : (pqs ps).length = n := by rw [pqs_length]; exact hn
  have HKK : Hid (((pqs ps).length * (1 + 1) + 1 + 1) + ((pqs ps).length * (1 + 1) + 1 + 1) + 1 ≤ KK) := by show _ ≤ _; unfold KK; rw [hql]; omega
  have HKL : Hid ((pqs ps).length * (1 + 1) + 1 + 1 ≤ 399999) := by show _ ≤ _; rw [hql]; omega
  have HLI := hide (refList_any v ps W2 (h.below hB) (unhide HPL))
  rw [hn] at hv
  have HV := hide hv
  subst hv
  have f1 : ¬ (130 : Int) < (n : Int) := by omega
  have HI64 := hide hp
  clear h h4 hg htab hn hbig hqs hql hp hx hy hz hu b1 b2 n1 n2 n1' hB
  go_enter Tryz.func4, Tryz.ntmps4
  go_wp2_with fail
  clear hW1 hW2 hg0 hg1
  obtain ⟨v, hv⟩ : ∃ v, Value.slice a n c = v := ⟨_, rfl⟩
  rw [hv] at HLI HPW ⊢
  refine (unhide HLI).mono ?_
  rintro e w2 ⟨v2, rfl, hv2, hb2⟩
  have HL2 := hide hv2
  have HB2 := hide hb2
  have HCK := hide (refLawCheck_any v2 (pqs ps) 1 w2 hv2 (unhide HQ) (unhide HKL))
  clear hv2 hb2 HLI
  obtain ⟨k, hk⟩ : ∃ k, chk (pqs ps) = k := ⟨_, rfl⟩
  rw [hk] at HCK
  have HK := hide hk
  clear hk
  go_wp2_with fail
  refine (unhide HCK).mono ?_
  rintro e w4 ⟨rfl, hb4⟩
  have HL4 := hide ((unhide HL2).below hb4)
  have HB4 := hide (below_step (unhide HB2) hb4)
  have HIN := hide (refIntz_any 0 (by decide) (by decide) w4)
  clear hb4 HCK HL2
  by_cases hk0 : k = 0
  · subst hk0
    by_cases hp0 : p < 0 ∨ 100 < p
    · have HNZ : Hid ((2 : Int) ≠ 0) := by show _ ≠ _; decide
      have HP0 := hide hp0
      by_cases hp1 : p < 0
      · clear hp0
        go_wp2_with fail
        refine (unhide HIN).mono ?_
        rintro e w5 ⟨bw, rfl, -, -, hb5⟩
        have HBT2 := hide (below_step (unhide HB4) hb5)
        have HBT := hide (below_step (unhide HB0) (unhide HBT2))
        clear hb5 HIN
        have HBW : Hid (Below W2.heap.size W2 w5) := unhide HBT2
        have HCC : Hid (∀ W, Below w5.heap.size w5 W → (fun w' : World => (w'.cell? ⟨g0, 0, none⟩ = some (.int .i64 x) ∧ w'.cell? ⟨g0, 1, none⟩ = some (.int .i64 y)) ∧ w'.cell? ⟨g1, 0, none⟩ = some (.int .i64 z) ∧ w'.cell? ⟨g1, 1, none⟩ = some (.int .i64 u)) W) := fun W hW => unhide HCQ W (below_step (unhide HBT2) hW)
        have HLO : Hid (∀ (W : World) (v1 v2 v3 : Value), LawIs W v1 (pqs ps) → RatIs W v2 (pq (x, y)) → RatIs W v3 (pq (z, u)) → Calls Tryz.prog 14 #[v1, v2, v3, .int .i64 p] W fun e w' => ∃ v, e = .returned (.tuple #[v, .iface 22 (.int .i64 2)]) ∧ RatIs w' v 0 ∧ Below W.heap.size W w') := fun W v1 v2 v3 h1 h2 h3 => by
          refine (loss_err v1 v2 v3 p 2 _ _ W h2 h3 (by obtain ⟨a, c, e, _⟩ := h1; exact ⟨a, _, c, e⟩) (fun W' hW => ?_)).mono ?_
          · exact overI_bad v1 (pqs ps) 1 p W' (h1.below hW) (unhide HQ) (unhide HKK) (unhide HK) (unhide HP0)
          · rintro e w' ⟨rfl, hb⟩
            exact ⟨_, rfl, rat_zero _, hb⟩
        go_wp2_with fail
        refine wp_region_hold (fun w' : World => (w'.cell? ⟨g0, 0, none⟩ = some (.int .i64 x) ∧ w'.cell? ⟨g0, 1, none⟩ = some (.int .i64 y)) ∧ w'.cell? ⟨g1, 0, none⟩ = some (.int .i64 z) ∧ w'.cell? ⟨g1, 1, none⟩ = some (.int .i64 u)) (by kernel_rfl) ?_
        have bd0 : Below w5.heap.size w5 w5.drew := (Below.refl _ _).drew
        obtain ⟨Wx, hWx⟩ : ∃ W, w5.drew = W := ⟨_, rfl⟩
        rw [hWx] at bd0 ⊢
        have hC0 : (fun w' : World => (w'.cell? ⟨g0, 0, none⟩ = some (.int .i64 x) ∧ w'.cell? ⟨g0, 1, none⟩ = some (.int .i64 y)) ∧ w'.cell? ⟨g1, 0, none⟩ = some (.int .i64 z) ∧ w'.cell? ⟨g1, 1, none⟩ = some (.int .i64 u)) Wx := unhide HCC _ bd0
        have KP1 : Hid (∀ (w w' : World) (s : Value), (fun (w : World) (s : Value) => LawIs w s (pqs ps)) w s → Below w.heap.size w w' → (fun (w : World) (s : Value) => LawIs w s (pqs ps)) w' s) := fun _ _ _ h hb => LawIs.below h hb
        have KP2 : Hid (∀ (w w' : World) (s : Value), (fun (w : World) (s : Value) => RatIs w s (pq (x, y))) w s → Below w.heap.size w w' → (fun (w : World) (s : Value) => RatIs w s (pq (x, y))) w' s) := fun _ _ _ h hb => RatIs.below h hb
        have KP3 : Hid (∀ (w w' : World) (s : Value), (fun (w : World) (s : Value) => RatIs w s (pq (z, u))) w s → Below w.heap.size w w' → (fun (w : World) (s : Value) => RatIs w s (pq (z, u))) w' s) := fun _ _ _ h hb => RatIs.below h hb
        have KP4 : Hid (∀ (w w' : World) (s : Value), (fun (w : World) (s : Value) => ∃ v : Value, s = .tuple #[v, .iface 22 (.int .i64 2)] ∧ RatIs w v 0) w s → Below w.heap.size w w' → (fun (w : World) (s : Value) => ∃ v : Value, s = .tuple #[v, .iface 22 (.int .i64 2)] ∧ RatIs w v 0) w' s) := fun _ _ _ h hb => by obtain ⟨v, h1, h2⟩ := h; exact ⟨v, h1, h2.below hb⟩
        refine wpHold_take (i := 0) (v := ?_) rfl (by kernel_rfl) (by kernel_rfl) (by kernel_rfl) (fun _ _ _ h => h) (Or.inl ⟨by rfl, ?_⟩) hC0 ?_
        rotate_left
        · intro w hSw; clear hSw; go_simp; (try with_reducible rfl)
        (try simp only [List.getElem_toArray, List.getElem_cons_succ, List.getElem_cons_zero])
        (try simp only [Act.put, List.setIfInBounds_toArray, List.set_cons_zero, List.set_cons_succ])
        refine wpHold_take (i := 2) (v := ?_) rfl (by kernel_rfl) (by kernel_rfl) (by kernel_rfl) (fun _ _ _ h => h) (Or.inl ⟨by rfl, ?_⟩) hC0 ?_
        rotate_left
        · intro w hSw; (try dsimp only at hSw); obtain ⟨⟨z0, z1⟩, z2, z3⟩ := hSw; go_simp; (try with_reducible rfl)
        (try simp only [List.getElem_toArray, List.getElem_cons_succ, List.getElem_cons_zero])
        (try simp only [Act.put, List.setIfInBounds_toArray, List.set_cons_zero, List.set_cons_succ])
        refine wpHold_take (i := 4) (v := ?_) rfl (by kernel_rfl) (by kernel_rfl) (by kernel_rfl) (fun _ _ _ h => h) (Or.inl ⟨by rfl, ?_⟩) hC0 ?_
        rotate_left
        · intro w hSw; (try dsimp only at hSw); obtain ⟨⟨z0, z1⟩, z2, z3⟩ := hSw; go_simp; (try with_reducible rfl)
        (try simp only [List.getElem_toArray, List.getElem_cons_succ, List.getElem_cons_zero])
        (try simp only [Act.put, List.setIfInBounds_toArray, List.set_cons_zero, List.set_cons_succ])
        refine wpHold_take (i := 6) (v := ?_) rfl (by kernel_rfl) (by kernel_rfl) (by kernel_rfl) (fun _ _ _ h => h) (Or.inl ⟨by rfl, ?_⟩) hC0 ?_
        rotate_left
        · intro w hSw; clear hSw; go_simp; (try with_reducible rfl)
        (try simp only [List.getElem_toArray, List.getElem_cons_succ, List.getElem_cons_zero])
        (try simp only [Act.put, List.setIfInBounds_toArray, List.set_cons_zero, List.set_cons_succ])
        refine wpHold_listed (n := 10) (L' := (fun nc nl => #[true, decide (1 ≤ nc), true, decide (2 ≤ nc), true, decide (3 ≤ nc), true, decide (4 ≤ nc), false, false, false, nl, false, false]) 0 false) (by kernel_rfl) (by kernel_rfl) ?_
        refine wpHold_name (fun a0 ha0 => ?_)
        refine chain_fin 4 (fun nc nl => #[true, decide (1 ≤ nc), true, decide (2 ≤ nc), true, decide (3 ≤ nc), true, decide (4 ≤ nc), false, false, false, nl, false, false]) (fun nc => match nc with | 0 => 1 | 1 => 3 | 2 => 5 | _ => 7) 11 5 (fun nc nl na W => ∃ s1 s2 s3 s4 s5, na = ((((a0.put (some 43) s1).put (some 45) s2).put (some 47) s3).put (some 49) s4).put (some 12) s5 ∧ Nj4 (fun (w : World) (s : Value) => LawIs w s (pqs ps)) (fun (w : World) (s : Value) => RatIs w s (pq (x, y))) (fun (w : World) (s : Value) => RatIs w s (pq (z, u))) (fun (w : World) (s : Value) => ∃ v : Value, s = .tuple #[v, .iface 22 (.int .i64 2)] ∧ RatIs w v 0) Wx nc nl W s1 s2 s3 s4 s5) ?_ ?_ ?_ ?_ ?_ ?_ ?_ 5 0 false (by omega) (by rfl) _ _ ⟨undef, undef, undef, undef, undef, by subst ha0; rfl, Below.refl _ _, fun h => absurd h (by decide), fun h => absurd h (by decide), fun h => absurd h (by decide), fun h => absurd h (by decide), fun h => by cases h⟩
        · clear ha0
          intro nc nl hnc
          match nc, hnc with
          | 0, _ => cases nl <;> (show (_ : Bool) = _; kernel_rfl)
          | 1, _ => cases nl <;> (show (_ : Bool) = _; kernel_rfl)
          | 2, _ => cases nl <;> (show (_ : Bool) = _; kernel_rfl)
          | 3, _ => cases nl <;> (show (_ : Bool) = _; kernel_rfl)
        · clear ha0
          intro nc nl hnc
          match nc, hnc with
          | 0, _ => cases nl <;> (show (_ : Bool) = _; kernel_rfl)
          | 1, _ => cases nl <;> (show (_ : Bool) = _; kernel_rfl)
          | 2, _ => cases nl <;> (show (_ : Bool) = _; kernel_rfl)
          | 3, _ => cases nl <;> (show (_ : Bool) = _; kernel_rfl)
        · clear ha0
          intro nc nl hnc
          match nc, hnc with
          | 0, _ => rfl
          | 1, _ => rfl
          | 2, _ => rfl
          | 3, _ => rfl
        · clear ha0
          intro nc hnc
          match nc, hnc with
          | 0, _ => rfl
          | 1, _ => rfl
          | 2, _ => rfl
          | 3, _ => rfl
        · rintro nc nl na wv hnc ⟨s1, s2, s3, s4, s5, rfl, J⟩
          subst ha0
          match nc, hnc, J with
          | 0, _, J =>
            refine wpOp_step rfl (fun K hK => ?_)
            (try simp only [Act.put, List.setIfInBounds_toArray, List.set_cons_zero, List.set_cons_succ] at hK ⊢)
            (try simp only [List.getElem_toArray, List.getElem_cons_succ, List.getElem_cons_zero])
            go_simp
            refine (law_any v ps _ (unhide HPW _ (below_step (unhide HBW) (below_step bd0 J.bl))) (unhide HPL)).mono ?_
            rintro e wz ⟨v_, rfl, hv, hb⟩
            exact hK _ _ ⟨unhide HCC _ (below_step bd0 (below_step J.bl hb)), v_, s2, s3, s4, s5, rfl, below_step J.bl hb, fun _ => hv, fun h => absurd h (by decide), fun h => absurd h (by decide), fun h => absurd h (by decide), fun h => by
              obtain ⟨b, e1, e2, e3⟩ := J.al h
              exact ⟨b, e1, e2.keep hb, e3⟩⟩
          | 1, _, J =>
            refine wpOp_step rfl (fun K hK => ?_)
            (try simp only [Act.put, List.setIfInBounds_toArray, List.set_cons_zero, List.set_cons_succ] at hK ⊢)
            (try simp only [List.getElem_toArray, List.getElem_cons_succ, List.getElem_cons_zero])
            go_simp
            refine (f_any x y (unhide HIX).1 (unhide HIX).2 (unhide HIY).1 (unhide HIY).2 _).mono ?_
            rintro e wz ⟨v_, rfl, hv, hb⟩
            exact hK _ _ ⟨unhide HCC _ (below_step bd0 (below_step J.bl hb)), s1, v_, s3, s4, s5, rfl, below_step J.bl hb, fun _ => unhide KP1 _ _ _ (J.r1 (by decide)) hb, fun _ => hv, fun h => absurd h (by decide), fun h => absurd h (by decide), fun h => by
              obtain ⟨b, e1, e2, e3⟩ := J.al h
              exact ⟨b, e1, e2.keep hb, e3⟩⟩
          | 2, _, J =>
            refine wpOp_step rfl (fun K hK => ?_)
            (try simp only [Act.put, List.setIfInBounds_toArray, List.set_cons_zero, List.set_cons_succ] at hK ⊢)
            (try simp only [List.getElem_toArray, List.getElem_cons_succ, List.getElem_cons_zero])
            go_simp
            refine (f_any z u (unhide HIZ).1 (unhide HIZ).2 (unhide HIU).1 (unhide HIU).2 _).mono ?_
            rintro e wz ⟨v_, rfl, hv, hb⟩
            exact hK _ _ ⟨unhide HCC _ (below_step bd0 (below_step J.bl hb)), s1, s2, v_, s4, s5, rfl, below_step J.bl hb, fun _ => unhide KP1 _ _ _ (J.r1 (by decide)) hb, fun _ => unhide KP2 _ _ _ (J.r2 (by decide)) hb, fun _ => hv, fun h => absurd h (by decide), fun h => by
              obtain ⟨b, e1, e2, e3⟩ := J.al h
              exact ⟨b, e1, e2.keep hb, e3⟩⟩
          | 3, _, J =>
            refine wpOp_step rfl (fun K hK => ?_)
            (try simp only [Act.put, List.setIfInBounds_toArray, List.set_cons_zero, List.set_cons_succ] at hK ⊢)
            (try simp only [List.getElem_toArray, List.getElem_cons_succ, List.getElem_cons_zero])
            go_simp
            refine (unhide HLO _ _ _ _ (J.r1 (by decide)) (J.r2 (by decide)) (J.r3 (by decide))).mono ?_
            rintro e wz ⟨v_, rfl, hv, hb⟩
            exact hK _ _ ⟨unhide HCC _ (below_step bd0 (below_step J.bl hb)), s1, s2, s3, .tuple #[v_, .iface 22 (.int .i64 2)], s5, rfl, below_step J.bl hb, fun _ => unhide KP1 _ _ _ (J.r1 (by decide)) hb, fun _ => unhide KP2 _ _ _ (J.r2 (by decide)) hb, fun _ => unhide KP3 _ _ _ (J.r3 (by decide)) hb, fun _ => ⟨v_, rfl, hv⟩, fun h => by
              obtain ⟨b, e1, e2, e3⟩ := J.al h
              exact ⟨b, e1, e2.keep hb, e3⟩⟩
        · rintro nc na wv hnc ⟨s1, s2, s3, s4, s5, rfl, J⟩
          subst ha0
          refine wpOp_step rfl (fun K hK => ?_)
          (try simp only [Act.put, List.setIfInBounds_toArray, List.set_cons_zero, List.set_cons_succ] at hK ⊢)
          (try simp only [List.getElem_toArray, List.getElem_cons_succ, List.getElem_cons_zero])
          go_simp
          have hb := alloc_below wv (.cells #[.bool false, .slice none 0 0, .slice none 0 0] 29)
          exact hK _ _ ⟨unhide HCC _ (below_step bd0 (below_step J.bl hb)), s1, s2, s3, s4, .pointer (some ⟨wv.heap.size, 0, none⟩), rfl, below_step J.bl hb, fun h => unhide KP1 _ _ _ (J.r1 h) hb, fun h => unhide KP2 _ _ _ (J.r2 h) hb, fun h => unhide KP3 _ _ _ (J.r3 h) hb, fun h => unhide KP4 _ _ _ (J.r4 h) hb, fun _ => ⟨wv.heap.size, rfl, BoxIs.new (t := zTri) (rat_zero _), J.bl.size⟩⟩
        · rintro nl na wv ⟨s1, s2, s3, s4, s5, rfl, J⟩
          subst ha0
          obtain ⟨v_, rfl, hv_⟩ := J.r4 (by decide)
          obtain ⟨td, rfl, r0⟩ := tri_of hv_
          clear hv_
          simp only [Tri.val]
          (try simp only [Act.put, List.setIfInBounds_toArray, List.set_cons_zero, List.set_cons_succ])
          have hCv : (fun w' : World => (w'.cell? ⟨g0, 0, none⟩ = some (.int .i64 x) ∧ w'.cell? ⟨g0, 1, none⟩ = some (.int .i64 y)) ∧ w'.cell? ⟨g1, 0, none⟩ = some (.int .i64 z) ∧ w'.cell? ⟨g1, 1, none⟩ = some (.int .i64 u)) wv := unhide HCC _ (below_step bd0 J.bl)
          clear hC0
          cases nl with
          | true =>
            obtain ⟨bd, rfl, B10, e10⟩ := J.al rfl
            refine wpHold_take (i := 8) (v := ?_) rfl (by kernel_rfl) (by kernel_rfl) (by kernel_rfl) (fun _ _ _ h => h) (Or.inl ⟨by rfl, ?_⟩) hCv ?_
            rotate_left
            · intro w hSw; clear hSw; go_simp; (try with_reducible rfl)
            (try simp only [List.getElem_toArray, List.getElem_cons_succ, List.getElem_cons_zero])
            (try simp only [Act.put, List.setIfInBounds_toArray, List.set_cons_zero, List.set_cons_succ])
            refine wpHold_take (i := 9) (v := ?_) rfl (by kernel_rfl) (by kernel_rfl) (by kernel_rfl) (fun _ _ _ h => h) (Or.inl ⟨by rfl, ?_⟩) hCv ?_
            rotate_left
            · intro w hSw; clear hSw; go_simp; (try with_reducible rfl)
            (try simp only [List.getElem_toArray, List.getElem_cons_succ, List.getElem_cons_zero])
            (try simp only [Act.put, List.setIfInBounds_toArray, List.set_cons_zero, List.set_cons_succ])
            refine wpHold_take (i := 10) (v := ?_) rfl (by kernel_rfl) (by kernel_rfl) (by kernel_rfl) (fun _ _ _ h => h) (Or.inl ⟨by rfl, ?_⟩) hCv ?_
            rotate_left
            · intro w hSw; clear hSw; go_simp; (try with_reducible rfl)
            (try simp only [List.getElem_toArray, List.getElem_cons_succ, List.getElem_cons_zero])
            (try simp only [Act.put, List.setIfInBounds_toArray, List.set_cons_zero, List.set_cons_succ])
            have ⟨l0, l1, l2⟩ := B10.free
            have ⟨k0, k1, k2⟩ := B10.cells _ (Below.refl _ _)
            have HJB := hide (below_step bd0 J.bl)
            have NB := B10.set r0
            have e10' : w5.heap.size ≤ bd := Nat.le_trans bd0.size e10
            have YB := (((below_step bd0 J.bl).setCell (p := ⟨bd, 0, none⟩) e10' (.bool td.s)).setCell (p := ⟨bd, 1, none⟩) e10' (.slice td.a1 td.n1 td.c1)).setCell (p := ⟨bd, 2, none⟩) e10' (.slice td.a2 td.n2 td.c2)
            have HG_bd := hide e10'
            have hCn : (fun w' : World => (w'.cell? ⟨g0, 0, none⟩ = some (.int .i64 x) ∧ w'.cell? ⟨g0, 1, none⟩ = some (.int .i64 y)) ∧ w'.cell? ⟨g1, 0, none⟩ = some (.int .i64 z) ∧ w'.cell? ⟨g1, 1, none⟩ = some (.int .i64 u)) _ := unhide HCC _ YB
            obtain ⟨Wbd, hWy⟩ : ∃ W, ((wv.setCell ⟨bd, 0, none⟩ (.bool td.s)).setCell ⟨bd, 1, none⟩ (.slice td.a1 td.n1 td.c1)).setCell ⟨bd, 2, none⟩ (.slice td.a2 td.n2 td.c2) = W := ⟨_, rfl⟩
            rw [hWy] at NB YB hCn
            have HX_bd := hide NB
            have HY_bd := hide YB
            clear J B10 YB NB e10' hCv
            refine wpHold_one (k := 12) (by kernel_rfl) rfl (fun K hK => ?_)
            (try simp only [List.getElem_toArray, List.getElem_cons_succ, List.getElem_cons_zero])
            go_simp
            refine hK.out _ _ hCn ?_
            clear hK K
            (try simp only [Act.put, List.setIfInBounds_toArray, List.set_cons_zero, List.set_cons_succ])
            refine wpHold_one (k := 13) (by kernel_rfl) rfl (fun K hK => ?_)
            (try simp only [List.getElem_toArray, List.getElem_cons_succ, List.getElem_cons_zero])
            go_simp
            refine hK.out _ _ hCn ?_
            clear hK K
            (try simp only [Act.put, List.setIfInBounds_toArray, List.set_cons_zero, List.set_cons_succ])
            refine wpHold_done (by kernel_rfl) ?_ _
            clear hCn l0 l1 l2 k0 k1 k2 hWy e10 bd0 hWx r0 HJB KP1 KP2 KP3 KP4
            have HB9 := hide (below_step (unhide HBT) (unhide HY_bd))
            have X1 := unhide HX_bd
            have ⟨d0, d1, d2⟩ := X1.cells _ (Below.refl _ _)
            have HON := hide (one_err td.val bw 2 (unhide HNZ) Wbd X1.2 (tab_below (unhide HTB) (unhide HB9)) ((unhide HGT).below (unhide HB9)))
            simp only [Tri.val] at HON
            clear X1 HX_bd HY_bd HG_bd
            go_wp2_with fail
            refine (unhide HON).mono ?_
            rintro e x4 ⟨rfl, hb4⟩
            have HBZ := hide (below_step (unhide HB9) hb4)
            clear hb4 HON d0 d1 d2
            go_wp2
            go_ret
            exact ⟨rfl, unhide HBZ⟩
          | false =>
            refine wpHold_take (i := 8) (v := ?_) rfl (by kernel_rfl) (by kernel_rfl) (by kernel_rfl) (fun _ _ _ h => h) (Or.inl ⟨by rfl, ?_⟩) hCv ?_
            rotate_left
            · intro w hSw; clear hSw; go_simp; (try with_reducible rfl)
            (try simp only [List.getElem_toArray, List.getElem_cons_succ, List.getElem_cons_zero])
            (try simp only [Act.put, List.setIfInBounds_toArray, List.set_cons_zero, List.set_cons_succ])
            refine wpHold_take (i := 9) (v := ?_) rfl (by kernel_rfl) (by kernel_rfl) (by kernel_rfl) (fun _ _ _ h => h) (Or.inl ⟨by rfl, ?_⟩) hCv ?_
            rotate_left
            · intro w hSw; clear hSw; go_simp; (try with_reducible rfl)
            (try simp only [List.getElem_toArray, List.getElem_cons_succ, List.getElem_cons_zero])
            (try simp only [Act.put, List.setIfInBounds_toArray, List.set_cons_zero, List.set_cons_succ])
            refine wpHold_take (i := 10) (v := ?_) rfl (by kernel_rfl) (by kernel_rfl) (by kernel_rfl) (fun _ _ _ h => h) (Or.inl ⟨by rfl, ?_⟩) hCv ?_
            rotate_left
            · intro w hSw; clear hSw; go_simp; (try with_reducible rfl)
            (try simp only [List.getElem_toArray, List.getElem_cons_succ, List.getElem_cons_zero])
            (try simp only [Act.put, List.setIfInBounds_toArray, List.set_cons_zero, List.set_cons_succ])
            have hbA := alloc_below wv (.cells #[.bool false, .slice none 0 0, .slice none 0 0] 29)
            have B10 := BoxIs.new (w := wv) (t := zTri) (q := 0) (rat_zero _)
            have B10' : BoxIs (wv.alloc (.cells #[.bool false, .slice none 0 0, .slice none 0 0] 29)) wv.heap.size zTri 0 := B10
            have rA := r0.below hbA
            have blA := below_step J.bl hbA
            have hCA : (fun w' : World => (w'.cell? ⟨g0, 0, none⟩ = some (.int .i64 x) ∧ w'.cell? ⟨g0, 1, none⟩ = some (.int .i64 y)) ∧ w'.cell? ⟨g1, 0, none⟩ = some (.int .i64 z) ∧ w'.cell? ⟨g1, 1, none⟩ = some (.int .i64 u)) _ := unhide HCC _ (below_step bd0 blA)
            have e10 : Wx.heap.size ≤ wv.heap.size := J.bl.size
            refine wpHold_one (k := 11) (by kernel_rfl) rfl (fun K hK => ?_)
            (try simp only [List.getElem_toArray, List.getElem_cons_succ, List.getElem_cons_zero])
            go_simp
            refine hK.out _ _ hCA ?_
            clear hK K
            (try simp only [Act.put, List.setIfInBounds_toArray, List.set_cons_zero, List.set_cons_succ])
            obtain ⟨wA, hwA⟩ : ∃ W, wv.alloc (.cells #[.bool false, .slice none 0 0, .slice none 0 0] 29) = W := ⟨_, rfl⟩
            obtain ⟨bd, hbn⟩ : ∃ b, wv.heap.size = b := ⟨_, rfl⟩
            rw [hwA] at B10' rA blA hCA
            rw [hbn] at B10' e10
            simp only [hwA, hbn]
            clear B10 hbA hwA hbn
            replace B10 := B10'
            clear B10'
            have ⟨l0, l1, l2⟩ := B10.free
            have ⟨k0, k1, k2⟩ := B10.cells _ (Below.refl _ _)
            have HJB := hide (below_step bd0 blA)
            have NB := B10.set rA
            have e10' : w5.heap.size ≤ bd := Nat.le_trans bd0.size e10
            have YB := (((below_step bd0 blA).setCell (p := ⟨bd, 0, none⟩) e10' (.bool td.s)).setCell (p := ⟨bd, 1, none⟩) e10' (.slice td.a1 td.n1 td.c1)).setCell (p := ⟨bd, 2, none⟩) e10' (.slice td.a2 td.n2 td.c2)
            have HG_bd := hide e10'
            have hCn : (fun w' : World => (w'.cell? ⟨g0, 0, none⟩ = some (.int .i64 x) ∧ w'.cell? ⟨g0, 1, none⟩ = some (.int .i64 y)) ∧ w'.cell? ⟨g1, 0, none⟩ = some (.int .i64 z) ∧ w'.cell? ⟨g1, 1, none⟩ = some (.int .i64 u)) _ := unhide HCC _ YB
            obtain ⟨Wbd, hWy⟩ : ∃ W, ((wA.setCell ⟨bd, 0, none⟩ (.bool td.s)).setCell ⟨bd, 1, none⟩ (.slice td.a1 td.n1 td.c1)).setCell ⟨bd, 2, none⟩ (.slice td.a2 td.n2 td.c2) = W := ⟨_, rfl⟩
            rw [hWy] at NB YB hCn
            have HX_bd := hide NB
            have HY_bd := hide YB
            clear J B10 YB NB e10' hCv
            refine wpHold_one (k := 12) (by kernel_rfl) rfl (fun K hK => ?_)
            (try simp only [List.getElem_toArray, List.getElem_cons_succ, List.getElem_cons_zero])
            go_simp
            refine hK.out _ _ hCn ?_
            clear hK K
            (try simp only [Act.put, List.setIfInBounds_toArray, List.set_cons_zero, List.set_cons_succ])
            refine wpHold_one (k := 13) (by kernel_rfl) rfl (fun K hK => ?_)
            (try simp only [List.getElem_toArray, List.getElem_cons_succ, List.getElem_cons_zero])
            go_simp
            refine hK.out _ _ hCn ?_
            clear hK K
            (try simp only [Act.put, List.setIfInBounds_toArray, List.set_cons_zero, List.set_cons_succ])
            refine wpHold_done (by kernel_rfl) ?_ _
            clear hCn l0 l1 l2 k0 k1 k2 hWy e10 bd0 hWx r0 HJB KP1 KP2 KP3 KP4 hCA rA blA
            have HB9 := hide (below_step (unhide HBT) (unhide HY_bd))
            have X1 := unhide HX_bd
            have ⟨d0, d1, d2⟩ := X1.cells _ (Below.refl _ _)
            have HON := hide (one_err td.val bw 2 (unhide HNZ) Wbd X1.2 (tab_below (unhide HTB) (unhide HB9)) ((unhide HGT).below (unhide HB9)))
            simp only [Tri.val] at HON
            clear X1 HX_bd HY_bd HG_bd
            go_wp2_with fail
            refine (unhide HON).mono ?_
            rintro e x4 ⟨rfl, hb4⟩
            have HBZ := hide (below_step (unhide HB9) hb4)
            clear hb4 HON d0 d1 d2
            go_wp2
            go_ret
            exact ⟨rfl, unhide HBZ⟩
      · have hp2 : 100 < p := hp0.resolve_left hp1
        clear hp0
        go_wp2_with fail
        refine (unhide HIN).mono ?_
        rintro e w5 ⟨bw, rfl, -, -, hb5⟩
        have HBT2 := hide (below_step (unhide HB4) hb5)
        have HBT := hide (below_step (unhide HB0) (unhide HBT2))
        clear hb5 HIN
        have HBW : Hid (Below W2.heap.size W2 w5) := unhide HBT2
        have HCC : Hid (∀ W, Below w5.heap.size w5 W → (fun w' : World => (w'.cell? ⟨g0, 0, none⟩ = some (.int .i64 x) ∧ w'.cell? ⟨g0, 1, none⟩ = some (.int .i64 y)) ∧ w'.cell? ⟨g1, 0, none⟩ = some (.int .i64 z) ∧ w'.cell? ⟨g1, 1, none⟩ = some (.int .i64 u)) W) := fun W hW => unhide HCQ W (below_step (unhide HBT2) hW)
        have HLO : Hid (∀ (W : World) (v1 v2 v3 : Value), LawIs W v1 (pqs ps) → RatIs W v2 (pq (x, y)) → RatIs W v3 (pq (z, u)) → Calls Tryz.prog 14 #[v1, v2, v3, .int .i64 p] W fun e w' => ∃ v, e = .returned (.tuple #[v, .iface 22 (.int .i64 2)]) ∧ RatIs w' v 0 ∧ Below W.heap.size W w') := fun W v1 v2 v3 h1 h2 h3 => by
          refine (loss_err v1 v2 v3 p 2 _ _ W h2 h3 (by obtain ⟨a, c, e, _⟩ := h1; exact ⟨a, _, c, e⟩) (fun W' hW => ?_)).mono ?_
          · exact overI_bad v1 (pqs ps) 1 p W' (h1.below hW) (unhide HQ) (unhide HKK) (unhide HK) (unhide HP0)
          · rintro e w' ⟨rfl, hb⟩
            exact ⟨_, rfl, rat_zero _, hb⟩
        go_wp2_with fail
        refine wp_region_hold (fun w' : World => (w'.cell? ⟨g0, 0, none⟩ = some (.int .i64 x) ∧ w'.cell? ⟨g0, 1, none⟩ = some (.int .i64 y)) ∧ w'.cell? ⟨g1, 0, none⟩ = some (.int .i64 z) ∧ w'.cell? ⟨g1, 1, none⟩ = some (.int .i64 u)) (by kernel_rfl) ?_
        have bd0 : Below w5.heap.size w5 w5.drew := (Below.refl _ _).drew
        obtain ⟨Wx, hWx⟩ : ∃ W, w5.drew = W := ⟨_, rfl⟩
        rw [hWx] at bd0 ⊢
        have hC0 : (fun w' : World => (w'.cell? ⟨g0, 0, none⟩ = some (.int .i64 x) ∧ w'.cell? ⟨g0, 1, none⟩ = some (.int .i64 y)) ∧ w'.cell? ⟨g1, 0, none⟩ = some (.int .i64 z) ∧ w'.cell? ⟨g1, 1, none⟩ = some (.int .i64 u)) Wx := unhide HCC _ bd0
        have KP1 : Hid (∀ (w w' : World) (s : Value), (fun (w : World) (s : Value) => LawIs w s (pqs ps)) w s → Below w.heap.size w w' → (fun (w : World) (s : Value) => LawIs w s (pqs ps)) w' s) := fun _ _ _ h hb => LawIs.below h hb
        have KP2 : Hid (∀ (w w' : World) (s : Value), (fun (w : World) (s : Value) => RatIs w s (pq (x, y))) w s → Below w.heap.size w w' → (fun (w : World) (s : Value) => RatIs w s (pq (x, y))) w' s) := fun _ _ _ h hb => RatIs.below h hb
        have KP3 : Hid (∀ (w w' : World) (s : Value), (fun (w : World) (s : Value) => RatIs w s (pq (z, u))) w s → Below w.heap.size w w' → (fun (w : World) (s : Value) => RatIs w s (pq (z, u))) w' s) := fun _ _ _ h hb => RatIs.below h hb
        have KP4 : Hid (∀ (w w' : World) (s : Value), (fun (w : World) (s : Value) => ∃ v : Value, s = .tuple #[v, .iface 22 (.int .i64 2)] ∧ RatIs w v 0) w s → Below w.heap.size w w' → (fun (w : World) (s : Value) => ∃ v : Value, s = .tuple #[v, .iface 22 (.int .i64 2)] ∧ RatIs w v 0) w' s) := fun _ _ _ h hb => by obtain ⟨v, h1, h2⟩ := h; exact ⟨v, h1, h2.below hb⟩
        refine wpHold_take (i := 0) (v := ?_) rfl (by kernel_rfl) (by kernel_rfl) (by kernel_rfl) (fun _ _ _ h => h) (Or.inl ⟨by rfl, ?_⟩) hC0 ?_
        rotate_left
        · intro w hSw; clear hSw; go_simp; (try with_reducible rfl)
        (try simp only [List.getElem_toArray, List.getElem_cons_succ, List.getElem_cons_zero])
        (try simp only [Act.put, List.setIfInBounds_toArray, List.set_cons_zero, List.set_cons_succ])
        refine wpHold_take (i := 2) (v := ?_) rfl (by kernel_rfl) (by kernel_rfl) (by kernel_rfl) (fun _ _ _ h => h) (Or.inl ⟨by rfl, ?_⟩) hC0 ?_
        rotate_left
        · intro w hSw; (try dsimp only at hSw); obtain ⟨⟨z0, z1⟩, z2, z3⟩ := hSw; go_simp; (try with_reducible rfl)
        (try simp only [List.getElem_toArray, List.getElem_cons_succ, List.getElem_cons_zero])
        (try simp only [Act.put, List.setIfInBounds_toArray, List.set_cons_zero, List.set_cons_succ])
        refine wpHold_take (i := 4) (v := ?_) rfl (by kernel_rfl) (by kernel_rfl) (by kernel_rfl) (fun _ _ _ h => h) (Or.inl ⟨by rfl, ?_⟩) hC0 ?_
        rotate_left
        · intro w hSw; (try dsimp only at hSw); obtain ⟨⟨z0, z1⟩, z2, z3⟩ := hSw; go_simp; (try with_reducible rfl)
        (try simp only [List.getElem_toArray, List.getElem_cons_succ, List.getElem_cons_zero])
        (try simp only [Act.put, List.setIfInBounds_toArray, List.set_cons_zero, List.set_cons_succ])
        refine wpHold_take (i := 6) (v := ?_) rfl (by kernel_rfl) (by kernel_rfl) (by kernel_rfl) (fun _ _ _ h => h) (Or.inl ⟨by rfl, ?_⟩) hC0 ?_
        rotate_left
        · intro w hSw; clear hSw; go_simp; (try with_reducible rfl)
        (try simp only [List.getElem_toArray, List.getElem_cons_succ, List.getElem_cons_zero])
        (try simp only [Act.put, List.setIfInBounds_toArray, List.set_cons_zero, List.set_cons_succ])
        refine wpHold_listed (n := 10) (L' := (fun nc nl => #[true, decide (1 ≤ nc), true, decide (2 ≤ nc), true, decide (3 ≤ nc), true, decide (4 ≤ nc), false, false, false, nl, false, false]) 0 false) (by kernel_rfl) (by kernel_rfl) ?_
        refine wpHold_name (fun a0 ha0 => ?_)
        refine chain_fin 4 (fun nc nl => #[true, decide (1 ≤ nc), true, decide (2 ≤ nc), true, decide (3 ≤ nc), true, decide (4 ≤ nc), false, false, false, nl, false, false]) (fun nc => match nc with | 0 => 1 | 1 => 3 | 2 => 5 | _ => 7) 11 5 (fun nc nl na W => ∃ s1 s2 s3 s4 s5, na = ((((a0.put (some 43) s1).put (some 45) s2).put (some 47) s3).put (some 49) s4).put (some 12) s5 ∧ Nj4 (fun (w : World) (s : Value) => LawIs w s (pqs ps)) (fun (w : World) (s : Value) => RatIs w s (pq (x, y))) (fun (w : World) (s : Value) => RatIs w s (pq (z, u))) (fun (w : World) (s : Value) => ∃ v : Value, s = .tuple #[v, .iface 22 (.int .i64 2)] ∧ RatIs w v 0) Wx nc nl W s1 s2 s3 s4 s5) ?_ ?_ ?_ ?_ ?_ ?_ ?_ 5 0 false (by omega) (by rfl) _ _ ⟨undef, undef, undef, undef, undef, by subst ha0; rfl, Below.refl _ _, fun h => absurd h (by decide), fun h => absurd h (by decide), fun h => absurd h (by decide), fun h => absurd h (by decide), fun h => by cases h⟩
        · clear ha0
          intro nc nl hnc
          match nc, hnc with
          | 0, _ => cases nl <;> (show (_ : Bool) = _; kernel_rfl)
          | 1, _ => cases nl <;> (show (_ : Bool) = _; kernel_rfl)
          | 2, _ => cases nl <;> (show (_ : Bool) = _; kernel_rfl)
          | 3, _ => cases nl <;> (show (_ : Bool) = _; kernel_rfl)
        · clear ha0
          intro nc nl hnc
          match nc, hnc with
          | 0, _ => cases nl <;> (show (_ : Bool) = _; kernel_rfl)
          | 1, _ => cases nl <;> (show (_ : Bool) = _; kernel_rfl)
          | 2, _ => cases nl <;> (show (_ : Bool) = _; kernel_rfl)
          | 3, _ => cases nl <;> (show (_ : Bool) = _; kernel_rfl)
        · clear ha0
          intro nc nl hnc
          match nc, hnc with
          | 0, _ => rfl
          | 1, _ => rfl
          | 2, _ => rfl
          | 3, _ => rfl
        · clear ha0
          intro nc hnc
          match nc, hnc with
          | 0, _ => rfl
          | 1, _ => rfl
          | 2, _ => rfl
          | 3, _ => rfl
        · rintro nc nl na wv hnc ⟨s1, s2, s3, s4, s5, rfl, J⟩
          subst ha0
          match nc, hnc, J with
          | 0, _, J =>
            refine wpOp_step rfl (fun K hK => ?_)
            (try simp only [Act.put, List.setIfInBounds_toArray, List.set_cons_zero, List.set_cons_succ] at hK ⊢)
            (try simp only [List.getElem_toArray, List.getElem_cons_succ, List.getElem_cons_zero])
            go_simp
            refine (law_any v ps _ (unhide HPW _ (below_step (unhide HBW) (below_step bd0 J.bl))) (unhide HPL)).mono ?_
            rintro e wz ⟨v_, rfl, hv, hb⟩
            exact hK _ _ ⟨unhide HCC _ (below_step bd0 (below_step J.bl hb)), v_, s2, s3, s4, s5, rfl, below_step J.bl hb, fun _ => hv, fun h => absurd h (by decide), fun h => absurd h (by decide), fun h => absurd h (by decide), fun h => by
              obtain ⟨b, e1, e2, e3⟩ := J.al h
              exact ⟨b, e1, e2.keep hb, e3⟩⟩
          | 1, _, J =>
            refine wpOp_step rfl (fun K hK => ?_)
            (try simp only [Act.put, List.setIfInBounds_toArray, List.set_cons_zero, List.set_cons_succ] at hK ⊢)
            (try simp only [List.getElem_toArray, List.getElem_cons_succ, List.getElem_cons_zero])
            go_simp
            refine (f_any x y (unhide HIX).1 (unhide HIX).2 (unhide HIY).1 (unhide HIY).2 _).mono ?_
            rintro e wz ⟨v_, rfl, hv, hb⟩
            exact hK _ _ ⟨unhide HCC _ (below_step bd0 (below_step J.bl hb)), s1, v_, s3, s4, s5, rfl, below_step J.bl hb, fun _ => unhide KP1 _ _ _ (J.r1 (by decide)) hb, fun _ => hv, fun h => absurd h (by decide), fun h => absurd h (by decide), fun h => by
              obtain ⟨b, e1, e2, e3⟩ := J.al h
              exact ⟨b, e1, e2.keep hb, e3⟩⟩
          | 2, _, J =>
            refine wpOp_step rfl (fun K hK => ?_)
            (try simp only [Act.put, List.setIfInBounds_toArray, List.set_cons_zero, List.set_cons_succ] at hK ⊢)
            (try simp only [List.getElem_toArray, List.getElem_cons_succ, List.getElem_cons_zero])
            go_simp
            refine (f_any z u (unhide HIZ).1 (unhide HIZ).2 (unhide HIU).1 (unhide HIU).2 _).mono ?_
            rintro e wz ⟨v_, rfl, hv, hb⟩
            exact hK _ _ ⟨unhide HCC _ (below_step bd0 (below_step J.bl hb)), s1, s2, v_, s4, s5, rfl, below_step J.bl hb, fun _ => unhide KP1 _ _ _ (J.r1 (by decide)) hb, fun _ => unhide KP2 _ _ _ (J.r2 (by decide)) hb, fun _ => hv, fun h => absurd h (by decide), fun h => by
              obtain ⟨b, e1, e2, e3⟩ := J.al h
              exact ⟨b, e1, e2.keep hb, e3⟩⟩
          | 3, _, J =>
            refine wpOp_step rfl (fun K hK => ?_)
            (try simp only [Act.put, List.setIfInBounds_toArray, List.set_cons_zero, List.set_cons_succ] at hK ⊢)
            (try simp only [List.getElem_toArray, List.getElem_cons_succ, List.getElem_cons_zero])
            go_simp
            refine (unhide HLO _ _ _ _ (J.r1 (by decide)) (J.r2 (by decide)) (J.r3 (by decide))).mono ?_
            rintro e wz ⟨v_, rfl, hv, hb⟩
            exact hK _ _ ⟨unhide HCC _ (below_step bd0 (below_step J.bl hb)), s1, s2, s3, .tuple #[v_, .iface 22 (.int .i64 2)], s5, rfl, below_step J.bl hb, fun _ => unhide KP1 _ _ _ (J.r1 (by decide)) hb, fun _ => unhide KP2 _ _ _ (J.r2 (by decide)) hb, fun _ => unhide KP3 _ _ _ (J.r3 (by decide)) hb, fun _ => ⟨v_, rfl, hv⟩, fun h => by
              obtain ⟨b, e1, e2, e3⟩ := J.al h
              exact ⟨b, e1, e2.keep hb, e3⟩⟩
        · rintro nc na wv hnc ⟨s1, s2, s3, s4, s5, rfl, J⟩
          subst ha0
          refine wpOp_step rfl (fun K hK => ?_)
          (try simp only [Act.put, List.setIfInBounds_toArray, List.set_cons_zero, List.set_cons_succ] at hK ⊢)
          (try simp only [List.getElem_toArray, List.getElem_cons_succ, List.getElem_cons_zero])
          go_simp
          have hb := alloc_below wv (.cells #[.bool false, .slice none 0 0, .slice none 0 0] 29)
          exact hK _ _ ⟨unhide HCC _ (below_step bd0 (below_step J.bl hb)), s1, s2, s3, s4, .pointer (some ⟨wv.heap.size, 0, none⟩), rfl, below_step J.bl hb, fun h => unhide KP1 _ _ _ (J.r1 h) hb, fun h => unhide KP2 _ _ _ (J.r2 h) hb, fun h => unhide KP3 _ _ _ (J.r3 h) hb, fun h => unhide KP4 _ _ _ (J.r4 h) hb, fun _ => ⟨wv.heap.size, rfl, BoxIs.new (t := zTri) (rat_zero _), J.bl.size⟩⟩
        · rintro nl na wv ⟨s1, s2, s3, s4, s5, rfl, J⟩
          subst ha0
          obtain ⟨v_, rfl, hv_⟩ := J.r4 (by decide)
          obtain ⟨td, rfl, r0⟩ := tri_of hv_
          clear hv_
          simp only [Tri.val]
          (try simp only [Act.put, List.setIfInBounds_toArray, List.set_cons_zero, List.set_cons_succ])
          have hCv : (fun w' : World => (w'.cell? ⟨g0, 0, none⟩ = some (.int .i64 x) ∧ w'.cell? ⟨g0, 1, none⟩ = some (.int .i64 y)) ∧ w'.cell? ⟨g1, 0, none⟩ = some (.int .i64 z) ∧ w'.cell? ⟨g1, 1, none⟩ = some (.int .i64 u)) wv := unhide HCC _ (below_step bd0 J.bl)
          clear hC0
          cases nl with
          | true =>
            obtain ⟨bd, rfl, B10, e10⟩ := J.al rfl
            refine wpHold_take (i := 8) (v := ?_) rfl (by kernel_rfl) (by kernel_rfl) (by kernel_rfl) (fun _ _ _ h => h) (Or.inl ⟨by rfl, ?_⟩) hCv ?_
            rotate_left
            · intro w hSw; clear hSw; go_simp; (try with_reducible rfl)
            (try simp only [List.getElem_toArray, List.getElem_cons_succ, List.getElem_cons_zero])
            (try simp only [Act.put, List.setIfInBounds_toArray, List.set_cons_zero, List.set_cons_succ])
            refine wpHold_take (i := 9) (v := ?_) rfl (by kernel_rfl) (by kernel_rfl) (by kernel_rfl) (fun _ _ _ h => h) (Or.inl ⟨by rfl, ?_⟩) hCv ?_
            rotate_left
            · intro w hSw; clear hSw; go_simp; (try with_reducible rfl)
            (try simp only [List.getElem_toArray, List.getElem_cons_succ, List.getElem_cons_zero])
            (try simp only [Act.put, List.setIfInBounds_toArray, List.set_cons_zero, List.set_cons_succ])
            refine wpHold_take (i := 10) (v := ?_) rfl (by kernel_rfl) (by kernel_rfl) (by kernel_rfl) (fun _ _ _ h => h) (Or.inl ⟨by rfl, ?_⟩) hCv ?_
            rotate_left
            · intro w hSw; clear hSw; go_simp; (try with_reducible rfl)
            (try simp only [List.getElem_toArray, List.getElem_cons_succ, List.getElem_cons_zero])
            (try simp only [Act.put, List.setIfInBounds_toArray, List.set_cons_zero, List.set_cons_succ])
            have ⟨l0, l1, l2⟩ := B10.free
            have ⟨k0, k1, k2⟩ := B10.cells _ (Below.refl _ _)
            have HJB := hide (below_step bd0 J.bl)
            have NB := B10.set r0
            have e10' : w5.heap.size ≤ bd := Nat.le_trans bd0.size e10
            have YB := (((below_step bd0 J.bl).setCell (p := ⟨bd, 0, none⟩) e10' (.bool td.s)).setCell (p := ⟨bd, 1, none⟩) e10' (.slice td.a1 td.n1 td.c1)).setCell (p := ⟨bd, 2, none⟩) e10' (.slice td.a2 td.n2 td.c2)
            have HG_bd := hide e10'
            have hCn : (fun w' : World => (w'.cell? ⟨g0, 0, none⟩ = some (.int .i64 x) ∧ w'.cell? ⟨g0, 1, none⟩ = some (.int .i64 y)) ∧ w'.cell? ⟨g1, 0, none⟩ = some (.int .i64 z) ∧ w'.cell? ⟨g1, 1, none⟩ = some (.int .i64 u)) _ := unhide HCC _ YB
            obtain ⟨Wbd, hWy⟩ : ∃ W, ((wv.setCell ⟨bd, 0, none⟩ (.bool td.s)).setCell ⟨bd, 1, none⟩ (.slice td.a1 td.n1 td.c1)).setCell ⟨bd, 2, none⟩ (.slice td.a2 td.n2 td.c2) = W := ⟨_, rfl⟩
            rw [hWy] at NB YB hCn
            have HX_bd := hide NB
            have HY_bd := hide YB
            clear J B10 YB NB e10' hCv
            refine wpHold_one (k := 12) (by kernel_rfl) rfl (fun K hK => ?_)
            (try simp only [List.getElem_toArray, List.getElem_cons_succ, List.getElem_cons_zero])
            go_simp
            refine hK.out _ _ hCn ?_
            clear hK K
            (try simp only [Act.put, List.setIfInBounds_toArray, List.set_cons_zero, List.set_cons_succ])
            refine wpHold_one (k := 13) (by kernel_rfl) rfl (fun K hK => ?_)
            (try simp only [List.getElem_toArray, List.getElem_cons_succ, List.getElem_cons_zero])
            go_simp
            refine hK.out _ _ hCn ?_
            clear hK K
            (try simp only [Act.put, List.setIfInBounds_toArray, List.set_cons_zero, List.set_cons_succ])
            refine wpHold_done (by kernel_rfl) ?_ _
            clear hCn l0 l1 l2 k0 k1 k2 hWy e10 bd0 hWx r0 HJB KP1 KP2 KP3 KP4
            have HB9 := hide (below_step (unhide HBT) (unhide HY_bd))
            have X1 := unhide HX_bd
            have ⟨d0, d1, d2⟩ := X1.cells _ (Below.refl _ _)
            have HON := hide (one_err td.val bw 2 (unhide HNZ) Wbd X1.2 (tab_below (unhide HTB) (unhide HB9)) ((unhide HGT).below (unhide HB9)))
            simp only [Tri.val] at HON
            clear X1 HX_bd HY_bd HG_bd
            go_wp2_with fail
            refine (unhide HON).mono ?_
            rintro e x4 ⟨rfl, hb4⟩
            have HBZ := hide (below_step (unhide HB9) hb4)
            clear hb4 HON d0 d1 d2
            go_wp2
            go_ret
            exact ⟨rfl, unhide HBZ⟩
          | false =>
            refine wpHold_take (i := 8) (v := ?_) rfl (by kernel_rfl) (by kernel_rfl) (by kernel_rfl) (fun _ _ _ h => h) (Or.inl ⟨by rfl, ?_⟩) hCv ?_
            rotate_left
            · intro w hSw; clear hSw; go_simp; (try with_reducible rfl)
            (try simp only [List.getElem_toArray, List.getElem_cons_succ, List.getElem_cons_zero])
            (try simp only [Act.put, List.setIfInBounds_toArray, List.set_cons_zero, List.set_cons_succ])
            refine wpHold_take (i := 9) (v := ?_) rfl (by kernel_rfl) (by kernel_rfl) (by kernel_rfl) (fun _ _ _ h => h) (Or.inl ⟨by rfl, ?_⟩) hCv ?_
            rotate_left
            · intro w hSw; clear hSw; go_simp; (try with_reducible rfl)
            (try simp only [List.getElem_toArray, List.getElem_cons_succ, List.getElem_cons_zero])
            (try simp only [Act.put, List.setIfInBounds_toArray, List.set_cons_zero, List.set_cons_succ])
            refine wpHold_take (i := 10) (v := ?_) rfl (by kernel_rfl) (by kernel_rfl) (by kernel_rfl) (fun _ _ _ h => h) (Or.inl ⟨by rfl, ?_⟩) hCv ?_
            rotate_left
            · intro w hSw; clear hSw; go_simp; (try with_reducible rfl)
            (try simp only [List.getElem_toArray, List.getElem_cons_succ, List.getElem_cons_zero])
            (try simp only [Act.put, List.setIfInBounds_toArray, List.set_cons_zero, List.set_cons_succ])
            have hbA := alloc_below wv (.cells #[.bool false, .slice none 0 0, .slice none 0 0] 29)
            have B10 := BoxIs.new (w := wv) (t := zTri) (q := 0) (rat_zero _)
            have B10' : BoxIs (wv.alloc (.cells #[.bool false, .slice none 0 0, .slice none 0 0] 29)) wv.heap.size zTri 0 := B10
            have rA := r0.below hbA
            have blA := below_step J.bl hbA
            have hCA : (fun w' : World => (w'.cell? ⟨g0, 0, none⟩ = some (.int .i64 x) ∧ w'.cell? ⟨g0, 1, none⟩ = some (.int .i64 y)) ∧ w'.cell? ⟨g1, 0, none⟩ = some (.int .i64 z) ∧ w'.cell? ⟨g1, 1, none⟩ = some (.int .i64 u)) _ := unhide HCC _ (below_step bd0 blA)
            have e10 : Wx.heap.size ≤ wv.heap.size := J.bl.size
            refine wpHold_one (k := 11) (by kernel_rfl) rfl (fun K hK => ?_)
            (try simp only [List.getElem_toArray, List.getElem_cons_succ, List.getElem_cons_zero])
            go_simp
            refine hK.out _ _ hCA ?_
            clear hK K
            (try simp only [Act.put, List.setIfInBounds_toArray, List.set_cons_zero, List.set_cons_succ])
            obtain ⟨wA, hwA⟩ : ∃ W, wv.alloc (.cells #[.bool false, .slice none 0 0, .slice none 0 0] 29) = W := ⟨_, rfl⟩
            obtain ⟨bd, hbn⟩ : ∃ b, wv.heap.size = b := ⟨_, rfl⟩
            rw [hwA] at B10' rA blA hCA
            rw [hbn] at B10' e10
            simp only [hwA, hbn]
            clear B10 hbA hwA hbn
            replace B10 := B10'
            clear B10'
            have ⟨l0, l1, l2⟩ := B10.free
            have ⟨k0, k1, k2⟩ := B10.cells _ (Below.refl _ _)
            have HJB := hide (below_step bd0 blA)
            have NB := B10.set rA
            have e10' : w5.heap.size ≤ bd := Nat.le_trans bd0.size e10
            have YB := (((below_step bd0 blA).setCell (p := ⟨bd, 0, none⟩) e10' (.bool td.s)).setCell (p := ⟨bd, 1, none⟩) e10' (.slice td.a1 td.n1 td.c1)).setCell (p := ⟨bd, 2, none⟩) e10' (.slice td.a2 td.n2 td.c2)
            have HG_bd := hide e10'
            have hCn : (fun w' : World => (w'.cell? ⟨g0, 0, none⟩ = some (.int .i64 x) ∧ w'.cell? ⟨g0, 1, none⟩ = some (.int .i64 y)) ∧ w'.cell? ⟨g1, 0, none⟩ = some (.int .i64 z) ∧ w'.cell? ⟨g1, 1, none⟩ = some (.int .i64 u)) _ := unhide HCC _ YB
            obtain ⟨Wbd, hWy⟩ : ∃ W, ((wA.setCell ⟨bd, 0, none⟩ (.bool td.s)).setCell ⟨bd, 1, none⟩ (.slice td.a1 td.n1 td.c1)).setCell ⟨bd, 2, none⟩ (.slice td.a2 td.n2 td.c2) = W := ⟨_, rfl⟩
            rw [hWy] at NB YB hCn
            have HX_bd := hide NB
            have HY_bd := hide YB
            clear J B10 YB NB e10' hCv
            refine wpHold_one (k := 12) (by kernel_rfl) rfl (fun K hK => ?_)
            (try simp only [List.getElem_toArray, List.getElem_cons_succ, List.getElem_cons_zero])
            go_simp
            refine hK.out _ _ hCn ?_
            clear hK K
            (try simp only [Act.put, List.setIfInBounds_toArray, List.set_cons_zero, List.set_cons_succ])
            refine wpHold_one (k := 13) (by kernel_rfl) rfl (fun K hK => ?_)
            (try simp only [List.getElem_toArray, List.getElem_cons_succ, List.getElem_cons_zero])
            go_simp
            refine hK.out _ _ hCn ?_
            clear hK K
            (try simp only [Act.put, List.setIfInBounds_toArray, List.set_cons_zero, List.set_cons_succ])
            refine wpHold_done (by kernel_rfl) ?_ _
            clear hCn l0 l1 l2 k0 k1 k2 hWy e10 bd0 hWx r0 HJB KP1 KP2 KP3 KP4 hCA rA blA
            have HB9 := hide (below_step (unhide HBT) (unhide HY_bd))
            have X1 := unhide HX_bd
            have ⟨d0, d1, d2⟩ := X1.cells _ (Below.refl _ _)
            have HON := hide (one_err td.val bw 2 (unhide HNZ) Wbd X1.2 (tab_below (unhide HTB) (unhide HB9)) ((unhide HGT).below (unhide HB9)))
            simp only [Tri.val] at HON
            clear X1 HX_bd HY_bd HG_bd
            go_wp2_with fail
            refine (unhide HON).mono ?_
            rintro e x4 ⟨rfl, hb4⟩
            have HBZ := hide (below_step (unhide HB9) hb4)
            clear hb4 HON d0 d1 d2
            go_wp2
            go_ret
            exact ⟨rfl, unhide HBZ⟩
    · obtain ⟨pn, rfl⟩ : ∃ pn : Nat, p = (pn : Int) := ⟨p.toNat, by omega⟩
      have HPN : Hid (pn ≤ 100) := by show _ ≤ _; omega
      have hp1 : ¬ (pn : Int) < 0 := by omega
      have hp2 : ¬ 100 < (pn : Int) := by omega
      have HLN := hide (chk_zero (unhide HK)).2.1
      have HWR : Hid (RS (lossV (pqs ps) (pq (x, y)) (pq (z, u)) pn) 2000) := lossV_RS (unhide HQ) (unhide HLN) (unhide HRA) (unhide HRB) (unhide HPN)
      clear hp0
      go_wp2_with fail
      refine (unhide HIN).mono ?_
      rintro e w5 ⟨b5, rfl, -, -, hb5⟩
      have HB5 := hide (below_step (unhide HB4) hb5)
      have HL5 := hide ((unhide HL4).below hb5)
      have HC5 : Hid (∀ W, Below w5.heap.size w5 W → (fun w' : World => (w'.cell? ⟨g0, 0, none⟩ = some (.int .i64 x) ∧ w'.cell? ⟨g0, 1, none⟩ = some (.int .i64 y)) ∧ w'.cell? ⟨g1, 0, none⟩ = some (.int .i64 z) ∧ w'.cell? ⟨g1, 1, none⟩ = some (.int .i64 u)) W) := fun W hW => unhide HCQ W (below_step (unhide HB5) hW)
      clear hb5 HIN
      go_wp2_with fail
      refine wp_region_hold (fun w' : World => (w'.cell? ⟨g0, 0, none⟩ = some (.int .i64 x) ∧ w'.cell? ⟨g0, 1, none⟩ = some (.int .i64 y)) ∧ w'.cell? ⟨g1, 0, none⟩ = some (.int .i64 z) ∧ w'.cell? ⟨g1, 1, none⟩ = some (.int .i64 u)) (by kernel_rfl) ?_
      have bd0 : Below w5.heap.size w5 w5.drew := (Below.refl _ _).drew
      have hC0 : (fun w' : World => (w'.cell? ⟨g0, 0, none⟩ = some (.int .i64 x) ∧ w'.cell? ⟨g0, 1, none⟩ = some (.int .i64 y)) ∧ w'.cell? ⟨g1, 0, none⟩ = some (.int .i64 z) ∧ w'.cell? ⟨g1, 1, none⟩ = some (.int .i64 u)) w5.drew := unhide HC5 _ bd0
      refine wpHold_take (i := 0) (v := ?_) rfl (by kernel_rfl) (by kernel_rfl) (by kernel_rfl) (fun _ _ _ h => h) (Or.inl ⟨by rfl, ?_⟩) hC0 ?_
      rotate_left
      · intro w hSw; clear hSw; go_simp; (try with_reducible rfl)
      (try simp only [List.getElem_toArray, List.getElem_cons_succ, List.getElem_cons_zero])
      (try simp only [Act.put, List.setIfInBounds_toArray, List.set_cons_zero, List.set_cons_succ])
      refine wpHold_take (i := 1) (v := ?_) rfl (by kernel_rfl) (by kernel_rfl) (by kernel_rfl) (fun _ _ _ h => h) (Or.inl ⟨by rfl, ?_⟩) hC0 ?_
      rotate_left
      · intro w hSw; (try dsimp only at hSw); obtain ⟨⟨z0, z1⟩, z2, z3⟩ := hSw; go_simp; (try with_reducible rfl)
      (try simp only [List.getElem_toArray, List.getElem_cons_succ, List.getElem_cons_zero])
      (try simp only [Act.put, List.setIfInBounds_toArray, List.set_cons_zero, List.set_cons_succ])
      refine wpHold_take (i := 3) (v := ?_) rfl (by kernel_rfl) (by kernel_rfl) (by kernel_rfl) (fun _ _ _ h => h) (Or.inl ⟨by rfl, ?_⟩) hC0 ?_
      rotate_left
      · intro w hSw; (try dsimp only at hSw); obtain ⟨⟨z0, z1⟩, z2, z3⟩ := hSw; go_simp; (try with_reducible rfl)
      (try simp only [List.getElem_toArray, List.getElem_cons_succ, List.getElem_cons_zero])
      (try simp only [Act.put, List.setIfInBounds_toArray, List.set_cons_zero, List.set_cons_succ])
      refine wpHold_take (i := 5) (v := ?_) rfl (by kernel_rfl) (by kernel_rfl) (by kernel_rfl) (fun _ _ _ h => h) (Or.inl ⟨by rfl, ?_⟩) hC0 ?_
      rotate_left
      · intro w hSw; clear hSw; go_simp; (try with_reducible rfl)
      (try simp only [List.getElem_toArray, List.getElem_cons_succ, List.getElem_cons_zero])
      (try simp only [Act.put, List.setIfInBounds_toArray, List.set_cons_zero, List.set_cons_succ])
      refine wpHold_one (k := 2) (by kernel_rfl) rfl (fun K hK => ?_)
      (try simp only [List.getElem_toArray, List.getElem_cons_succ, List.getElem_cons_zero])
      go_simp
      refine (refOf_any x y (unhide HIX) (unhide HIY) _).mono ?_
      rintro e xw_1 ⟨bl_, rfl, -, hr_a, hb_1⟩
      have cc_1 := below_step bd0 hb_1
      have hC_1 : (fun w' : World => (w'.cell? ⟨g0, 0, none⟩ = some (.int .i64 x) ∧ w'.cell? ⟨g0, 1, none⟩ = some (.int .i64 y)) ∧ w'.cell? ⟨g1, 0, none⟩ = some (.int .i64 z) ∧ w'.cell? ⟨g1, 1, none⟩ = some (.int .i64 u)) xw_1 := unhide HC5 _ cc_1
      refine hK.out _ _ hC_1 ?_
      clear hK K
      (try simp only [Act.put, List.setIfInBounds_toArray, List.set_cons_zero, List.set_cons_succ])
      refine wpHold_one (k := 4) (by kernel_rfl) rfl (fun K hK => ?_)
      (try simp only [List.getElem_toArray, List.getElem_cons_succ, List.getElem_cons_zero])
      go_simp
      refine (refOf_any z u (unhide HIZ) (unhide HIU) _).mono ?_
      rintro e xw_2 ⟨bf_, rfl, -, hr_b, hb_2⟩
      have cc_2 := below_step cc_1 hb_2
      have hC_2 : (fun w' : World => (w'.cell? ⟨g0, 0, none⟩ = some (.int .i64 x) ∧ w'.cell? ⟨g0, 1, none⟩ = some (.int .i64 y)) ∧ w'.cell? ⟨g1, 0, none⟩ = some (.int .i64 z) ∧ w'.cell? ⟨g1, 1, none⟩ = some (.int .i64 u)) xw_2 := unhide HC5 _ cc_2
      refine hK.out _ _ hC_2 ?_
      clear hK K
      (try simp only [Act.put, List.setIfInBounds_toArray, List.set_cons_zero, List.set_cons_succ])
      refine wpHold_one (k := 6) (by kernel_rfl) rfl (fun K hK => ?_)
      (try simp only [List.getElem_toArray, List.getElem_cons_succ, List.getElem_cons_zero])
      go_simp
      refine (refLoss_any v2 bl_ bf_ (pqs ps) (pq (x, y)) (pq (z, u)) pn _ ((unhide HL5).below cc_2) (hr_a.below hb_2) hr_b (unhide HQ) (unhide HRA) (unhide HRB) (unhide HLN) (unhide HPN)).mono ?_
      rintro e xw_3 ⟨bw, rfl, -, hr_w, hb_3⟩
      have cc_3 := below_step cc_2 hb_3
      have hC_3 : (fun w' : World => (w'.cell? ⟨g0, 0, none⟩ = some (.int .i64 x) ∧ w'.cell? ⟨g0, 1, none⟩ = some (.int .i64 y)) ∧ w'.cell? ⟨g1, 0, none⟩ = some (.int .i64 z) ∧ w'.cell? ⟨g1, 1, none⟩ = some (.int .i64 u)) xw_3 := unhide HC5 _ cc_3
      refine hK.out _ _ hC_3 ?_
      clear hK K
      (try simp only [Act.put, List.setIfInBounds_toArray, List.set_cons_zero, List.set_cons_succ])
      refine wpHold_one (k := 7) (by kernel_rfl) rfl (fun K hK => ?_)
      (try simp only [List.getElem_toArray, List.getElem_cons_succ, List.getElem_cons_zero])
      go_simp
      refine hK.out _ _ hC_3 ?_
      clear hK K
      (try simp only [Act.put, List.setIfInBounds_toArray, List.set_cons_zero, List.set_cons_succ])
      refine wpHold_done (by kernel_rfl) ?_ _
      have HWX := hide hr_w
      have HBT2 := hide (below_step (unhide HB5) cc_3)
      have HBT := hide (below_step (unhide HB0) (unhide HBT2))
      clear hr_a hr_b hr_w hb_1 hb_2 hb_3 cc_1 cc_2 cc_3 hC0 hC_1 hC_2 hC_3 bd0 HC5
      have HBW : Hid (Below W2.heap.size W2 xw_3) := unhide HBT2
      have HCC : Hid (∀ W, Below xw_3.heap.size xw_3 W → (fun w' : World => (w'.cell? ⟨g0, 0, none⟩ = some (.int .i64 x) ∧ w'.cell? ⟨g0, 1, none⟩ = some (.int .i64 y)) ∧ w'.cell? ⟨g1, 0, none⟩ = some (.int .i64 z) ∧ w'.cell? ⟨g1, 1, none⟩ = some (.int .i64 u)) W) := fun W hW => unhide HCQ W (below_step (unhide HBT2) hW)
      have HLO : Hid (∀ (W : World) (v1 v2 v3 : Value), LawIs W v1 (pqs ps) → RatIs W v2 (pq (x, y)) → RatIs W v3 (pq (z, u)) → Calls Tryz.prog 14 #[v1, v2, v3, .int .i64 (pn : Int)] W fun e w' => ∃ v, e = .returned (.tuple #[v, .nilIface]) ∧ RatIs w' v (lossV (pqs ps) (pq (x, y)) (pq (z, u)) pn) ∧ Below W.heap.size W w') := fun W v1 v2 v3 h1 h2 h3 => by
        exact loss_any v1 v2 v3 _ _ _ pn W h1 h2 h3 (unhide HQ) (unhide HRA) (unhide HRB) (unhide HK) (unhide HPN)
      go_wp2_with fail
      refine wp_region_hold (fun w' : World => (w'.cell? ⟨g0, 0, none⟩ = some (.int .i64 x) ∧ w'.cell? ⟨g0, 1, none⟩ = some (.int .i64 y)) ∧ w'.cell? ⟨g1, 0, none⟩ = some (.int .i64 z) ∧ w'.cell? ⟨g1, 1, none⟩ = some (.int .i64 u)) (by kernel_rfl) ?_
      have bd0 : Below xw_3.heap.size xw_3 xw_3.drew := (Below.refl _ _).drew
      obtain ⟨Wx, hWx⟩ : ∃ W, xw_3.drew = W := ⟨_, rfl⟩
      rw [hWx] at bd0 ⊢
      have hC0 : (fun w' : World => (w'.cell? ⟨g0, 0, none⟩ = some (.int .i64 x) ∧ w'.cell? ⟨g0, 1, none⟩ = some (.int .i64 y)) ∧ w'.cell? ⟨g1, 0, none⟩ = some (.int .i64 z) ∧ w'.cell? ⟨g1, 1, none⟩ = some (.int .i64 u)) Wx := unhide HCC _ bd0
      have KP1 : Hid (∀ (w w' : World) (s : Value), (fun (w : World) (s : Value) => LawIs w s (pqs ps)) w s → Below w.heap.size w w' → (fun (w : World) (s : Value) => LawIs w s (pqs ps)) w' s) := fun _ _ _ h hb => LawIs.below h hb
      have KP2 : Hid (∀ (w w' : World) (s : Value), (fun (w : World) (s : Value) => RatIs w s (pq (x, y))) w s → Below w.heap.size w w' → (fun (w : World) (s : Value) => RatIs w s (pq (x, y))) w' s) := fun _ _ _ h hb => RatIs.below h hb
      have KP3 : Hid (∀ (w w' : World) (s : Value), (fun (w : World) (s : Value) => RatIs w s (pq (z, u))) w s → Below w.heap.size w w' → (fun (w : World) (s : Value) => RatIs w s (pq (z, u))) w' s) := fun _ _ _ h hb => RatIs.below h hb
      have KP4 : Hid (∀ (w w' : World) (s : Value), (fun (w : World) (s : Value) => ∃ v : Value, s = .tuple #[v, .nilIface] ∧ RatIs w v (lossV (pqs ps) (pq (x, y)) (pq (z, u)) pn)) w s → Below w.heap.size w w' → (fun (w : World) (s : Value) => ∃ v : Value, s = .tuple #[v, .nilIface] ∧ RatIs w v (lossV (pqs ps) (pq (x, y)) (pq (z, u)) pn)) w' s) := fun _ _ _ h hb => by obtain ⟨v, h1, h2⟩ := h; exact ⟨v, h1, h2.below hb⟩
      refine wpHold_take (i := 0) (v := ?_) rfl (by kernel_rfl) (by kernel_rfl) (by kernel_rfl) (fun _ _ _ h => h) (Or.inl ⟨by rfl, ?_⟩) hC0 ?_
      rotate_left
      · intro w hSw; clear hSw; go_simp; (try with_reducible rfl)
      (try simp only [List.getElem_toArray, List.getElem_cons_succ, List.getElem_cons_zero])
      (try simp only [Act.put, List.setIfInBounds_toArray, List.set_cons_zero, List.set_cons_succ])
      refine wpHold_take (i := 2) (v := ?_) rfl (by kernel_rfl) (by kernel_rfl) (by kernel_rfl) (fun _ _ _ h => h) (Or.inl ⟨by rfl, ?_⟩) hC0 ?_
      rotate_left
      · intro w hSw; (try dsimp only at hSw); obtain ⟨⟨z0, z1⟩, z2, z3⟩ := hSw; go_simp; (try with_reducible rfl)
      (try simp only [List.getElem_toArray, List.getElem_cons_succ, List.getElem_cons_zero])
      (try simp only [Act.put, List.setIfInBounds_toArray, List.set_cons_zero, List.set_cons_succ])
      refine wpHold_take (i := 4) (v := ?_) rfl (by kernel_rfl) (by kernel_rfl) (by kernel_rfl) (fun _ _ _ h => h) (Or.inl ⟨by rfl, ?_⟩) hC0 ?_
      rotate_left
      · intro w hSw; (try dsimp only at hSw); obtain ⟨⟨z0, z1⟩, z2, z3⟩ := hSw; go_simp; (try with_reducible rfl)
      (try simp only [List.getElem_toArray, List.getElem_cons_succ, List.getElem_cons_zero])
      (try simp only [Act.put, List.setIfInBounds_toArray, List.set_cons_zero, List.set_cons_succ])
      refine wpHold_take (i := 6) (v := ?_) rfl (by kernel_rfl) (by kernel_rfl) (by kernel_rfl) (fun _ _ _ h => h) (Or.inl ⟨by rfl, ?_⟩) hC0 ?_
      rotate_left
      · intro w hSw; clear hSw; go_simp; (try with_reducible rfl)
      (try simp only [List.getElem_toArray, List.getElem_cons_succ, List.getElem_cons_zero])
      (try simp only [Act.put, List.setIfInBounds_toArray, List.set_cons_zero, List.set_cons_succ])
      refine wpHold_listed (n := 10) (L' := (fun nc nl => #[true, decide (1 ≤ nc), true, decide (2 ≤ nc), true, decide (3 ≤ nc), true, decide (4 ≤ nc), false, false, false, nl, false, false]) 0 false) (by kernel_rfl) (by kernel_rfl) ?_
      refine wpHold_name (fun a0 ha0 => ?_)
      refine chain_fin 4 (fun nc nl => #[true, decide (1 ≤ nc), true, decide (2 ≤ nc), true, decide (3 ≤ nc), true, decide (4 ≤ nc), false, false, false, nl, false, false]) (fun nc => match nc with | 0 => 1 | 1 => 3 | 2 => 5 | _ => 7) 11 5 (fun nc nl na W => ∃ s1 s2 s3 s4 s5, na = ((((a0.put (some 43) s1).put (some 45) s2).put (some 47) s3).put (some 49) s4).put (some 12) s5 ∧ Nj4 (fun (w : World) (s : Value) => LawIs w s (pqs ps)) (fun (w : World) (s : Value) => RatIs w s (pq (x, y))) (fun (w : World) (s : Value) => RatIs w s (pq (z, u))) (fun (w : World) (s : Value) => ∃ v : Value, s = .tuple #[v, .nilIface] ∧ RatIs w v (lossV (pqs ps) (pq (x, y)) (pq (z, u)) pn)) Wx nc nl W s1 s2 s3 s4 s5) ?_ ?_ ?_ ?_ ?_ ?_ ?_ 5 0 false (by omega) (by rfl) _ _ ⟨undef, undef, undef, undef, undef, by subst ha0; rfl, Below.refl _ _, fun h => absurd h (by decide), fun h => absurd h (by decide), fun h => absurd h (by decide), fun h => absurd h (by decide), fun h => by cases h⟩
      · clear ha0
        intro nc nl hnc
        match nc, hnc with
        | 0, _ => cases nl <;> (show (_ : Bool) = _; kernel_rfl)
        | 1, _ => cases nl <;> (show (_ : Bool) = _; kernel_rfl)
        | 2, _ => cases nl <;> (show (_ : Bool) = _; kernel_rfl)
        | 3, _ => cases nl <;> (show (_ : Bool) = _; kernel_rfl)
      · clear ha0
        intro nc nl hnc
        match nc, hnc with
        | 0, _ => cases nl <;> (show (_ : Bool) = _; kernel_rfl)
        | 1, _ => cases nl <;> (show (_ : Bool) = _; kernel_rfl)
        | 2, _ => cases nl <;> (show (_ : Bool) = _; kernel_rfl)
        | 3, _ => cases nl <;> (show (_ : Bool) = _; kernel_rfl)
      · clear ha0
        intro nc nl hnc
        match nc, hnc with
        | 0, _ => rfl
        | 1, _ => rfl
        | 2, _ => rfl
        | 3, _ => rfl
      · clear ha0
        intro nc hnc
        match nc, hnc with
        | 0, _ => rfl
        | 1, _ => rfl
        | 2, _ => rfl
        | 3, _ => rfl
      · rintro nc nl na wv hnc ⟨s1, s2, s3, s4, s5, rfl, J⟩
        subst ha0
        match nc, hnc, J with
        | 0, _, J =>
          refine wpOp_step rfl (fun K hK => ?_)
          (try simp only [Act.put, List.setIfInBounds_toArray, List.set_cons_zero, List.set_cons_succ] at hK ⊢)
          (try simp only [List.getElem_toArray, List.getElem_cons_succ, List.getElem_cons_zero])
          go_simp
          refine (law_any v ps _ (unhide HPW _ (below_step (unhide HBW) (below_step bd0 J.bl))) (unhide HPL)).mono ?_
          rintro e wz ⟨v_, rfl, hv, hb⟩
          exact hK _ _ ⟨unhide HCC _ (below_step bd0 (below_step J.bl hb)), v_, s2, s3, s4, s5, rfl, below_step J.bl hb, fun _ => hv, fun h => absurd h (by decide), fun h => absurd h (by decide), fun h => absurd h (by decide), fun h => by
            obtain ⟨b, e1, e2, e3⟩ := J.al h
            exact ⟨b, e1, e2.keep hb, e3⟩⟩
        | 1, _, J =>
          refine wpOp_step rfl (fun K hK => ?_)
          (try simp only [Act.put, List.setIfInBounds_toArray, List.set_cons_zero, List.set_cons_succ] at hK ⊢)
          (try simp only [List.getElem_toArray, List.getElem_cons_succ, List.getElem_cons_zero])
          go_simp
          refine (f_any x y (unhide HIX).1 (unhide HIX).2 (unhide HIY).1 (unhide HIY).2 _).mono ?_
          rintro e wz ⟨v_, rfl, hv, hb⟩
          exact hK _ _ ⟨unhide HCC _ (below_step bd0 (below_step J.bl hb)), s1, v_, s3, s4, s5, rfl, below_step J.bl hb, fun _ => unhide KP1 _ _ _ (J.r1 (by decide)) hb, fun _ => hv, fun h => absurd h (by decide), fun h => absurd h (by decide), fun h => by
            obtain ⟨b, e1, e2, e3⟩ := J.al h
            exact ⟨b, e1, e2.keep hb, e3⟩⟩
        | 2, _, J =>
          refine wpOp_step rfl (fun K hK => ?_)
          (try simp only [Act.put, List.setIfInBounds_toArray, List.set_cons_zero, List.set_cons_succ] at hK ⊢)
          (try simp only [List.getElem_toArray, List.getElem_cons_succ, List.getElem_cons_zero])
          go_simp
          refine (f_any z u (unhide HIZ).1 (unhide HIZ).2 (unhide HIU).1 (unhide HIU).2 _).mono ?_
          rintro e wz ⟨v_, rfl, hv, hb⟩
          exact hK _ _ ⟨unhide HCC _ (below_step bd0 (below_step J.bl hb)), s1, s2, v_, s4, s5, rfl, below_step J.bl hb, fun _ => unhide KP1 _ _ _ (J.r1 (by decide)) hb, fun _ => unhide KP2 _ _ _ (J.r2 (by decide)) hb, fun _ => hv, fun h => absurd h (by decide), fun h => by
            obtain ⟨b, e1, e2, e3⟩ := J.al h
            exact ⟨b, e1, e2.keep hb, e3⟩⟩
        | 3, _, J =>
          refine wpOp_step rfl (fun K hK => ?_)
          (try simp only [Act.put, List.setIfInBounds_toArray, List.set_cons_zero, List.set_cons_succ] at hK ⊢)
          (try simp only [List.getElem_toArray, List.getElem_cons_succ, List.getElem_cons_zero])
          go_simp
          refine (unhide HLO _ _ _ _ (J.r1 (by decide)) (J.r2 (by decide)) (J.r3 (by decide))).mono ?_
          rintro e wz ⟨v_, rfl, hv, hb⟩
          exact hK _ _ ⟨unhide HCC _ (below_step bd0 (below_step J.bl hb)), s1, s2, s3, .tuple #[v_, .nilIface], s5, rfl, below_step J.bl hb, fun _ => unhide KP1 _ _ _ (J.r1 (by decide)) hb, fun _ => unhide KP2 _ _ _ (J.r2 (by decide)) hb, fun _ => unhide KP3 _ _ _ (J.r3 (by decide)) hb, fun _ => ⟨v_, rfl, hv⟩, fun h => by
            obtain ⟨b, e1, e2, e3⟩ := J.al h
            exact ⟨b, e1, e2.keep hb, e3⟩⟩
      · rintro nc na wv hnc ⟨s1, s2, s3, s4, s5, rfl, J⟩
        subst ha0
        refine wpOp_step rfl (fun K hK => ?_)
        (try simp only [Act.put, List.setIfInBounds_toArray, List.set_cons_zero, List.set_cons_succ] at hK ⊢)
        (try simp only [List.getElem_toArray, List.getElem_cons_succ, List.getElem_cons_zero])
        go_simp
        have hb := alloc_below wv (.cells #[.bool false, .slice none 0 0, .slice none 0 0] 29)
        exact hK _ _ ⟨unhide HCC _ (below_step bd0 (below_step J.bl hb)), s1, s2, s3, s4, .pointer (some ⟨wv.heap.size, 0, none⟩), rfl, below_step J.bl hb, fun h => unhide KP1 _ _ _ (J.r1 h) hb, fun h => unhide KP2 _ _ _ (J.r2 h) hb, fun h => unhide KP3 _ _ _ (J.r3 h) hb, fun h => unhide KP4 _ _ _ (J.r4 h) hb, fun _ => ⟨wv.heap.size, rfl, BoxIs.new (t := zTri) (rat_zero _), J.bl.size⟩⟩
      · rintro nl na wv ⟨s1, s2, s3, s4, s5, rfl, J⟩
        subst ha0
        obtain ⟨v_, rfl, hv_⟩ := J.r4 (by decide)
        obtain ⟨td, rfl, r0⟩ := tri_of hv_
        clear hv_
        simp only [Tri.val]
        (try simp only [Act.put, List.setIfInBounds_toArray, List.set_cons_zero, List.set_cons_succ])
        have hCv : (fun w' : World => (w'.cell? ⟨g0, 0, none⟩ = some (.int .i64 x) ∧ w'.cell? ⟨g0, 1, none⟩ = some (.int .i64 y)) ∧ w'.cell? ⟨g1, 0, none⟩ = some (.int .i64 z) ∧ w'.cell? ⟨g1, 1, none⟩ = some (.int .i64 u)) wv := unhide HCC _ (below_step bd0 J.bl)
        clear hC0
        cases nl with
        | true =>
          obtain ⟨bd, rfl, B10, e10⟩ := J.al rfl
          refine wpHold_take (i := 8) (v := ?_) rfl (by kernel_rfl) (by kernel_rfl) (by kernel_rfl) (fun _ _ _ h => h) (Or.inl ⟨by rfl, ?_⟩) hCv ?_
          rotate_left
          · intro w hSw; clear hSw; go_simp; (try with_reducible rfl)
          (try simp only [List.getElem_toArray, List.getElem_cons_succ, List.getElem_cons_zero])
          (try simp only [Act.put, List.setIfInBounds_toArray, List.set_cons_zero, List.set_cons_succ])
          refine wpHold_take (i := 9) (v := ?_) rfl (by kernel_rfl) (by kernel_rfl) (by kernel_rfl) (fun _ _ _ h => h) (Or.inl ⟨by rfl, ?_⟩) hCv ?_
          rotate_left
          · intro w hSw; clear hSw; go_simp; (try with_reducible rfl)
          (try simp only [List.getElem_toArray, List.getElem_cons_succ, List.getElem_cons_zero])
          (try simp only [Act.put, List.setIfInBounds_toArray, List.set_cons_zero, List.set_cons_succ])
          refine wpHold_take (i := 10) (v := ?_) rfl (by kernel_rfl) (by kernel_rfl) (by kernel_rfl) (fun _ _ _ h => h) (Or.inl ⟨by rfl, ?_⟩) hCv ?_
          rotate_left
          · intro w hSw; clear hSw; go_simp; (try with_reducible rfl)
          (try simp only [List.getElem_toArray, List.getElem_cons_succ, List.getElem_cons_zero])
          (try simp only [Act.put, List.setIfInBounds_toArray, List.set_cons_zero, List.set_cons_succ])
          have ⟨l0, l1, l2⟩ := B10.free
          have ⟨k0, k1, k2⟩ := B10.cells _ (Below.refl _ _)
          have HJB := hide (below_step bd0 J.bl)
          have NB := B10.set r0
          have e10' : xw_3.heap.size ≤ bd := Nat.le_trans bd0.size e10
          have YB := (((below_step bd0 J.bl).setCell (p := ⟨bd, 0, none⟩) e10' (.bool td.s)).setCell (p := ⟨bd, 1, none⟩) e10' (.slice td.a1 td.n1 td.c1)).setCell (p := ⟨bd, 2, none⟩) e10' (.slice td.a2 td.n2 td.c2)
          have HG_bd := hide e10'
          have hCn : (fun w' : World => (w'.cell? ⟨g0, 0, none⟩ = some (.int .i64 x) ∧ w'.cell? ⟨g0, 1, none⟩ = some (.int .i64 y)) ∧ w'.cell? ⟨g1, 0, none⟩ = some (.int .i64 z) ∧ w'.cell? ⟨g1, 1, none⟩ = some (.int .i64 u)) _ := unhide HCC _ YB
          obtain ⟨Wbd, hWy⟩ : ∃ W, ((wv.setCell ⟨bd, 0, none⟩ (.bool td.s)).setCell ⟨bd, 1, none⟩ (.slice td.a1 td.n1 td.c1)).setCell ⟨bd, 2, none⟩ (.slice td.a2 td.n2 td.c2) = W := ⟨_, rfl⟩
          rw [hWy] at NB YB hCn
          have HX_bd := hide NB
          have HY_bd := hide YB
          clear J B10 YB NB e10' hCv
          refine wpHold_one (k := 12) (by kernel_rfl) rfl (fun K hK => ?_)
          (try simp only [List.getElem_toArray, List.getElem_cons_succ, List.getElem_cons_zero])
          go_simp
          refine hK.out _ _ hCn ?_
          clear hK K
          (try simp only [Act.put, List.setIfInBounds_toArray, List.set_cons_zero, List.set_cons_succ])
          refine wpHold_one (k := 13) (by kernel_rfl) rfl (fun K hK => ?_)
          (try simp only [List.getElem_toArray, List.getElem_cons_succ, List.getElem_cons_zero])
          go_simp
          refine hK.out _ _ hCn ?_
          clear hK K
          (try simp only [Act.put, List.setIfInBounds_toArray, List.set_cons_zero, List.set_cons_succ])
          refine wpHold_done (by kernel_rfl) ?_ _
          clear hCn l0 l1 l2 k0 k1 k2 hWy e10 bd0 hWx r0 HJB KP1 KP2 KP3 KP4
          have HB9 := hide (below_step (unhide HBT) (unhide HY_bd))
          have X1 := unhide HX_bd
          have ⟨d0, d1, d2⟩ := X1.cells _ (Below.refl _ _)
          have HON := hide (one_ok td.val _ bw 2000 Wbd X1.2 (unhide HWR) (by decide) (tab_below (unhide HTB) (unhide HB9)) ((unhide HWX).below (unhide HY_bd)))
          simp only [Tri.val] at HON
          clear X1 HX_bd HY_bd HG_bd
          go_wp2_with fail
          refine (unhide HON).mono ?_
          rintro e x4 ⟨rfl, hb4⟩
          have HBZ := hide (below_step (unhide HB9) hb4)
          clear hb4 HON d0 d1 d2
          go_wp2
          go_ret
          exact ⟨rfl, unhide HBZ⟩
        | false =>
          refine wpHold_take (i := 8) (v := ?_) rfl (by kernel_rfl) (by kernel_rfl) (by kernel_rfl) (fun _ _ _ h => h) (Or.inl ⟨by rfl, ?_⟩) hCv ?_
          rotate_left
          · intro w hSw; clear hSw; go_simp; (try with_reducible rfl)
          (try simp only [List.getElem_toArray, List.getElem_cons_succ, List.getElem_cons_zero])
          (try simp only [Act.put, List.setIfInBounds_toArray, List.set_cons_zero, List.set_cons_succ])
          refine wpHold_take (i := 9) (v := ?_) rfl (by kernel_rfl) (by kernel_rfl) (by kernel_rfl) (fun _ _ _ h => h) (Or.inl ⟨by rfl, ?_⟩) hCv ?_
          rotate_left
          · intro w hSw; clear hSw; go_simp; (try with_reducible rfl)
          (try simp only [List.getElem_toArray, List.getElem_cons_succ, List.getElem_cons_zero])
          (try simp only [Act.put, List.setIfInBounds_toArray, List.set_cons_zero, List.set_cons_succ])
          refine wpHold_take (i := 10) (v := ?_) rfl (by kernel_rfl) (by kernel_rfl) (by kernel_rfl) (fun _ _ _ h => h) (Or.inl ⟨by rfl, ?_⟩) hCv ?_
          rotate_left
          · intro w hSw; clear hSw; go_simp; (try with_reducible rfl)
          (try simp only [List.getElem_toArray, List.getElem_cons_succ, List.getElem_cons_zero])
          (try simp only [Act.put, List.setIfInBounds_toArray, List.set_cons_zero, List.set_cons_succ])
          have hbA := alloc_below wv (.cells #[.bool false, .slice none 0 0, .slice none 0 0] 29)
          have B10 := BoxIs.new (w := wv) (t := zTri) (q := 0) (rat_zero _)
          have B10' : BoxIs (wv.alloc (.cells #[.bool false, .slice none 0 0, .slice none 0 0] 29)) wv.heap.size zTri 0 := B10
          have rA := r0.below hbA
          have blA := below_step J.bl hbA
          have hCA : (fun w' : World => (w'.cell? ⟨g0, 0, none⟩ = some (.int .i64 x) ∧ w'.cell? ⟨g0, 1, none⟩ = some (.int .i64 y)) ∧ w'.cell? ⟨g1, 0, none⟩ = some (.int .i64 z) ∧ w'.cell? ⟨g1, 1, none⟩ = some (.int .i64 u)) _ := unhide HCC _ (below_step bd0 blA)
          have e10 : Wx.heap.size ≤ wv.heap.size := J.bl.size
          refine wpHold_one (k := 11) (by kernel_rfl) rfl (fun K hK => ?_)
          (try simp only [List.getElem_toArray, List.getElem_cons_succ, List.getElem_cons_zero])
          go_simp
          refine hK.out _ _ hCA ?_
          clear hK K
          (try simp only [Act.put, List.setIfInBounds_toArray, List.set_cons_zero, List.set_cons_succ])
          obtain ⟨wA, hwA⟩ : ∃ W, wv.alloc (.cells #[.bool false, .slice none 0 0, .slice none 0 0] 29) = W := ⟨_, rfl⟩
          obtain ⟨bd, hbn⟩ : ∃ b, wv.heap.size = b := ⟨_, rfl⟩
          rw [hwA] at B10' rA blA hCA
          rw [hbn] at B10' e10
          simp only [hwA, hbn]
          clear B10 hbA hwA hbn
          replace B10 := B10'
          clear B10'
          have ⟨l0, l1, l2⟩ := B10.free
          have ⟨k0, k1, k2⟩ := B10.cells _ (Below.refl _ _)
          have HJB := hide (below_step bd0 blA)
          have NB := B10.set rA
          have e10' : xw_3.heap.size ≤ bd := Nat.le_trans bd0.size e10
          have YB := (((below_step bd0 blA).setCell (p := ⟨bd, 0, none⟩) e10' (.bool td.s)).setCell (p := ⟨bd, 1, none⟩) e10' (.slice td.a1 td.n1 td.c1)).setCell (p := ⟨bd, 2, none⟩) e10' (.slice td.a2 td.n2 td.c2)
          have HG_bd := hide e10'
          have hCn : (fun w' : World => (w'.cell? ⟨g0, 0, none⟩ = some (.int .i64 x) ∧ w'.cell? ⟨g0, 1, none⟩ = some (.int .i64 y)) ∧ w'.cell? ⟨g1, 0, none⟩ = some (.int .i64 z) ∧ w'.cell? ⟨g1, 1, none⟩ = some (.int .i64 u)) _ := unhide HCC _ YB
          obtain ⟨Wbd, hWy⟩ : ∃ W, ((wA.setCell ⟨bd, 0, none⟩ (.bool td.s)).setCell ⟨bd, 1, none⟩ (.slice td.a1 td.n1 td.c1)).setCell ⟨bd, 2, none⟩ (.slice td.a2 td.n2 td.c2) = W := ⟨_, rfl⟩
          rw [hWy] at NB YB hCn
          have HX_bd := hide NB
          have HY_bd := hide YB
          clear J B10 YB NB e10' hCv
          refine wpHold_one (k := 12) (by kernel_rfl) rfl (fun K hK => ?_)
          (try simp only [List.getElem_toArray, List.getElem_cons_succ, List.getElem_cons_zero])
          go_simp
          refine hK.out _ _ hCn ?_
          clear hK K
          (try simp only [Act.put, List.setIfInBounds_toArray, List.set_cons_zero, List.set_cons_succ])
          refine wpHold_one (k := 13) (by kernel_rfl) rfl (fun K hK => ?_)
          (try simp only [List.getElem_toArray, List.getElem_cons_succ, List.getElem_cons_zero])
          go_simp
          refine hK.out _ _ hCn ?_
          clear hK K
          (try simp only [Act.put, List.setIfInBounds_toArray, List.set_cons_zero, List.set_cons_succ])
          refine wpHold_done (by kernel_rfl) ?_ _
          clear hCn l0 l1 l2 k0 k1 k2 hWy e10 bd0 hWx r0 HJB KP1 KP2 KP3 KP4 hCA rA blA
          have HB9 := hide (below_step (unhide HBT) (unhide HY_bd))
          have X1 := unhide HX_bd
          have ⟨d0, d1, d2⟩ := X1.cells _ (Below.refl _ _)
          have HON := hide (one_ok td.val _ bw 2000 Wbd X1.2 (unhide HWR) (by decide) (tab_below (unhide HTB) (unhide HB9)) ((unhide HWX).below (unhide HY_bd)))
          simp only [Tri.val] at HON
          clear X1 HX_bd HY_bd HG_bd
          go_wp2_with fail
          refine (unhide HON).mono ?_
          rintro e x4 ⟨rfl, hb4⟩
          have HBZ := hide (below_step (unhide HB9) hb4)
          clear hb4 HON d0 d1 d2
          go_wp2
          go_ret
          exact ⟨rfl, unhide HBZ⟩
  · have hkb : (k == 0) = false := by simpa using hk0
    have HNZ : Hid (k ≠ 0) := hk0
    have HKN : Hid (chk (pqs ps) ≠ 0) := by show _ ≠ _; rw [unhide HK]; exact hk0
    clear hk0
    go_wp2_with fail
    refine (unhide HIN).mono ?_
    rintro e w5 ⟨bw, rfl, -, -, hb5⟩
    have HBT2 := hide (below_step (unhide HB4) hb5)
    have HBT := hide (below_step (unhide HB0) (unhide HBT2))
    clear hb5 HIN
    have HBW : Hid (Below W2.heap.size W2 w5) := unhide HBT2
    have HCC : Hid (∀ W, Below w5.heap.size w5 W → (fun w' : World => (w'.cell? ⟨g0, 0, none⟩ = some (.int .i64 x) ∧ w'.cell? ⟨g0, 1, none⟩ = some (.int .i64 y)) ∧ w'.cell? ⟨g1, 0, none⟩ = some (.int .i64 z) ∧ w'.cell? ⟨g1, 1, none⟩ = some (.int .i64 u)) W) := fun W hW => unhide HCQ W (below_step (unhide HBT2) hW)
    have HLO : Hid (∀ (W : World) (v1 v2 v3 : Value), LawIs W v1 (pqs ps) → RatIs W v2 (pq (x, y)) → RatIs W v3 (pq (z, u)) → Calls Tryz.prog 14 #[v1, v2, v3, .int .i64 p] W fun e w' => ∃ v, e = .returned (.tuple #[v, .iface 22 (.int .i64 k)]) ∧ RatIs w' v 0 ∧ Below W.heap.size W w') := fun W v1 v2 v3 h1 h2 h3 => by
      refine (loss_err v1 v2 v3 p k _ _ W h2 h3 (by obtain ⟨a, c, e, _⟩ := h1; exact ⟨a, _, c, e⟩) (fun W' hW => ?_)).mono ?_
      · have := overI_err v1 (pqs ps) 1 p W' (h1.below hW) (unhide HQ) (unhide HKK) (unhide HKN)
        rw [errV_not (unhide HKN), unhide HK] at this
        exact this
      · rintro e w' ⟨rfl, hb⟩
        exact ⟨_, rfl, rat_zero _, hb⟩
    go_wp2_with fail
    refine wp_region_hold (fun w' : World => (w'.cell? ⟨g0, 0, none⟩ = some (.int .i64 x) ∧ w'.cell? ⟨g0, 1, none⟩ = some (.int .i64 y)) ∧ w'.cell? ⟨g1, 0, none⟩ = some (.int .i64 z) ∧ w'.cell? ⟨g1, 1, none⟩ = some (.int .i64 u)) (by kernel_rfl) ?_
    have bd0 : Below w5.heap.size w5 w5.drew := (Below.refl _ _).drew
    obtain ⟨Wx, hWx⟩ : ∃ W, w5.drew = W := ⟨_, rfl⟩
    rw [hWx] at bd0 ⊢
    have hC0 : (fun w' : World => (w'.cell? ⟨g0, 0, none⟩ = some (.int .i64 x) ∧ w'.cell? ⟨g0, 1, none⟩ = some (.int .i64 y)) ∧ w'.cell? ⟨g1, 0, none⟩ = some (.int .i64 z) ∧ w'.cell? ⟨g1, 1, none⟩ = some (.int .i64 u)) Wx := unhide HCC _ bd0
    have KP1 : Hid (∀ (w w' : World) (s : Value), (fun (w : World) (s : Value) => LawIs w s (pqs ps)) w s → Below w.heap.size w w' → (fun (w : World) (s : Value) => LawIs w s (pqs ps)) w' s) := fun _ _ _ h hb => LawIs.below h hb
    have KP2 : Hid (∀ (w w' : World) (s : Value), (fun (w : World) (s : Value) => RatIs w s (pq (x, y))) w s → Below w.heap.size w w' → (fun (w : World) (s : Value) => RatIs w s (pq (x, y))) w' s) := fun _ _ _ h hb => RatIs.below h hb
    have KP3 : Hid (∀ (w w' : World) (s : Value), (fun (w : World) (s : Value) => RatIs w s (pq (z, u))) w s → Below w.heap.size w w' → (fun (w : World) (s : Value) => RatIs w s (pq (z, u))) w' s) := fun _ _ _ h hb => RatIs.below h hb
    have KP4 : Hid (∀ (w w' : World) (s : Value), (fun (w : World) (s : Value) => ∃ v : Value, s = .tuple #[v, .iface 22 (.int .i64 k)] ∧ RatIs w v 0) w s → Below w.heap.size w w' → (fun (w : World) (s : Value) => ∃ v : Value, s = .tuple #[v, .iface 22 (.int .i64 k)] ∧ RatIs w v 0) w' s) := fun _ _ _ h hb => by obtain ⟨v, h1, h2⟩ := h; exact ⟨v, h1, h2.below hb⟩
    refine wpHold_take (i := 0) (v := ?_) rfl (by kernel_rfl) (by kernel_rfl) (by kernel_rfl) (fun _ _ _ h => h) (Or.inl ⟨by rfl, ?_⟩) hC0 ?_
    rotate_left
    · intro w hSw; clear hSw; go_simp; (try with_reducible rfl)
    (try simp only [List.getElem_toArray, List.getElem_cons_succ, List.getElem_cons_zero])
    (try simp only [Act.put, List.setIfInBounds_toArray, List.set_cons_zero, List.set_cons_succ])
    refine wpHold_take (i := 2) (v := ?_) rfl (by kernel_rfl) (by kernel_rfl) (by kernel_rfl) (fun _ _ _ h => h) (Or.inl ⟨by rfl, ?_⟩) hC0 ?_
    rotate_left
    · intro w hSw; (try dsimp only at hSw); obtain ⟨⟨z0, z1⟩, z2, z3⟩ := hSw; go_simp; (try with_reducible rfl)
    (try simp only [List.getElem_toArray, List.getElem_cons_succ, List.getElem_cons_zero])
    (try simp only [Act.put, List.setIfInBounds_toArray, List.set_cons_zero, List.set_cons_succ])
    refine wpHold_take (i := 4) (v := ?_) rfl (by kernel_rfl) (by kernel_rfl) (by kernel_rfl) (fun _ _ _ h => h) (Or.inl ⟨by rfl, ?_⟩) hC0 ?_
    rotate_left
    · intro w hSw; (try dsimp only at hSw); obtain ⟨⟨z0, z1⟩, z2, z3⟩ := hSw; go_simp; (try with_reducible rfl)
    (try simp only [List.getElem_toArray, List.getElem_cons_succ, List.getElem_cons_zero])
    (try simp only [Act.put, List.setIfInBounds_toArray, List.set_cons_zero, List.set_cons_succ])
    refine wpHold_take (i := 6) (v := ?_) rfl (by kernel_rfl) (by kernel_rfl) (by kernel_rfl) (fun _ _ _ h => h) (Or.inl ⟨by rfl, ?_⟩) hC0 ?_
    rotate_left
    · intro w hSw; clear hSw; go_simp; (try with_reducible rfl)
    (try simp only [List.getElem_toArray, List.getElem_cons_succ, List.getElem_cons_zero])
    (try simp only [Act.put, List.setIfInBounds_toArray, List.set_cons_zero, List.set_cons_succ])
    refine wpHold_listed (n := 10) (L' := (fun nc nl => #[true, decide (1 ≤ nc), true, decide (2 ≤ nc), true, decide (3 ≤ nc), true, decide (4 ≤ nc), false, false, false, nl, false, false]) 0 false) (by kernel_rfl) (by kernel_rfl) ?_
    refine wpHold_name (fun a0 ha0 => ?_)
    refine chain_fin 4 (fun nc nl => #[true, decide (1 ≤ nc), true, decide (2 ≤ nc), true, decide (3 ≤ nc), true, decide (4 ≤ nc), false, false, false, nl, false, false]) (fun nc => match nc with | 0 => 1 | 1 => 3 | 2 => 5 | _ => 7) 11 5 (fun nc nl na W => ∃ s1 s2 s3 s4 s5, na = ((((a0.put (some 43) s1).put (some 45) s2).put (some 47) s3).put (some 49) s4).put (some 12) s5 ∧ Nj4 (fun (w : World) (s : Value) => LawIs w s (pqs ps)) (fun (w : World) (s : Value) => RatIs w s (pq (x, y))) (fun (w : World) (s : Value) => RatIs w s (pq (z, u))) (fun (w : World) (s : Value) => ∃ v : Value, s = .tuple #[v, .iface 22 (.int .i64 k)] ∧ RatIs w v 0) Wx nc nl W s1 s2 s3 s4 s5) ?_ ?_ ?_ ?_ ?_ ?_ ?_ 5 0 false (by omega) (by rfl) _ _ ⟨undef, undef, undef, undef, undef, by subst ha0; rfl, Below.refl _ _, fun h => absurd h (by decide), fun h => absurd h (by decide), fun h => absurd h (by decide), fun h => absurd h (by decide), fun h => by cases h⟩
    · clear ha0
      intro nc nl hnc
      match nc, hnc with
      | 0, _ => cases nl <;> (show (_ : Bool) = _; kernel_rfl)
      | 1, _ => cases nl <;> (show (_ : Bool) = _; kernel_rfl)
      | 2, _ => cases nl <;> (show (_ : Bool) = _; kernel_rfl)
      | 3, _ => cases nl <;> (show (_ : Bool) = _; kernel_rfl)
    · clear ha0
      intro nc nl hnc
      match nc, hnc with
      | 0, _ => cases nl <;> (show (_ : Bool) = _; kernel_rfl)
      | 1, _ => cases nl <;> (show (_ : Bool) = _; kernel_rfl)
      | 2, _ => cases nl <;> (show (_ : Bool) = _; kernel_rfl)
      | 3, _ => cases nl <;> (show (_ : Bool) = _; kernel_rfl)
    · clear ha0
      intro nc nl hnc
      match nc, hnc with
      | 0, _ => rfl
      | 1, _ => rfl
      | 2, _ => rfl
      | 3, _ => rfl
    · clear ha0
      intro nc hnc
      match nc, hnc with
      | 0, _ => rfl
      | 1, _ => rfl
      | 2, _ => rfl
      | 3, _ => rfl
    · rintro nc nl na wv hnc ⟨s1, s2, s3, s4, s5, rfl, J⟩
      subst ha0
      match nc, hnc, J with
      | 0, _, J =>
        refine wpOp_step rfl (fun K hK => ?_)
        (try simp only [Act.put, List.setIfInBounds_toArray, List.set_cons_zero, List.set_cons_succ] at hK ⊢)
        (try simp only [List.getElem_toArray, List.getElem_cons_succ, List.getElem_cons_zero])
        go_simp
        refine (law_any v ps _ (unhide HPW _ (below_step (unhide HBW) (below_step bd0 J.bl))) (unhide HPL)).mono ?_
        rintro e wz ⟨v_, rfl, hv, hb⟩
        exact hK _ _ ⟨unhide HCC _ (below_step bd0 (below_step J.bl hb)), v_, s2, s3, s4, s5, rfl, below_step J.bl hb, fun _ => hv, fun h => absurd h (by decide), fun h => absurd h (by decide), fun h => absurd h (by decide), fun h => by
          obtain ⟨b, e1, e2, e3⟩ := J.al h
          exact ⟨b, e1, e2.keep hb, e3⟩⟩
      | 1, _, J =>
        refine wpOp_step rfl (fun K hK => ?_)
        (try simp only [Act.put, List.setIfInBounds_toArray, List.set_cons_zero, List.set_cons_succ] at hK ⊢)
        (try simp only [List.getElem_toArray, List.getElem_cons_succ, List.getElem_cons_zero])
        go_simp
        refine (f_any x y (unhide HIX).1 (unhide HIX).2 (unhide HIY).1 (unhide HIY).2 _).mono ?_
        rintro e wz ⟨v_, rfl, hv, hb⟩
        exact hK _ _ ⟨unhide HCC _ (below_step bd0 (below_step J.bl hb)), s1, v_, s3, s4, s5, rfl, below_step J.bl hb, fun _ => unhide KP1 _ _ _ (J.r1 (by decide)) hb, fun _ => hv, fun h => absurd h (by decide), fun h => absurd h (by decide), fun h => by
          obtain ⟨b, e1, e2, e3⟩ := J.al h
          exact ⟨b, e1, e2.keep hb, e3⟩⟩
      | 2, _, J =>
        refine wpOp_step rfl (fun K hK => ?_)
        (try simp only [Act.put, List.setIfInBounds_toArray, List.set_cons_zero, List.set_cons_succ] at hK ⊢)
        (try simp only [List.getElem_toArray, List.getElem_cons_succ, List.getElem_cons_zero])
        go_simp
        refine (f_any z u (unhide HIZ).1 (unhide HIZ).2 (unhide HIU).1 (unhide HIU).2 _).mono ?_
        rintro e wz ⟨v_, rfl, hv, hb⟩
        exact hK _ _ ⟨unhide HCC _ (below_step bd0 (below_step J.bl hb)), s1, s2, v_, s4, s5, rfl, below_step J.bl hb, fun _ => unhide KP1 _ _ _ (J.r1 (by decide)) hb, fun _ => unhide KP2 _ _ _ (J.r2 (by decide)) hb, fun _ => hv, fun h => absurd h (by decide), fun h => by
          obtain ⟨b, e1, e2, e3⟩ := J.al h
          exact ⟨b, e1, e2.keep hb, e3⟩⟩
      | 3, _, J =>
        refine wpOp_step rfl (fun K hK => ?_)
        (try simp only [Act.put, List.setIfInBounds_toArray, List.set_cons_zero, List.set_cons_succ] at hK ⊢)
        (try simp only [List.getElem_toArray, List.getElem_cons_succ, List.getElem_cons_zero])
        go_simp
        refine (unhide HLO _ _ _ _ (J.r1 (by decide)) (J.r2 (by decide)) (J.r3 (by decide))).mono ?_
        rintro e wz ⟨v_, rfl, hv, hb⟩
        exact hK _ _ ⟨unhide HCC _ (below_step bd0 (below_step J.bl hb)), s1, s2, s3, .tuple #[v_, .iface 22 (.int .i64 k)], s5, rfl, below_step J.bl hb, fun _ => unhide KP1 _ _ _ (J.r1 (by decide)) hb, fun _ => unhide KP2 _ _ _ (J.r2 (by decide)) hb, fun _ => unhide KP3 _ _ _ (J.r3 (by decide)) hb, fun _ => ⟨v_, rfl, hv⟩, fun h => by
          obtain ⟨b, e1, e2, e3⟩ := J.al h
          exact ⟨b, e1, e2.keep hb, e3⟩⟩
    · rintro nc na wv hnc ⟨s1, s2, s3, s4, s5, rfl, J⟩
      subst ha0
      refine wpOp_step rfl (fun K hK => ?_)
      (try simp only [Act.put, List.setIfInBounds_toArray, List.set_cons_zero, List.set_cons_succ] at hK ⊢)
      (try simp only [List.getElem_toArray, List.getElem_cons_succ, List.getElem_cons_zero])
      go_simp
      have hb := alloc_below wv (.cells #[.bool false, .slice none 0 0, .slice none 0 0] 29)
      exact hK _ _ ⟨unhide HCC _ (below_step bd0 (below_step J.bl hb)), s1, s2, s3, s4, .pointer (some ⟨wv.heap.size, 0, none⟩), rfl, below_step J.bl hb, fun h => unhide KP1 _ _ _ (J.r1 h) hb, fun h => unhide KP2 _ _ _ (J.r2 h) hb, fun h => unhide KP3 _ _ _ (J.r3 h) hb, fun h => unhide KP4 _ _ _ (J.r4 h) hb, fun _ => ⟨wv.heap.size, rfl, BoxIs.new (t := zTri) (rat_zero _), J.bl.size⟩⟩
    · rintro nl na wv ⟨s1, s2, s3, s4, s5, rfl, J⟩
      subst ha0
      obtain ⟨v_, rfl, hv_⟩ := J.r4 (by decide)
      obtain ⟨td, rfl, r0⟩ := tri_of hv_
      clear hv_
      simp only [Tri.val]
      (try simp only [Act.put, List.setIfInBounds_toArray, List.set_cons_zero, List.set_cons_succ])
      have hCv : (fun w' : World => (w'.cell? ⟨g0, 0, none⟩ = some (.int .i64 x) ∧ w'.cell? ⟨g0, 1, none⟩ = some (.int .i64 y)) ∧ w'.cell? ⟨g1, 0, none⟩ = some (.int .i64 z) ∧ w'.cell? ⟨g1, 1, none⟩ = some (.int .i64 u)) wv := unhide HCC _ (below_step bd0 J.bl)
      clear hC0
      cases nl with
      | true =>
        obtain ⟨bd, rfl, B10, e10⟩ := J.al rfl
        refine wpHold_take (i := 8) (v := ?_) rfl (by kernel_rfl) (by kernel_rfl) (by kernel_rfl) (fun _ _ _ h => h) (Or.inl ⟨by rfl, ?_⟩) hCv ?_
        rotate_left
        · intro w hSw; clear hSw; go_simp; (try with_reducible rfl)
        (try simp only [List.getElem_toArray, List.getElem_cons_succ, List.getElem_cons_zero])
        (try simp only [Act.put, List.setIfInBounds_toArray, List.set_cons_zero, List.set_cons_succ])
        refine wpHold_take (i := 9) (v := ?_) rfl (by kernel_rfl) (by kernel_rfl) (by kernel_rfl) (fun _ _ _ h => h) (Or.inl ⟨by rfl, ?_⟩) hCv ?_
        rotate_left
        · intro w hSw; clear hSw; go_simp; (try with_reducible rfl)
        (try simp only [List.getElem_toArray, List.getElem_cons_succ, List.getElem_cons_zero])
        (try simp only [Act.put, List.setIfInBounds_toArray, List.set_cons_zero, List.set_cons_succ])
        refine wpHold_take (i := 10) (v := ?_) rfl (by kernel_rfl) (by kernel_rfl) (by kernel_rfl) (fun _ _ _ h => h) (Or.inl ⟨by rfl, ?_⟩) hCv ?_
        rotate_left
        · intro w hSw; clear hSw; go_simp; (try with_reducible rfl)
        (try simp only [List.getElem_toArray, List.getElem_cons_succ, List.getElem_cons_zero])
        (try simp only [Act.put, List.setIfInBounds_toArray, List.set_cons_zero, List.set_cons_succ])
        have ⟨l0, l1, l2⟩ := B10.free
        have ⟨k0, k1, k2⟩ := B10.cells _ (Below.refl _ _)
        have HJB := hide (below_step bd0 J.bl)
        have NB := B10.set r0
        have e10' : w5.heap.size ≤ bd := Nat.le_trans bd0.size e10
        have YB := (((below_step bd0 J.bl).setCell (p := ⟨bd, 0, none⟩) e10' (.bool td.s)).setCell (p := ⟨bd, 1, none⟩) e10' (.slice td.a1 td.n1 td.c1)).setCell (p := ⟨bd, 2, none⟩) e10' (.slice td.a2 td.n2 td.c2)
        have HG_bd := hide e10'
        have hCn : (fun w' : World => (w'.cell? ⟨g0, 0, none⟩ = some (.int .i64 x) ∧ w'.cell? ⟨g0, 1, none⟩ = some (.int .i64 y)) ∧ w'.cell? ⟨g1, 0, none⟩ = some (.int .i64 z) ∧ w'.cell? ⟨g1, 1, none⟩ = some (.int .i64 u)) _ := unhide HCC _ YB
        obtain ⟨Wbd, hWy⟩ : ∃ W, ((wv.setCell ⟨bd, 0, none⟩ (.bool td.s)).setCell ⟨bd, 1, none⟩ (.slice td.a1 td.n1 td.c1)).setCell ⟨bd, 2, none⟩ (.slice td.a2 td.n2 td.c2) = W := ⟨_, rfl⟩
        rw [hWy] at NB YB hCn
        have HX_bd := hide NB
        have HY_bd := hide YB
        clear J B10 YB NB e10' hCv
        refine wpHold_one (k := 12) (by kernel_rfl) rfl (fun K hK => ?_)
        (try simp only [List.getElem_toArray, List.getElem_cons_succ, List.getElem_cons_zero])
        go_simp
        refine hK.out _ _ hCn ?_
        clear hK K
        (try simp only [Act.put, List.setIfInBounds_toArray, List.set_cons_zero, List.set_cons_succ])
        refine wpHold_one (k := 13) (by kernel_rfl) rfl (fun K hK => ?_)
        (try simp only [List.getElem_toArray, List.getElem_cons_succ, List.getElem_cons_zero])
        go_simp
        refine hK.out _ _ hCn ?_
        clear hK K
        (try simp only [Act.put, List.setIfInBounds_toArray, List.set_cons_zero, List.set_cons_succ])
        refine wpHold_done (by kernel_rfl) ?_ _
        clear hCn l0 l1 l2 k0 k1 k2 hWy e10 bd0 hWx r0 HJB KP1 KP2 KP3 KP4
        have HB9 := hide (below_step (unhide HBT) (unhide HY_bd))
        have X1 := unhide HX_bd
        have ⟨d0, d1, d2⟩ := X1.cells _ (Below.refl _ _)
        have HON := hide (one_err td.val bw k (unhide HNZ) Wbd X1.2 (tab_below (unhide HTB) (unhide HB9)) ((unhide HGT).below (unhide HB9)))
        simp only [Tri.val] at HON
        clear X1 HX_bd HY_bd HG_bd
        go_wp2_with fail
        refine (unhide HON).mono ?_
        rintro e x4 ⟨rfl, hb4⟩
        have HBZ := hide (below_step (unhide HB9) hb4)
        clear hb4 HON d0 d1 d2
        go_wp2
        go_ret
        exact ⟨rfl, unhide HBZ⟩
      | false =>
        refine wpHold_take (i := 8) (v := ?_) rfl (by kernel_rfl) (by kernel_rfl) (by kernel_rfl) (fun _ _ _ h => h) (Or.inl ⟨by rfl, ?_⟩) hCv ?_
        rotate_left
        · intro w hSw; clear hSw; go_simp; (try with_reducible rfl)
        (try simp only [List.getElem_toArray, List.getElem_cons_succ, List.getElem_cons_zero])
        (try simp only [Act.put, List.setIfInBounds_toArray, List.set_cons_zero, List.set_cons_succ])
        refine wpHold_take (i := 9) (v := ?_) rfl (by kernel_rfl) (by kernel_rfl) (by kernel_rfl) (fun _ _ _ h => h) (Or.inl ⟨by rfl, ?_⟩) hCv ?_
        rotate_left
        · intro w hSw; clear hSw; go_simp; (try with_reducible rfl)
        (try simp only [List.getElem_toArray, List.getElem_cons_succ, List.getElem_cons_zero])
        (try simp only [Act.put, List.setIfInBounds_toArray, List.set_cons_zero, List.set_cons_succ])
        refine wpHold_take (i := 10) (v := ?_) rfl (by kernel_rfl) (by kernel_rfl) (by kernel_rfl) (fun _ _ _ h => h) (Or.inl ⟨by rfl, ?_⟩) hCv ?_
        rotate_left
        · intro w hSw; clear hSw; go_simp; (try with_reducible rfl)
        (try simp only [List.getElem_toArray, List.getElem_cons_succ, List.getElem_cons_zero])
        (try simp only [Act.put, List.setIfInBounds_toArray, List.set_cons_zero, List.set_cons_succ])
        have hbA := alloc_below wv (.cells #[.bool false, .slice none 0 0, .slice none 0 0] 29)
        have B10 := BoxIs.new (w := wv) (t := zTri) (q := 0) (rat_zero _)
        have B10' : BoxIs (wv.alloc (.cells #[.bool false, .slice none 0 0, .slice none 0 0] 29)) wv.heap.size zTri 0 := B10
        have rA := r0.below hbA
        have blA := below_step J.bl hbA
        have hCA : (fun w' : World => (w'.cell? ⟨g0, 0, none⟩ = some (.int .i64 x) ∧ w'.cell? ⟨g0, 1, none⟩ = some (.int .i64 y)) ∧ w'.cell? ⟨g1, 0, none⟩ = some (.int .i64 z) ∧ w'.cell? ⟨g1, 1, none⟩ = some (.int .i64 u)) _ := unhide HCC _ (below_step bd0 blA)
        have e10 : Wx.heap.size ≤ wv.heap.size := J.bl.size
        refine wpHold_one (k := 11) (by kernel_rfl) rfl (fun K hK => ?_)
        (try simp only [List.getElem_toArray, List.getElem_cons_succ, List.getElem_cons_zero])
        go_simp
        refine hK.out _ _ hCA ?_
        clear hK K
        (try simp only [Act.put, List.setIfInBounds_toArray, List.set_cons_zero, List.set_cons_succ])
        obtain ⟨wA, hwA⟩ : ∃ W, wv.alloc (.cells #[.bool false, .slice none 0 0, .slice none 0 0] 29) = W := ⟨_, rfl⟩
        obtain ⟨bd, hbn⟩ : ∃ b, wv.heap.size = b := ⟨_, rfl⟩
        rw [hwA] at B10' rA blA hCA
        rw [hbn] at B10' e10
        simp only [hwA, hbn]
        clear B10 hbA hwA hbn
        replace B10 := B10'
        clear B10'
        have ⟨l0, l1, l2⟩ := B10.free
        have ⟨k0, k1, k2⟩ := B10.cells _ (Below.refl _ _)
        have HJB := hide (below_step bd0 blA)
        have NB := B10.set rA
        have e10' : w5.heap.size ≤ bd := Nat.le_trans bd0.size e10
        have YB := (((below_step bd0 blA).setCell (p := ⟨bd, 0, none⟩) e10' (.bool td.s)).setCell (p := ⟨bd, 1, none⟩) e10' (.slice td.a1 td.n1 td.c1)).setCell (p := ⟨bd, 2, none⟩) e10' (.slice td.a2 td.n2 td.c2)
        have HG_bd := hide e10'
        have hCn : (fun w' : World => (w'.cell? ⟨g0, 0, none⟩ = some (.int .i64 x) ∧ w'.cell? ⟨g0, 1, none⟩ = some (.int .i64 y)) ∧ w'.cell? ⟨g1, 0, none⟩ = some (.int .i64 z) ∧ w'.cell? ⟨g1, 1, none⟩ = some (.int .i64 u)) _ := unhide HCC _ YB
        obtain ⟨Wbd, hWy⟩ : ∃ W, ((wA.setCell ⟨bd, 0, none⟩ (.bool td.s)).setCell ⟨bd, 1, none⟩ (.slice td.a1 td.n1 td.c1)).setCell ⟨bd, 2, none⟩ (.slice td.a2 td.n2 td.c2) = W := ⟨_, rfl⟩
        rw [hWy] at NB YB hCn
        have HX_bd := hide NB
        have HY_bd := hide YB
        clear J B10 YB NB e10' hCv
        refine wpHold_one (k := 12) (by kernel_rfl) rfl (fun K hK => ?_)
        (try simp only [List.getElem_toArray, List.getElem_cons_succ, List.getElem_cons_zero])
        go_simp
        refine hK.out _ _ hCn ?_
        clear hK K
        (try simp only [Act.put, List.setIfInBounds_toArray, List.set_cons_zero, List.set_cons_succ])
        refine wpHold_one (k := 13) (by kernel_rfl) rfl (fun K hK => ?_)
        (try simp only [List.getElem_toArray, List.getElem_cons_succ, List.getElem_cons_zero])
        go_simp
        refine hK.out _ _ hCn ?_
        clear hK K
        (try simp only [Act.put, List.setIfInBounds_toArray, List.set_cons_zero, List.set_cons_succ])
        refine wpHold_done (by kernel_rfl) ?_ _
        clear hCn l0 l1 l2 k0 k1 k2 hWy e10 bd0 hWx r0 HJB KP1 KP2 KP3 KP4 hCA rA blA
        have HB9 := hide (below_step (unhide HBT) (unhide HY_bd))
        have X1 := unhide HX_bd
        have ⟨d0, d1, d2⟩ := X1.cells _ (Below.refl _ _)
        have HON := hide (one_err td.val bw k (unhide HNZ) Wbd X1.2 (tab_below (unhide HTB) (unhide HB9)) ((unhide HGT).below (unhide HB9)))
        simp only [Tri.val] at HON
        clear X1 HX_bd HY_bd HG_bd
        go_wp2_with fail
        refine (unhide HON).mono ?_
        rintro e x4 ⟨rfl, hb4⟩
        have HBZ := hide (below_step (unhide HB9) hb4)
        clear hb4 HON d0 d1 d2
        go_wp2
        go_ret
        exact ⟨rfl, unhide HBZ⟩

end Go.Proofs.YtjadhoembmenkaaGreatDoor
