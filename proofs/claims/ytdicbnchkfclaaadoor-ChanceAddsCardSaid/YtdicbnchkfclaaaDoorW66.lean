/- ChanceCounts: the walk. -/
import Derived.Test.YtdicbnchkfclaaaDoorA18
namespace Go.Proofs.YtdicbnchkfclaaaDoor
open Go.RowKit Go.Sort Go.Shelf

theorem pqs_get (ps : List (Int × Int)) (j : Nat) (hj : j < ps.length) : (pqs ps)[j]! = pq ps[j]! := by simp [pqs, hj]
theorem pqs_RS {ps : List (Int × Int)} (h : ∀ j, j < ps.length → I64 (ps[j]!).1 ∧ I64 (ps[j]!).2) : ∀ j, j < (pqs ps).length → RS (pqs ps)[j]! 1 := fun j hj => by
  rw [pqs_length] at hj
  rw [pqs_get ps j hj]
  exact pq_RS (h j hj).1 (h j hj).2

theorem qsum_take (qs : List Rat) (k : Nat) : ∀ j, j ≤ k → qsum (qs.take k) j = qsum qs j
  | 0, _ => rfl
  | j + 1, h => by
    show qsum (qs.take k) j + (qs.take k)[j]! = qsum qs j + qs[j]!
    rw [qsum_take qs k j (by omega), List.getElem!_eq_getElem?_getD, List.getElem!_eq_getElem?_getD, List.getElem?_take_of_lt (by omega)]
theorem take_RS {qs : List Rat} {J k : Nat} (h : ∀ j, j < qs.length → RS qs[j]! J) (hk : k ≤ qs.length) : ∀ j, j < (qs.take k).length → RS (qs.take k)[j]! J := fun j hj => by
  rw [List.length_take] at hj
  have e : (qs.take k)[j]! = qs[j]! := by rw [List.getElem!_eq_getElem?_getD, List.getElem!_eq_getElem?_getD, List.getElem?_take_of_lt (by omega)]
  rw [e]; exact h j (by omega)

set_option maxHeartbeats 8000000 in
set_option maxRecDepth 100000 in
set_option linter.unusedSimpArgs false in
theorem chanceCounts_any (v : Value) (ps : List (Int × Int)) (x y : Int) (w : World) (htab : Tab w) (h : PairsAre w v ps) (hx : I64 x) (hy : I64 y) :
    Calls Tryd.prog 5 #[v, .agg #[.int .i64 x, .int .i64 y]] w fun e w' => e = .returned (.bool true) ∧ Below w.heap.size w w' := by
  have HP := hide h
  obtain ⟨a, c, rfl, h1, h2, h4, h3⟩ := h
  have H4 := hide h4
  clear h3 h4
  by_cases hlen : 60 < ps.length
  · have hd : decide ((60 : Int) < (ps.length : Int)) = true := decide_eq_true (by omega)
    clear H4 HP htab
    go_enter Tryd.func5, Tryd.ntmps5
    go_wp2
    go_ret
    exact ⟨rfl, alloc_below _ _⟩
  have hd : decide ((60 : Int) < (ps.length : Int)) = false := decide_eq_false (by omega)
  have hlq : (pqs ps).length = ps.length := pqs_length ps
  have hrs := pqs_RS (unhide H4)
  have hqc : RS (pq (x, y)) 1 := pq_RS hx hy
  obtain ⟨W, hW⟩ : ∃ W, w.alloc (.cells #[.int .i64 x, .int .i64 y] 46) = W := ⟨_, rfl⟩
  have hbW : Below w.heap.size w W := by rw [← hW]; exact alloc_below _ _
  have hbx : ∀ w', Below W.heap.size W w' → w'.cell? ⟨w.heap.size, 0, none⟩ = some (.int .i64 x) ∧ w'.cell? ⟨w.heap.size, 1, none⟩ = some (.int .i64 y) := fun w' hb => by
    have hlt : w.heap.size < W.heap.size := by rw [← hW, alloc_heap, Array.size_push]; omega
    rw [hb.cell (p := ⟨w.heap.size, 0, none⟩) hlt, hb.cell (p := ⟨w.heap.size, 1, none⟩) hlt, ← hW]
    simp [World.cell?, alloc_heap]
  have HBX := hide hbx
  have HBW := hide hbW
  have HWE := hide hW
  have HLW := hide (law_any _ ps W ((unhide HP).below hbW) (by omega))
  have HF := hide (fun w' => f_any x y hx.1 hx.2 hy.1 hy.2 w')
  have HRS := hide hrs
  have HQC := hide hqc
  have HTAB := hide htab
  have HLQ := hide hlq
  clear hbx hbW hW hrs hqc htab hx hy hlq HP
  go_enter Tryd.func5, Tryd.ntmps5
  go_wp2_with fail
  rw [unhide HWE]
  refine (unhide HLW).mono ?_
  rintro e w1 ⟨v1, rfl, hl1, hb1⟩
  have ⟨c0, c1⟩ := unhide HBX _ hb1
  have HL1 := hide hl1
  obtain ⟨a1, cp1, rfl, m1, m2, _⟩ := hl1
  rw [unhide HLQ] at m1 HL1 ⊢
  clear HLW
  go_wp2_with fail
  refine (unhide HF w1).mono ?_
  rintro e w2 ⟨v2, rfl, hv2, hb2⟩
  have hv2 : RatIs w2 v2 (pq (x, y)) := hv2
  have b2 := below_step hb1 hb2
  have HLE := hide (least_any _ _ (pqs ps) (pq (x, y)) 1 w2 ((unhide HL1).below hb2) hv2 (unhide HRS) (by rw [unhide HLQ]; have : KK = 1099511627776 := rfl; omega) (unhide HQC) (by decide))
  obtain ⟨t2, rfl, hr2⟩ := tri_of hv2
  simp only [Tri.val] at HLE ⊢
  clear hv2 hr2
  go_wp2_with fail
  refine (unhide HLE).mono ?_
  rintro e w3 ⟨n, k, rfl, hsay, hb3⟩
  have b3 := below_step b2 hb3
  have HSAY := hide hsay
  clear hsay HLE
  go_wp2_with fail
  refine (coins_any w3 (tab_below (unhide HTAB) (below_step (unhide HBW) b3))).mono ?_
  rintro e w4 ⟨v4, rfl, hb4⟩
  have b4 := below_step b3 hb4
  have HB4 := hide (below_step (unhide HBW) b4)
  by_cases hk : k = 0
  rotate_left
  · have hn0 : n = 0 := (unhide HSAY).2.1 hk
    subst hn0
    have he : errV k = .iface 68 (.int .i64 k) := by unfold errV; rw [if_neg hk]
    rw [he]
    clear he hk HSAY hb4 b4 b3 b2 hb2 hb3 hb1
    go_wp2
    go_ret
    exact ⟨rfl, unhide HB4⟩
  subst hk
  obtain ⟨m, hnm, hml, hlo, hhi⟩ := (unhide HSAY).2.2 rfl
  subst hnm
  have he : errV 0 = .nilIface := by unfold errV; rw [if_pos rfl]
  rw [he]
  rw [unhide HLQ] at hml
  have ⟨d0, d1⟩ := unhide HBX _ b4.drew
  have HSM : ∀ k, k ≤ ps.length → ∀ w', Below W.heap.size W w' → LawIs w' (.slice a1 ps.length cp1) (pqs ps) → Calls Tryd.prog 21 #[.slice a1 k cp1] w' fun e w2 => ∃ v, e = .returned v ∧ RatIs w2 v (qsum (pqs ps) k) ∧ Below w'.heap.size w' w2 := fun k hk w' hb hl => by
    have hlk : ((pqs ps).take k).length = k := by rw [List.length_take, unhide HLQ]; omega
    have R := fsum_any (.slice a1 k cp1) ((pqs ps).take k) 1 w' (hl.take k (by rw [unhide HLQ]; exact hk)) (take_RS (unhide HRS) (by rw [unhide HLQ]; exact hk)) (by rw [hlk]; have : KK = 1099511627776 := rfl; omega)
    rw [hlk, qsum_take _ _ _ (Nat.le_refl _)] at R
    exact R
  have sq : ∀ k, k ≤ ps.length → Sm ((qsum (pqs ps) k).num.natAbs : Int) ∧ Sm ((qsum (pqs ps) k).den : Int) := fun k hk => by
    have hq := qsum_RS (unhide HRS) k (by rw [unhide HLQ]; exact hk)
    have : KK = 1099511627776 := rfl
    exact ⟨sm_of hq.1 (by omega), sm_of hq.2 (by omega)⟩
  have HCM : ∀ k, k ≤ ps.length → ∀ w' (v1 v2 : Value), RatIs w' v1 (qsum (pqs ps) k) → RatIs w' v2 (pq (x, y)) → Calls Tryd.prog 22 #[v1, v2] w' fun e w2 => e = .returned (.int .i64 (Wd.sg ((qsum (pqs ps) k).num * (pq (x, y)).den) ((pq (x, y)).num * (qsum (pqs ps) k).den))) ∧ Below w'.heap.size w' w2 := fun k hk w' v1 v2 r1 r2 =>
    cmpR_any _ _ _ _ w' r1 r2 (sq k hk).1 (sm_of (unhide HQC).1 (by decide)) (sq k hk).2 (sm_of (unhide HQC).2 (by decide))
  obtain ⟨G1, hG1⟩ : ∃ g, Wd.sg ((qsum (pqs ps) (m + 1)).num * (pq (x, y)).den) ((pq (x, y)).num * (qsum (pqs ps) (m + 1)).den) = g := ⟨_, rfl⟩
  obtain ⟨G2, hG2⟩ : ∃ g, Wd.sg ((qsum (pqs ps) m).num * (pq (x, y)).den) ((pq (x, y)).num * (qsum (pqs ps) m).den) = g := ⟨_, rfl⟩
  have C1 := HCM (m + 1) (by omega)
  have C2 := HCM m (by omega)
  rw [hG1] at C1
  rw [hG2] at C2
  have g1 : 0 ≤ G1 := by
    rcases Int.lt_or_le G1 0 with h | h
    · rw [← hG1, sgl_neg, ← Rat.lt_iff] at h
      exact absurd h (Rat.not_lt.2 hhi)
    · exact h
  have g2 : G2 < 0 := by rw [← hG2, sgl_neg, ← Rat.lt_iff]; exact hlo
  have gr1 := sg_range ((qsum (pqs ps) (m + 1)).num * (pq (x, y)).den) ((pq (x, y)).num * (qsum (pqs ps) (m + 1)).den)
  have gr2 := sg_range ((qsum (pqs ps) m).num * (pq (x, y)).den) ((pq (x, y)).num * (qsum (pqs ps) m).den)
  rw [hG1] at gr1
  rw [hG2] at gr2
  obtain ⟨gr1a, gr1b⟩ := gr1
  obtain ⟨gr2a, gr2b⟩ := gr2
  have hd1 : decide (0 ≤ G1) = true := decide_eq_true g1
  have hd2 : decide (G2 < 0) = true := decide_eq_true g2
  have S1 := HSM (m + 1) (by omega)
  have S2 := HSM m (by omega)
  obtain ⟨ba, oa, ea, -⟩ : ∃ b o, a1 = some ⟨b, o, none⟩ ∧ True := by
    obtain ⟨a', c', e', q1, q2, q3⟩ := unhide HL1
    injection e' with e1 e2 e3
    obtain ⟨b, o, ee, _⟩ := q3 (by rw [unhide HLQ]; omega)
    exact ⟨b, o, by rw [e1]; exact ee, trivial⟩
  subst ea
  have HL4 := hide ((unhide HL1).below (below_step (below_step hb2 hb3) hb4))
  have HS1 := hide S1
  have HS2 := hide S2
  have HC1 := hide C1
  have HC2 := hide C2
  have B4 := hide b4
  have mi0 : (0 : Int) ≤ (m : Int) := by omega
  have mi1 : (m : Int) < (ps.length : Int) := by omega
  have mp : (0 : Int) ≤ (m : Int) + 1 := by omega
  have mw : IntKind.i64.wrap ((m : Int) + 1) = (m : Int) + 1 := by first | go_num | (unfold IntKind.wrap; simp [IntKind.bits, IntKind.signed]; omega) | (rw [IntKind.wrap_i64]; omega)
  have mt : ((m : Int) + 1).toNat = m + 1 := by omega
  have mc : (m : Int) + 1 ≤ (cp1 : Int) := by omega
  have mc' : (m : Int) ≤ (cp1 : Int) := by omega
  have mn : m + 1 ≤ cp1 := by omega
  have mn' : m ≤ cp1 := by omega
  clear he HSAY hb4 b3 b2 hb2 hb3 hb1 hlo hhi c0 c1 HSM HCM C1 C2 S1 S2 hG1 hG2 g1 g2 gr1a gr1b gr2a gr2b sq hd hlen
  go_wp2_with fail
  refine wp_region_till (fun w' => w'.cell? ⟨w.heap.size, 0, none⟩ = some (.int .i64 x) ∧ w'.cell? ⟨w.heap.size, 1, none⟩ = some (.int .i64 y)) 29 (by kernel_rfl) ?_
  have hC0 : (fun w' : World => w'.cell? ⟨w.heap.size, 0, none⟩ = some (.int .i64 x) ∧ w'.cell? ⟨w.heap.size, 1, none⟩ = some (.int .i64 y)) w4.drew := ⟨d0, d1⟩
  refine wpTill_pure (i := 0) (v := ?_) rfl (by kernel_rfl) (by kernel_rfl) (by kernel_rfl) (by kernel_rfl) (fun _ _ _ h => h) (Or.inl ⟨by rfl, ?_⟩) (fun _ => hC0) ?_
  rotate_left
  · intro w hSw; clear hSw; go_simp; (try with_reducible rfl)
  (try simp only [List.getElem_toArray, List.getElem_cons_succ, List.getElem_cons_zero])
  (try simp only [Act.put, List.setIfInBounds_toArray, List.set_cons_zero, List.set_cons_succ])
  refine wpTill_pure (i := 1) (v := ?_) rfl (by kernel_rfl) (by kernel_rfl) (by kernel_rfl) (by kernel_rfl) (fun _ _ _ h => h) (Or.inl ⟨by rfl, ?_⟩) (fun _ => hC0) ?_
  rotate_left
  · intro w hSw; clear hSw; go_simp; (try with_reducible rfl)
  (try simp only [List.getElem_toArray, List.getElem_cons_succ, List.getElem_cons_zero])
  (try simp only [Act.put, List.setIfInBounds_toArray, List.set_cons_zero, List.set_cons_succ])
  refine wpTill_pure (i := 2) (v := ?_) rfl (by kernel_rfl) (by kernel_rfl) (by kernel_rfl) (by kernel_rfl) (fun _ _ _ h => h) (Or.inl ⟨by rfl, ?_⟩) (fun _ => hC0) ?_
  rotate_left
  · intro w hSw; clear hSw; go_simp; (try with_reducible rfl)
  (try simp only [List.getElem_toArray, List.getElem_cons_succ, List.getElem_cons_zero])
  (try simp only [Act.put, List.setIfInBounds_toArray, List.set_cons_zero, List.set_cons_succ])
  refine wpTill_pure (i := 3) (v := ?_) rfl (by kernel_rfl) (by kernel_rfl) (by kernel_rfl) (by kernel_rfl) (fun _ _ _ h => h) (Or.inl ⟨by rfl, ?_⟩) (fun _ => hC0) ?_
  rotate_left
  · intro w hSw; clear hSw; go_simp; (try with_reducible rfl)
  (try simp only [List.getElem_toArray, List.getElem_cons_succ, List.getElem_cons_zero])
  (try simp only [Act.put, List.setIfInBounds_toArray, List.set_cons_zero, List.set_cons_succ])
  refine wpTill_pure (i := 4) (v := ?_) rfl (by kernel_rfl) (by kernel_rfl) (by kernel_rfl) (by kernel_rfl) (fun _ _ _ h => h) (Or.inl ⟨by rfl, ?_⟩) (fun _ => hC0) ?_
  rotate_left
  · intro w hSw; clear hSw; go_simp; (try with_reducible rfl)
  (try simp only [List.getElem_toArray, List.getElem_cons_succ, List.getElem_cons_zero])
  (try simp only [Act.put, List.setIfInBounds_toArray, List.set_cons_zero, List.set_cons_succ])
  refine wpTill_pure (i := 5) (v := ?_) rfl (by kernel_rfl) (by kernel_rfl) (by kernel_rfl) (by kernel_rfl) (fun _ _ _ h => h) (Or.inl ⟨by rfl, ?_⟩) (fun _ => hC0) ?_
  rotate_left
  · intro w hSw; clear hSw; go_simp; (try with_reducible rfl)
  (try simp only [List.getElem_toArray, List.getElem_cons_succ, List.getElem_cons_zero])
  (try simp only [Act.put, List.setIfInBounds_toArray, List.set_cons_zero, List.set_cons_succ])
  refine wpTill_pure (i := 6) (v := ?_) rfl (by kernel_rfl) (by kernel_rfl) (by kernel_rfl) (by kernel_rfl) (fun _ _ _ h => h) (Or.inl ⟨by rfl, ?_⟩) (fun _ => hC0) ?_
  rotate_left
  · intro w hSw; clear hSw; go_simp; (try with_reducible rfl)
  (try simp only [List.getElem_toArray, List.getElem_cons_succ, List.getElem_cons_zero])
  (try simp only [Act.put, List.setIfInBounds_toArray, List.set_cons_zero, List.set_cons_succ])
  refine wpTill_pure (i := 7) (v := ?_) rfl (by kernel_rfl) (by kernel_rfl) (by kernel_rfl) (by kernel_rfl) (fun _ _ _ h => h) (Or.inl ⟨by rfl, ?_⟩) (fun _ => hC0) ?_
  rotate_left
  · intro w hSw; clear hSw; go_simp; (try with_reducible rfl)
  (try simp only [List.getElem_toArray, List.getElem_cons_succ, List.getElem_cons_zero])
  (try simp only [Act.put, List.setIfInBounds_toArray, List.set_cons_zero, List.set_cons_succ])
  refine wpTill_pure (i := 8) (v := ?_) rfl (by kernel_rfl) (by kernel_rfl) (by kernel_rfl) (by kernel_rfl) (fun _ _ _ h => h) (Or.inl ⟨by rfl, ?_⟩) (fun _ => hC0) ?_
  rotate_left
  · intro w hSw; clear hSw; go_simp; (try with_reducible rfl)
  (try simp only [List.getElem_toArray, List.getElem_cons_succ, List.getElem_cons_zero])
  (try simp only [Act.put, List.setIfInBounds_toArray, List.set_cons_zero, List.set_cons_succ])
  refine wpTill_pure (i := 9) (v := ?_) rfl (by kernel_rfl) (by kernel_rfl) (by kernel_rfl) (by kernel_rfl) (fun _ _ _ h => h) (Or.inl ⟨by rfl, ?_⟩) (fun _ => hC0) ?_
  rotate_left
  · intro w hSw; clear hSw; go_simp; (try with_reducible rfl)
  (try simp only [List.getElem_toArray, List.getElem_cons_succ, List.getElem_cons_zero])
  (try simp only [Act.put, List.setIfInBounds_toArray, List.set_cons_zero, List.set_cons_succ])
  refine wpTill_pure (i := 10) (v := ?_) rfl (by kernel_rfl) (by kernel_rfl) (by kernel_rfl) (by kernel_rfl) (fun _ _ _ h => h) (Or.inl ⟨by rfl, ?_⟩) (fun _ => hC0) ?_
  rotate_left
  · intro w hSw; clear hSw; go_simp; (try with_reducible rfl)
  (try simp only [List.getElem_toArray, List.getElem_cons_succ, List.getElem_cons_zero])
  (try simp only [Act.put, List.setIfInBounds_toArray, List.set_cons_zero, List.set_cons_succ])
  refine wpTill_pure (i := 11) (v := ?_) rfl (by kernel_rfl) (by kernel_rfl) (by kernel_rfl) (by kernel_rfl) (fun _ _ _ h => h) (Or.inl ⟨by rfl, ?_⟩) (fun _ => hC0) ?_
  rotate_left
  · intro w hSw; clear hSw; go_simp; (try with_reducible rfl)
  (try simp only [List.getElem_toArray, List.getElem_cons_succ, List.getElem_cons_zero])
  (try simp only [Act.put, List.setIfInBounds_toArray, List.set_cons_zero, List.set_cons_succ])
  refine wpTill_pure (i := 12) (v := ?_) rfl (by kernel_rfl) (by kernel_rfl) (by kernel_rfl) (by kernel_rfl) (fun _ _ _ h => h) (Or.inl ⟨by rfl, ?_⟩) (fun _ => hC0) ?_
  rotate_left
  · intro w hSw; clear hSw; go_simp; (try with_reducible rfl)
  (try simp only [List.getElem_toArray, List.getElem_cons_succ, List.getElem_cons_zero])
  (try simp only [Act.put, List.setIfInBounds_toArray, List.set_cons_zero, List.set_cons_succ])
  refine wpTill_take (i := 14) (v := ?_) rfl (by kernel_rfl) (by kernel_rfl) (by kernel_rfl) (by kernel_rfl) (by kernel_rfl) (by kernel_rfl) (fun _ _ _ h => h) (Or.inl ⟨by rfl, ?_⟩) hC0 ?_
  rotate_left
  · intro w hSw; (try dsimp only at hSw); obtain ⟨z0, z1⟩ := hSw; go_simp; (try with_reducible rfl)
  (try simp only [List.getElem_toArray, List.getElem_cons_succ, List.getElem_cons_zero])
  (try simp only [Act.put, List.setIfInBounds_toArray, List.set_cons_zero, List.set_cons_succ])
  refine wpTill_one (k := 13) (by kernel_rfl) rfl (fun K hK => ?_)
  (try simp only [List.getElem_toArray, List.getElem_cons_succ, List.getElem_cons_zero])
  go_simp
  refine (unhide HS1 w4.drew (unhide B4).drew ((unhide HL4).below (Below.refl _ _).drew)).mono ?_
  rintro e w5 ⟨v5, rfl, hv5, hb5⟩
  have b5 := below_step (unhide B4).drew hb5
  have ⟨p0, p1⟩ := unhide HBX _ b5
  have hC5 : (fun w' : World => w'.cell? ⟨w.heap.size, 0, none⟩ = some (.int .i64 x) ∧ w'.cell? ⟨w.heap.size, 1, none⟩ = some (.int .i64 y)) w5 := ⟨p0, p1⟩
  have HL5 := hide (((unhide HL4).below (Below.refl _ _).drew).below hb5)
  refine hK.out _ _ (fun _ => hC5) ?_
  clear hK K
  (try simp only [Act.put, List.setIfInBounds_toArray, List.set_cons_zero, List.set_cons_succ])
  refine wpTill_one (k := 15) (by kernel_rfl) rfl (fun K hK => ?_)
  (try simp only [List.getElem_toArray, List.getElem_cons_succ, List.getElem_cons_zero])
  go_simp
  refine (unhide HF w5).mono ?_
  rintro e w6 ⟨v6, rfl, hv6, hb6⟩
  have hv6 : RatIs w6 v6 (pq (x, y)) := hv6
  have b6 := below_step b5 hb6
  have ⟨r0, r1⟩ := unhide HBX _ b6
  have hC6 : (fun w' : World => w'.cell? ⟨w.heap.size, 0, none⟩ = some (.int .i64 x) ∧ w'.cell? ⟨w.heap.size, 1, none⟩ = some (.int .i64 y)) w6 := ⟨r0, r1⟩
  have HC16 := hide (unhide HC1 w6 v5 v6 (hv5.below hb6) hv6)
  have HL6 := hide ((unhide HL5).below hb6)
  refine hK.out _ _ (fun _ => hC6) ?_
  clear hK K
  (try simp only [Act.put, List.setIfInBounds_toArray, List.set_cons_zero, List.set_cons_succ])
  refine wpTill_one (k := 16) (by kernel_rfl) rfl (fun K hK => ?_)
  (try simp only [List.getElem_toArray, List.getElem_cons_succ, List.getElem_cons_zero])
  go_simp
  refine (unhide HC16).mono ?_
  rintro e w7 ⟨rfl, hb7⟩
  have b7 := below_step b6 hb7
  have ⟨t0, t1⟩ := unhide HBX _ b7
  have hC7 : (fun w' : World => w'.cell? ⟨w.heap.size, 0, none⟩ = some (.int .i64 x) ∧ w'.cell? ⟨w.heap.size, 1, none⟩ = some (.int .i64 y)) w7 := ⟨t0, t1⟩
  have HL7 := hide ((unhide HL6).below hb7)
  refine hK.out _ _ (fun _ => hC7) ?_
  clear hK K
  (try simp only [Act.put, List.setIfInBounds_toArray, List.set_cons_zero, List.set_cons_succ])
  refine wpTill_pure (i := 17) (v := ?_) rfl (by kernel_rfl) (by kernel_rfl) (by kernel_rfl) (by kernel_rfl) (fun _ _ _ h => h) (Or.inl ⟨by rfl, ?_⟩) (fun _ => hC7) ?_
  rotate_left
  · intro w hSw; clear hSw; go_simp; (try with_reducible rfl)
  (try simp only [List.getElem_toArray, List.getElem_cons_succ, List.getElem_cons_zero])
  (try simp only [Act.put, List.setIfInBounds_toArray, List.set_cons_zero, List.set_cons_succ])
  refine wpTill_pure (i := 18) (v := ?_) rfl (by kernel_rfl) (by kernel_rfl) (by kernel_rfl) (by kernel_rfl) (fun _ _ _ h => h) (Or.inl ⟨by rfl, ?_⟩) (fun _ => hC7) ?_
  rotate_left
  · intro w hSw; clear hSw; go_simp; (try with_reducible rfl)
  (try simp only [List.getElem_toArray, List.getElem_cons_succ, List.getElem_cons_zero])
  (try simp only [Act.put, List.setIfInBounds_toArray, List.set_cons_zero, List.set_cons_succ])
  refine wpTill_pure (i := 19) (v := ?_) rfl (by kernel_rfl) (by kernel_rfl) (by kernel_rfl) (by kernel_rfl) (fun _ _ _ h => h) (Or.inl ⟨by rfl, ?_⟩) (fun _ => hC7) ?_
  rotate_left
  · intro w hSw; clear hSw; go_simp; (try with_reducible rfl)
  (try simp only [List.getElem_toArray, List.getElem_cons_succ, List.getElem_cons_zero])
  (try simp only [Act.put, List.setIfInBounds_toArray, List.set_cons_zero, List.set_cons_succ])
  refine wpTill_pure (i := 20) (v := ?_) rfl (by kernel_rfl) (by kernel_rfl) (by kernel_rfl) (by kernel_rfl) (fun _ _ _ h => h) (Or.inl ⟨by rfl, ?_⟩) (fun _ => hC7) ?_
  rotate_left
  · intro w hSw; clear hSw; go_simp; (try with_reducible rfl)
  (try simp only [List.getElem_toArray, List.getElem_cons_succ, List.getElem_cons_zero])
  (try simp only [Act.put, List.setIfInBounds_toArray, List.set_cons_zero, List.set_cons_succ])
  refine wpTill_pure (i := 21) (v := ?_) rfl (by kernel_rfl) (by kernel_rfl) (by kernel_rfl) (by kernel_rfl) (fun _ _ _ h => h) (Or.inl ⟨by rfl, ?_⟩) (fun _ => hC7) ?_
  rotate_left
  · intro w hSw; clear hSw; go_simp; (try with_reducible rfl)
  (try simp only [List.getElem_toArray, List.getElem_cons_succ, List.getElem_cons_zero])
  (try simp only [Act.put, List.setIfInBounds_toArray, List.set_cons_zero, List.set_cons_succ])
  refine wpTill_pure (i := 22) (v := ?_) rfl (by kernel_rfl) (by kernel_rfl) (by kernel_rfl) (by kernel_rfl) (fun _ _ _ h => h) (Or.inl ⟨by rfl, ?_⟩) (fun _ => hC7) ?_
  rotate_left
  · intro w hSw; clear hSw; go_simp; (try with_reducible rfl)
  (try simp only [List.getElem_toArray, List.getElem_cons_succ, List.getElem_cons_zero])
  (try simp only [Act.put, List.setIfInBounds_toArray, List.set_cons_zero, List.set_cons_succ])
  refine wpTill_take (i := 24) (v := ?_) rfl (by kernel_rfl) (by kernel_rfl) (by kernel_rfl) (by kernel_rfl) (by kernel_rfl) (by kernel_rfl) (fun _ _ _ h => h) (Or.inl ⟨by rfl, ?_⟩) hC7 ?_
  rotate_left
  · intro w hSw; (try dsimp only at hSw); obtain ⟨z0, z1⟩ := hSw; go_simp; (try with_reducible rfl)
  (try simp only [List.getElem_toArray, List.getElem_cons_succ, List.getElem_cons_zero])
  (try simp only [Act.put, List.setIfInBounds_toArray, List.set_cons_zero, List.set_cons_succ])
  refine wpTill_one (k := 23) (by kernel_rfl) rfl (fun K hK => ?_)
  (try simp only [List.getElem_toArray, List.getElem_cons_succ, List.getElem_cons_zero])
  go_simp
  refine (unhide HS2 w7 b7 (unhide HL7)).mono ?_
  rintro e w8 ⟨v8, rfl, hv8, hb8⟩
  have b8 := below_step b7 hb8
  have ⟨q0, q1⟩ := unhide HBX _ b8
  have hC8 : (fun w' : World => w'.cell? ⟨w.heap.size, 0, none⟩ = some (.int .i64 x) ∧ w'.cell? ⟨w.heap.size, 1, none⟩ = some (.int .i64 y)) w8 := ⟨q0, q1⟩
  refine hK.out _ _ (fun _ => hC8) ?_
  clear hK K
  (try simp only [Act.put, List.setIfInBounds_toArray, List.set_cons_zero, List.set_cons_succ])
  refine wpTill_one (k := 25) (by kernel_rfl) rfl (fun K hK => ?_)
  (try simp only [List.getElem_toArray, List.getElem_cons_succ, List.getElem_cons_zero])
  go_simp
  refine (unhide HF w8).mono ?_
  rintro e w9 ⟨v9, rfl, hv9, hb9⟩
  have hv9 : RatIs w9 v9 (pq (x, y)) := hv9
  have b9 := below_step b8 hb9
  have ⟨s0, s1⟩ := unhide HBX _ b9
  have hC9 : (fun w' : World => w'.cell? ⟨w.heap.size, 0, none⟩ = some (.int .i64 x) ∧ w'.cell? ⟨w.heap.size, 1, none⟩ = some (.int .i64 y)) w9 := ⟨s0, s1⟩
  have HC26 := hide (unhide HC2 w9 v8 v9 (hv8.below hb9) hv9)
  refine hK.out _ _ (fun _ => hC9) ?_
  clear hK K
  (try simp only [Act.put, List.setIfInBounds_toArray, List.set_cons_zero, List.set_cons_succ])
  refine wpTill_one (k := 26) (by kernel_rfl) rfl (fun K hK => ?_)
  (try simp only [List.getElem_toArray, List.getElem_cons_succ, List.getElem_cons_zero])
  go_simp
  refine (unhide HC26).mono ?_
  rintro e w10 ⟨rfl, hb10⟩
  have b10 := below_step b9 hb10
  have ⟨o0, o1⟩ := unhide HBX _ b10
  have hC10 : (fun w' : World => w'.cell? ⟨w.heap.size, 0, none⟩ = some (.int .i64 x) ∧ w'.cell? ⟨w.heap.size, 1, none⟩ = some (.int .i64 y)) w10 := ⟨o0, o1⟩
  refine hK.out _ _ (fun _ => hC10) ?_
  clear hK K
  (try simp only [Act.put, List.setIfInBounds_toArray, List.set_cons_zero, List.set_cons_succ])
  refine wpTill_pure (i := 27) (v := ?_) rfl (by kernel_rfl) (by kernel_rfl) (by kernel_rfl) (by kernel_rfl) (fun _ _ _ h => h) (Or.inl ⟨by rfl, ?_⟩) (fun _ => hC10) ?_
  rotate_left
  · intro w hSw; clear hSw; go_simp; (try with_reducible rfl)
  (try simp only [List.getElem_toArray, List.getElem_cons_succ, List.getElem_cons_zero])
  (try simp only [Act.put, List.setIfInBounds_toArray, List.set_cons_zero, List.set_cons_succ])
  refine wpTill_pure (i := 28) (v := ?_) rfl (by kernel_rfl) (by kernel_rfl) (by kernel_rfl) (by kernel_rfl) (fun _ _ _ h => h) (Or.inl ⟨by rfl, ?_⟩) (fun _ => hC10) ?_
  rotate_left
  · intro w hSw; clear hSw; go_simp; (try with_reducible rfl)
  (try simp only [List.getElem_toArray, List.getElem_cons_succ, List.getElem_cons_zero])
  (try simp only [Act.put, List.setIfInBounds_toArray, List.set_cons_zero, List.set_cons_succ])
  refine wpTill_one (k := 29) (by kernel_rfl) rfl (fun K hK => ?_)
  (try simp only [List.getElem_toArray, List.getElem_cons_succ, List.getElem_cons_zero])
  go_simp
  refine hK.out _ _ (fun h => absurd (h.symm.trans (by kernel_rfl)) Bool.false_ne_true) ?_
  clear hK K
  (try simp only [Act.put, List.setIfInBounds_toArray, List.set_cons_zero, List.set_cons_succ])
  refine wpTill_done (by kernel_rfl) ?_ _
  have HB10 := hide (below_step (unhide HBW) b10)
  clear hC0 hC5 hC6 hC7 hC8 hC9 hC10 b4 b5 b6 b7 b8 b9 b10 hb5 hb6 hb7 hb8 hb9 hb10 hv5 hv6 hv8 hv9 HL4 HL5 HL6 HL7 d0 d1 p0 p1 r0 r1 t0 t1 q0 q1 s0 s1 o0 o1
  go_wp2
  go_ret
  exact ⟨rfl, unhide HB10⟩
end Go.Proofs.YtdicbnchkfclaaaDoor
