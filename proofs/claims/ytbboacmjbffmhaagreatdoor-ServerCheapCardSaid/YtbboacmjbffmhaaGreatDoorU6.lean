/- ServerCheap: the law's walk. -/
import Derived.Test.YtbboacmjbffmhaaGreatDoorU5
import Derived.Test.YtbboacmjbffmhaaGreatDoorW25
import Derived.Test.YtbboacmjbffmhaaGreatDoorA14
import Derived.Test.YtbboacmjbffmhaaGreatDoorK1
namespace Go.Proofs.YtbboacmjbffmhaaGreatDoor
open Go.RowKit Go.Sort Go.Shelf

theorem block_set {w : World} {G j : Nat} {cur : Array Value} {v : Value} {T : TypeId} (h : w.heap[G]? = some (.cells cur T)) : (w.setCell ⟨G, j, none⟩ v).heap[G]? = some (.cells (cur.setIfInBounds j v) T) := by
  rw [setCell_eq]
  simp only [mapBlock, Array.getElem?_modify, h, if_true, Option.map_some, onCells]
theorem pairs_of_fs {w : World} {v : Value} {qs : List (Int × Int)} (h : PairsAre w v qs) : ∀ j, j < (pqs qs).length → RS (pqs qs)[j]! 1 := fun j hj => by
  obtain ⟨_, _, _, _, _, hi, _⟩ := h
  rw [pqs_length] at hj
  rw [pqs_get hj]
  exact pq_RS (hi j hj).1 (hi j hj).2

set_option maxHeartbeats 8000000 in
set_option maxRecDepth 100000 in
set_option linter.unusedSimpArgs false in
theorem serverCheap_any (v vq : Value) (ps : List ((Int × Int) × List (Int × Int))) (qs : List (Int × Int)) (s : Int) (w : World) (htab : Tab w) (hps : ClsAre w v ps) (hqs : PairsAre w vq qs) :
    Calls Tryz.prog 3 #[v, vq, .int .i64 s] w fun e w' => e = .returned (.bool true) ∧ Below w.heap.size w w' := by
  have KKe : KK = 1099511627776 := rfl
  have HTAB := hide htab
  have HPS := hide hps
  have HQS := hide hqs
  have HHF : Hid (∀ W, Below w.heap.size w W → Calls Tryz.prog 7 #[] W fun e w' => e = .returned (.bool true) ∧ Below W.heap.size W w') := fun W hW => half_any W (tab_below (unhide HTAB) hW)
  obtain ⟨ap, cp, rfl, hp1, hp2, hp4, hp3⟩ := hps
  have H3 := hide hp3
  obtain ⟨aq, cq, rfl, hq1, hq2, _, _⟩ := hqs
  clear htab hp4 hp3
  by_cases hlen : 5 < ps.length
  · have hl5 : (5 : Int) < (ps.length : Int) := by omega
    go_enter Tryz.func3, Tryz.ntmps3
    go_wp2
    go_ret
    exact ⟨rfl, Below.refl _ _⟩
  have hl5 : ¬ (5 : Int) < (ps.length : Int) := by omega
  by_cases hle2 : ps.length < 2
  · have hl2 : (ps.length : Int) < 2 := by omega
    go_enter Tryz.func3, Tryz.ntmps3
    go_wp2
    go_ret
    exact ⟨rfl, Below.refl _ _⟩
  have hl2 : ¬ (ps.length : Int) < 2 := by omega
  by_cases hqp : qs.length = ps.length
  rotate_left
  · have hqp' : ¬ (qs.length : Int) = (ps.length : Int) := by omega
    go_enter Tryz.func3, Tryz.ntmps3
    go_wp2
    go_ret
    exact ⟨rfl, Below.refl _ _⟩
  have HQP := hide hqp
  rw [hqp] at hq1 ⊢
  clear hqp
  go_enter Tryz.func3, Tryz.ntmps3
  go_wp2_with fail
  go_loopw [7] (fun vi wr => ∃ i : Nat, vi = .int .i64 (i : Int) ∧ i ≤ ps.length ∧ Below w.heap.size w wr ∧ ∀ j, j < i → (ps[j]!).2.length ≤ 10) (fun vi _ => ps.length - (intOf vi).toNat)
  case atStart => exact ⟨0, rfl, Nat.zero_le _, Below.refl _ _, fun j h => absurd h (Nat.not_lt_zero _)⟩
  case round =>
    obtain ⟨i, rfl, hi, hb, hall⟩ := hrel
    have HALL := hide hall
    have HB0 := hide hb
    clear hall
    by_cases hlt : i < ps.length
    · obtain ⟨b, o, rfl, hblt, hcs⟩ := unhide H3 (by omega)
      obtain ⟨l, ⟨k0, k1, k2⟩, hpl⟩ := hcs i hlt
      rw [← hb.cell (p := ⟨b, o + i * 3 + 2, none⟩) hblt] at k2
      have hpn := pairs_len hpl
      have e1 : (i : Int) < (ps.length : Int) := by omega
      have e0 : (0 : Int) ≤ (i : Int) := by omega
      have e3 : IntKind.i64.wrap ((i : Int) + 1) = (i : Int) + 1 := by rw [IntKind.wrap_i64]; omega
      by_cases hbig : 10 < l.n
      · have e4 : (10 : Int) < (l.n : Int) := by omega
        clear hb hcs hpl hpn k0 k1 HALL
        go_wp2
        go_ret
        exact ⟨rfl, unhide HB0⟩
      · have e4 : ¬ (10 : Int) < (l.n : Int) := by omega
        have HN : Hid (∀ j, j < i + 1 → (ps[j]!).2.length ≤ 10) := fun j hj => by
          rcases Nat.lt_or_ge j i with h | h
          · exact unhide HALL j h
          · obtain rfl : j = i := by omega
            omega
        clear hb hcs hpl hpn k0 k1 HALL
        go_wp2_with fail
        exact ⟨⟨i + 1, by go_num, hlt, unhide HB0, unhide HN⟩, by simp [intOf]; omega⟩
    · obtain rfl : i = ps.length := by omega
      have e1 : ¬ (ps.length : Int) < (ps.length : Int) := by omega
      have HKI := hide (classes_any _ ps wr ((unhide HPS).below hb) (by omega) (fun j hj => by have := unhide HALL j hj; omega))
      have HSM := hide (csOf_sm (unhide HPS) (fun j hj => by have := unhide HALL j hj; omega))
      have hkl : (csOf ps).length = ps.length := csOf_length ps
      obtain ⟨ks, hks⟩ : ∃ ks, csOf ps = ks := ⟨_, rfl⟩
      rw [hks] at HKI HSM hkl
      have HKL := hide hkl
      have hl6 : ks.length ≤ 5 := by omega
      have hn2 : 2 ≤ ks.length := by omega
      have HBw := hide hb
      clear hb HALL hks hkl
      go_wp2_with fail
      (try simp only [Exit.inBlock, Exit.then])
      go_wp2_with fail
      refine (unhide HKI).mono ?_
      rintro e w1 ⟨vk, rfl, hvk, hbx⟩
      have HVK := hide hvk
      have HB1 := hide (below_step (unhide HB0) hbx)
      obtain ⟨ak, ck, rfl, k1, k2, k3⟩ := hvk
      have HK3 := hide k3
      clear k3 HKI HB0 e1 hl5 hi hlt HPS H3 hl2 hlen hle2
      have HFS := hide (fs_any _ qs w1 ((unhide HQS).below (unhide HB1)) (by have := unhide HQP; have := unhide HKL; omega))
      have HPR := hide (pairs_of_fs (unhide HQS))
      have hcl : (pqs qs).length = ks.length := by rw [pqs_length, unhide HQP, unhide HKL]
      rw [unhide HQP, ← unhide HKL] at HFS
      rw [← unhide HKL] at hp1 hq1 ⊢
      obtain ⟨cs, hcs⟩ : ∃ cs, pqs qs = cs := ⟨_, rfl⟩
      rw [hcs] at HFS HPR hcl
      have HCL := hide hcl
      clear hcs hcl hbx HQS
      go_wp2_with fail
      refine (unhide HFS).mono ?_
      rintro e w2 ⟨vc, rfl, hvc, hb2⟩
      have HVC := hide hvc
      obtain ⟨a2, c2, rfl, l1, l2, l3⟩ := hvc
      rw [unhide HCL] at l1 HVC ⊢
      have HVK2 := hide ((unhide HVK).below hb2)
      have HB2 := hide (below_step (unhide HB1) hb2)
      clear l3 hb2 HFS HB1 HVK HBw
      obtain ⟨b, o, hak, _, _⟩ := (unhide HVK2).elim_some (by omega)
      obtain rfl := hak
      obtain ⟨b2, o2, ha2⟩ := law_some (unhide HVC) (by rw [unhide HCL]; omega)
      obtain rfl := ha2
      have bC := alloc_below w2 (.cells #[.slice (some ⟨b, o, none⟩) ks.length ck] 28)
      have bD := alloc_below (w2.alloc (.cells #[.slice (some ⟨b, o, none⟩) ks.length ck] 28)) (.cells #[.slice (some ⟨b2, o2, none⟩) ks.length c2] 30)
      have CT : Caught ((w2.alloc (.cells #[.slice (some ⟨b, o, none⟩) ks.length ck] 28)).alloc (.cells #[.slice (some ⟨b2, o2, none⟩) ks.length c2] 30)) w2.heap.size (w2.heap.size + 1) b o ck b2 o2 c2 ks cs := ⟨by rw [bD.block _ (by rw [alloc_size]; omega)]; exact heap_alloc_new w2 _, by have h := heap_alloc_new (w2.alloc (.cells #[.slice (some ⟨b, o, none⟩) ks.length ck] 28)) (.cells #[.slice (some ⟨b2, o2, none⟩) ks.length c2] 30); rw [alloc_size] at h; exact h, (unhide HVK2).below (below_step bC bD), (unhide HVC).below (below_step bC bD)⟩
      have HB3 := hide (below_step (unhide HB2) (below_step bC bD))
      obtain ⟨Wz, hWz⟩ : ∃ W, (w2.alloc (.cells #[.slice (some ⟨b, o, none⟩) ks.length ck] 28)).alloc (.cells #[.slice (some ⟨b2, o2, none⟩) ks.length c2] 30) = W := ⟨_, rfl⟩
      obtain ⟨bc, hcz⟩ : ∃ b, w2.heap.size = b := ⟨_, rfl⟩
      obtain ⟨bk, hdz⟩ : ∃ b, bc + 1 = b := ⟨_, rfl⟩
      rw [hWz] at CT HB3
      rw [hcz] at CT
      rw [hdz] at CT
      have HCT := hide CT
      have ⟨c0, c1⟩ := CT.cells
      have HBE := hide (best_any _ _ ks cs Wz CT.cls CT.law (unhide HCL) (unhide HSM) (unhide HPR) hl6 hn2)
      have HCZ := hide hcz
      have HDZ := hide hdz
      rw [← hdz, ← hcz] at c1
      rw [← hcz] at c0
      clear CT bC bD HB2 HVK2 HVC hcz hdz
      go_wp2_with fail
      rw [unhide HCZ, unhide HDZ]
      clear hWz HCZ HDZ c0 c1
      refine (unhide HBE).mono ?_
      rintro e w3 (⟨hg, hz, g, f, rfl, own, hf, hs, hb3, hge⟩ | ⟨k, rfl, hb3⟩)
      rotate_left
      · have HB4 := hide (below_step (unhide HB3) hb3)
        clear hb3 HBE HB3
        go_wp2_with fail
        refine (unhide HHF _ (unhide HB4)).mono ?_
        rintro e w4 ⟨rfl, hb4⟩
        have HB5 := hide (below_step (unhide HB4) hb4)
        clear hb4
        go_wp2_with fail
        refine (unhide HHF _ (unhide HB5)).mono ?_
        rintro e w5 ⟨rfl, hb5⟩
        have HB6 := hide (below_step (unhide HB5) hb5)
        clear hb5
        go_wp2
        go_ret
        exact ⟨rfl, unhide HB6⟩
      have HG := hide hg
      have HZM := hide hz
      have HF := hide hf
      have HS := hide hs
      have HB4 := hide (below_step (unhide HB3) hb3)
      have HCT3 := hide ((unhide HCT).keep hb3)
      have HOWN := hide own
      clear hg hz hf hs hb3 own hge HBE HB3 HCT
      go_wp2_with fail
      refine (unhide HHF _ (unhide HB4)).mono ?_
      rintro e w4 ⟨rfl, hb4⟩
      have HB5 := hide (below_step (unhide HB4) hb4)
      have HCT4 := hide ((unhide HCT3).keep hb4)
      have HO4 := hide ((unhide HOWN).keep hb4)
      clear hb4 HB4 HCT3 HOWN
      obtain ⟨m, hm⟩ : ∃ m, ks.length = m + 1 := ⟨ks.length - 1, by omega⟩
      have e4 : IntKind.i64.wrap ((ks.length : Int) - 1) = (m : Int) := by rw [IntKind.wrap_i64]; omega
      have HM := hide hm
      clear hm
      go_wp2_with fail
      refine (pick_any s m (by have := unhide HM; omega) (by have := unhide HM; omega) _).mono ?_
      rintro e w4' ⟨t, rfl, ht, rfl⟩
      have ht1 : t + 1 < ks.length := by have := unhide HM; omega
      have HT1 := hide ht1
      clear ht ht1 e4
      obtain ⟨ti, hii, iz0, iz1, iz2⟩ := info_parts Tryz.infoI
      have HII := hide hii
      have HIZ := hide iz0
      clear hii iz0
      have bE := alloc_below w4' (.cells #[] 3)
      have ownE := (unhide HO4).keep bE
      have EO : (w4'.alloc (.cells #[] 3)).ownsRow w4'.heap.size 3 1 (.slice (some ⟨w4'.heap.size, 0, none⟩) 0 0) 0 [] := ⟨rfl, Or.inr ⟨w4'.heap.size, 0, #[], rfl, Nat.le_refl _, heap_alloc_new w4' _, Nat.le_refl _, by unfold maxLen; omega, rfl, rfl⟩⟩
      have hnews : ∀ j u, (lrow (fun i => ((f i : Nat) : Int)) ks.length)[j]? = some u → (w4'.alloc (.cells #[] 3)).cell? ((⟨g, 0, none⟩ : Addr).add j) = some u := fun j u hu => by
        have hj : j < ks.length := by
          have h := (List.getElem?_eq_some_iff.1 hu).1
          rw [lrow_length] at h
          exact h
        rw [lrow_get _ hj] at hu
        rw [Go.WideShapes.add_plain]
        rw [Nat.zero_add, ownE.cell hj]
        exact hu
      have hone : ∀ u ∈ lrow (fun i => ((f i : Nat) : Int)) ks.length, u.oneCell' = true := fun u hu => by
        unfold lrow at hu
        obtain ⟨j, _, rfl⟩ := List.mem_map.1 hu
        rfl
      have hszE : (w4'.alloc (.cells #[] 3)).heap.size = w4'.heap.size + 1 := by rw [alloc_heap, Array.size_push]
      have HEO := hide EO
      have HNW := hide hnews
      have HON := hide hone
      have HSZ := hide hszE
      have HBE := hide bE
      have HL63 : Hid (0 + ks.length ≤ maxLen) := by show _ ≤ _; unfold maxLen; omega
      have HL64 : Hid ((0 + ks.length) * 8 ≤ 140737488355328) := by show _ ≤ _; omega
      have HP0 : Hid (0 < ks.length) := by show _ < _; omega
      clear bE ownE EO hnews hone hszE
      go_wp2_with (at_builtin; go_loud (refine wpList_append_lies _ rfl _ _ _ rfl w4'.heap.size 3 ti (.int .i64 0) 1 8 Tryz.underlying32 (unhide HII) (unhide HIZ) iz1 iz2 rfl (by decide) _ 0 [] rfl (unhide HEO) ⟨g, 0, none⟩ ks.length ks.length (lrow (fun i => ((f i : Nat) : Int)) ks.length) rfl (by rw [lrow_length, Nat.mul_one]) (unhide HNW) (unhide HON) (unhide HP0) (unhide HL63) (unhide HL64) (unhide HBE).size (w4'.heap.size + 1) (unhide HSZ) ?_; intro g2 cap w5 hown hgrow hat hlt5))
      obtain ⟨cur, hb5, hh, hcs, hcap, hcur⟩ : ∃ cur : Array Value, w4'.heap.size ≤ g2 ∧ w5.heap[g2]? = some (.cells cur 3) ∧ (ks.length ≤ cap ∧ cap ≤ maxLen) ∧ cur.size = cap ∧ ∀ j, j < ks.length → cur[j]? = some (.int .i64 ((f j : Nat) : Int)) := by
        rcases hown.2 with ⟨e, _⟩ | ⟨g', cap', cur, e, hb, hh, hc1, hc2, hs, ht⟩
        · injection e with e; cases e
        · injection e with e1 e2 e3
          injection e1 with e1
          injection e1 with e1
          subst e1 e3
          refine ⟨cur, hb, hh, ⟨by omega, hc2⟩, by omega, fun j hj => ?_⟩
          have h : (cur.toList.take ((0 + ks.length) * 1))[j]? = (lrow (fun i => ((f i : Nat) : Int)) ks.length)[j]? := by rw [ht]; rfl
          rw [List.getElem?_take_of_lt (by omega), lrow_get _ hj] at h
          simpa using h
      have b5 : Below w4'.heap.size w4' w5 := Below.grown (unhide HBE) hgrow (unhide HBE).size (fun k hk => by
        have : w4'.heap.size = k := Option.some.inj hk
        omega)
      have HB45 := hide b5
      have HG2 := hide hb5
      have HHH := hide hh
      have HCS := hide hcs
      have HCUR := hide hcur
      have HCAP := hide hcap
      clear hown hgrow hat hlt5 b5 hb5 hh hcur hcap hcs HEO HNW HON HSZ HBE HL63 HL64 HP0 HII HIZ iz1 iz2
      obtain ⟨xt, hxt⟩ : ∃ x, f t = x := ⟨_, rfl⟩
      obtain ⟨xs, hxs⟩ : ∃ x, f (t + 1) = x := ⟨_, rfl⟩
      have HXT := hide hxt
      have HXS := hide hxs
      clear hxt hxs
      have hg2l : g2 < w5.heap.size := (Array.getElem?_eq_some_iff.1 (unhide HHH)).1
      have HCC : Hid (∀ W, Below w5.heap.size w5 W → (fun w' : World => w'.cell? ⟨g2, t + 1, none⟩ = some (.int .i64 (xs : Int)) ∧ w'.cell? ⟨g2, t, none⟩ = some (.int .i64 (xt : Int))) W) := fun W hW => by
        have hW' : W.heap[g2]? = some (.cells cur 3) := by rw [hW.block _ hg2l]; exact unhide HHH
        have q1 := unhide HCUR (t + 1) (unhide HT1)
        have q0 := unhide HCUR t (by have := unhide HT1; omega)
        rw [unhide HXS] at q1
        rw [unhide HXT] at q0
        constructor
        · simp only [World.cell?, hW']; exact q1
        · simp only [World.cell?, hW']; exact q0
      have e1 : (t : Int) < (ks.length : Int) := by have := unhide HT1; omega
      have e2 : (t : Int) + 1 < (ks.length : Int) := by have := unhide HT1; omega
      have e0 : (0 : Int) ≤ (t : Int) := by omega
      have e3 : (0 : Int) ≤ (t : Int) + 1 := by omega
      have e5 : IntKind.i64.wrap ((t : Int) + 1) = (t : Int) + 1 := by rw [IntKind.wrap_i64]; omega
      have e6 : ((t : Int) + 1).toNat = t + 1 := by omega
      clear hg2l
      refine wp_region_till (fun w' : World => w'.cell? ⟨g2, t + 1, none⟩ = some (.int .i64 (xs : Int)) ∧ w'.cell? ⟨g2, t, none⟩ = some (.int .i64 (xt : Int))) 15 (by kernel_rfl) ?_
      have bd0 : Below w5.heap.size w5 w5.drew := (Below.refl _ _).drew
      have hC0 : (fun w' : World => w'.cell? ⟨g2, t + 1, none⟩ = some (.int .i64 (xs : Int)) ∧ w'.cell? ⟨g2, t, none⟩ = some (.int .i64 (xt : Int))) w5.drew := unhide HCC _ bd0
      refine wpTill_pure (i := 0) (v := ?_) rfl (by kernel_rfl) (by kernel_rfl) (by kernel_rfl) (by kernel_rfl) (fun _ _ _ h => h) (Or.inl ⟨by rfl, ?_⟩) (fun _ => hC0) ?_
      rotate_left
      · intro w hSw; clear hSw; go_simp; (try with_reducible rfl)
      (try simp only [List.getElem_toArray, List.getElem_cons_succ, List.getElem_cons_zero])
      (try simp only [Act.put, List.setIfInBounds_toArray, List.set_cons_zero, List.set_cons_succ])
      refine wpTill_pure (i := 1) (v := ?_) rfl (by kernel_rfl) (by kernel_rfl) (by kernel_rfl) (by kernel_rfl) (fun _ _ _ h => h) (Or.inl ⟨by rfl, ?_⟩) (fun _ => hC0) ?_
      rotate_left
      · intro w hSw; clear hSw; go_simp; (try with_reducible rfl)
      (try simp only [List.getElem_toArray, List.getElem_cons_succ, List.getElem_cons_zero])
      (try simp only [Act.put, List.setIfInBounds_toArray, List.set_cons_zero, List.set_cons_succ])
      refine wpTill_pure (i := 2) (v := ?_) rfl (by kernel_rfl) (by kernel_rfl) (by kernel_rfl) (by kernel_rfl) (fun _ _ _ h => h) (Or.inl ⟨by rfl, ?_⟩) (fun _ => hC0) ?_
      rotate_left
      · intro w hSw; clear hSw; go_simp; (try with_reducible rfl)
      (try simp only [List.getElem_toArray, List.getElem_cons_succ, List.getElem_cons_zero])
      (try simp only [Act.put, List.setIfInBounds_toArray, List.set_cons_zero, List.set_cons_succ])
      refine wpTill_pure (i := 3) (v := ?_) rfl (by kernel_rfl) (by kernel_rfl) (by kernel_rfl) (by kernel_rfl) (fun _ _ _ h => h) (Or.inl ⟨by rfl, ?_⟩) (fun _ => hC0) ?_
      rotate_left
      · intro w hSw; clear hSw; go_simp; (try with_reducible rfl)
      (try simp only [List.getElem_toArray, List.getElem_cons_succ, List.getElem_cons_zero])
      (try simp only [Act.put, List.setIfInBounds_toArray, List.set_cons_zero, List.set_cons_succ])
      refine wpTill_pure (i := 4) (v := ?_) rfl (by kernel_rfl) (by kernel_rfl) (by kernel_rfl) (by kernel_rfl) (fun _ _ _ h => h) (Or.inl ⟨by rfl, ?_⟩) (fun _ => hC0) ?_
      rotate_left
      · intro w hSw; clear hSw; go_simp; (try with_reducible rfl)
      (try simp only [List.getElem_toArray, List.getElem_cons_succ, List.getElem_cons_zero])
      (try simp only [Act.put, List.setIfInBounds_toArray, List.set_cons_zero, List.set_cons_succ])
      refine wpTill_pure (i := 5) (v := ?_) rfl (by kernel_rfl) (by kernel_rfl) (by kernel_rfl) (by kernel_rfl) (fun _ _ _ h => h) (Or.inl ⟨by rfl, ?_⟩) (fun _ => hC0) ?_
      rotate_left
      · intro w hSw; clear hSw; go_simp; (try with_reducible rfl)
      (try simp only [List.getElem_toArray, List.getElem_cons_succ, List.getElem_cons_zero])
      (try simp only [Act.put, List.setIfInBounds_toArray, List.set_cons_zero, List.set_cons_succ])
      refine wpTill_pure (i := 6) (v := ?_) rfl (by kernel_rfl) (by kernel_rfl) (by kernel_rfl) (by kernel_rfl) (fun _ _ _ h => h) (Or.inl ⟨by rfl, ?_⟩) (fun _ => hC0) ?_
      rotate_left
      · intro w hSw; clear hSw; go_simp; (try with_reducible rfl)
      (try simp only [List.getElem_toArray, List.getElem_cons_succ, List.getElem_cons_zero])
      (try simp only [Act.put, List.setIfInBounds_toArray, List.set_cons_zero, List.set_cons_succ])
      refine wpTill_pure (i := 7) (v := ?_) rfl (by kernel_rfl) (by kernel_rfl) (by kernel_rfl) (by kernel_rfl) (fun _ _ _ h => h) (Or.inl ⟨by rfl, ?_⟩) (fun _ => hC0) ?_
      rotate_left
      · intro w hSw; clear hSw; go_simp; (try with_reducible rfl)
      (try simp only [List.getElem_toArray, List.getElem_cons_succ, List.getElem_cons_zero])
      (try simp only [Act.put, List.setIfInBounds_toArray, List.set_cons_zero, List.set_cons_succ])
      refine wpTill_pure (i := 8) (v := ?_) rfl (by kernel_rfl) (by kernel_rfl) (by kernel_rfl) (by kernel_rfl) (fun _ _ _ h => h) (Or.inl ⟨by rfl, ?_⟩) (fun _ => hC0) ?_
      rotate_left
      · intro w hSw; clear hSw; go_simp; (try with_reducible rfl)
      (try simp only [List.getElem_toArray, List.getElem_cons_succ, List.getElem_cons_zero])
      (try simp only [Act.put, List.setIfInBounds_toArray, List.set_cons_zero, List.set_cons_succ])
      refine wpTill_take (i := 9) (v := ?_) rfl (by kernel_rfl) (by kernel_rfl) (by kernel_rfl) (by kernel_rfl) (by kernel_rfl) (by kernel_rfl) (fun _ _ _ h => h) (Or.inl ⟨by rfl, ?_⟩) hC0 ?_
      rotate_left
      · intro w hSw; (try dsimp only at hSw); obtain ⟨z0, z1⟩ := hSw; go_simp; (try with_reducible rfl)
      (try simp only [List.getElem_toArray, List.getElem_cons_succ, List.getElem_cons_zero])
      (try simp only [Act.put, List.setIfInBounds_toArray, List.set_cons_zero, List.set_cons_succ])
      refine wpTill_pure (i := 10) (v := ?_) rfl (by kernel_rfl) (by kernel_rfl) (by kernel_rfl) (by kernel_rfl) (fun _ _ _ h => h) (Or.inl ⟨by rfl, ?_⟩) (fun _ => hC0) ?_
      rotate_left
      · intro w hSw; clear hSw; go_simp; (try with_reducible rfl)
      (try simp only [List.getElem_toArray, List.getElem_cons_succ, List.getElem_cons_zero])
      (try simp only [Act.put, List.setIfInBounds_toArray, List.set_cons_zero, List.set_cons_succ])
      refine wpTill_pure (i := 11) (v := ?_) rfl (by kernel_rfl) (by kernel_rfl) (by kernel_rfl) (by kernel_rfl) (fun _ _ _ h => h) (Or.inl ⟨by rfl, ?_⟩) (fun _ => hC0) ?_
      rotate_left
      · intro w hSw; clear hSw; go_simp; (try with_reducible rfl)
      (try simp only [List.getElem_toArray, List.getElem_cons_succ, List.getElem_cons_zero])
      (try simp only [Act.put, List.setIfInBounds_toArray, List.set_cons_zero, List.set_cons_succ])
      refine wpTill_pure (i := 12) (v := ?_) rfl (by kernel_rfl) (by kernel_rfl) (by kernel_rfl) (by kernel_rfl) (fun _ _ _ h => h) (Or.inl ⟨by rfl, ?_⟩) (fun _ => hC0) ?_
      rotate_left
      · intro w hSw; clear hSw; go_simp; (try with_reducible rfl)
      (try simp only [List.getElem_toArray, List.getElem_cons_succ, List.getElem_cons_zero])
      (try simp only [Act.put, List.setIfInBounds_toArray, List.set_cons_zero, List.set_cons_succ])
      refine wpTill_take (i := 13) (v := ?_) rfl (by kernel_rfl) (by kernel_rfl) (by kernel_rfl) (by kernel_rfl) (by kernel_rfl) (by kernel_rfl) (fun _ _ _ h => h) (Or.inl ⟨by rfl, ?_⟩) hC0 ?_
      rotate_left
      · intro w hSw; (try dsimp only at hSw); obtain ⟨z0, z1⟩ := hSw; go_simp; (try with_reducible rfl)
      (try simp only [List.getElem_toArray, List.getElem_cons_succ, List.getElem_cons_zero])
      (try simp only [Act.put, List.setIfInBounds_toArray, List.set_cons_zero, List.set_cons_succ])
      refine wpTill_pure (i := 14) (v := ?_) rfl (by kernel_rfl) (by kernel_rfl) (by kernel_rfl) (by kernel_rfl) (fun _ _ _ h => h) (Or.inl ⟨by rfl, ?_⟩) (fun _ => hC0) ?_
      rotate_left
      · intro w hSw; clear hSw; go_simp; (try with_reducible rfl)
      (try simp only [List.getElem_toArray, List.getElem_cons_succ, List.getElem_cons_zero])
      (try simp only [Act.put, List.setIfInBounds_toArray, List.set_cons_zero, List.set_cons_succ])
      have h0 : w5.drew.heap[g2]? = some (.cells cur 3) := unhide HHH
      have q1 := unhide HCUR (t + 1) (unhide HT1)
      have q0 := unhide HCUR t (by have := unhide HT1; omega)
      have y0 : w5.drew.cell? ⟨g2, t, none⟩ = some (.int .i64 (xt : Int)) := by rw [unhide HXT] at q0; simp only [World.cell?, h0]; exact q0
      have l0 : w5.drew.frozen? ⟨g2, t, none⟩ = false := by simp [World.frozen?, h0]
      have h1 := block_set (j := t) (v := .int .i64 (xs : Int)) h0
      have bl1 := ((unhide HB45).drew).setCell (p := ⟨g2, t, none⟩) (unhide HG2) (.int .i64 (xs : Int))
      obtain ⟨W6, hW6⟩ : ∃ W, w5.drew.setCell ⟨g2, t, none⟩ (.int .i64 (xs : Int)) = W := ⟨_, rfl⟩
      rw [hW6] at h1 bl1
      have y1 : W6.cell? ⟨g2, t + 1, none⟩ = some (.int .i64 (xs : Int)) := by
        rw [unhide HXS] at q1
        simp only [World.cell?, h1]
        rw [show (cur.setIfInBounds t (Value.int .i64 (xs : Int)))[t + 1]? = cur[t + 1]? by rw [Array.getElem?_setIfInBounds]; simp]
        exact q1
      have l1 : W6.frozen? ⟨g2, t + 1, none⟩ = false := by simp [World.frozen?, h1]
      have h2 := block_set (j := t + 1) (v := .int .i64 (xt : Int)) h1
      have bl2 := bl1.setCell (p := ⟨g2, t + 1, none⟩) (unhide HG2) (.int .i64 (xt : Int))
      obtain ⟨W7, hW7⟩ : ∃ W, W6.setCell ⟨g2, t + 1, none⟩ (.int .i64 (xt : Int)) = W := ⟨_, rfl⟩
      rw [hW7] at h2 bl2
      have HNR2 : Hid (NRow W7 g2 ks.length (swp f t (t + 1))) := by
        refine ⟨(Array.getElem?_eq_some_iff.1 h2).1, fun j hj => ?_⟩
        have hsz := unhide HCAP
        have hc := unhide HCS
        have key : ((cur.setIfInBounds t (Value.int .i64 (xs : Int))).setIfInBounds (t + 1) (Value.int .i64 (xt : Int)))[j]? = some (.int .i64 ((swp f t (t + 1) j : Nat) : Int)) := by
          unfold swp
          rw [Array.getElem?_setIfInBounds]
          by_cases a1 : t + 1 = j
          · rw [if_pos a1, if_pos (by rw [Array.size_setIfInBounds]; omega), if_neg (by omega), if_pos a1.symm, unhide HXT]
          · rw [if_neg a1, Array.getElem?_setIfInBounds]
            by_cases a2 : t = j
            · rw [if_pos a2, if_pos (by omega), if_pos a2.symm, unhide HXS]
            · rw [if_neg a2, if_neg (Ne.symm a2), if_neg (Ne.symm a1)]
              exact unhide HCUR j hj
        simp only [World.cell?, h2]
        exact key
      have HB47 := hide bl2
      clear h0 q0 q1 h1 h2 bl1 bl2
      refine wpTill_one (k := 15) (by kernel_rfl) rfl (fun K hK => ?_)
      (try simp only [List.getElem_toArray, List.getElem_cons_succ, List.getElem_cons_zero])
      go_simp
      refine hK.out _ _ (fun h => absurd (h.symm.trans (by kernel_rfl)) Bool.false_ne_true) ?_
      clear hK K
      (try simp only [Act.put, List.setIfInBounds_toArray, List.set_cons_zero, List.set_cons_succ])
      refine wpTill_one (k := 16) (by kernel_rfl) rfl (fun K hK => ?_)
      (try simp only [List.getElem_toArray, List.getElem_cons_succ, List.getElem_cons_zero])
      go_simp
      refine hK.out _ _ (fun h => absurd (h.symm.trans (by kernel_rfl)) Bool.false_ne_true) ?_
      clear hK K
      (try simp only [Act.put, List.setIfInBounds_toArray, List.set_cons_zero, List.set_cons_succ])
      refine wpTill_one (k := 17) (by kernel_rfl) rfl (fun K hK => ?_)
      (try simp only [List.getElem_toArray, List.getElem_cons_succ, List.getElem_cons_zero])
      go_simp
      refine hK.out _ _ (fun h => absurd (h.symm.trans (by kernel_rfl)) Bool.false_ne_true) ?_
      clear hK K
      (try simp only [Act.put, List.setIfInBounds_toArray, List.set_cons_zero, List.set_cons_succ])
      refine wpTill_done (by kernel_rfl) ?_ _
      clear hC0 bd0 HCC hW6 hW7 y0 y1 l0 l1 HHH HCUR e1 e2 e0 e3 e5 e6 HXT HXS HB45
      have HB7 := hide (below_step (unhide HB5) (unhide HB47))
      have HCT7 := hide ((unhide HCT4).keep (unhide HB47))
      have HNR1 : Hid (NRow W7 g ks.length f) := NRow.keep ⟨(unhide HO4).lt, fun j hj => (unhide HO4).cell hj⟩ (unhide HB47)
      have HFs := hide (swp_lt (unhide HF) (show t < ks.length by have := unhide HT1; omega) (unhide HT1))
      clear HB5 HCT4 HO4 HB47
      by_cases hfit : FitC (sel ks f ks.length)
      · have HFG : Hid (∀ i, i < ks.length → f i < ks.length) := unhide HF
        have HC1 : Hid (Calls Tryz.prog 9 #[.slice (some ⟨g, 0, none⟩) ks.length ks.length, .pointer (some ⟨bc, 0, none⟩), .pointer (some ⟨bk, 0, none⟩)] W7 fun e w' => ∃ v, e = .returned (.tuple #[v, .nilIface]) ∧ RatIs w' v (cstS ks cs f ks.length ks.length) ∧ Below W7.heap.size W7 w') := (cost_any g ks.length ks.length bc bk b o ck b2 o2 c2 f ks cs W7 rfl (unhide HCL) hl6 hn2 (Nat.le_refl _) (by omega) (unhide HF) (unhide HSM) (unhide HPR) (unhide HNR1) (unhide HCT7)).mono (by
          rintro e w' (⟨_, h⟩ | ⟨h, _⟩)
          · exact h
          · exact absurd hfit h)
        go_wp2_with fail
        refine (unhide HC1).mono ?_
        rintro e w_1 ⟨v1, rfl, hv1, hbx⟩
        obtain ⟨ta, rfl, hr_1⟩ := tri_of hv1
        simp only [Tri.val]
        have HG_ba := hide (below_step (unhide HB7) hbx).size
        have hb_1 := below_step hbx (alloc_below w_1 (.cells #[.bool ta.s, .slice ta.a1 ta.n1 ta.c1, .slice ta.a2 ta.n2 ta.c2] 42))
        have HB_2 := hide (below_step (unhide HB7) hb_1)
        have HCT_2 := hide ((unhide HCT7).keep hb_1)
        have HNR2_2 := hide ((unhide HNR2).keep hb_1)
        clear HB7 HCT7 HNR2
        have HX_ba_1 := hide (BoxIs.new hr_1)
        obtain ⟨Wba, hW_1⟩ : ∃ W, w_1.alloc (.cells #[.bool ta.s, .slice ta.a1 ta.n1 ta.c1, .slice ta.a2 ta.n2 ta.c2] 42) = W := ⟨_, rfl⟩
        obtain ⟨ba, hc_1⟩ : ∃ b, w_1.heap.size = b := ⟨_, rfl⟩
        rw [hW_1] at HB_2 HCT_2 HNR2_2 HX_ba_1
        rw [hc_1] at HX_ba_1 HG_ba
        clear hv1 hr_1 hbx hb_1
        have HC2 : Hid (Calls Tryz.prog 9 #[.slice (some ⟨g2, 0, none⟩) ks.length cap, .pointer (some ⟨bc, 0, none⟩), .pointer (some ⟨bk, 0, none⟩)] Wba fun e w' => ∃ v, e = .returned (.tuple #[v, .nilIface]) ∧ RatIs w' v (cstS ks cs (swp f t (t + 1)) ks.length ks.length) ∧ Below Wba.heap.size Wba w') := (cost_any g2 ks.length cap bc bk b o ck b2 o2 c2 (swp f t (t + 1)) ks cs Wba rfl (unhide HCL) hl6 hn2 (unhide HCS).1 (by have := (unhide HCS).2; unfold maxLen at this; exact this) (unhide HFs) (unhide HSM) (unhide HPR) (unhide HNR2_2) (unhide HCT_2)).mono (by
          rintro e w' (⟨_, h⟩ | ⟨h, _⟩)
          · exact h
          · exact absurd ((fit_swp (unhide HG) (unhide HT1) (unhide HF)).2 hfit) h)
        clear HC1
        go_wp2_with fail
        clear hW_1 hc_1
        refine (unhide HC2).mono ?_
        rintro e w_3 ⟨v2, rfl, hv2, hbx⟩
        obtain ⟨tb, rfl, hr_3⟩ := tri_of hv2
        simp only [Tri.val]
        have HL_ba_bb := hide (Nat.lt_of_lt_of_le (unhide HX_ba_1).lt hbx.size)
        have HG_bb := hide (below_step (unhide HB_2) hbx).size
        have hb_3 := below_step hbx (alloc_below w_3 (.cells #[.bool tb.s, .slice tb.a1 tb.n1 tb.c1, .slice tb.a2 tb.n2 tb.c2] 42))
        have HB_4 := hide (below_step (unhide HB_2) hb_3)
        have HX_ba_4 := hide ((unhide HX_ba_1).keep hb_3)
        have HCT_4 := hide ((unhide HCT_2).keep hb_3)
        have HNR2_4 := hide ((unhide HNR2_2).keep hb_3)
        clear HB_2 HX_ba_1 HCT_2 HNR2_2
        have HX_bb_3 := hide (BoxIs.new hr_3)
        obtain ⟨Wbb, hW_3⟩ : ∃ W, w_3.alloc (.cells #[.bool tb.s, .slice tb.a1 tb.n1 tb.c1, .slice tb.a2 tb.n2 tb.c2] 42) = W := ⟨_, rfl⟩
        obtain ⟨bb, hc_3⟩ : ∃ b, w_3.heap.size = b := ⟨_, rfl⟩
        rw [hW_3] at HB_4 HX_ba_4 HCT_4 HNR2_4 HX_bb_3
        rw [hc_3] at HX_bb_3 HL_ba_bb HG_bb
        clear hv2 hr_3 hbx hb_3
        clear HC2
        have hle := cheap_swp (cs := cs) (unhide HG) (unhide HZM) (unhide HT1) (unhide HF) (unhide HS) hfit
        have hfk : ∀ i, i < ks.length → f i < ks.length := unhide HF
        have R1 := (cst_RS (unhide HSM) (unhide HPR) hl6 (unhide HF) (unhide HCL) hfit ks.length (Nat.le_refl _)).mono (show ks.length * 910 + 1 ≤ 6000 by omega)
        have R2 := (cst_RS (unhide HSM) (unhide HPR) hl6 (unhide HFs) (unhide HCL) ((fit_swp (unhide HG) (unhide HT1) (unhide HF)).2 hfit) ks.length (Nat.le_refl _)).mono (show ks.length * 910 + 1 ≤ 6000 by omega)
        have HCM : Hid (∃ x : Int, -1 ≤ x ∧ x ≤ 0 ∧ Calls Tryz.prog 14 #[.agg #[.bool ta.s, .slice ta.a1 ta.n1 ta.c1, .slice ta.a2 ta.n2 ta.c2], .agg #[.bool tb.s, .slice tb.a1 tb.n1 tb.c1, .slice tb.a2 tb.n2 tb.c2]] Wbb fun e w' => e = .returned (.int .i64 x) ∧ Below Wbb.heap.size Wbb w') := ⟨_, (cmpv_le hle).1, (cmpv_le hle).2, cmpR_all ta.val tb.val _ _ _ (unhide HX_ba_4).2 (unhide HX_bb_3).2 6000 R1 R2 (by rw [KKe]; omega)⟩
        obtain ⟨fx, fx0, fx1, hfx⟩ := unhide HCM
        have HFX := hide hfx
        clear hfx HCM hle R1 R2 hfit hfk
        obtain ⟨cba_0, cba_1, cba_2⟩ := (unhide HX_ba_4).cells _ (Below.refl _ _)
        obtain ⟨cbb_0, cbb_1, cbb_2⟩ := (unhide HX_bb_3).cells _ (Below.refl _ _)
        go_wp2_with fail
        clear hW_3 hc_3
        refine (unhide HFX).mono ?_
        rintro e w_5 ⟨rfl, hbx⟩
        have HB_6 := hide (below_step (unhide HB_4) hbx)
        have HX_ba_6 := hide ((unhide HX_ba_4).keep hbx)
        have HX_bb_6 := hide ((unhide HX_bb_3).keep hbx)
        have HCT_6 := hide ((unhide HCT_4).keep hbx)
        have HNR2_6 := hide ((unhide HNR2_4).keep hbx)
        clear HB_4 HX_ba_4 HX_bb_3 HCT_4 HNR2_4
        clear hbx
        clear cba_0 cba_1 cba_2 cbb_0 cbb_1 cbb_2
        go_wp2
        go_ret
        exact ⟨rfl, unhide HB_6⟩
      · have HFG : Hid (∀ i, i < ks.length → f i < ks.length) := unhide HF
        have HC1 : Hid (Calls Tryz.prog 9 #[.slice (some ⟨g, 0, none⟩) ks.length ks.length, .pointer (some ⟨bc, 0, none⟩), .pointer (some ⟨bk, 0, none⟩)] W7 fun e w' => ∃ (k : Int) (v : Value), e = .returned (.tuple #[v, .iface 56 (.int .i64 k)]) ∧ RatIs w' v 0 ∧ Below W7.heap.size W7 w') := (cost_any g ks.length ks.length bc bk b o ck b2 o2 c2 f ks cs W7 rfl (unhide HCL) hl6 hn2 (Nat.le_refl _) (by omega) (unhide HF) (unhide HSM) (unhide HPR) (unhide HNR1) (unhide HCT7)).mono (by
          rintro e w' (⟨h, _⟩ | ⟨_, h⟩)
          · exact absurd h hfit
          · exact h)
        go_wp2_with fail
        refine (unhide HC1).mono ?_
        rintro e w_1 ⟨k1, v1, rfl, hv1, hbx⟩
        obtain ⟨ta, rfl, hr_1⟩ := tri_of hv1
        simp only [Tri.val]
        have HG_ba := hide (below_step (unhide HB7) hbx).size
        have hb_1 := below_step hbx (alloc_below w_1 (.cells #[.bool ta.s, .slice ta.a1 ta.n1 ta.c1, .slice ta.a2 ta.n2 ta.c2] 42))
        have HB_2 := hide (below_step (unhide HB7) hb_1)
        have HCT_2 := hide ((unhide HCT7).keep hb_1)
        have HNR2_2 := hide ((unhide HNR2).keep hb_1)
        clear HB7 HCT7 HNR2
        have HX_ba_1 := hide (BoxIs.new hr_1)
        obtain ⟨Wba, hW_1⟩ : ∃ W, w_1.alloc (.cells #[.bool ta.s, .slice ta.a1 ta.n1 ta.c1, .slice ta.a2 ta.n2 ta.c2] 42) = W := ⟨_, rfl⟩
        obtain ⟨ba, hc_1⟩ : ∃ b, w_1.heap.size = b := ⟨_, rfl⟩
        rw [hW_1] at HB_2 HCT_2 HNR2_2 HX_ba_1
        rw [hc_1] at HX_ba_1 HG_ba
        clear hv1 hr_1 hbx hb_1
        have HC2 : Hid (Calls Tryz.prog 9 #[.slice (some ⟨g2, 0, none⟩) ks.length cap, .pointer (some ⟨bc, 0, none⟩), .pointer (some ⟨bk, 0, none⟩)] Wba fun e w' => ∃ (k : Int) (v : Value), e = .returned (.tuple #[v, .iface 56 (.int .i64 k)]) ∧ RatIs w' v 0 ∧ Below Wba.heap.size Wba w') := (cost_any g2 ks.length cap bc bk b o ck b2 o2 c2 (swp f t (t + 1)) ks cs Wba rfl (unhide HCL) hl6 hn2 (unhide HCS).1 (by have := (unhide HCS).2; unfold maxLen at this; exact this) (unhide HFs) (unhide HSM) (unhide HPR) (unhide HNR2_2) (unhide HCT_2)).mono (by
          rintro e w' (⟨h, _⟩ | ⟨_, h⟩)
          · exact absurd ((fit_swp (unhide HG) (unhide HT1) (unhide HF)).1 h) hfit
          · exact h)
        clear HC1
        go_wp2_with fail
        clear hW_1 hc_1
        refine (unhide HC2).mono ?_
        rintro e w_3 ⟨k2, v2, rfl, hv2, hbx⟩
        obtain ⟨tb, rfl, hr_3⟩ := tri_of hv2
        simp only [Tri.val]
        have HL_ba_bb := hide (Nat.lt_of_lt_of_le (unhide HX_ba_1).lt hbx.size)
        have HG_bb := hide (below_step (unhide HB_2) hbx).size
        have hb_3 := below_step hbx (alloc_below w_3 (.cells #[.bool tb.s, .slice tb.a1 tb.n1 tb.c1, .slice tb.a2 tb.n2 tb.c2] 42))
        have HB_4 := hide (below_step (unhide HB_2) hb_3)
        have HX_ba_4 := hide ((unhide HX_ba_1).keep hb_3)
        have HCT_4 := hide ((unhide HCT_2).keep hb_3)
        have HNR2_4 := hide ((unhide HNR2_2).keep hb_3)
        clear HB_2 HX_ba_1 HCT_2 HNR2_2
        have HX_bb_3 := hide (BoxIs.new hr_3)
        obtain ⟨Wbb, hW_3⟩ : ∃ W, w_3.alloc (.cells #[.bool tb.s, .slice tb.a1 tb.n1 tb.c1, .slice tb.a2 tb.n2 tb.c2] 42) = W := ⟨_, rfl⟩
        obtain ⟨bb, hc_3⟩ : ∃ b, w_3.heap.size = b := ⟨_, rfl⟩
        rw [hW_3] at HB_4 HX_ba_4 HCT_4 HNR2_4 HX_bb_3
        rw [hc_3] at HX_bb_3 HL_ba_bb HG_bb
        clear hv2 hr_3 hbx hb_3
        clear HC2
        clear hfit
        go_wp2
        go_ret
        exact ⟨rfl, unhide HB_4⟩
end Go.Proofs.YtbboacmjbffmhaaGreatDoor
