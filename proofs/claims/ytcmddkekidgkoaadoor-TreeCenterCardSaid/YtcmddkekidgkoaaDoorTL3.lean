/- The law's edges; the document's TreeCheck, PeopleCheck, Far, Sum20, Branches. -/
import Derived.Test.YtcmddkekidgkoaaDoorTL2
namespace Go.Proofs.YtcmddkekidgkoaaDoor
open Go.RowKit Go.Sort Go.Shelf

theorem Tryd.infoRE : (Tryd.prog.info? 82).map (fun i => (i.zero, i.size, i.bytes)) = some (some (.agg #[.int .i64 0, .int .i64 0, .int .i64 0]), 3, 24) := by kernel_rfl
set_option maxHeartbeats 16000000 in
set_option maxRecDepth 100000 in
set_option linter.unusedSimpArgs false in
theorem edges_any (a : Option Addr) (n c : Nat) (f : Nat → T3) (w : World) (ha : TRow w a n c f) (hn : n ≤ 1000) :
    Calls Tryd.prog 12 #[.slice a n c] w fun e w' => ∃ a' c', e = .returned (.slice a' n c') ∧ TRow w' a' n c' f ∧ Below w.heap.size w w' := by
  obtain ⟨ti, hi, hz0, hz1, hz2⟩ := info_parts Tryd.infoRE
  have HI := hide hi
  have HZ := hide hz0
  have HA := hide ha
  have q1 := ha.1
  have q2 := ha.2.1
  clear hi hz0 ha
  go_enter Tryd.func12, Tryd.ntmps12
  go_wp2_with fail
  go_loopw [4, 3] (fun vi vo wr => ∃ i : Nat, vi = .int .i64 (i : Int) ∧ i ≤ n ∧ OwnT 82 wr w.heap.size vo (firsts f i) ∧ Below w.heap.size w wr) (fun vi _ _ => n - (intOf vi).toNat)
  case atStart => exact ⟨0, rfl, Nat.zero_le _, OwnT.start _ _ _, Below.refl _ _⟩
  case round =>
    obtain ⟨i, rfl, hi, hO, hb⟩ := hrel
    by_cases hlt : i < n
    · obtain ⟨b, oo, rfl, hbl, hc3⟩ := (unhide HA).2.2 (by omega)
      have ⟨k0, k1, k2⟩ := hc3 i hlt
      obtain ⟨t, ht⟩ : ∃ t, f i = t := ⟨_, rfl⟩
      rw [ht] at k0 k1 k2
      have HCF : Hid (∀ W, Below w.heap.size w W → (fun w' : World => w'.cell? ⟨b, oo + i * 3, none⟩ = some (.int .i64 t.1) ∧ w'.cell? ⟨b, oo + i * 3 + 1, none⟩ = some (.int .i64 t.2.1) ∧ w'.cell? ⟨b, oo + i * 3 + 2, none⟩ = some (.int .i64 t.2.2)) W) := fun W hW => by
        refine ⟨?_, ?_, ?_⟩
        · rw [hW.cell (p := ⟨b, oo + i * 3, none⟩) hbl]; exact k0
        · rw [hW.cell (p := ⟨b, oo + i * 3 + 1, none⟩) hbl]; exact k1
        · rw [hW.cell (p := ⟨b, oo + i * 3 + 2, none⟩) hbl]; exact k2
      have HB := hide hb
      have HCC : Hid (∀ W, Below wr.heap.size wr W → (fun w' : World => w'.cell? ⟨b, oo + i * 3, none⟩ = some (.int .i64 t.1) ∧ w'.cell? ⟨b, oo + i * 3 + 1, none⟩ = some (.int .i64 t.2.1) ∧ w'.cell? ⟨b, oo + i * 3 + 2, none⟩ = some (.int .i64 t.2.2)) W) := fun W hW => unhide HCF W (below_step (unhide HB) hW)
      have HO := hide hO
      have HS : Hid (firsts f (i + 1) = firsts f i ++ [t]) := by show _ = _; rw [firsts_succ, ht]
      have HL := hide (firsts_length f i)
      have e0 : (0 : Int) ≤ (i : Int) := by omega
      have e1 : (i : Int) < (n : Int) := by omega
      have e2 : IntKind.i64.wrap ((i : Int) + 1) = ((i + 1 : Nat) : Int) := by rw [IntKind.wrap_i64]; omega
      clear hc3 hO hb ht k0 k1 k2
      go_wp2_with fail
      refine wp_region_hold (fun w' : World => w'.cell? ⟨b, oo + i * 3, none⟩ = some (.int .i64 t.1) ∧ w'.cell? ⟨b, oo + i * 3 + 1, none⟩ = some (.int .i64 t.2.1) ∧ w'.cell? ⟨b, oo + i * 3 + 2, none⟩ = some (.int .i64 t.2.2)) (by kernel_rfl) ?_
      have bd0 : Below wr.heap.size wr wr.drew := (Below.refl _ _).drew
      have hC0 : (fun w' : World => w'.cell? ⟨b, oo + i * 3, none⟩ = some (.int .i64 t.1) ∧ w'.cell? ⟨b, oo + i * 3 + 1, none⟩ = some (.int .i64 t.2.1) ∧ w'.cell? ⟨b, oo + i * 3 + 2, none⟩ = some (.int .i64 t.2.2)) wr.drew := unhide HCC _ bd0
      refine wpHold_take (i := 0) (v := ?_) rfl (by kernel_rfl) (by kernel_rfl) (by kernel_rfl) (fun _ _ _ h => h) (Or.inl ⟨by rfl, ?_⟩) hC0 ?_
      rotate_left
      · intro w hSw; clear hSw; go_simp; (try with_reducible rfl)
      (try simp only [List.getElem_toArray, List.getElem_cons_succ, List.getElem_cons_zero])
      (try simp only [Act.put, List.setIfInBounds_toArray, List.set_cons_zero, List.set_cons_succ])
      refine wpHold_take (i := 1) (v := ?_) rfl (by kernel_rfl) (by kernel_rfl) (by kernel_rfl) (fun _ _ _ h => h) (Or.inl ⟨by rfl, ?_⟩) hC0 ?_
      rotate_left
      · intro w hSw; clear hSw; go_simp; (try with_reducible rfl)
      (try simp only [List.getElem_toArray, List.getElem_cons_succ, List.getElem_cons_zero])
      (try simp only [Act.put, List.setIfInBounds_toArray, List.set_cons_zero, List.set_cons_succ])
      refine wpHold_take (i := 2) (v := ?_) rfl (by kernel_rfl) (by kernel_rfl) (by kernel_rfl) (fun _ _ _ h => h) (Or.inl ⟨by rfl, ?_⟩) hC0 ?_
      rotate_left
      · intro w hSw; clear hSw; go_simp; (try with_reducible rfl)
      (try simp only [List.getElem_toArray, List.getElem_cons_succ, List.getElem_cons_zero])
      (try simp only [Act.put, List.setIfInBounds_toArray, List.set_cons_zero, List.set_cons_succ])
      refine wpHold_take (i := 3) (v := ?_) rfl (by kernel_rfl) (by kernel_rfl) (by kernel_rfl) (fun _ _ _ h => h) (Or.inl ⟨by rfl, ?_⟩) hC0 ?_
      rotate_left
      · intro w hSw; clear hSw; go_simp; (try with_reducible rfl)
      (try simp only [List.getElem_toArray, List.getElem_cons_succ, List.getElem_cons_zero])
      (try simp only [Act.put, List.setIfInBounds_toArray, List.set_cons_zero, List.set_cons_succ])
      refine wpHold_take (i := 4) (v := ?_) rfl (by kernel_rfl) (by kernel_rfl) (by kernel_rfl) (fun _ _ _ h => h) (Or.inl ⟨by rfl, ?_⟩) hC0 ?_
      rotate_left
      · intro w hSw; clear hSw; go_simp; (try with_reducible rfl)
      (try simp only [List.getElem_toArray, List.getElem_cons_succ, List.getElem_cons_zero])
      (try simp only [Act.put, List.setIfInBounds_toArray, List.set_cons_zero, List.set_cons_succ])
      refine wpHold_take (i := 5) (v := ?_) rfl (by kernel_rfl) (by kernel_rfl) (by kernel_rfl) (fun _ _ _ h => h) (Or.inl ⟨by rfl, ?_⟩) hC0 ?_
      rotate_left
      · intro w hSw; (try dsimp only at hSw); obtain ⟨z0, z1, z2⟩ := hSw; go_simp; (try with_reducible rfl)
      (try simp only [List.getElem_toArray, List.getElem_cons_succ, List.getElem_cons_zero])
      (try simp only [Act.put, List.setIfInBounds_toArray, List.set_cons_zero, List.set_cons_succ])
      refine wpHold_take (i := 6) (v := ?_) rfl (by kernel_rfl) (by kernel_rfl) (by kernel_rfl) (fun _ _ _ h => h) (Or.inl ⟨by rfl, ?_⟩) hC0 ?_
      rotate_left
      · intro w hSw; clear hSw; go_simp; (try with_reducible rfl)
      (try simp only [List.getElem_toArray, List.getElem_cons_succ, List.getElem_cons_zero])
      (try simp only [Act.put, List.setIfInBounds_toArray, List.set_cons_zero, List.set_cons_succ])
      refine wpHold_take (i := 7) (v := ?_) rfl (by kernel_rfl) (by kernel_rfl) (by kernel_rfl) (fun _ _ _ h => h) (Or.inl ⟨by rfl, ?_⟩) hC0 ?_
      rotate_left
      · intro w hSw; clear hSw; go_simp; (try with_reducible rfl)
      (try simp only [List.getElem_toArray, List.getElem_cons_succ, List.getElem_cons_zero])
      (try simp only [Act.put, List.setIfInBounds_toArray, List.set_cons_zero, List.set_cons_succ])
      refine wpHold_take (i := 8) (v := ?_) rfl (by kernel_rfl) (by kernel_rfl) (by kernel_rfl) (fun _ _ _ h => h) (Or.inl ⟨by rfl, ?_⟩) hC0 ?_
      rotate_left
      · intro w hSw; clear hSw; go_simp; (try with_reducible rfl)
      (try simp only [List.getElem_toArray, List.getElem_cons_succ, List.getElem_cons_zero])
      (try simp only [Act.put, List.setIfInBounds_toArray, List.set_cons_zero, List.set_cons_succ])
      refine wpHold_take (i := 9) (v := ?_) rfl (by kernel_rfl) (by kernel_rfl) (by kernel_rfl) (fun _ _ _ h => h) (Or.inl ⟨by rfl, ?_⟩) hC0 ?_
      rotate_left
      · intro w hSw; clear hSw; go_simp; (try with_reducible rfl)
      (try simp only [List.getElem_toArray, List.getElem_cons_succ, List.getElem_cons_zero])
      (try simp only [Act.put, List.setIfInBounds_toArray, List.set_cons_zero, List.set_cons_succ])
      refine wpHold_take (i := 10) (v := ?_) rfl (by kernel_rfl) (by kernel_rfl) (by kernel_rfl) (fun _ _ _ h => h) (Or.inl ⟨by rfl, ?_⟩) hC0 ?_
      rotate_left
      · intro w hSw; (try dsimp only at hSw); obtain ⟨z0, z1, z2⟩ := hSw; go_simp; (try with_reducible rfl)
      (try simp only [List.getElem_toArray, List.getElem_cons_succ, List.getElem_cons_zero])
      (try simp only [Act.put, List.setIfInBounds_toArray, List.set_cons_zero, List.set_cons_succ])
      refine wpHold_take (i := 11) (v := ?_) rfl (by kernel_rfl) (by kernel_rfl) (by kernel_rfl) (fun _ _ _ h => h) (Or.inl ⟨by rfl, ?_⟩) hC0 ?_
      rotate_left
      · intro w hSw; clear hSw; go_simp; (try with_reducible rfl)
      (try simp only [List.getElem_toArray, List.getElem_cons_succ, List.getElem_cons_zero])
      (try simp only [Act.put, List.setIfInBounds_toArray, List.set_cons_zero, List.set_cons_succ])
      refine wpHold_take (i := 12) (v := ?_) rfl (by kernel_rfl) (by kernel_rfl) (by kernel_rfl) (fun _ _ _ h => h) (Or.inl ⟨by rfl, ?_⟩) hC0 ?_
      rotate_left
      · intro w hSw; clear hSw; go_simp; (try with_reducible rfl)
      (try simp only [List.getElem_toArray, List.getElem_cons_succ, List.getElem_cons_zero])
      (try simp only [Act.put, List.setIfInBounds_toArray, List.set_cons_zero, List.set_cons_succ])
      refine wpHold_take (i := 13) (v := ?_) rfl (by kernel_rfl) (by kernel_rfl) (by kernel_rfl) (fun _ _ _ h => h) (Or.inl ⟨by rfl, ?_⟩) hC0 ?_
      rotate_left
      · intro w hSw; clear hSw; go_simp; (try with_reducible rfl)
      (try simp only [List.getElem_toArray, List.getElem_cons_succ, List.getElem_cons_zero])
      (try simp only [Act.put, List.setIfInBounds_toArray, List.set_cons_zero, List.set_cons_succ])
      refine wpHold_take (i := 14) (v := ?_) rfl (by kernel_rfl) (by kernel_rfl) (by kernel_rfl) (fun _ _ _ h => h) (Or.inl ⟨by rfl, ?_⟩) hC0 ?_
      rotate_left
      · intro w hSw; clear hSw; go_simp; (try with_reducible rfl)
      (try simp only [List.getElem_toArray, List.getElem_cons_succ, List.getElem_cons_zero])
      (try simp only [Act.put, List.setIfInBounds_toArray, List.set_cons_zero, List.set_cons_succ])
      refine wpHold_take (i := 15) (v := ?_) rfl (by kernel_rfl) (by kernel_rfl) (by kernel_rfl) (fun _ _ _ h => h) (Or.inl ⟨by rfl, ?_⟩) hC0 ?_
      rotate_left
      · intro w hSw; (try dsimp only at hSw); obtain ⟨z0, z1, z2⟩ := hSw; go_simp; (try with_reducible rfl)
      (try simp only [List.getElem_toArray, List.getElem_cons_succ, List.getElem_cons_zero])
      (try simp only [Act.put, List.setIfInBounds_toArray, List.set_cons_zero, List.set_cons_succ])
      refine wpHold_take (i := 16) (v := ?_) rfl (by kernel_rfl) (by kernel_rfl) (by kernel_rfl) (fun _ _ _ h => h) (Or.inl ⟨by rfl, ?_⟩) hC0 ?_
      rotate_left
      · intro w hSw; clear hSw; go_simp; (try with_reducible rfl)
      (try simp only [List.getElem_toArray, List.getElem_cons_succ, List.getElem_cons_zero])
      (try simp only [Act.put, List.setIfInBounds_toArray, List.set_cons_zero, List.set_cons_succ])
      refine wpHold_one (k := 17) (by kernel_rfl) rfl (fun K hK => ?_)
      (try simp only [List.getElem_toArray, List.getElem_cons_succ, List.getElem_cons_zero])
      go_simp
      have B3 := below_step (alloc_below wr (.cells #[.int .i64 t.1, .int .i64 t.2.1, .int .i64 t.2.2] 82)) (drew_below _)
      have hC3 : (fun w' : World => w'.cell? ⟨b, oo + i * 3, none⟩ = some (.int .i64 t.1) ∧ w'.cell? ⟨b, oo + i * 3 + 1, none⟩ = some (.int .i64 t.2.1) ∧ w'.cell? ⟨b, oo + i * 3 + 2, none⟩ = some (.int .i64 t.2.2)) (wr.alloc (.cells #[.int .i64 t.1, .int .i64 t.2.1, .int .i64 t.2.2] 82)).drew := unhide HCC _ B3
      refine hK.out _ _ hC3 ?_
      clear hK K
      (try simp only [Act.put, List.setIfInBounds_toArray, List.set_cons_zero, List.set_cons_succ])
      refine wpHold_one (k := 18) (by kernel_rfl) rfl (fun K hK => ?_)
      refine step_append_lies _ rfl _ _ _ rfl w.heap.size 82 ti (.agg #[.int .i64 0, .int .i64 0, .int .i64 0]) 3 24 Tryd.underlying23 (unhide HI) (unhide HZ) hz1 hz2 rfl (by decide) u3 (firsts f i).length (pcells (firsts f i)) rfl ((unhide HO).keep B3) ⟨wr.heap.size, 0, none⟩ 1 1 (T3.cells t) rfl rfl (fun j u hu => news_three wr t 82 j u hu) (cells_one _) (by decide) (by rw [unhide HL]; unfold maxLen; omega) (by rw [unhide HL]; omega) (Nat.le_trans (unhide HB).size B3.size) _ rfl ?_
      intro g2 cap2 w4 own4 grow4 hat4 hlt4
      have FIN : Hid (OwnT 82 w4 w.heap.size (.slice (some ⟨g2, 0, none⟩) ((firsts f i).length + 1) cap2) (firsts f (i + 1))) := by
        show OwnT _ _ _ _ _
        rw [unhide HS]
        unfold OwnT
        rw [pcells_append, pcells_one, List.length_append]
        exact own4
      have BF : Below w.heap.size w w4 := Below.grown (below_step (unhide HB) B3) grow4 (Nat.le_trans (unhide HB).size B3.size) (unhide HO).row
      have FB := hide BF
      have hC4 : (fun w' : World => w'.cell? ⟨b, oo + i * 3, none⟩ = some (.int .i64 t.1) ∧ w'.cell? ⟨b, oo + i * 3 + 1, none⟩ = some (.int .i64 t.2.1) ∧ w'.cell? ⟨b, oo + i * 3 + 2, none⟩ = some (.int .i64 t.2.2)) w4 := unhide HCF w4 BF
      refine hK.out _ _ hC4 ?_
      clear hK K
      (try simp only [Act.put, List.setIfInBounds_toArray, List.set_cons_zero, List.set_cons_succ])
      refine wpHold_one (k := 19) (by kernel_rfl) rfl (fun K hK => ?_)
      (try simp only [List.getElem_toArray, List.getElem_cons_succ, List.getElem_cons_zero])
      go_simp
      refine hK.out _ _ hC4 ?_
      clear hK K
      (try simp only [Act.put, List.setIfInBounds_toArray, List.set_cons_zero, List.set_cons_succ])
      refine wpHold_done (by kernel_rfl) ?_ _
      clear hC0 bd0 hC3 B3 hC4 BF own4 grow4 hat4 HCF HCC
      go_wp2_with fail
      exact ⟨⟨i + 1, rfl, hlt, unhide FIN, unhide FB⟩, by simp [intOf]; omega⟩
    · obtain rfl : i = n := by omega
      have e1 : ¬ (i : Int) < (i : Int) := by omega
      obtain ⟨a', c', rfl, ht⟩ := hO.trow
      rw [firsts_length] at ht ⊢
      have FT : Hid (TRow wr a' i c' f) := trow_congr ht (fun j hj => firsts_get f hj)
      clear hO ht
      go_wp2
      go_ret
      exact ⟨a', c', rfl, unhide FT, hb⟩
set_option maxHeartbeats 16000000 in
set_option maxRecDepth 100000 in
set_option linter.unusedSimpArgs false in
theorem rtcheck_any (N : Int) (a : Option Addr) (m c : Nat) (f : Nat → T3) (cu : Bool) (w : World) (hN : I64 N) (hcu : Cu N.toNat m f cu) (ha : TRow w a m c f) :
    Calls Tryd.prog 13 #[.int .i64 N, .slice a m c] w fun e w' => e = .returned (.int .i64 (kcode N m f cu)) ∧ Below w.heap.size w w' := by
  have HA := hide ha
  have HCU0 := hide hcu
  have q1 := ha.1
  have q2 := ha.2.1
  clear ha hcu
  by_cases hlim : N < 1 ∨ 60 < N
  · rw [kcode_lim hlim]
    by_cases h1 : N < 1
    · clear hlim
      go_enter Tryd.func13, Tryd.ntmps13
      go_wp2
      go_ret
      exact ⟨rfl, Below.refl _ _⟩
    · have h2 : 60 < N := by omega
      clear hlim
      go_enter Tryd.func13, Tryd.ntmps13
      go_wp2
      go_ret
      exact ⟨rfl, Below.refl _ _⟩
  have HN1 := hide hlim
  have n1 : ¬ N < 1 := by omega
  have n2 : ¬ 60 < N := by omega
  have n3 : IntKind.i64.wrap (N - 1) = N - 1 := by rw [IntKind.wrap_i64]; omega
  by_cases hform : (m : Int) ≠ N - 1
  · rw [kcode_form hlim hform]
    have e0 : ((m : Int) != N - 1) = true := by simpa using hform
    clear hform hlim
    go_enter Tryd.func13, Tryd.ntmps13
    go_wp2
    go_ret
    exact ⟨rfl, Below.refl _ _⟩
  have HN2 := hide hform
  have e0 : ((m : Int) != N - 1) = false := by simpa using hform
  have hm60 : m ≤ 60 := by omega
  clear hlim hform
  go_enter Tryd.func13, Tryd.ntmps13
  go_wp2_with fail
  clear e0
  go_loopw [22] (fun vi wr => ∃ i : Nat, vi = .int .i64 (i : Int) ∧ i ≤ m ∧ (∀ j, j < i → ebad N (f j) = false) ∧ Below w.heap.size w wr) (fun vi _ => m - (intOf vi).toNat)
  case atStart => exact ⟨0, rfl, Nat.zero_le _, fun j hj => absurd hj (Nat.not_lt_zero _), Below.refl _ _⟩
  case round =>
    obtain ⟨i, rfl, hi, hj, hb⟩ := hrel
    by_cases hlt : i < m
    · obtain ⟨b, o, rfl, hbl, hc⟩ := ((unhide HA).below hb).2.2 (by omega)
      have ⟨k0, k1, k2⟩ := hc i hlt
      obtain ⟨⟨x, y, z⟩, hf⟩ : ∃ t, f i = t := ⟨_, rfl⟩
      rw [hf] at k0 k1 k2
      simp only at k0 k1 k2
      have e2 : (0 : Int) ≤ (i : Int) := by omega
      have e3 : (i : Int) < (m : Int) := by omega
      have e4 : IntKind.i64.wrap ((i : Int) + 1) = ((i + 1 : Nat) : Int) := by rw [IntKind.wrap_i64]; omega
      have HJ := hide hj
      have HF := hide hf
      have ⟨q0, q1', q2'⟩ := box3 (w := wr) (x := .int .i64 x) (y := .int .i64 y) (z := .int .i64 z) (T := 82) (Below.refl _ _)
      have HFIN := hide (below_step hb (alloc_below wr (.cells #[.int .i64 x, .int .i64 y, .int .i64 z] 82)))
      obtain ⟨W1, hW1⟩ : ∃ W, wr.alloc (.cells #[.int .i64 x, .int .i64 y, .int .i64 z] 82) = W := ⟨_, rfl⟩
      rw [hW1] at q0 q1' q2' HFIN
      clear hc hb hj hf
      by_cases g0 : x < 0
      · skip
        have HV : Hid (kcode N m f cu = 2) := kcode_range (unhide HN1) (unhide HN2) (ubad_true hlt (by unfold ebad; rw [unhide HF]; exact decide_eq_true (by simp only; omega)))
        go_wp2
        go_ret
        exact ⟨by rw [unhide HV]; rfl, unhide HFIN⟩
      by_cases g1 : N ≤ x
      · skip
        have HV : Hid (kcode N m f cu = 2) := kcode_range (unhide HN1) (unhide HN2) (ubad_true hlt (by unfold ebad; rw [unhide HF]; exact decide_eq_true (by simp only; omega)))
        go_wp2
        go_ret
        exact ⟨by rw [unhide HV]; rfl, unhide HFIN⟩
      by_cases g2 : y < 0
      · skip
        have HV : Hid (kcode N m f cu = 2) := kcode_range (unhide HN1) (unhide HN2) (ubad_true hlt (by unfold ebad; rw [unhide HF]; exact decide_eq_true (by simp only; omega)))
        go_wp2
        go_ret
        exact ⟨by rw [unhide HV]; rfl, unhide HFIN⟩
      by_cases g3 : N ≤ y
      · skip
        have HV : Hid (kcode N m f cu = 2) := kcode_range (unhide HN1) (unhide HN2) (ubad_true hlt (by unfold ebad; rw [unhide HF]; exact decide_eq_true (by simp only; omega)))
        go_wp2
        go_ret
        exact ⟨by rw [unhide HV]; rfl, unhide HFIN⟩
      by_cases g4 : z < 0
      · skip
        have HV : Hid (kcode N m f cu = 2) := kcode_range (unhide HN1) (unhide HN2) (ubad_true hlt (by unfold ebad; rw [unhide HF]; exact decide_eq_true (by simp only; omega)))
        go_wp2
        go_ret
        exact ⟨by rw [unhide HV]; rfl, unhide HFIN⟩
      by_cases g5 : 1000000000 < z
      · skip
        have HV : Hid (kcode N m f cu = 2) := kcode_range (unhide HN1) (unhide HN2) (ubad_true hlt (by unfold ebad; rw [unhide HF]; exact decide_eq_true (by simp only; omega)))
        go_wp2
        go_ret
        exact ⟨by rw [unhide HV]; rfl, unhide HFIN⟩
      have HG : Hid (ebad N (f i) = false) := by unfold ebad; rw [unhide HF]; exact decide_eq_false (by simp only; omega)
      go_wp2
      refine ⟨⟨i + 1, rfl, hlt, fun j hj => ?_, unhide HFIN⟩, by simp [intOf]; omega⟩
      by_cases hjm : j = i
      · rw [hjm]; exact unhide HG
      · exact unhide HJ j (by omega)
    · obtain rfl : i = m := by omega
      have hub := ubad_false hj
      obtain ⟨n, rfl⟩ : ∃ n : Nat, N = (n : Int) := ⟨N.toNat, by omega⟩
      have HV := hide (kcode_last (cu := cu) (unhide HN1) (unhide HN2) hub)
      have HCU : Hid (Cu n i f cu) := unhide HCU0
      have HC := hide (rfar_any n a i c f 0 (-1) wr ((unhide HA).below hb) (by omega) (by omega) (by omega) (by omega) (ubad_good hub))
      have HB := hide hb
      have e3 : ¬ (i : Int) < (i : Int) := by omega
      have hn60 : n ≤ 60 := by omega
      have HGE := hide (ubad_good hub)
      clear hj hb hub
      go_wp2_with fail
      refine (unhide HC).mono ?_
      rintro e w2 ⟨G, out, hG, rfl, hO, hr, he, hb2⟩
      have hr' : Tre.Run i (eA f) (eB f) (eL f) allE 0 out := Tre.Run.ind (P := fun out => Tre.Run i (eA f) (eB f) (eL f) allE 0 out) hr (Tre.Run.start _ _ _ _ _ _) (fun _ _ _ _ _ hp hi _ hinc hh hx => hp.step hi trivial hinc hh hx)
      have he' : Tre.Ended i (eA f) (eB f) allE out := fun e hei _ => he e hei (by unfold okE; omega)
      have hcn := Tre.search_conn (n := n) hr' he'
      have hlow := fun v => hr'.low (unhide HGE).lpos v
      have HO := hide hO
      have HB2 := hide (below_step (unhide HB) hb2)
      have HCN : Hid ((cu = true ↔ ∀ v, v < n → out v ≠ -1)) := (unhide HCU).trans hcn
      have HLO := hide hlow
      clear hO hr he hb2 hG HC HB hr' he' hcn hlow
      go_wp2_with fail
      go_loopw [61] (fun vi w3 => ∃ k : Nat, vi = .int .i64 (k : Int) ∧ k ≤ n ∧ (∀ v, v < k → out v ≠ -1) ∧ w3 = w2) (fun vi _ => n - (intOf vi).toNat)
      case atStart => exact ⟨0, rfl, Nat.zero_le _, fun v hv => absurd hv (Nat.not_lt_zero _), rfl⟩
      case round =>
        obtain ⟨k, rfl, hk, hkv, rfl⟩ := hrel
        by_cases hlt : k < n
        · have c0 := (unhide HO).cell hlt
          obtain ⟨x, hx⟩ : ∃ x, out k = x := ⟨_, rfl⟩
          rw [hx] at c0
          have hlx := unhide HLO k
          rw [hx] at hlx
          have f1 : (0 : Int) ≤ (k : Int) := by omega
          have f2 : (k : Int) < (n : Int) := by omega
          have f3 : IntKind.i64.wrap ((k : Int) + 1) = ((k + 1 : Nat) : Int) := by rw [IntKind.wrap_i64]; omega
          have HKV := hide hkv
          have HX := hide hx
          clear hkv hx
          by_cases hneg : x < 0
          · have HV3 : Hid (kcode (n : Int) i f cu = 8) := by
              show kcode _ _ _ _ = _
              rw [unhide HV]
              cases hcu : cu with
              | false => rfl
              | true => exact absurd (show out k = -1 by rw [unhide HX]; omega) ((unhide HCN).1 hcu k hlt)
            go_wp2
            go_ret
            exact ⟨by rw [unhide HV3]; rfl, unhide HB2⟩
          · have HKN : Hid (∀ v, v < k + 1 → out v ≠ -1) := fun v hv => by
              by_cases c : v = k
              · subst c; rw [unhide HX]; omega
              · exact unhide HKV v (by omega)
            go_wp2
            exact ⟨⟨k + 1, rfl, hlt, unhide HKN, by first | rfl | trivial⟩, by simp [intOf]; omega⟩
        · obtain rfl : k = n := by omega
          have f1 : ¬ (k : Int) < (k : Int) := by omega
          have HV3 : Hid (kcode (k : Int) i f cu = 0) := by
            show kcode _ _ _ _ = _
            rw [unhide HV, (unhide HCN).2 hkv]; rfl
          clear hkv
          go_wp2
          go_ret
          exact ⟨by rw [unhide HV3]; rfl, unhide HB2⟩
end Go.Proofs.YtcmddkekidgkoaaDoor
