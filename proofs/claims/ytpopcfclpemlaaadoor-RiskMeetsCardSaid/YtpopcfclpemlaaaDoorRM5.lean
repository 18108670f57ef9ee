/- RiskMeets: the walk. -/
import Derived.Test.YtpopcfclpemlaaaDoorRM4
import Derived.Test.YtpopcfclpemlaaaDoorRKC
namespace Go.Proofs.YtpopcfclpemlaaaDoor
open Go.RowKit Go.Sort Go.Shelf

set_option maxHeartbeats 16000000 in
set_option maxRecDepth 100000 in
set_option linter.unusedSimpArgs false in
theorem riskMeets_any (parts : Int) (a : Option Addr) (N c : Nat) (g : Rsk.Gs) (H : Nat → Option Addr × Nat) (w : World) (hG : GRow w a N c g H) (htab : Tab w) :
    Calls Tryd.prog 4 #[.int .i64 parts, .slice a N c] w fun e w' => e = .returned (.bool true) ∧ Below w.heap.size w w' := by
  have b0 := alloc_below w (.cells #[.int .i64 parts] 3)
  have n0 := heap_alloc_new w (.cells #[.int .i64 parts] 3)
  obtain ⟨W0, hW0⟩ : ∃ W, w.alloc (.cells #[.int .i64 parts] 3) = W := ⟨_, rfl⟩
  obtain ⟨p0, hp0⟩ : ∃ b, w.heap.size = b := ⟨_, rfl⟩
  rw [hW0] at b0 n0
  rw [hp0] at n0
  have k0 : W0.cell? ⟨p0, 0, none⟩ = some (.int .i64 parts) := by simp [World.cell?, n0]
  have b1 := alloc_below W0 (.cells #[.slice a N c] 22)
  have n1 := heap_alloc_new W0 (.cells #[.slice a N c] 22)
  obtain ⟨W1, hW1⟩ : ∃ W, W0.alloc (.cells #[.slice a N c] 22) = W := ⟨_, rfl⟩
  obtain ⟨p1, hp1⟩ : ∃ b, W0.heap.size = b := ⟨_, rfl⟩
  rw [hW1] at b1 n1
  rw [hp1] at n1
  have k1 : W1.cell? ⟨p1, 0, none⟩ = some (.slice a N c) := by simp [World.cell?, n1]
  have HP0 : Hid (∀ W, Below W1.heap.size W1 W → W.cell? ⟨p0, 0, none⟩ = some (.int .i64 parts)) := fun W hW => by
    rw [(below_step b1 hW).cell (p := ⟨p0, 0, none⟩) (Array.getElem?_eq_some_iff.1 n0).1]; exact k0
  have HP1 : Hid (∀ W, Below W1.heap.size W1 W → W.cell? ⟨p1, 0, none⟩ = some (.slice a N c)) := fun W hW => by
    rw [hW.cell (p := ⟨p1, 0, none⟩) (Array.getElem?_eq_some_iff.1 n1).1]; exact k1
  have k01 := unhide HP0 W1 (Below.refl _ _)
  have HB1 : Hid (Below w.heap.size w W1) := below_step b0 b1
  have HGW : Hid (∀ W, Below W1.heap.size W1 W → GRow W a N c g H) := fun W hW => hG.below (below_step (unhide HB1) hW)
  have HTB : Hid (∀ W, Below W1.heap.size W1 W → Tab W) := fun W hW => tab_below htab (below_step (unhide HB1) hW)
  have HFE := hide (few_any a N c g H W1 (unhide HGW W1 (Below.refl _ _)))
  have g1 := hG.1
  have g2 := hG.2.1
  clear hG htab b0 b1 n0 n1 k0
  by_cases h6 : 6 < parts
  · go_enter Tryd.func4, Tryd.ntmps4
    go_wp2_with fail
    clear hW0 hp0 hW1 hp1
    refine (unhide HFE).mono ?_
    rintro e w0 ⟨⟨B, rfl⟩, hw⟩
    have hw' := hw.symm
    subst hw'
    clear hw
    cases B with
    | false =>
      go_wp2
      go_ret
      exact ⟨rfl, unhide HB1⟩
    | true =>
      go_wp2
      go_ret
      exact ⟨rfl, unhide HB1⟩
  by_cases hk : gcode parts g N = 0
  · have hpp : ¬ parts < 1 := fun h => by
      unfold gcode at hk
      rw [if_pos (Or.inl h)] at hk
      exact absurd hk (by decide)
    obtain ⟨P, rfl⟩ : ∃ P : Nat, parts = (P : Int) := ⟨parts.toNat, by omega⟩
    have hP6 : P ≤ 6 := by omega
    have hT64 : 2 ^ P ≤ 64 := Nat.pow_le_pow_right (show 0 < 2 by decide) hP6
    have hT0 : 0 < 2 ^ P := Nat.pow_pos (by decide)
    have HPO : Hid (∀ W, Below W1.heap.size W1 W → Calls Tryd.prog 21 #[.int .i64 (P : Int), .slice a N c] W (PathsPost W (Rsk.lsts P (Rsk.wk g N) (2 ^ P)))) := fun W hW => rPaths_ok P a N c g H W (unhide HGW W hW) hk
    have HCO : Hid (∀ W, Below W1.heap.size W1 W → Calls Tryd.prog 22 #[.int .i64 (P : Int), .slice a N c] W (PathsPost W (Rsk.lsts P (fun s => !Rsk.wk g N (Rsk.rest P s)) (2 ^ P)))) := fun W hW => rCuts_ok P a N c g H W (unhide HGW W hW) hk
    have HCLO : Hid (∀ W (s : Nat), Below W1.heap.size W1 W → s < 2 ^ P → Calls Tryd.prog 23 #[.int .i64 (s : Int), .pointer (some ⟨p0, 0, none⟩), .pointer (some ⟨p1, 0, none⟩)] W fun e w' => e = .returned (.bool (Rsk.wk g N s)) ∧ Below W.heap.size W w') := fun W s hW hs => mclosure_any p0 p1 P a N c s g H W (fun W' hW' => unhide HP0 W' (below_step hW hW')) (fun W' hW' => unhide HP1 W' (below_step hW hW')) (unhide HGW W hW) hk hs
    have HLB : Hid (∀ i, i < (Rsk.lsts P (Rsk.wk g N) (2 ^ P)).length → (Rsk.lsts P (Rsk.wk g N) (2 ^ P))[i]! < 2 ^ P ∧ Rsk.wk g N (Rsk.lsts P (Rsk.wk g N) (2 ^ P))[i]! = true) := fun i hi => ⟨(Rsk.lsts_mem hi).1, (Rsk.lsts_mem hi).2.1⟩
    have HMB : Hid (∀ i, i < (Rsk.lsts P (fun s => !Rsk.wk g N (Rsk.rest P s)) (2 ^ P)).length → (Rsk.lsts P (fun s => !Rsk.wk g N (Rsk.rest P s)) (2 ^ P))[i]! < 2 ^ P ∧ Rsk.wk g N (Rsk.rest P (Rsk.lsts P (fun s => !Rsk.wk g N (Rsk.rest P s)) (2 ^ P))[i]!) = false) := fun i hi => ⟨(Rsk.lsts_mem hi).1, by
      have := (Rsk.lsts_mem hi).2.1
      rwa [Bool.not_eq_true'] at this⟩
    have HLR : Hid (∀ i j, i < j → j < (Rsk.lsts P (Rsk.wk g N) (2 ^ P)).length → (Rsk.lsts P (Rsk.wk g N) (2 ^ P))[i]! < (Rsk.lsts P (Rsk.wk g N) (2 ^ P))[j]!) := Rsk.lsts_rise P (Rsk.wk g N) (2 ^ P)
    have HSS : Hid (0 < (Rsk.lsts P (Rsk.wk g N) (2 ^ P)).length + (Rsk.lsts P (fun s => !Rsk.wk g N (Rsk.rest P s)) (2 ^ P)).length) := Rsk.some_set P g N
    have hll := lsts_len P (Rsk.wk g N) (2 ^ P)
    have hml := lsts_len P (fun s => !Rsk.wk g N (Rsk.rest P s)) (2 ^ P)
    obtain ⟨L, hL⟩ : ∃ L, Rsk.lsts P (Rsk.wk g N) (2 ^ P) = L := ⟨_, rfl⟩
    obtain ⟨M, hM⟩ : ∃ M, Rsk.lsts P (fun s => !Rsk.wk g N (Rsk.rest P s)) (2 ^ P) = M := ⟨_, rfl⟩
    rw [hL] at HPO HLB HLR HSS hll
    rw [hM] at HCO HMB HSS hml
    have HMT : Hid (∀ i k, i < L.length → k < M.length → L[i]! &&& M[k]! ≠ 0) := fun i k hi hk => Rsk.meets (unhide HLB i hi).1 (unhide HMB k hk).1 (unhide HLB i hi).2 (unhide HMB k hk).2
    have HRST : Hid (∀ z, z < 2 ^ P → Rsk.rest P z < 2 ^ P ∧ ((2 ^ P : Nat) : Int) - 1 - (z : Int) = (Rsk.rest P z : Int)) := fun z hz => by
      unfold Rsk.rest; omega
    have HWN : Hid (wrap64 ((2 : Int) ^ P) = ((2 ^ P : Nat) : Int)) := wrap64_pow (show P ≤ 40 by omega)
    obtain ⟨T, hT⟩ : ∃ T, 2 ^ P = T := ⟨_, rfl⟩
    rw [hT] at hT64 hT0 HCLO HLB HMB hll hml HRST HWN
    have HPT : Hid ((2 : Int) ^ P = (T : Int)) := show _ = _ by rw [← hT, Int.natCast_pow]; rfl
    obtain ⟨nl, hnl⟩ : ∃ n, L.length = n := ⟨_, rfl⟩
    obtain ⟨nm, hnm⟩ : ∃ n, M.length = n := ⟨_, rfl⟩
    have HNL := hide hnl
    have HNM := hide hnm
    rw [hnl] at HLB HLR HSS hll HMT
    rw [hnm] at HMB HSS hml HMT
    clear hL hM hT hk hpp hnl hnm
    go_enter Tryd.func4, Tryd.ntmps4
    go_wp2_with fail
    clear hW0 hp0 hW1 hp1
    refine (unhide HFE).mono ?_
    rintro e w0 ⟨⟨B, rfl⟩, hw⟩
    have hw' := hw.symm
    subst hw'
    clear hw
    cases B with
    | false =>
      go_wp2
      go_ret
      exact ⟨rfl, unhide HB1⟩
    | true =>
    go_wp2_with fail
    refine (unhide HPO W1 (Below.refl _ _)).mono ?_
    rintro e w2 ⟨v2, rfl, ⟨al, cl, rfl, hi2⟩, hb2⟩
    rw [unhide HNL] at hi2 ⊢
    have q0 := unhide HP0 w2 hb2
    have q1 := unhide HP1 w2 hb2
    have HI2 := hide hi2
    have HB2 := hide hb2
    have HCO2 := hide (unhide HCO w2 hb2)
    clear hi2 hb2 HPO HCO k1 k01
    go_wp2_with fail
    refine (unhide HCO2).mono ?_
    rintro e w3 ⟨v3, rfl, ⟨am, cm, rfl, hi3⟩, hb3⟩
    rw [unhide HNM] at hi3 ⊢
    have HI3 := hide ((unhide HI2).below hb3)
    have HJ3 := hide hi3
    have HB3 := hide (below_step (unhide HB2) hb3)
    have HTB3 := hide (unhide HTB w3 (unhide HB3))
    clear hi3 hb3 HCO2 HB2 HI2 q0 q1
    go_wp2_with fail
    refine (joined_any w3 (unhide HTB3)).mono ?_
    rintro e w4 ⟨rfl, hb4⟩
    have HB4 := hide (below_step (unhide HB3) hb4)
    have HLI : Hid (0 < nl → ∃ bl ol, al = some ⟨bl, ol, none⟩ ∧ Hid (∀ W j, Below w4.heap.size w4 W → j < nl → W.cell? ⟨bl, ol + j, none⟩ = some (.int .i64 (L[j]! : Int)))) := fun h => by
      obtain ⟨-, -, f⟩ := (unhide HI3).below hb4
      obtain ⟨b, o, rfl, hbl, hc⟩ := f h
      exact ⟨b, o, rfl, fun W j hW hj => by rw [hW.cell (p := ⟨b, o + j, none⟩) hbl]; exact hc j hj⟩
    have HMI : Hid (0 < nm → ∃ bl ol, am = some ⟨bl, ol, none⟩ ∧ Hid (∀ W j, Below w4.heap.size w4 W → j < nm → W.cell? ⟨bl, ol + j, none⟩ = some (.int .i64 (M[j]! : Int)))) := fun h => by
      obtain ⟨-, -, f⟩ := (unhide HJ3).below hb4
      obtain ⟨b, o, rfl, hbl, hc⟩ := f h
      exact ⟨b, o, rfl, fun W j hW hj => by rw [hW.cell (p := ⟨b, o + j, none⟩) hbl]; exact hc j hj⟩
    have hlc := (unhide HI3).1
    have hlm := (unhide HI3).2.1
    have hmc := (unhide HJ3).1
    have hmm := (unhide HJ3).2.1
    clear hb4 HI3 HJ3 HB3 HTB3
    go_wp2_with fail
    go_loopw [10] (fun vi wr => ∃ i : Nat, vi = .int .i64 (i : Int) ∧ i ≤ nl ∧ Below w4.heap.size w4 wr) (fun vi _ => nl - (intOf vi).toNat)
    case atStart => exact ⟨0, rfl, Nat.zero_le _, Below.refl _ _⟩
    case round =>
      obtain ⟨i, rfl, hi, hbr⟩ := hrel
      by_cases hlt : i < nl
      · have j1 : (i : Int) < (nl : Int) := by omega
        have j0 : (0 : Int) ≤ (i : Int) := by omega
        have HLT := hide hlt
        obtain ⟨bl, ol, rfl, HLC⟩ := unhide HLI (by omega)
        have hx := unhide HLB i hlt
        obtain ⟨x, hxe⟩ : ∃ x, L[i]! = x := ⟨_, rfl⟩
        have HXE := hide hxe
        rw [hxe] at hx
        have HXT := hide hx.1
        have HXW := hide hx.2
        have HXC : Hid (∀ W, Below w4.heap.size w4 W → W.cell? ⟨bl, ol + i, none⟩ = some (.int .i64 (x : Int))) := fun W hW => by rw [← hxe]; exact unhide HLC W i hW hlt
        by_cases hi0 : i = 0
        · subst hi0
          have HC11 : Hid (∀ W, Below wr.heap.size wr W → (fun w' : World => w'.cell? ⟨bl, ol, none⟩ = some (.int .i64 (x : Int))) W) := fun W hW => unhide HXC W (below_step hbr hW)
          clear hx hxe hlt
          go_wp2_with fail
          refine wp_region_hold (fun w' : World => w'.cell? ⟨bl, ol, none⟩ = some (.int .i64 (x : Int))) (by kernel_rfl) ?_
          have bd0 : Below wr.heap.size wr wr.drew := (Below.refl _ _).drew
          have hC0 : (fun w' : World => w'.cell? ⟨bl, ol, none⟩ = some (.int .i64 (x : Int))) wr.drew := unhide HC11 _ bd0
          refine wpHold_take (i := 0) (v := ?_) rfl (by kernel_rfl) (by kernel_rfl) (by kernel_rfl) (fun _ _ _ h => h) (Or.inl ⟨by rfl, ?_⟩) hC0 ?_
          rotate_left
          · intro w hSw; clear hSw; go_simp; (try with_reducible rfl)
          (try simp only [List.getElem_toArray, List.getElem_cons_succ, List.getElem_cons_zero])
          (try simp only [Act.put, List.setIfInBounds_toArray, List.set_cons_zero, List.set_cons_succ])
          refine wpHold_take (i := 1) (v := ?_) rfl (by kernel_rfl) (by kernel_rfl) (by kernel_rfl) (fun _ _ _ h => h) (Or.inl ⟨by rfl, ?_⟩) hC0 ?_
          rotate_left
          · intro w hSw; clear hSw; go_simp; (try with_reducible rfl)
          (try simp only [List.getElem_toArray, List.getElem_cons_succ, List.getElem_cons_zero])
          (try simp only [Act.put, List.setIfInBounds_toArray, List.set_cons_zero, List.set_cons_succ])
          refine wpHold_take (i := 2) (v := ?_) rfl (by kernel_rfl) (by kernel_rfl) (by kernel_rfl) (fun _ _ _ h => h) (Or.inl ⟨by rfl, ?_⟩) hC0 ?_
          rotate_left
          · intro w hSw; clear hSw; go_simp; (try with_reducible rfl)
          (try simp only [List.getElem_toArray, List.getElem_cons_succ, List.getElem_cons_zero])
          (try simp only [Act.put, List.setIfInBounds_toArray, List.set_cons_zero, List.set_cons_succ])
          refine wpHold_take (i := 3) (v := ?_) rfl (by kernel_rfl) (by kernel_rfl) (by kernel_rfl) (fun _ _ _ h => h) (Or.inl ⟨by rfl, ?_⟩) hC0 ?_
          rotate_left
          · intro w hSw; clear hSw; go_simp; (try with_reducible rfl)
          (try simp only [List.getElem_toArray, List.getElem_cons_succ, List.getElem_cons_zero])
          (try simp only [Act.put, List.setIfInBounds_toArray, List.set_cons_zero, List.set_cons_succ])
          refine wpHold_take (i := 4) (v := ?_) rfl (by kernel_rfl) (by kernel_rfl) (by kernel_rfl) (fun _ _ _ h => h) (Or.inl ⟨by rfl, ?_⟩) hC0 ?_
          rotate_left
          · intro w hSw; (try dsimp only at hSw); obtain u0 := hSw; go_simp; (try with_reducible rfl)
          (try simp only [List.getElem_toArray, List.getElem_cons_succ, List.getElem_cons_zero])
          (try simp only [Act.put, List.setIfInBounds_toArray, List.set_cons_zero, List.set_cons_succ])
          refine wpHold_one (k := 5) (by kernel_rfl) rfl (fun K hK => ?_)
          (try simp only [List.getElem_toArray, List.getElem_cons_succ, List.getElem_cons_zero])
          go_simp
          refine (unhide HCLO wr.drew x (below_step (unhide HB4) (below_step hbr bd0)) (unhide HXT)).mono ?_
          rw [unhide HXW]
          rintro e xw_1 ⟨rfl, hb_1⟩
          have cc_1 := below_step bd0 hb_1
          have hC_1 : (fun w' : World => w'.cell? ⟨bl, ol, none⟩ = some (.int .i64 (x : Int))) xw_1 := unhide HC11 _ cc_1
          refine hK.out _ _ hC_1 ?_
          clear hK K
          (try simp only [Act.put, List.setIfInBounds_toArray, List.set_cons_zero, List.set_cons_succ])
          refine wpHold_take (i := 6) (v := ?_) rfl (by kernel_rfl) (by kernel_rfl) (by kernel_rfl) (fun _ _ _ h => h) (Or.inl ⟨by rfl, ?_⟩) hC_1 ?_
          rotate_left
          · intro w hSw; clear hSw; go_simp; (try with_reducible rfl)
          (try simp only [List.getElem_toArray, List.getElem_cons_succ, List.getElem_cons_zero])
          (try simp only [Act.put, List.setIfInBounds_toArray, List.set_cons_zero, List.set_cons_succ])
          refine wpHold_take (i := 7) (v := ?_) rfl (by kernel_rfl) (by kernel_rfl) (by kernel_rfl) (fun _ _ _ h => h) (Or.inl ⟨by rfl, ?_⟩) hC_1 ?_
          rotate_left
          · intro w hSw; clear hSw; go_simp; (try with_reducible rfl)
          (try simp only [List.getElem_toArray, List.getElem_cons_succ, List.getElem_cons_zero])
          (try simp only [Act.put, List.setIfInBounds_toArray, List.set_cons_zero, List.set_cons_succ])
          refine wpHold_take (i := 8) (v := ?_) rfl (by kernel_rfl) (by kernel_rfl) (by kernel_rfl) (fun _ _ _ h => h) (Or.inl ⟨by rfl, ?_⟩) hC_1 ?_
          rotate_left
          · intro w hSw; clear hSw; go_simp; (try with_reducible rfl)
          (try simp only [List.getElem_toArray, List.getElem_cons_succ, List.getElem_cons_zero])
          (try simp only [Act.put, List.setIfInBounds_toArray, List.set_cons_zero, List.set_cons_succ])
          refine wpHold_take (i := 9) (v := ?_) rfl (by kernel_rfl) (by kernel_rfl) (by kernel_rfl) (fun _ _ _ h => h) (Or.inl ⟨by rfl, ?_⟩) hC_1 ?_
          rotate_left
          · intro w hSw; clear hSw; go_simp; (try with_reducible rfl)
          (try simp only [List.getElem_toArray, List.getElem_cons_succ, List.getElem_cons_zero])
          (try simp only [Act.put, List.setIfInBounds_toArray, List.set_cons_zero, List.set_cons_succ])
          refine wpHold_take (i := 10) (v := ?_) rfl (by kernel_rfl) (by kernel_rfl) (by kernel_rfl) (fun _ _ _ h => h) (Or.inl ⟨by rfl, ?_⟩) hC_1 ?_
          rotate_left
          · intro w hSw; clear hSw; go_simp; (try with_reducible rfl)
          (try simp only [List.getElem_toArray, List.getElem_cons_succ, List.getElem_cons_zero])
          (try simp only [Act.put, List.setIfInBounds_toArray, List.set_cons_zero, List.set_cons_succ])
          refine wpHold_take (i := 11) (v := undef) rfl (by kernel_rfl) (by kernel_rfl) (by kernel_rfl) (fun _ _ _ h => h) (Or.inr ⟨by rfl, rfl⟩) hC_1 ?_
          (try simp only [List.getElem_toArray, List.getElem_cons_succ, List.getElem_cons_zero])
          (try simp only [Act.put, List.setIfInBounds_toArray, List.set_cons_zero, List.set_cons_succ])
          refine wpHold_take (i := 12) (v := undef) rfl (by kernel_rfl) (by kernel_rfl) (by kernel_rfl) (fun _ _ _ h => h) (Or.inr ⟨by rfl, rfl⟩) hC_1 ?_
          (try simp only [List.getElem_toArray, List.getElem_cons_succ, List.getElem_cons_zero])
          (try simp only [Act.put, List.setIfInBounds_toArray, List.set_cons_zero, List.set_cons_succ])
          refine wpHold_take (i := 13) (v := undef) rfl (by kernel_rfl) (by kernel_rfl) (by kernel_rfl) (fun _ _ _ h => h) (Or.inr ⟨by rfl, rfl⟩) hC_1 ?_
          (try simp only [List.getElem_toArray, List.getElem_cons_succ, List.getElem_cons_zero])
          (try simp only [Act.put, List.setIfInBounds_toArray, List.set_cons_zero, List.set_cons_succ])
          refine wpHold_take (i := 14) (v := undef) rfl (by kernel_rfl) (by kernel_rfl) (by kernel_rfl) (fun _ _ _ h => h) (Or.inr ⟨by rfl, rfl⟩) hC_1 ?_
          (try simp only [List.getElem_toArray, List.getElem_cons_succ, List.getElem_cons_zero])
          (try simp only [Act.put, List.setIfInBounds_toArray, List.set_cons_zero, List.set_cons_succ])
          refine wpHold_take (i := 15) (v := undef) rfl (by kernel_rfl) (by kernel_rfl) (by kernel_rfl) (fun _ _ _ h => h) (Or.inr ⟨by rfl, rfl⟩) hC_1 ?_
          (try simp only [List.getElem_toArray, List.getElem_cons_succ, List.getElem_cons_zero])
          (try simp only [Act.put, List.setIfInBounds_toArray, List.set_cons_zero, List.set_cons_succ])
          refine wpHold_take (i := 16) (v := undef) rfl (by kernel_rfl) (by kernel_rfl) (by kernel_rfl) (fun _ _ _ h => h) (Or.inr ⟨by rfl, rfl⟩) hC_1 ?_
          (try simp only [List.getElem_toArray, List.getElem_cons_succ, List.getElem_cons_zero])
          (try simp only [Act.put, List.setIfInBounds_toArray, List.set_cons_zero, List.set_cons_succ])
          refine wpHold_take (i := 17) (v := undef) rfl (by kernel_rfl) (by kernel_rfl) (by kernel_rfl) (fun _ _ _ h => h) (Or.inr ⟨by rfl, rfl⟩) hC_1 ?_
          (try simp only [List.getElem_toArray, List.getElem_cons_succ, List.getElem_cons_zero])
          (try simp only [Act.put, List.setIfInBounds_toArray, List.set_cons_zero, List.set_cons_succ])
          refine wpHold_take (i := 18) (v := undef) rfl (by kernel_rfl) (by kernel_rfl) (by kernel_rfl) (fun _ _ _ h => h) (Or.inr ⟨by rfl, rfl⟩) hC_1 ?_
          (try simp only [List.getElem_toArray, List.getElem_cons_succ, List.getElem_cons_zero])
          (try simp only [Act.put, List.setIfInBounds_toArray, List.set_cons_zero, List.set_cons_succ])
          refine wpHold_take (i := 19) (v := undef) rfl (by kernel_rfl) (by kernel_rfl) (by kernel_rfl) (fun _ _ _ h => h) (Or.inr ⟨by rfl, rfl⟩) hC_1 ?_
          (try simp only [List.getElem_toArray, List.getElem_cons_succ, List.getElem_cons_zero])
          (try simp only [Act.put, List.setIfInBounds_toArray, List.set_cons_zero, List.set_cons_succ])
          refine wpHold_take (i := 20) (v := undef) rfl (by kernel_rfl) (by kernel_rfl) (by kernel_rfl) (fun _ _ _ h => h) (Or.inr ⟨by rfl, rfl⟩) hC_1 ?_
          (try simp only [List.getElem_toArray, List.getElem_cons_succ, List.getElem_cons_zero])
          (try simp only [Act.put, List.setIfInBounds_toArray, List.set_cons_zero, List.set_cons_succ])
          refine wpHold_take (i := 21) (v := ?_) rfl (by kernel_rfl) (by kernel_rfl) (by kernel_rfl) (fun _ _ _ h => h) (Or.inl ⟨by rfl, ?_⟩) hC_1 ?_
          rotate_left
          · intro w hSw; clear hSw; go_simp; (try with_reducible rfl)
          (try simp only [List.getElem_toArray, List.getElem_cons_succ, List.getElem_cons_zero])
          (try simp only [Act.put, List.setIfInBounds_toArray, List.set_cons_zero, List.set_cons_succ])
          refine wpHold_take (i := 22) (v := ?_) rfl (by kernel_rfl) (by kernel_rfl) (by kernel_rfl) (fun _ _ _ h => h) (Or.inl ⟨by rfl, ?_⟩) hC_1 ?_
          rotate_left
          · intro w hSw; clear hSw; go_simp; (try with_reducible rfl)
          (try simp only [List.getElem_toArray, List.getElem_cons_succ, List.getElem_cons_zero])
          (try simp only [Act.put, List.setIfInBounds_toArray, List.set_cons_zero, List.set_cons_succ])
          refine wpHold_done (by kernel_rfl) ?_ _

          have HB8 := hide (below_step hbr cc_1)
          obtain ⟨W8, hW8⟩ : ∃ W, xw_1 = W := ⟨_, rfl⟩
          rw [hW8] at HB8 ⊢
          clear HC11 hC0 hC_1 bd0 cc_1 hb_1 hbr hW8 
          go_wp2_with fail
          go_loopw [11] (fun vk wv => ∃ m : Nat, vk = .int .i64 (m : Int) ∧ m ≤ nm ∧ Below W8.heap.size W8 wv) (fun vk _ => nm - (intOf vk).toNat)
          case atStart => exact ⟨0, rfl, Nat.zero_le _, Below.refl _ _⟩
          case round =>
            obtain ⟨m, rfl, hm, hbv⟩ := hrel
            have HBV := hide hbv
            by_cases hmn : m < nm
            · have m1 : (m : Int) < (nm : Int) := by omega
              have m0 : (0 : Int) ≤ (m : Int) := by omega
              obtain ⟨z, hz⟩ : ∃ z, M[m]! = z := ⟨_, rfl⟩
              obtain ⟨bm, om, rfl, HMC⟩ := unhide HMI (by omega)
              have HC16 : Hid (∀ W, Below wr.heap.size wr W → (fun w' : World => w'.cell? ⟨bl, ol, none⟩ = some (.int .i64 (x : Int)) ∧ w'.cell? ⟨bm, om + m, none⟩ = some (.int .i64 (z : Int))) W) := fun W hW => by
                have h4 := below_step (below_step (unhide HB8) hbv) hW
                exact ⟨unhide HXC W h4, by rw [← hz]; exact unhide HMC W m h4 hmn⟩
              have hxz := unhide HMT 0 m (unhide HLT) hmn
              rw [unhide HXE, hz] at hxz
              have hzt := (unhide HMB m hmn).1
              rw [hz] at hzt
              have hxt := unhide HXT
              have hnd := bits_and_i64 x z (by omega) (by omega)
              have hne : ((x &&& z : Nat) : Int) ≠ 0 := by omega
              have hbe : (bits .and .i64 (x : Int) (z : Int) == 0) = false := by rw [hnd, beq_eq_false_iff_ne]; exact hne
              have HMN := hide hmn
              clear hbv hxz hzt hxt hnd hne hmn hz
              go_wp2_with fail
              refine wp_region_hold (fun w' : World => w'.cell? ⟨bl, ol, none⟩ = some (.int .i64 (x : Int)) ∧ w'.cell? ⟨bm, om + m, none⟩ = some (.int .i64 (z : Int))) (by kernel_rfl) ?_
              have bd0 : Below wr.heap.size wr wr.drew := (Below.refl _ _).drew
              have hC0 : (fun w' : World => w'.cell? ⟨bl, ol, none⟩ = some (.int .i64 (x : Int)) ∧ w'.cell? ⟨bm, om + m, none⟩ = some (.int .i64 (z : Int))) wr.drew := unhide HC16 _ bd0
              refine wpHold_take (i := 0) (v := ?_) rfl (by kernel_rfl) (by kernel_rfl) (by kernel_rfl) (fun _ _ _ h => h) (Or.inl ⟨by rfl, ?_⟩) hC0 ?_
              rotate_left
              · intro w hSw; clear hSw; go_simp; (try with_reducible rfl)
              (try simp only [List.getElem_toArray, List.getElem_cons_succ, List.getElem_cons_zero])
              (try simp only [Act.put, List.setIfInBounds_toArray, List.set_cons_zero, List.set_cons_succ])
              refine wpHold_take (i := 1) (v := ?_) rfl (by kernel_rfl) (by kernel_rfl) (by kernel_rfl) (fun _ _ _ h => h) (Or.inl ⟨by rfl, ?_⟩) hC0 ?_
              rotate_left
              · intro w hSw; clear hSw; go_simp; (try with_reducible rfl)
              (try simp only [List.getElem_toArray, List.getElem_cons_succ, List.getElem_cons_zero])
              (try simp only [Act.put, List.setIfInBounds_toArray, List.set_cons_zero, List.set_cons_succ])
              refine wpHold_take (i := 2) (v := ?_) rfl (by kernel_rfl) (by kernel_rfl) (by kernel_rfl) (fun _ _ _ h => h) (Or.inl ⟨by rfl, ?_⟩) hC0 ?_
              rotate_left
              · intro w hSw; clear hSw; go_simp; (try with_reducible rfl)
              (try simp only [List.getElem_toArray, List.getElem_cons_succ, List.getElem_cons_zero])
              (try simp only [Act.put, List.setIfInBounds_toArray, List.set_cons_zero, List.set_cons_succ])
              refine wpHold_take (i := 3) (v := ?_) rfl (by kernel_rfl) (by kernel_rfl) (by kernel_rfl) (fun _ _ _ h => h) (Or.inl ⟨by rfl, ?_⟩) hC0 ?_
              rotate_left
              · intro w hSw; (try dsimp only at hSw); obtain ⟨u0, u1⟩ := hSw; go_simp; (try with_reducible rfl)
              (try simp only [List.getElem_toArray, List.getElem_cons_succ, List.getElem_cons_zero])
              (try simp only [Act.put, List.setIfInBounds_toArray, List.set_cons_zero, List.set_cons_succ])
              refine wpHold_take (i := 4) (v := ?_) rfl (by kernel_rfl) (by kernel_rfl) (by kernel_rfl) (fun _ _ _ h => h) (Or.inl ⟨by rfl, ?_⟩) hC0 ?_
              rotate_left
              · intro w hSw; clear hSw; go_simp; (try with_reducible rfl)
              (try simp only [List.getElem_toArray, List.getElem_cons_succ, List.getElem_cons_zero])
              (try simp only [Act.put, List.setIfInBounds_toArray, List.set_cons_zero, List.set_cons_succ])
              refine wpHold_take (i := 5) (v := ?_) rfl (by kernel_rfl) (by kernel_rfl) (by kernel_rfl) (fun _ _ _ h => h) (Or.inl ⟨by rfl, ?_⟩) hC0 ?_
              rotate_left
              · intro w hSw; clear hSw; go_simp; (try with_reducible rfl)
              (try simp only [List.getElem_toArray, List.getElem_cons_succ, List.getElem_cons_zero])
              (try simp only [Act.put, List.setIfInBounds_toArray, List.set_cons_zero, List.set_cons_succ])
              refine wpHold_take (i := 6) (v := ?_) rfl (by kernel_rfl) (by kernel_rfl) (by kernel_rfl) (fun _ _ _ h => h) (Or.inl ⟨by rfl, ?_⟩) hC0 ?_
              rotate_left
              · intro w hSw; clear hSw; go_simp; (try with_reducible rfl)
              (try simp only [List.getElem_toArray, List.getElem_cons_succ, List.getElem_cons_zero])
              (try simp only [Act.put, List.setIfInBounds_toArray, List.set_cons_zero, List.set_cons_succ])
              refine wpHold_take (i := 7) (v := ?_) rfl (by kernel_rfl) (by kernel_rfl) (by kernel_rfl) (fun _ _ _ h => h) (Or.inl ⟨by rfl, ?_⟩) hC0 ?_
              rotate_left
              · intro w hSw; (try dsimp only at hSw); obtain ⟨u0, u1⟩ := hSw; go_simp; (try with_reducible rfl)
              (try simp only [List.getElem_toArray, List.getElem_cons_succ, List.getElem_cons_zero])
              (try simp only [Act.put, List.setIfInBounds_toArray, List.set_cons_zero, List.set_cons_succ])
              refine wpHold_take (i := 8) (v := ?_) rfl (by kernel_rfl) (by kernel_rfl) (by kernel_rfl) (fun _ _ _ h => h) (Or.inl ⟨by rfl, ?_⟩) hC0 ?_
              rotate_left
              · intro w hSw; clear hSw; go_simp; (try with_reducible rfl)
              (try simp only [List.getElem_toArray, List.getElem_cons_succ, List.getElem_cons_zero])
              (try simp only [Act.put, List.setIfInBounds_toArray, List.set_cons_zero, List.set_cons_succ])
              refine wpHold_take (i := 9) (v := ?_) rfl (by kernel_rfl) (by kernel_rfl) (by kernel_rfl) (fun _ _ _ h => h) (Or.inl ⟨by rfl, ?_⟩) hC0 ?_
              rotate_left
              · intro w hSw; clear hSw; go_simp; (try with_reducible rfl)
              (try simp only [List.getElem_toArray, List.getElem_cons_succ, List.getElem_cons_zero])
              (try simp only [Act.put, List.setIfInBounds_toArray, List.set_cons_zero, List.set_cons_succ])
              refine wpHold_done (by kernel_rfl) ?_ _

              clear HC16
              go_wp2
              exact ⟨⟨m + 1, by go_num, unhide HMN, (unhide HBV).drew⟩, by have := unhide HMN; simp [intOf]; omega⟩
            · obtain rfl : m = nm := by omega
              have m1 : ¬ (m : Int) < (m : Int) := by omega
              go_wp2
              exact ⟨⟨0 + 1, by go_num, unhide HLT, below_step (unhide HB8) (unhide HBV)⟩, by have := unhide HLT; simp [intOf]; omega⟩

        · obtain ⟨k, hki⟩ : ∃ k, i = k + 1 := ⟨i - 1, by omega⟩
          have e0 : (0 : Int) < (i : Int) := by omega
          have e0n : 0 < i := by omega
          have jm : (i : Int) - 1 = (k : Int) := by omega
          have jw : IntKind.i64.wrap (k : Int) = (k : Int) := by rw [IntKind.wrap_i64]; omega
          have k0 : (0 : Int) ≤ (k : Int) := by omega
          have k1 : (k : Int) < (nl : Int) := by omega
          obtain ⟨y, hye⟩ : ∃ y, L[k]! = y := ⟨_, rfl⟩
          have hyx := unhide HLR k i (by omega) hlt
          rw [hxe, hye] at hyx
          have e2 : ¬ (x : Int) ≤ (y : Int) := by omega
          have HC11 : Hid (∀ W, Below wr.heap.size wr W → (fun w' : World => w'.cell? ⟨bl, ol + i, none⟩ = some (.int .i64 (x : Int)) ∧ w'.cell? ⟨bl, ol + k, none⟩ = some (.int .i64 (y : Int))) W) := fun W hW => ⟨unhide HXC W (below_step hbr hW), by rw [← hye]; exact unhide HLC W k (below_step hbr hW) (by omega)⟩
          clear hx hxe hlt hye hyx hki hi0
          go_wp2_with fail
          refine wp_region_hold (fun w' : World => w'.cell? ⟨bl, ol + i, none⟩ = some (.int .i64 (x : Int)) ∧ w'.cell? ⟨bl, ol + k, none⟩ = some (.int .i64 (y : Int))) (by kernel_rfl) ?_
          have bd0 : Below wr.heap.size wr wr.drew := (Below.refl _ _).drew
          have hC0 : (fun w' : World => w'.cell? ⟨bl, ol + i, none⟩ = some (.int .i64 (x : Int)) ∧ w'.cell? ⟨bl, ol + k, none⟩ = some (.int .i64 (y : Int))) wr.drew := unhide HC11 _ bd0
          refine wpHold_take (i := 0) (v := ?_) rfl (by kernel_rfl) (by kernel_rfl) (by kernel_rfl) (fun _ _ _ h => h) (Or.inl ⟨by rfl, ?_⟩) hC0 ?_
          rotate_left
          · intro w hSw; clear hSw; go_simp; (try with_reducible rfl)
          (try simp only [List.getElem_toArray, List.getElem_cons_succ, List.getElem_cons_zero])
          (try simp only [Act.put, List.setIfInBounds_toArray, List.set_cons_zero, List.set_cons_succ])
          refine wpHold_take (i := 1) (v := ?_) rfl (by kernel_rfl) (by kernel_rfl) (by kernel_rfl) (fun _ _ _ h => h) (Or.inl ⟨by rfl, ?_⟩) hC0 ?_
          rotate_left
          · intro w hSw; clear hSw; go_simp; (try with_reducible rfl)
          (try simp only [List.getElem_toArray, List.getElem_cons_succ, List.getElem_cons_zero])
          (try simp only [Act.put, List.setIfInBounds_toArray, List.set_cons_zero, List.set_cons_succ])
          refine wpHold_take (i := 2) (v := ?_) rfl (by kernel_rfl) (by kernel_rfl) (by kernel_rfl) (fun _ _ _ h => h) (Or.inl ⟨by rfl, ?_⟩) hC0 ?_
          rotate_left
          · intro w hSw; clear hSw; go_simp; (try with_reducible rfl)
          (try simp only [List.getElem_toArray, List.getElem_cons_succ, List.getElem_cons_zero])
          (try simp only [Act.put, List.setIfInBounds_toArray, List.set_cons_zero, List.set_cons_succ])
          refine wpHold_take (i := 3) (v := ?_) rfl (by kernel_rfl) (by kernel_rfl) (by kernel_rfl) (fun _ _ _ h => h) (Or.inl ⟨by rfl, ?_⟩) hC0 ?_
          rotate_left
          · intro w hSw; clear hSw; go_simp; (try with_reducible rfl)
          (try simp only [List.getElem_toArray, List.getElem_cons_succ, List.getElem_cons_zero])
          (try simp only [Act.put, List.setIfInBounds_toArray, List.set_cons_zero, List.set_cons_succ])
          refine wpHold_take (i := 4) (v := ?_) rfl (by kernel_rfl) (by kernel_rfl) (by kernel_rfl) (fun _ _ _ h => h) (Or.inl ⟨by rfl, ?_⟩) hC0 ?_
          rotate_left
          · intro w hSw; (try dsimp only at hSw); obtain ⟨u0, u1⟩ := hSw; go_simp; (try with_reducible rfl)
          (try simp only [List.getElem_toArray, List.getElem_cons_succ, List.getElem_cons_zero])
          (try simp only [Act.put, List.setIfInBounds_toArray, List.set_cons_zero, List.set_cons_succ])
          refine wpHold_one (k := 5) (by kernel_rfl) rfl (fun K hK => ?_)
          (try simp only [List.getElem_toArray, List.getElem_cons_succ, List.getElem_cons_zero])
          go_simp
          refine (unhide HCLO wr.drew x (below_step (unhide HB4) (below_step hbr bd0)) (unhide HXT)).mono ?_
          rw [unhide HXW]
          rintro e xw_1 ⟨rfl, hb_1⟩
          have cc_1 := below_step bd0 hb_1
          have hC_1 : (fun w' : World => w'.cell? ⟨bl, ol + i, none⟩ = some (.int .i64 (x : Int)) ∧ w'.cell? ⟨bl, ol + k, none⟩ = some (.int .i64 (y : Int))) xw_1 := unhide HC11 _ cc_1
          refine hK.out _ _ hC_1 ?_
          clear hK K
          (try simp only [Act.put, List.setIfInBounds_toArray, List.set_cons_zero, List.set_cons_succ])
          refine wpHold_take (i := 6) (v := ?_) rfl (by kernel_rfl) (by kernel_rfl) (by kernel_rfl) (fun _ _ _ h => h) (Or.inl ⟨by rfl, ?_⟩) hC_1 ?_
          rotate_left
          · intro w hSw; clear hSw; go_simp; (try with_reducible rfl)
          (try simp only [List.getElem_toArray, List.getElem_cons_succ, List.getElem_cons_zero])
          (try simp only [Act.put, List.setIfInBounds_toArray, List.set_cons_zero, List.set_cons_succ])
          refine wpHold_take (i := 7) (v := ?_) rfl (by kernel_rfl) (by kernel_rfl) (by kernel_rfl) (fun _ _ _ h => h) (Or.inl ⟨by rfl, ?_⟩) hC_1 ?_
          rotate_left
          · intro w hSw; clear hSw; go_simp; (try with_reducible rfl)
          (try simp only [List.getElem_toArray, List.getElem_cons_succ, List.getElem_cons_zero])
          (try simp only [Act.put, List.setIfInBounds_toArray, List.set_cons_zero, List.set_cons_succ])
          refine wpHold_take (i := 8) (v := ?_) rfl (by kernel_rfl) (by kernel_rfl) (by kernel_rfl) (fun _ _ _ h => h) (Or.inl ⟨by rfl, ?_⟩) hC_1 ?_
          rotate_left
          · intro w hSw; clear hSw; go_simp; (try with_reducible rfl)
          (try simp only [List.getElem_toArray, List.getElem_cons_succ, List.getElem_cons_zero])
          (try simp only [Act.put, List.setIfInBounds_toArray, List.set_cons_zero, List.set_cons_succ])
          refine wpHold_take (i := 9) (v := ?_) rfl (by kernel_rfl) (by kernel_rfl) (by kernel_rfl) (fun _ _ _ h => h) (Or.inl ⟨by rfl, ?_⟩) hC_1 ?_
          rotate_left
          · intro w hSw; clear hSw; go_simp; (try with_reducible rfl)
          (try simp only [List.getElem_toArray, List.getElem_cons_succ, List.getElem_cons_zero])
          (try simp only [Act.put, List.setIfInBounds_toArray, List.set_cons_zero, List.set_cons_succ])
          refine wpHold_take (i := 10) (v := ?_) rfl (by kernel_rfl) (by kernel_rfl) (by kernel_rfl) (fun _ _ _ h => h) (Or.inl ⟨by rfl, ?_⟩) hC_1 ?_
          rotate_left
          · intro w hSw; clear hSw; go_simp; (try with_reducible rfl)
          (try simp only [List.getElem_toArray, List.getElem_cons_succ, List.getElem_cons_zero])
          (try simp only [Act.put, List.setIfInBounds_toArray, List.set_cons_zero, List.set_cons_succ])
          refine wpHold_take (i := 11) (v := ?_) rfl (by kernel_rfl) (by kernel_rfl) (by kernel_rfl) (fun _ _ _ h => h) (Or.inl ⟨by rfl, ?_⟩) hC_1 ?_
          rotate_left
          · intro w hSw; clear hSw; go_simp; (try with_reducible rfl)
          (try simp only [List.getElem_toArray, List.getElem_cons_succ, List.getElem_cons_zero])
          (try simp only [Act.put, List.setIfInBounds_toArray, List.set_cons_zero, List.set_cons_succ])
          refine wpHold_take (i := 12) (v := ?_) rfl (by kernel_rfl) (by kernel_rfl) (by kernel_rfl) (fun _ _ _ h => h) (Or.inl ⟨by rfl, ?_⟩) hC_1 ?_
          rotate_left
          · intro w hSw; clear hSw; go_simp; (try with_reducible rfl)
          (try simp only [List.getElem_toArray, List.getElem_cons_succ, List.getElem_cons_zero])
          (try simp only [Act.put, List.setIfInBounds_toArray, List.set_cons_zero, List.set_cons_succ])
          refine wpHold_take (i := 13) (v := ?_) rfl (by kernel_rfl) (by kernel_rfl) (by kernel_rfl) (fun _ _ _ h => h) (Or.inl ⟨by rfl, ?_⟩) hC_1 ?_
          rotate_left
          · intro w hSw; clear hSw; go_simp; (try with_reducible rfl)
          (try simp only [List.getElem_toArray, List.getElem_cons_succ, List.getElem_cons_zero])
          (try simp only [Act.put, List.setIfInBounds_toArray, List.set_cons_zero, List.set_cons_succ])
          refine wpHold_take (i := 14) (v := ?_) rfl (by kernel_rfl) (by kernel_rfl) (by kernel_rfl) (fun _ _ _ h => h) (Or.inl ⟨by rfl, ?_⟩) hC_1 ?_
          rotate_left
          · intro w hSw; (try dsimp only at hSw); obtain ⟨u0, u1⟩ := hSw; go_simp; (try with_reducible rfl)
          (try simp only [List.getElem_toArray, List.getElem_cons_succ, List.getElem_cons_zero])
          (try simp only [Act.put, List.setIfInBounds_toArray, List.set_cons_zero, List.set_cons_succ])
          refine wpHold_take (i := 15) (v := ?_) rfl (by kernel_rfl) (by kernel_rfl) (by kernel_rfl) (fun _ _ _ h => h) (Or.inl ⟨by rfl, ?_⟩) hC_1 ?_
          rotate_left
          · intro w hSw; clear hSw; go_simp; (try with_reducible rfl)
          (try simp only [List.getElem_toArray, List.getElem_cons_succ, List.getElem_cons_zero])
          (try simp only [Act.put, List.setIfInBounds_toArray, List.set_cons_zero, List.set_cons_succ])
          refine wpHold_take (i := 16) (v := ?_) rfl (by kernel_rfl) (by kernel_rfl) (by kernel_rfl) (fun _ _ _ h => h) (Or.inl ⟨by rfl, ?_⟩) hC_1 ?_
          rotate_left
          · intro w hSw; clear hSw; go_simp; (try with_reducible rfl)
          (try simp only [List.getElem_toArray, List.getElem_cons_succ, List.getElem_cons_zero])
          (try simp only [Act.put, List.setIfInBounds_toArray, List.set_cons_zero, List.set_cons_succ])
          refine wpHold_take (i := 17) (v := ?_) rfl (by kernel_rfl) (by kernel_rfl) (by kernel_rfl) (fun _ _ _ h => h) (Or.inl ⟨by rfl, ?_⟩) hC_1 ?_
          rotate_left
          · intro w hSw; clear hSw; go_simp; (try with_reducible rfl)
          (try simp only [List.getElem_toArray, List.getElem_cons_succ, List.getElem_cons_zero])
          (try simp only [Act.put, List.setIfInBounds_toArray, List.set_cons_zero, List.set_cons_succ])
          refine wpHold_take (i := 18) (v := ?_) rfl (by kernel_rfl) (by kernel_rfl) (by kernel_rfl) (fun _ _ _ h => h) (Or.inl ⟨by rfl, ?_⟩) hC_1 ?_
          rotate_left
          · intro w hSw; clear hSw; go_simp; (try with_reducible rfl)
          (try simp only [List.getElem_toArray, List.getElem_cons_succ, List.getElem_cons_zero])
          (try simp only [Act.put, List.setIfInBounds_toArray, List.set_cons_zero, List.set_cons_succ])
          refine wpHold_take (i := 19) (v := ?_) rfl (by kernel_rfl) (by kernel_rfl) (by kernel_rfl) (fun _ _ _ h => h) (Or.inl ⟨by rfl, ?_⟩) hC_1 ?_
          rotate_left
          · intro w hSw; (try dsimp only at hSw); obtain ⟨u0, u1⟩ := hSw; go_simp; (try with_reducible rfl)
          (try simp only [List.getElem_toArray, List.getElem_cons_succ, List.getElem_cons_zero])
          (try simp only [Act.put, List.setIfInBounds_toArray, List.set_cons_zero, List.set_cons_succ])
          refine wpHold_take (i := 20) (v := ?_) rfl (by kernel_rfl) (by kernel_rfl) (by kernel_rfl) (fun _ _ _ h => h) (Or.inl ⟨by rfl, ?_⟩) hC_1 ?_
          rotate_left
          · intro w hSw; clear hSw; go_simp; (try with_reducible rfl)
          (try simp only [List.getElem_toArray, List.getElem_cons_succ, List.getElem_cons_zero])
          (try simp only [Act.put, List.setIfInBounds_toArray, List.set_cons_zero, List.set_cons_succ])
          refine wpHold_take (i := 21) (v := ?_) rfl (by kernel_rfl) (by kernel_rfl) (by kernel_rfl) (fun _ _ _ h => h) (Or.inl ⟨by rfl, ?_⟩) hC_1 ?_
          rotate_left
          · intro w hSw; clear hSw; go_simp; (try with_reducible rfl)
          (try simp only [List.getElem_toArray, List.getElem_cons_succ, List.getElem_cons_zero])
          (try simp only [Act.put, List.setIfInBounds_toArray, List.set_cons_zero, List.set_cons_succ])
          refine wpHold_take (i := 22) (v := ?_) rfl (by kernel_rfl) (by kernel_rfl) (by kernel_rfl) (fun _ _ _ h => h) (Or.inl ⟨by rfl, ?_⟩) hC_1 ?_
          rotate_left
          · intro w hSw; clear hSw; go_simp; (try with_reducible rfl)
          (try simp only [List.getElem_toArray, List.getElem_cons_succ, List.getElem_cons_zero])
          (try simp only [Act.put, List.setIfInBounds_toArray, List.set_cons_zero, List.set_cons_succ])
          refine wpHold_done (by kernel_rfl) ?_ _

          have HB8 := hide (below_step hbr cc_1)
          obtain ⟨W8, hW8⟩ : ∃ W, xw_1 = W := ⟨_, rfl⟩
          rw [hW8] at HB8 ⊢
          clear HC11 hC0 hC_1 bd0 cc_1 hb_1 hbr hW8 
          go_wp2_with fail
          go_loopw [11] (fun vk wv => ∃ m : Nat, vk = .int .i64 (m : Int) ∧ m ≤ nm ∧ Below W8.heap.size W8 wv) (fun vk _ => nm - (intOf vk).toNat)
          case atStart => exact ⟨0, rfl, Nat.zero_le _, Below.refl _ _⟩
          case round =>
            obtain ⟨m, rfl, hm, hbv⟩ := hrel
            have HBV := hide hbv
            by_cases hmn : m < nm
            · have m1 : (m : Int) < (nm : Int) := by omega
              have m0 : (0 : Int) ≤ (m : Int) := by omega
              obtain ⟨z, hz⟩ : ∃ z, M[m]! = z := ⟨_, rfl⟩
              obtain ⟨bm, om, rfl, HMC⟩ := unhide HMI (by omega)
              have HC16 : Hid (∀ W, Below wr.heap.size wr W → (fun w' : World => w'.cell? ⟨bl, ol + i, none⟩ = some (.int .i64 (x : Int)) ∧ w'.cell? ⟨bm, om + m, none⟩ = some (.int .i64 (z : Int))) W) := fun W hW => by
                have h4 := below_step (below_step (unhide HB8) hbv) hW
                exact ⟨unhide HXC W h4, by rw [← hz]; exact unhide HMC W m h4 hmn⟩
              have hxz := unhide HMT i m (unhide HLT) hmn
              rw [unhide HXE, hz] at hxz
              have hzt := (unhide HMB m hmn).1
              rw [hz] at hzt
              have hxt := unhide HXT
              have hnd := bits_and_i64 x z (by omega) (by omega)
              have hne : ((x &&& z : Nat) : Int) ≠ 0 := by omega
              have hbe : (bits .and .i64 (x : Int) (z : Int) == 0) = false := by rw [hnd, beq_eq_false_iff_ne]; exact hne
              have HMN := hide hmn
              clear hbv hxz hzt hxt hnd hne hmn hz
              go_wp2_with fail
              refine wp_region_hold (fun w' : World => w'.cell? ⟨bl, ol + i, none⟩ = some (.int .i64 (x : Int)) ∧ w'.cell? ⟨bm, om + m, none⟩ = some (.int .i64 (z : Int))) (by kernel_rfl) ?_
              have bd0 : Below wr.heap.size wr wr.drew := (Below.refl _ _).drew
              have hC0 : (fun w' : World => w'.cell? ⟨bl, ol + i, none⟩ = some (.int .i64 (x : Int)) ∧ w'.cell? ⟨bm, om + m, none⟩ = some (.int .i64 (z : Int))) wr.drew := unhide HC16 _ bd0
              refine wpHold_take (i := 0) (v := ?_) rfl (by kernel_rfl) (by kernel_rfl) (by kernel_rfl) (fun _ _ _ h => h) (Or.inl ⟨by rfl, ?_⟩) hC0 ?_
              rotate_left
              · intro w hSw; clear hSw; go_simp; (try with_reducible rfl)
              (try simp only [List.getElem_toArray, List.getElem_cons_succ, List.getElem_cons_zero])
              (try simp only [Act.put, List.setIfInBounds_toArray, List.set_cons_zero, List.set_cons_succ])
              refine wpHold_take (i := 1) (v := ?_) rfl (by kernel_rfl) (by kernel_rfl) (by kernel_rfl) (fun _ _ _ h => h) (Or.inl ⟨by rfl, ?_⟩) hC0 ?_
              rotate_left
              · intro w hSw; clear hSw; go_simp; (try with_reducible rfl)
              (try simp only [List.getElem_toArray, List.getElem_cons_succ, List.getElem_cons_zero])
              (try simp only [Act.put, List.setIfInBounds_toArray, List.set_cons_zero, List.set_cons_succ])
              refine wpHold_take (i := 2) (v := ?_) rfl (by kernel_rfl) (by kernel_rfl) (by kernel_rfl) (fun _ _ _ h => h) (Or.inl ⟨by rfl, ?_⟩) hC0 ?_
              rotate_left
              · intro w hSw; clear hSw; go_simp; (try with_reducible rfl)
              (try simp only [List.getElem_toArray, List.getElem_cons_succ, List.getElem_cons_zero])
              (try simp only [Act.put, List.setIfInBounds_toArray, List.set_cons_zero, List.set_cons_succ])
              refine wpHold_take (i := 3) (v := ?_) rfl (by kernel_rfl) (by kernel_rfl) (by kernel_rfl) (fun _ _ _ h => h) (Or.inl ⟨by rfl, ?_⟩) hC0 ?_
              rotate_left
              · intro w hSw; (try dsimp only at hSw); obtain ⟨u0, u1⟩ := hSw; go_simp; (try with_reducible rfl)
              (try simp only [List.getElem_toArray, List.getElem_cons_succ, List.getElem_cons_zero])
              (try simp only [Act.put, List.setIfInBounds_toArray, List.set_cons_zero, List.set_cons_succ])
              refine wpHold_take (i := 4) (v := ?_) rfl (by kernel_rfl) (by kernel_rfl) (by kernel_rfl) (fun _ _ _ h => h) (Or.inl ⟨by rfl, ?_⟩) hC0 ?_
              rotate_left
              · intro w hSw; clear hSw; go_simp; (try with_reducible rfl)
              (try simp only [List.getElem_toArray, List.getElem_cons_succ, List.getElem_cons_zero])
              (try simp only [Act.put, List.setIfInBounds_toArray, List.set_cons_zero, List.set_cons_succ])
              refine wpHold_take (i := 5) (v := ?_) rfl (by kernel_rfl) (by kernel_rfl) (by kernel_rfl) (fun _ _ _ h => h) (Or.inl ⟨by rfl, ?_⟩) hC0 ?_
              rotate_left
              · intro w hSw; clear hSw; go_simp; (try with_reducible rfl)
              (try simp only [List.getElem_toArray, List.getElem_cons_succ, List.getElem_cons_zero])
              (try simp only [Act.put, List.setIfInBounds_toArray, List.set_cons_zero, List.set_cons_succ])
              refine wpHold_take (i := 6) (v := ?_) rfl (by kernel_rfl) (by kernel_rfl) (by kernel_rfl) (fun _ _ _ h => h) (Or.inl ⟨by rfl, ?_⟩) hC0 ?_
              rotate_left
              · intro w hSw; clear hSw; go_simp; (try with_reducible rfl)
              (try simp only [List.getElem_toArray, List.getElem_cons_succ, List.getElem_cons_zero])
              (try simp only [Act.put, List.setIfInBounds_toArray, List.set_cons_zero, List.set_cons_succ])
              refine wpHold_take (i := 7) (v := ?_) rfl (by kernel_rfl) (by kernel_rfl) (by kernel_rfl) (fun _ _ _ h => h) (Or.inl ⟨by rfl, ?_⟩) hC0 ?_
              rotate_left
              · intro w hSw; (try dsimp only at hSw); obtain ⟨u0, u1⟩ := hSw; go_simp; (try with_reducible rfl)
              (try simp only [List.getElem_toArray, List.getElem_cons_succ, List.getElem_cons_zero])
              (try simp only [Act.put, List.setIfInBounds_toArray, List.set_cons_zero, List.set_cons_succ])
              refine wpHold_take (i := 8) (v := ?_) rfl (by kernel_rfl) (by kernel_rfl) (by kernel_rfl) (fun _ _ _ h => h) (Or.inl ⟨by rfl, ?_⟩) hC0 ?_
              rotate_left
              · intro w hSw; clear hSw; go_simp; (try with_reducible rfl)
              (try simp only [List.getElem_toArray, List.getElem_cons_succ, List.getElem_cons_zero])
              (try simp only [Act.put, List.setIfInBounds_toArray, List.set_cons_zero, List.set_cons_succ])
              refine wpHold_take (i := 9) (v := ?_) rfl (by kernel_rfl) (by kernel_rfl) (by kernel_rfl) (fun _ _ _ h => h) (Or.inl ⟨by rfl, ?_⟩) hC0 ?_
              rotate_left
              · intro w hSw; clear hSw; go_simp; (try with_reducible rfl)
              (try simp only [List.getElem_toArray, List.getElem_cons_succ, List.getElem_cons_zero])
              (try simp only [Act.put, List.setIfInBounds_toArray, List.set_cons_zero, List.set_cons_succ])
              refine wpHold_done (by kernel_rfl) ?_ _

              clear HC16
              go_wp2
              exact ⟨⟨m + 1, by go_num, unhide HMN, (unhide HBV).drew⟩, by have := unhide HMN; simp [intOf]; omega⟩
            · obtain rfl : m = nm := by omega
              have m1 : ¬ (m : Int) < (m : Int) := by omega
              go_wp2
              exact ⟨⟨i + 1, by go_num, unhide HLT, below_step (unhide HB8) (unhide HBV)⟩, by have := unhide HLT; simp [intOf]; omega⟩

      · obtain rfl : i = nl := by omega
        have j1 : ¬ (i : Int) < (i : Int) := by omega
        have HBR := hide hbr
        clear hbr hlt
        go_wp2_with fail
        go_loopw [12] (fun vi wr => ∃ m : Nat, vi = .int .i64 (m : Int) ∧ m ≤ nm ∧ Below w4.heap.size w4 wr) (fun vi _ => nm - (intOf vi).toNat)
        case atStart => exact ⟨0, rfl, Nat.zero_le _, unhide HBR⟩
        case round =>
          obtain ⟨m, rfl, hm, hbr⟩ := hrel
          by_cases hlt : m < nm
          · have m1 : (m : Int) < (nm : Int) := by omega
            have m0 : (0 : Int) ≤ (m : Int) := by omega
            have HLT := hide hlt
            obtain ⟨bm, om, rfl, HMC⟩ := unhide HMI (by omega)
            have hz := unhide HMB m hlt
            obtain ⟨z, hze⟩ : ∃ x, M[m]! = x := ⟨_, rfl⟩
            rw [hze] at hz
            obtain ⟨hr1, hr2⟩ := unhide HRST z hz.1
            have hzw := hz.2
            obtain ⟨r, hr⟩ : ∃ r, Rsk.rest P z = r := ⟨_, rfl⟩
            rw [hr] at hr1 hr2 hzw
            have HRT := hide hr1
            have HRW := hide hzw
            have HAR : Hid (IntKind.i64.wrap (IntKind.i64.wrap (IntKind.i64.wrap ((2 : Int) ^ P) - 1) - (z : Int)) = (r : Int)) := show _ = _ by
              have w1 : IntKind.i64.wrap (T : Int) = (T : Int) := by rw [IntKind.wrap_i64]; omega
              have w2 : IntKind.i64.wrap ((T : Int) - 1) = (T : Int) - 1 := by rw [IntKind.wrap_i64]; omega
              rw [unhide HPT, w1, w2, hr2, IntKind.wrap_i64]; omega
            have HC21 : Hid (∀ W, Below wr.heap.size wr W → (fun w' : World => w'.cell? ⟨p0, 0, none⟩ = some (.int .i64 (P : Int)) ∧ w'.cell? ⟨bm, om + m, none⟩ = some (.int .i64 (z : Int))) W) := fun W hW => ⟨unhide HP0 W (below_step (unhide HB4) (below_step hbr hW)), by rw [← hze]; exact unhide HMC W m (below_step hbr hW) hlt⟩
            clear hz hze hr hr1 hzw hlt
            go_wp2_with fail
            refine wp_region_hold (fun w' : World => w'.cell? ⟨p0, 0, none⟩ = some (.int .i64 (P : Int)) ∧ w'.cell? ⟨bm, om + m, none⟩ = some (.int .i64 (z : Int))) (by kernel_rfl) ?_
            have bd0 : Below wr.heap.size wr wr.drew := (Below.refl _ _).drew
            have hC0 : (fun w' : World => w'.cell? ⟨p0, 0, none⟩ = some (.int .i64 (P : Int)) ∧ w'.cell? ⟨bm, om + m, none⟩ = some (.int .i64 (z : Int))) wr.drew := unhide HC21 _ bd0
            refine wpHold_take (i := 0) (v := ?_) rfl (by kernel_rfl) (by kernel_rfl) (by kernel_rfl) (fun _ _ _ h => h) (Or.inl ⟨by rfl, ?_⟩) hC0 ?_
            rotate_left
            · intro w hSw; clear hSw; go_simp; (try with_reducible rfl)
            (try simp only [List.getElem_toArray, List.getElem_cons_succ, List.getElem_cons_zero])
            (try simp only [Act.put, List.setIfInBounds_toArray, List.set_cons_zero, List.set_cons_succ])
            refine wpHold_take (i := 1) (v := ?_) rfl (by kernel_rfl) (by kernel_rfl) (by kernel_rfl) (fun _ _ _ h => h) (Or.inl ⟨by rfl, ?_⟩) hC0 ?_
            rotate_left
            · intro w hSw; (try dsimp only at hSw); obtain ⟨u0, u1⟩ := hSw; go_simp; (try with_reducible rfl)
            (try simp only [List.getElem_toArray, List.getElem_cons_succ, List.getElem_cons_zero])
            (try simp only [Act.put, List.setIfInBounds_toArray, List.set_cons_zero, List.set_cons_succ])
            refine wpHold_take (i := 2) (v := ?_) rfl (by kernel_rfl) (by kernel_rfl) (by kernel_rfl) (fun _ _ _ h => h) (Or.inl ⟨by rfl, ?_⟩) hC0 ?_
            rotate_left
            · intro w hSw; clear hSw; go_simp; (try with_reducible rfl)
            (try simp only [List.getElem_toArray, List.getElem_cons_succ, List.getElem_cons_zero])
            (try simp only [Act.put, List.setIfInBounds_toArray, List.set_cons_zero, List.set_cons_succ])
            refine wpHold_take (i := 3) (v := ?_) rfl (by kernel_rfl) (by kernel_rfl) (by kernel_rfl) (fun _ _ _ h => h) (Or.inl ⟨by rfl, ?_⟩) hC0 ?_
            rotate_left
            · intro w hSw; clear hSw; go_simp; (try with_reducible rfl)
            (try simp only [List.getElem_toArray, List.getElem_cons_succ, List.getElem_cons_zero])
            (try simp only [Act.put, List.setIfInBounds_toArray, List.set_cons_zero, List.set_cons_succ])
            refine wpHold_take (i := 4) (v := ?_) rfl (by kernel_rfl) (by kernel_rfl) (by kernel_rfl) (fun _ _ _ h => h) (Or.inl ⟨by rfl, ?_⟩) hC0 ?_
            rotate_left
            · intro w hSw; clear hSw; go_simp; (try with_reducible rfl)
            (try simp only [List.getElem_toArray, List.getElem_cons_succ, List.getElem_cons_zero])
            (try simp only [Act.put, List.setIfInBounds_toArray, List.set_cons_zero, List.set_cons_succ])
            refine wpHold_take (i := 5) (v := ?_) rfl (by kernel_rfl) (by kernel_rfl) (by kernel_rfl) (fun _ _ _ h => h) (Or.inl ⟨by rfl, ?_⟩) hC0 ?_
            rotate_left
            · intro w hSw; clear hSw; go_simp; (try with_reducible rfl)
            (try simp only [List.getElem_toArray, List.getElem_cons_succ, List.getElem_cons_zero])
            (try simp only [Act.put, List.setIfInBounds_toArray, List.set_cons_zero, List.set_cons_succ])
            refine wpHold_take (i := 6) (v := ?_) rfl (by kernel_rfl) (by kernel_rfl) (by kernel_rfl) (fun _ _ _ h => h) (Or.inl ⟨by rfl, ?_⟩) hC0 ?_
            rotate_left
            · intro w hSw; clear hSw; go_simp; (try with_reducible rfl)
            (try simp only [List.getElem_toArray, List.getElem_cons_succ, List.getElem_cons_zero])
            (try simp only [Act.put, List.setIfInBounds_toArray, List.set_cons_zero, List.set_cons_succ])
            refine wpHold_take (i := 7) (v := ?_) rfl (by kernel_rfl) (by kernel_rfl) (by kernel_rfl) (fun _ _ _ h => h) (Or.inl ⟨by rfl, ?_⟩) hC0 ?_
            rotate_left
            · intro w hSw; (try dsimp only at hSw); obtain ⟨u0, u1⟩ := hSw; go_simp; (try with_reducible rfl)
            (try simp only [List.getElem_toArray, List.getElem_cons_succ, List.getElem_cons_zero])
            (try simp only [Act.put, List.setIfInBounds_toArray, List.set_cons_zero, List.set_cons_succ])
            refine wpHold_take (i := 8) (v := ?_) rfl (by kernel_rfl) (by kernel_rfl) (by kernel_rfl) (fun _ _ _ h => h) (Or.inl ⟨by rfl, ?_⟩) hC0 ?_
            rotate_left
            · intro w hSw; clear hSw; go_simp; (try with_reducible rfl)
            (try simp only [List.getElem_toArray, List.getElem_cons_succ, List.getElem_cons_zero])
            (try simp only [Act.put, List.setIfInBounds_toArray, List.set_cons_zero, List.set_cons_succ])
            refine wpHold_one (k := 9) (by kernel_rfl) rfl (fun K hK => ?_)
            (try simp only [List.getElem_toArray, List.getElem_cons_succ, List.getElem_cons_zero])
            go_simp
            rw [unhide HAR]
            refine (unhide HCLO wr.drew r (below_step (unhide HB4) (below_step hbr bd0)) (unhide HRT)).mono ?_
            rw [unhide HRW]
            rintro e xw_1 ⟨rfl, hb_1⟩
            have cc_1 := below_step bd0 hb_1
            have hC_1 : (fun w' : World => w'.cell? ⟨p0, 0, none⟩ = some (.int .i64 (P : Int)) ∧ w'.cell? ⟨bm, om + m, none⟩ = some (.int .i64 (z : Int))) xw_1 := unhide HC21 _ cc_1
            refine hK.out _ _ hC_1 ?_
            clear hK K
            (try simp only [Act.put, List.setIfInBounds_toArray, List.set_cons_zero, List.set_cons_succ])
            refine wpHold_done (by kernel_rfl) ?_ _

            have HBN := hide (below_step hbr cc_1)
            clear HC21
            go_wp2
            exact ⟨⟨m + 1, by go_num, unhide HLT, unhide HBN⟩, by have := unhide HLT; simp [intOf]; omega⟩
          · obtain rfl : m = nm := by omega
            have m1 : ¬ (m : Int) < (m : Int) := by omega
            have HFB := hide (below_step (unhide HB1) (below_step (unhide HB4) hbr))
            have hs := unhide HSS
            have f1 : (0 : Int) < (i : Int) + (m : Int) := by omega
            have jw : IntKind.i64.wrap ((i : Int) + (m : Int)) = (i : Int) + (m : Int) := by rw [IntKind.wrap_i64]; omega
            clear hbr
            go_wp2
            go_ret
            exact ⟨rfl, unhide HFB⟩
  · have HPE := hide (rPaths_err parts _ a N c g H W1 (unhide HGW W1 (Below.refl _ _)) rfl hk)
    have HCE : Hid (∀ W, Below W1.heap.size W1 W → Calls Tryd.prog 22 #[.int .i64 parts, .slice a N c] W fun e w' => e = .returned (.tuple #[.slice none 0 0, .iface 92 (.int .i64 (gcode parts g N))]) ∧ Below W.heap.size W w') := fun W hW => rCuts_err parts _ a N c g H W (unhide HGW W hW) rfl hk
    obtain ⟨kz, hkz⟩ : ∃ k, gcode parts g N = k := ⟨_, rfl⟩
    rw [hkz] at HPE HCE
    clear hk hkz
    go_enter Tryd.func4, Tryd.ntmps4
    go_wp2_with fail
    clear hW0 hp0 hW1 hp1
    refine (unhide HFE).mono ?_
    rintro e w0 ⟨⟨B, rfl⟩, hw⟩
    have hw' := hw.symm
    subst hw'
    clear hw
    cases B with
    | false =>
      go_wp2
      go_ret
      exact ⟨rfl, unhide HB1⟩
    | true =>
    go_wp2_with fail
    refine (unhide HPE).mono ?_
    rintro e w2 ⟨rfl, hb2⟩
    have q0 := unhide HP0 w2 hb2
    have q1 := unhide HP1 w2 hb2
    have HB2 := hide hb2
    clear hb2 HPE k1 k01
    go_wp2_with fail
    refine (unhide HCE w2 (unhide HB2)).mono ?_
    rintro e w3 ⟨rfl, hb3⟩
    have HB3 := hide (below_step (unhide HB2) hb3)
    clear hb3 HCE q0 q1
    go_wp2_with fail
    refine (joined_any w3 (unhide HTB w3 (unhide HB3))).mono ?_
    rintro e w4 ⟨rfl, hb4⟩
    have HB4 := hide (below_step (unhide HB3) hb4)
    clear hb4 HB3
    go_wp2_with fail
    refine (joined_any w4 (unhide HTB w4 (unhide HB4))).mono ?_
    rintro e w5 ⟨rfl, hb5⟩
    have HB5 := hide (below_step (unhide HB1) (below_step (unhide HB4) hb5))
    clear hb5 HB4
    go_wp2
    go_ret
    exact ⟨rfl, unhide HB5⟩

end Go.Proofs.YtpopcfclpemlaaaDoor
