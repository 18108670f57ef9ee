/- What the first classes leave, and half their squares. -/
import Derived.Test.YtbboacmjbffmhaaGreatDoorS4
namespace Go.Proofs.YtbboacmjbffmhaaGreatDoor
open Go.RowKit Go.Sort Go.Shelf

theorem fill_one {f : Nat → Rat} (h : f 0 = 0) (N : Nat) : fill f N 0 = fill f N 1 := by
  unfold fill
  refine List.map_congr_left fun i _ => ?_
  rw [if_neg (Nat.not_lt_zero _)]
  split
  · next h' => obtain rfl : i = 0 := by omega
               exact h.symm
  · rfl
theorem num_gt {q : Rat} : 0 < q.num ↔ 0 < q := by
  have h : 0 ≤ (-q).num ↔ 0 ≤ -q := Rat.num_nonneg
  rw [Rat.neg_num] at h
  have h2 : 0 ≤ -q ↔ q ≤ 0 := ⟨fun h => by grind, fun h => by grind⟩
  rw [h2] at h
  constructor
  · intro h'
    exact Rat.not_le.1 (fun e => by have := h.2 e; omega)
  · intro h'
    have h3 : ¬ q ≤ 0 := Rat.not_le.2 h'
    rw [← h] at h3
    omega
theorem sign_np {x : Int} (h : ¬ 0 < x) : x.sign ≤ 0 := by
  rcases Int.lt_trichotomy x 0 with h' | h' | h'
  · rw [Int.sign_eq_neg_one_of_neg h']; decide
  · subst h'; decide
  · exact absurd h' h
/-- Classes that the server can do. -/
def FitC (ks : List (Rat × List Rat)) : Prop := GoodC ks ∧ 0 < lfC ks ks.length
/-- What ahead says. -/
def AheadPost (w : World) (ks : List (Rat × List Rat)) (e : Ending) (w' : World) : Prop :=
  (FitC ks ∧ ∃ vm vl vh, e = .returned (.tuple #[vm, vl, vh, .nilIface]) ∧ LawIs w' vm (row (mo 1 ks) ks.length) ∧ LawIs w' vl (row (lfC ks) (ks.length + 1)) ∧ LawIs w' vh (row (hfC ks) (ks.length + 1)) ∧ Below w.heap.size w w') ∨
  (¬ FitC ks ∧ ∃ k : Int, e = .returned (.tuple #[.slice none 0 0, .slice none 0 0, .slice none 0 0, .iface 56 (.int .i64 k)]) ∧ Below w.heap.size w w')

set_option maxHeartbeats 8000000 in
set_option maxRecDepth 100000 in
set_option linter.unusedSimpArgs false in
theorem ahead_any (v : Value) (ks : List (Rat × List Rat)) (w : World) (h : ClassesAre w v ks) (sm : SmC ks) (hl : ks.length ≤ 6) :
    Calls Tryz.prog 24 #[v] w (AheadPost w ks) := by
  have KKe : KK = 1099511627776 := rfl
  have HV := hide h
  have HTI := hide (times_any v ks w h sm hl)
  obtain ⟨a, c, rfl, h1, h2, h3⟩ := h
  have H3 := hide h3
  have HSM := hide sm
  have e4 : IntKind.i64.wrap ((ks.length : Int) + 1) = (ks.length : Int) + 1 := by rw [IntKind.wrap_i64]; omega
  clear h3 sm
  go_enter Tryz.func24, Tryz.ntmps24
  go_wp2_with fail
  refine (unhide HTI).mono ?_
  rintro e w1 (⟨hg, vm, rfl, hm, hb1⟩ | ⟨hng, k, rfl, hb1⟩)
  rotate_left
  · have HNG : Hid (¬ FitC ks) := fun g => hng g.1
    have HB1 := hide hb1
    clear hng hb1 HTI
    go_wp2
    exact bodyPost_ret (v := .tuple #[.slice none 0 0, .slice none 0 0, .slice none 0 0, .iface 56 (.int .i64 k)]) (by simp [results, Tryz.results24, go_sem]) rfl (Or.inr ⟨unhide HNG, k, rfl, unhide HB1⟩)
  have HG := hide hg
  have HVM := hide hm
  have HB1 := hide hb1
  obtain ⟨am, cm, rfl, m1, m2, m3⟩ := hm
  rw [row_length] at m1 HVM ⊢
  clear hg hb1 HTI m3
  have qmk := make_ratios ((ks.length : Int) + 1) (by omega) (by omega) w1
  rw [show ((ks.length : Int) + 1).toNat = ks.length + 1 by omega] at qmk
  have S0 := SumsAt.start w1 w1 (ks.length + 1) (Below.refl _ _)
  rw [fill_zero (lfC ks) (ks.length + 1)] at S0
  obtain ⟨W0, hW0⟩ : ∃ W, w1.alloc (.cells (tcells (List.replicate (ks.length + 1) zTri)).toArray 42) = W := ⟨_, rfl⟩
  obtain ⟨G, hG⟩ : ∃ G, w1.heap.size = G := ⟨_, rfl⟩
  rw [hW0, hG] at qmk S0
  have HS0 := hide S0
  clear S0 hW0 hG
  go_wp2_with fail
  clear qmk
  refine (whole_any 1 (by decide) (by decide) W0).mono ?_
  rintro e w2 ⟨v2, rfl, hv2, hb2⟩
  obtain ⟨t1, rfl, r1⟩ := tri_of hv2
  simp only [Tri.val]
  have S2 := (unhide HS0).keep hb2
  have hl2 : 0 < (List.replicate (ks.length + 1) zTri).length := by rw [List.length_replicate]; omega
  have ⟨⟨y0, y1, y2⟩, l0, l1, l2⟩ := S2.cells 0 hl2
  have FZ := S2.set 0 hl2 t1 _ r1
  rw [← lfC_zero ks, fill_set (lfC ks)] at FZ
  simp only [Nat.zero_mul, Nat.zero_add] at y0 y1 y2 l0 l1 l2 FZ
  obtain ⟨W3, hW3⟩ : ∃ W, ((w2.setCell ⟨G, 0, none⟩ (.bool t1.s)).setCell ⟨G, 1, none⟩ (.slice t1.a1 t1.n1 t1.c1)).setCell ⟨G, 2, none⟩ (.slice t1.a2 t1.n2 t1.c2) = W := ⟨_, rfl⟩
  rw [hW3] at FZ
  have HS3 := hide FZ
  have HLO := hide (sloads_any _ _ ks W3 ((unhide HV).below (below_step (unhide HB1) FZ.bl)) ((unhide HVM).below FZ.bl) (unhide HSM) hl)
  have hG3 : G < W3.heap.size := (Array.getElem?_eq_some_iff.1 FZ.row).1
  have z1 : (0 : Int) < (ks.length : Int) + 1 := by omega
  clear S2 FZ hv2 r1 hb2 hl2 HS0
  go_wp2_with fail
  clear hW3 y0 y1 y2 l0 l1 l2
  refine (unhide HLO).mono ?_
  rintro e w4 ⟨D, ud, rfl, SD⟩
  have HSD := hide (SD.rebase (unhide HS3).bl)
  have HS4 := hide ((unhide HS3).keep SD.bl)
  have HNE : Hid (D ≠ G) := fun e => by have := SD.gl; omega
  clear SD HLO HS3 z1 hG3
  go_wp2_with fail
  go_loopw [31] (fun vi wr => ∃ (i : Nat) (us ud : List Tri), vi = .int .i64 (i : Int) ∧ i ≤ ks.length ∧ SumsAt w1 wr G us (fill (lfC ks) (ks.length + 1) (i + 1)) ∧ SumsAt w1 wr D ud (row (ldC ks) ks.length)) (fun vi _ => ks.length - (intOf vi).toNat)
  case atStart => exact ⟨0, _, _, rfl, Nat.zero_le _, unhide HS4, unhide HSD⟩
  case round =>
    obtain ⟨i, us, ud, rfl, hi, S, SD⟩ := hrel
    have hul : us.length = ks.length + 1 := by rw [S.len, fill_length]
    have hud : ud.length = ks.length := by rw [SD.len, row_length]
    clear HS4 HSD
    by_cases hlt : i < ks.length
    · have ⟨k0, k1, k2⟩ := (SD.cells i (by omega)).1
      have kr := SD.rat i (by omega)
      rw [row_get hlt] at kr
      obtain ⟨td, htd⟩ : ∃ t, ud[i]! = t := ⟨_, rfl⟩
      rw [htd] at k0 k1 k2 kr
      have bA := alloc_below wr (.cells #[.bool td.s, .slice td.a1 td.n1 td.c1, .slice td.a2 td.n2 td.c2] 42)
      have X1 := BoxIs.new kr
      have S1 := S.keep bA
      have SD1 := SD.keep bA
      obtain ⟨W2, hW2⟩ : ∃ W, wr.alloc (.cells #[.bool td.s, .slice td.a1 td.n1 td.c1, .slice td.a2 td.n2 td.c2] 42) = W := ⟨_, rfl⟩
      obtain ⟨bd, hbd⟩ : ∃ g, wr.heap.size = g := ⟨_, rfl⟩
      rw [hW2] at X1 S1 SD1
      rw [hbd] at X1
      have HX1 := hide X1
      have HS1 := hide S1
      have HSD1 := hide SD1
      have ⟨sk0, _⟩ := S1.cells i (by omega)
      have rk := S1.rat i (by omega)
      rw [fill_get (by omega) (by omega)] at rk
      obtain ⟨tl, htl⟩ : ∃ t, us[i]! = t := ⟨_, rfl⟩
      rw [htl] at sk0 rk
      have hGlt : G < W2.heap.size := (Array.getElem?_eq_some_iff.1 S1.row).1
      have HRK := hide rk
      have e1 : (i : Int) < (ks.length : Int) := by omega
      have e0 : (0 : Int) ≤ (i : Int) := by omega
      have e5 : (i : Int) < (ks.length : Int) + 1 := by omega
      have e6 : (0 : Int) ≤ (i : Int) + 1 := by omega
      have e7 : (i : Int) + 1 < (ks.length : Int) + 1 := by omega
      have e8 : IntKind.i64.wrap ((i : Int) + 1) = (i : Int) + 1 := by rw [IntKind.wrap_i64]; omega
      have e9 : ((i : Int) + 1).toNat = i + 1 := by omega
      have ⟨c0, c1, c2⟩ := X1.cells _ (Below.refl _ _)
      have HCC : Hid (∀ W, Below W2.heap.size W2 W → (fun w' : World => (w'.cell? ⟨G, i * 3, none⟩ = some (.bool tl.s) ∧ w'.cell? ⟨G, i * 3 + 1, none⟩ = some (.slice tl.a1 tl.n1 tl.c1) ∧ w'.cell? ⟨G, i * 3 + 2, none⟩ = some (.slice tl.a2 tl.n2 tl.c2)) ∧ (w'.cell? ⟨bd, 0, none⟩ = some (.bool td.s) ∧ w'.cell? ⟨bd, 1, none⟩ = some (.slice td.a1 td.n1 td.c1) ∧ w'.cell? ⟨bd, 2, none⟩ = some (.slice td.a2 td.n2 td.c2))) W) := fun W hW => by
        refine ⟨?_, (unhide HX1).cells W hW⟩
        rw [hW.cell (p := ⟨G, i * 3, none⟩) hGlt, hW.cell (p := ⟨G, i * 3 + 1, none⟩) hGlt, hW.cell (p := ⟨G, i * 3 + 2, none⟩) hGlt]; exact sk0
      have HSU : Hid (∀ W, Below W2.heap.size W2 W → Calls Tryz.prog 41 #[.agg #[.bool tl.s, .slice tl.a1 tl.n1 tl.c1, .slice tl.a2 tl.n2 tl.c2], .agg #[.bool td.s, .slice td.a1 td.n1 td.c1, .slice td.a2 td.n2 td.c2]] W fun e w' => ∃ v, e = .returned v ∧ RatIs w' v (lfC ks (i + 1)) ∧ Below W.heap.size W w') := fun W hW => subR_any tl.val td.val _ _ W ((unhide HRK).below hW) ((unhide HX1).2.below hW) 300 ((lfC_RS (unhide HSM) i (by omega)).mono (by omega)) ((ld_RS (unhide HSM) (by omega) hlt).mono (by omega)) (by rw [KKe]; omega)
      clear S SD S1 SD1 X1 bA kr rk sk0 htd htl
      go_wp2_with fail
      clear hW2 hbd k0 k1 k2 c0 c1 c2
      refine wp_region_till (fun w' : World => (w'.cell? ⟨G, i * 3, none⟩ = some (.bool tl.s) ∧ w'.cell? ⟨G, i * 3 + 1, none⟩ = some (.slice tl.a1 tl.n1 tl.c1) ∧ w'.cell? ⟨G, i * 3 + 2, none⟩ = some (.slice tl.a2 tl.n2 tl.c2)) ∧ (w'.cell? ⟨bd, 0, none⟩ = some (.bool td.s) ∧ w'.cell? ⟨bd, 1, none⟩ = some (.slice td.a1 td.n1 td.c1) ∧ w'.cell? ⟨bd, 2, none⟩ = some (.slice td.a2 td.n2 td.c2))) 10 (by kernel_rfl) ?_
      have bd0 : Below W2.heap.size W2 W2.drew := (Below.refl _ _).drew
      have hC0 : (fun w' : World => (w'.cell? ⟨G, i * 3, none⟩ = some (.bool tl.s) ∧ w'.cell? ⟨G, i * 3 + 1, none⟩ = some (.slice tl.a1 tl.n1 tl.c1) ∧ w'.cell? ⟨G, i * 3 + 2, none⟩ = some (.slice tl.a2 tl.n2 tl.c2)) ∧ (w'.cell? ⟨bd, 0, none⟩ = some (.bool td.s) ∧ w'.cell? ⟨bd, 1, none⟩ = some (.slice td.a1 td.n1 td.c1) ∧ w'.cell? ⟨bd, 2, none⟩ = some (.slice td.a2 td.n2 td.c2))) W2.drew := unhide HCC _ bd0
      refine wpTill_pure (i := 0) (v := ?_) rfl (by kernel_rfl) (by kernel_rfl) (by kernel_rfl) (by kernel_rfl) (fun _ _ _ h => h) (Or.inl ⟨by rfl, ?_⟩) (fun _ => hC0) ?_
      rotate_left
      · intro w hSw; clear hSw; go_simp; (try with_reducible rfl)
      (try simp only [List.getElem_toArray, List.getElem_cons_succ, List.getElem_cons_zero])
      (try simp only [Act.put, List.setIfInBounds_toArray, List.set_cons_zero, List.set_cons_succ])
      refine wpTill_pure (i := 1) (v := ?_) rfl (by kernel_rfl) (by kernel_rfl) (by kernel_rfl) (by kernel_rfl) (fun _ _ _ h => h) (Or.inl ⟨by rfl, ?_⟩) (fun _ => hC0) ?_
      rotate_left
      · intro w hSw; clear hSw; go_simp; (try with_reducible rfl)
      (try simp only [List.getElem_toArray, List.getElem_cons_succ, List.getElem_cons_zero])
      (try simp only [Act.put, List.setIfInBounds_toArray, List.set_cons_zero, List.set_cons_succ])
      refine wpTill_pure (i := 2) (v := ?_) rfl (by kernel_rfl) (by kernel_rfl) (by kernel_rfl) (by kernel_rfl) (fun _ _ _ h => h) (Or.inl ⟨by rfl, ?_⟩) (fun _ => hC0) ?_
      rotate_left
      · intro w hSw; clear hSw; go_simp; (try with_reducible rfl)
      (try simp only [List.getElem_toArray, List.getElem_cons_succ, List.getElem_cons_zero])
      (try simp only [Act.put, List.setIfInBounds_toArray, List.set_cons_zero, List.set_cons_succ])
      refine wpTill_pure (i := 3) (v := ?_) rfl (by kernel_rfl) (by kernel_rfl) (by kernel_rfl) (by kernel_rfl) (fun _ _ _ h => h) (Or.inl ⟨by rfl, ?_⟩) (fun _ => hC0) ?_
      rotate_left
      · intro w hSw; clear hSw; go_simp; (try with_reducible rfl)
      (try simp only [List.getElem_toArray, List.getElem_cons_succ, List.getElem_cons_zero])
      (try simp only [Act.put, List.setIfInBounds_toArray, List.set_cons_zero, List.set_cons_succ])
      refine wpTill_pure (i := 4) (v := ?_) rfl (by kernel_rfl) (by kernel_rfl) (by kernel_rfl) (by kernel_rfl) (fun _ _ _ h => h) (Or.inl ⟨by rfl, ?_⟩) (fun _ => hC0) ?_
      rotate_left
      · intro w hSw; clear hSw; go_simp; (try with_reducible rfl)
      (try simp only [List.getElem_toArray, List.getElem_cons_succ, List.getElem_cons_zero])
      (try simp only [Act.put, List.setIfInBounds_toArray, List.set_cons_zero, List.set_cons_succ])
      refine wpTill_pure (i := 5) (v := ?_) rfl (by kernel_rfl) (by kernel_rfl) (by kernel_rfl) (by kernel_rfl) (fun _ _ _ h => h) (Or.inl ⟨by rfl, ?_⟩) (fun _ => hC0) ?_
      rotate_left
      · intro w hSw; clear hSw; go_simp; (try with_reducible rfl)
      (try simp only [List.getElem_toArray, List.getElem_cons_succ, List.getElem_cons_zero])
      (try simp only [Act.put, List.setIfInBounds_toArray, List.set_cons_zero, List.set_cons_succ])
      refine wpTill_take (i := 6) (v := ?_) rfl (by kernel_rfl) (by kernel_rfl) (by kernel_rfl) (by kernel_rfl) (by kernel_rfl) (by kernel_rfl) (fun _ _ _ h => h) (Or.inl ⟨by rfl, ?_⟩) hC0 ?_
      rotate_left
      · intro w hSw; (try dsimp only at hSw); obtain ⟨⟨z0, z1, z2⟩, z3, z4, z5⟩ := hSw; go_simp; (try with_reducible rfl)
      (try simp only [List.getElem_toArray, List.getElem_cons_succ, List.getElem_cons_zero])
      (try simp only [Act.put, List.setIfInBounds_toArray, List.set_cons_zero, List.set_cons_succ])
      refine wpTill_take (i := 7) (v := ?_) rfl (by kernel_rfl) (by kernel_rfl) (by kernel_rfl) (by kernel_rfl) (by kernel_rfl) (by kernel_rfl) (fun _ _ _ h => h) (Or.inl ⟨by rfl, ?_⟩) hC0 ?_
      rotate_left
      · intro w hSw; (try dsimp only at hSw); obtain ⟨⟨z0, z1, z2⟩, z3, z4, z5⟩ := hSw; go_simp; (try with_reducible rfl)
      (try simp only [List.getElem_toArray, List.getElem_cons_succ, List.getElem_cons_zero])
      (try simp only [Act.put, List.setIfInBounds_toArray, List.set_cons_zero, List.set_cons_succ])
      refine wpTill_one (k := 8) (by kernel_rfl) rfl (fun K hK => ?_)
      (try simp only [List.getElem_toArray, List.getElem_cons_succ, List.getElem_cons_zero])
      go_simp
      refine (unhide HSU _ bd0).mono ?_
      rintro e xw_1 ⟨xv_1, rfl, hv_1, hb_1⟩
      have cc_1 := below_step bd0 hb_1
      have hC_1 : (fun w' : World => (w'.cell? ⟨G, i * 3, none⟩ = some (.bool tl.s) ∧ w'.cell? ⟨G, i * 3 + 1, none⟩ = some (.slice tl.a1 tl.n1 tl.c1) ∧ w'.cell? ⟨G, i * 3 + 2, none⟩ = some (.slice tl.a2 tl.n2 tl.c2)) ∧ (w'.cell? ⟨bd, 0, none⟩ = some (.bool td.s) ∧ w'.cell? ⟨bd, 1, none⟩ = some (.slice td.a1 td.n1 td.c1) ∧ w'.cell? ⟨bd, 2, none⟩ = some (.slice td.a2 td.n2 td.c2))) xw_1 := unhide HCC _ cc_1
      refine hK.out _ _ (fun _ => hC_1) ?_
      clear hK K
      (try simp only [Act.put, List.setIfInBounds_toArray, List.set_cons_zero, List.set_cons_succ])
      refine wpTill_pure (i := 9) (v := ?_) rfl (by kernel_rfl) (by kernel_rfl) (by kernel_rfl) (by kernel_rfl) (fun _ _ _ h => h) (Or.inl ⟨by rfl, ?_⟩) (fun _ => hC_1) ?_
      rotate_left
      · intro w hSw; clear hSw; go_simp; (try with_reducible rfl)
      (try simp only [List.getElem_toArray, List.getElem_cons_succ, List.getElem_cons_zero])
      (try simp only [Act.put, List.setIfInBounds_toArray, List.set_cons_zero, List.set_cons_succ])
      obtain ⟨tn, rfl, rn⟩ := tri_of hv_1
      simp only [Tri.val]
      have S8 := (unhide HS1).keep cc_1
      have SD8 := (unhide HSD1).keep cc_1
      have ⟨⟨y0, y1, y2⟩, l0, l1, l2⟩ := S8.cells (i + 1) (by omega)
      have FZ := S8.set (i + 1) (by omega) tn _ rn
      have FD := SD8.apart S8.row (unhide HNE) S8.gl ((i + 1) * 3) ((i + 1) * 3 + 1) ((i + 1) * 3 + 2) (.bool tn.s) (.slice tn.a1 tn.n1 tn.c1) (.slice tn.a2 tn.n2 tn.c2)
      rw [fill_set (lfC ks)] at FZ
      obtain ⟨W9, hW9⟩ : ∃ W, ((xw_1.setCell ⟨G, (i + 1) * 3, none⟩ (.bool tn.s)).setCell ⟨G, (i + 1) * 3 + 1, none⟩ (.slice tn.a1 tn.n1 tn.c1)).setCell ⟨G, (i + 1) * 3 + 2, none⟩ (.slice tn.a2 tn.n2 tn.c2) = W := ⟨_, rfl⟩
      rw [hW9] at FZ FD
      have HFS := hide FZ
      have HFD := hide FD
      clear S8 SD8 FZ FD rn hv_1 hb_1
      refine wpTill_one (k := 10) (by kernel_rfl) rfl (fun K hK => ?_)
      (try simp only [List.getElem_toArray, List.getElem_cons_succ, List.getElem_cons_zero])
      go_simp
      refine hK.out _ _ (fun h => absurd (h.symm.trans (by kernel_rfl)) Bool.false_ne_true) ?_
      clear hK K
      (try simp only [Act.put, List.setIfInBounds_toArray, List.set_cons_zero, List.set_cons_succ])
      refine wpTill_done (by kernel_rfl) ?_ _
      clear l0 l1 l2 y0 y1 y2 hW9 hC0 hC_1 cc_1 bd0 HCC HSU
      go_wp2_with fail
      exact ⟨⟨i + 1, _, _, by go_num, hlt, unhide HFS, unhide HFD⟩, by simp [intOf]; omega⟩
    · obtain rfl : i = ks.length := by omega
      have e1 : ¬ (ks.length : Int) < (ks.length : Int) := by omega
      have ⟨k0, k1, k2⟩ := (S.cells ks.length (by omega)).1
      have kr := S.rat ks.length (by omega)
      rw [fill_get (by omega) (by omega)] at kr
      obtain ⟨tl, htl⟩ : ∃ t, us[ks.length]! = t := ⟨_, rfl⟩
      rw [htl] at k0 k1 k2 kr
      have hsg := sign_any tl.val (lfC ks ks.length) wr kr
      simp only [Tri.val] at hsg
      have LW := S.law (by omega)
      rw [hul] at LW
      have HVL : Hid (LawIs wr (.slice (some ⟨G, 0, none⟩) (ks.length + 1) (ks.length + 1)) (row (lfC ks) (ks.length + 1))) := LW
      have HVM2 := hide ((unhide HVM).below S.bl)
      have HB2 := hide (below_step (unhide HB1) S.bl)
      have q1 : (ks.length : Int) < (ks.length : Int) + 1 := by omega
      have q2 : (0 : Int) ≤ (ks.length : Int) := by omega
      clear S SD LW kr htl HVM HB1 hud hul
      by_cases hp : 0 < lfC ks ks.length
      · have HFIT : Hid (FitC ks) := ⟨unhide HG, hp⟩
        rw [Int.sign_eq_one_of_pos (num_gt.2 hp)] at hsg
        have HX := hide hsg
        clear hsg hp
        go_wp2_with fail
        clear k0 k1 k2
        refine (unhide HX).mono ?_
        rintro e w5 ⟨rfl, hb5⟩
        have HVL5 := hide ((unhide HVL).below hb5)
        have HVM5 := hide ((unhide HVM2).below hb5)
        have HB5 := hide (below_step (unhide HB2) hb5)
        clear hb5 HX HVL HVM2 HB2 HG
        have qmk := make_ratios ((ks.length : Int) + 1) (by omega) (by omega) w5
        rw [show ((ks.length : Int) + 1).toNat = ks.length + 1 by omega] at qmk
        have S0 := SumsAt.start w5 w5 (ks.length + 1) (Below.refl _ _)
        rw [fill_zero (hfC ks) (ks.length + 1)] at S0
        obtain ⟨W6, hW6⟩ : ∃ W, w5.alloc (.cells (tcells (List.replicate (ks.length + 1) zTri)).toArray 42) = W := ⟨_, rfl⟩
        obtain ⟨Gh, hGh⟩ : ∃ G, w5.heap.size = G := ⟨_, rfl⟩
        rw [hW6, hGh] at qmk S0
        rw [fill_one (hfC_zero ks)] at S0
        have HS6 := hide S0
        clear S0 hW6 hGh
        go_wp2_with fail
        clear qmk
        go_loopw [61] (fun vi wr => ∃ (i : Nat) (us : List Tri), vi = .int .i64 (i : Int) ∧ i ≤ ks.length ∧ SumsAt w5 wr Gh us (fill (hfC ks) (ks.length + 1) (i + 1))) (fun vi _ => ks.length - (intOf vi).toNat)
        case atStart => exact ⟨0, _, rfl, Nat.zero_le _, unhide HS6⟩
        case round =>
          obtain ⟨i, us, rfl, hi, S⟩ := hrel
          have hul : us.length = ks.length + 1 := by rw [S.len, fill_length]
          clear HS6
          by_cases hlt : i < ks.length
          · have HBL := hide (below_step (unhide HB5) S.bl)
            obtain ⟨b, o, rfl, hblt, hcs⟩ := unhide H3 (by omega)
            obtain ⟨tk, lk, ⟨k0, k1, k2, k3⟩, kr⟩ := hcs i hlt
            rw [← (unhide HBL).cell (p := ⟨b, o + i * 4, none⟩) hblt] at k0
            rw [← (unhide HBL).cell (p := ⟨b, o + i * 4 + 1, none⟩) hblt] at k1
            rw [← (unhide HBL).cell (p := ⟨b, o + i * 4 + 2, none⟩) hblt] at k2
            rw [← (unhide HBL).cell (p := ⟨b, o + i * 4 + 3, none⟩) hblt] at k3
            have Y0 := CBox.new (kr.below (unhide HBL))
            have HBA := hide (alloc_below wr (.cells #[.bool tk.s, .slice tk.a1 tk.n1 tk.c1, .slice tk.a2 tk.n2 tk.c2, .slice lk.a lk.n lk.c] 45))
            obtain ⟨W2, hW2⟩ : ∃ W, wr.alloc (.cells #[.bool tk.s, .slice tk.a1 tk.n1 tk.c1, .slice tk.a2 tk.n2 tk.c2, .slice lk.a lk.n lk.c] 45) = W := ⟨_, rfl⟩
            obtain ⟨bk, hbk⟩ : ∃ g, wr.heap.size = g := ⟨_, rfl⟩
            rw [hW2] at Y0 HBA
            rw [hbk] at Y0
            have HY1 := hide Y0
            have e1 : (i : Int) < (ks.length : Int) := by omega
            have e0 : (0 : Int) ≤ (i : Int) := by omega
            have ⟨c0, c1, c2, c3⟩ := Y0.cells _ (Below.refl _ _)
            clear Y0 kr hcs
            have HS1 := hide (S.keep (unhide HBA))
            have ⟨sm1, sm2, sm3⟩ := unhide HSM i hlt
            have HMO := hide (moment_any lk.val (ks[i]!).2 1 2 W2 (unhide HY1).2.2 sm3 (by rw [KKe]; omega) ((unhide HFIT).1.2 i hlt).2 (by decide))
            simp only [Sl.val] at HMO
            clear S HBL sm1 sm2 sm3
            go_wp2_with fail
            clear hW2 hbk k0 k1 k2 k3 c0 c1 c2 c3
            refine (unhide HMO).mono ?_
            rintro e w7 ⟨v7, rfl, hv7, hb7⟩
            obtain ⟨tm, rfl, rm⟩ := tri_of hv7
            simp only [Tri.val]
            have bA := below_step hb7 (alloc_below w7 (.cells #[.bool tm.s, .slice tm.a1 tm.n1 tm.c1, .slice tm.a2 tm.n2 tm.c2] 42))
            have S8 := (unhide HS1).keep bA
            have Y8 := (unhide HY1).keep bA
            have X8 := BoxIs.new rm
            rw [show wsum (ks[i]!).2 (fun j => ((j ^ 2 : Nat) : Int)) (ks[i]!).2.length = mo 2 ks i from rfl] at X8
            obtain ⟨W8, hW8⟩ : ∃ W, w7.alloc (.cells #[.bool tm.s, .slice tm.a1 tm.n1 tm.c1, .slice tm.a2 tm.n2 tm.c2] 42) = W := ⟨_, rfl⟩
            obtain ⟨bm, hbm⟩ : ∃ g, w7.heap.size = g := ⟨_, rfl⟩
            rw [hW8] at S8 Y8 X8
            rw [hbm] at X8
            have HS8 := hide S8
            have HY8 := hide Y8
            have HX8 := hide X8
            have ⟨sk0, _⟩ := S8.cells i (by omega)
            have rk := S8.rat i (by omega)
            rw [fill_get (by omega) (by omega)] at rk
            obtain ⟨th, hth⟩ : ∃ t, us[i]! = t := ⟨_, rfl⟩
            rw [hth] at sk0 rk
            have hKlt : Gh < W8.heap.size := (Array.getElem?_eq_some_iff.1 S8.row).1
            have HRK := hide rk
            have e5 : (i : Int) < (ks.length : Int) + 1 := by omega
            have e6 : (0 : Int) ≤ (i : Int) + 1 := by omega
            have e7 : (i : Int) + 1 < (ks.length : Int) + 1 := by omega
            have e8 : IntKind.i64.wrap ((i : Int) + 1) = (i : Int) + 1 := by rw [IntKind.wrap_i64]; omega
            have e9 : ((i : Int) + 1).toNat = i + 1 := by omega
            have HCC : Hid (∀ W, Below W8.heap.size W8 W → (fun w' : World => (w'.cell? ⟨Gh, i * 3, none⟩ = some (.bool th.s) ∧ w'.cell? ⟨Gh, i * 3 + 1, none⟩ = some (.slice th.a1 th.n1 th.c1) ∧ w'.cell? ⟨Gh, i * 3 + 2, none⟩ = some (.slice th.a2 th.n2 th.c2)) ∧ (w'.cell? ⟨bk, 0, none⟩ = some (.bool tk.s) ∧ w'.cell? ⟨bk, 1, none⟩ = some (.slice tk.a1 tk.n1 tk.c1) ∧ w'.cell? ⟨bk, 2, none⟩ = some (.slice tk.a2 tk.n2 tk.c2) ∧ w'.cell? ⟨bk, 3, none⟩ = some (.slice lk.a lk.n lk.c)) ∧ (w'.cell? ⟨bm, 0, none⟩ = some (.bool tm.s) ∧ w'.cell? ⟨bm, 1, none⟩ = some (.slice tm.a1 tm.n1 tm.c1) ∧ w'.cell? ⟨bm, 2, none⟩ = some (.slice tm.a2 tm.n2 tm.c2))) W) := fun W hW => by
              refine ⟨?_, (unhide HY8).cells W hW, (unhide HX8).cells W hW⟩
              rw [hW.cell (p := ⟨Gh, i * 3, none⟩) hKlt, hW.cell (p := ⟨Gh, i * 3 + 1, none⟩) hKlt, hW.cell (p := ⟨Gh, i * 3 + 2, none⟩) hKlt]; exact sk0
            have HMU : Hid (∀ W, Below W8.heap.size W8 W → Calls Tryz.prog 13 #[.agg #[.bool tk.s, .slice tk.a1 tk.n1 tk.c1, .slice tk.a2 tk.n2 tk.c2], .agg #[.bool tm.s, .slice tm.a1 tm.n1 tm.c1, .slice tm.a2 tm.n2 tm.c2]] W fun e w' => ∃ v, e = .returned v ∧ RatIs w' v (rt ks i * mo 2 ks i) ∧ Below W.heap.size W w') := fun W hW => mulR_any tk.val tm.val _ _ W ((unhide HY8).2.1.below hW) ((unhide HX8).2.below hW) 40 ((unhide HSM i hlt).1.mono (by omega)) (mo_RS (unhide HSM) (by omega) hlt) (by rw [KKe]; omega)
            have HDV : Hid (∀ W v u (hv : RatIs W v (rt ks i * mo 2 ks i)) (hu : RatIs W u ((2 : Int) : Rat)), Calls Tryz.prog 25 #[v, u] W fun e w' => ∃ v, e = .returned v ∧ RatIs w' v (rt ks i * mo 2 ks i / ((2 : Int) : Rat)) ∧ Below W.heap.size W w') := fun W v u hv hu => sdivided_any v u _ _ W hv hu 41 (ld_RS (unhide HSM) (by omega) hlt) (two_RS.mono (by omega)) (by rw [KKe]; omega) two_num
            have HAD : Hid (∀ W v (hW : Below W8.heap.size W8 W) (hv : RatIs W v (rt ks i * mo 2 ks i / ((2 : Int) : Rat))), Calls Tryz.prog 12 #[.agg #[.bool th.s, .slice th.a1 th.n1 th.c1, .slice th.a2 th.n2 th.c2], v] W fun e w' => ∃ v, e = .returned v ∧ RatIs w' v (hfC ks (i + 1)) ∧ Below W.heap.size W w') := fun W v hW hv => addR_any th.val v _ _ W ((unhide HRK).below hW) hv 300 ((hfC_RS (unhide HSM) i (by omega)).mono (by omega)) ((RS.div' (ld_RS (unhide HSM) (p := 2) (by omega) hlt) two_RS two_num).mono (by omega)) (by rw [KKe]; omega)
            clear S8 Y8 X8 bA rk sk0 hth rm hv7 hb7 HMO HS1 HY1 HBA
            go_wp2_with fail
            clear hW8 hbm
            refine wp_region_till (fun w' : World => (w'.cell? ⟨Gh, i * 3, none⟩ = some (.bool th.s) ∧ w'.cell? ⟨Gh, i * 3 + 1, none⟩ = some (.slice th.a1 th.n1 th.c1) ∧ w'.cell? ⟨Gh, i * 3 + 2, none⟩ = some (.slice th.a2 th.n2 th.c2)) ∧ (w'.cell? ⟨bk, 0, none⟩ = some (.bool tk.s) ∧ w'.cell? ⟨bk, 1, none⟩ = some (.slice tk.a1 tk.n1 tk.c1) ∧ w'.cell? ⟨bk, 2, none⟩ = some (.slice tk.a2 tk.n2 tk.c2) ∧ w'.cell? ⟨bk, 3, none⟩ = some (.slice lk.a lk.n lk.c)) ∧ (w'.cell? ⟨bm, 0, none⟩ = some (.bool tm.s) ∧ w'.cell? ⟨bm, 1, none⟩ = some (.slice tm.a1 tm.n1 tm.c1) ∧ w'.cell? ⟨bm, 2, none⟩ = some (.slice tm.a2 tm.n2 tm.c2))) 15 (by kernel_rfl) ?_
            have bd0 : Below W8.heap.size W8 W8.drew := (Below.refl _ _).drew
            have hC0 : (fun w' : World => (w'.cell? ⟨Gh, i * 3, none⟩ = some (.bool th.s) ∧ w'.cell? ⟨Gh, i * 3 + 1, none⟩ = some (.slice th.a1 th.n1 th.c1) ∧ w'.cell? ⟨Gh, i * 3 + 2, none⟩ = some (.slice th.a2 th.n2 th.c2)) ∧ (w'.cell? ⟨bk, 0, none⟩ = some (.bool tk.s) ∧ w'.cell? ⟨bk, 1, none⟩ = some (.slice tk.a1 tk.n1 tk.c1) ∧ w'.cell? ⟨bk, 2, none⟩ = some (.slice tk.a2 tk.n2 tk.c2) ∧ w'.cell? ⟨bk, 3, none⟩ = some (.slice lk.a lk.n lk.c)) ∧ (w'.cell? ⟨bm, 0, none⟩ = some (.bool tm.s) ∧ w'.cell? ⟨bm, 1, none⟩ = some (.slice tm.a1 tm.n1 tm.c1) ∧ w'.cell? ⟨bm, 2, none⟩ = some (.slice tm.a2 tm.n2 tm.c2))) W8.drew := unhide HCC _ bd0
            refine wpTill_pure (i := 0) (v := ?_) rfl (by kernel_rfl) (by kernel_rfl) (by kernel_rfl) (by kernel_rfl) (fun _ _ _ h => h) (Or.inl ⟨by rfl, ?_⟩) (fun _ => hC0) ?_
            rotate_left
            · intro w hSw; clear hSw; go_simp; (try with_reducible rfl)
            (try simp only [List.getElem_toArray, List.getElem_cons_succ, List.getElem_cons_zero])
            (try simp only [Act.put, List.setIfInBounds_toArray, List.set_cons_zero, List.set_cons_succ])
            refine wpTill_pure (i := 1) (v := ?_) rfl (by kernel_rfl) (by kernel_rfl) (by kernel_rfl) (by kernel_rfl) (fun _ _ _ h => h) (Or.inl ⟨by rfl, ?_⟩) (fun _ => hC0) ?_
            rotate_left
            · intro w hSw; clear hSw; go_simp; (try with_reducible rfl)
            (try simp only [List.getElem_toArray, List.getElem_cons_succ, List.getElem_cons_zero])
            (try simp only [Act.put, List.setIfInBounds_toArray, List.set_cons_zero, List.set_cons_succ])
            refine wpTill_pure (i := 2) (v := ?_) rfl (by kernel_rfl) (by kernel_rfl) (by kernel_rfl) (by kernel_rfl) (fun _ _ _ h => h) (Or.inl ⟨by rfl, ?_⟩) (fun _ => hC0) ?_
            rotate_left
            · intro w hSw; clear hSw; go_simp; (try with_reducible rfl)
            (try simp only [List.getElem_toArray, List.getElem_cons_succ, List.getElem_cons_zero])
            (try simp only [Act.put, List.setIfInBounds_toArray, List.set_cons_zero, List.set_cons_succ])
            refine wpTill_pure (i := 3) (v := ?_) rfl (by kernel_rfl) (by kernel_rfl) (by kernel_rfl) (by kernel_rfl) (fun _ _ _ h => h) (Or.inl ⟨by rfl, ?_⟩) (fun _ => hC0) ?_
            rotate_left
            · intro w hSw; clear hSw; go_simp; (try with_reducible rfl)
            (try simp only [List.getElem_toArray, List.getElem_cons_succ, List.getElem_cons_zero])
            (try simp only [Act.put, List.setIfInBounds_toArray, List.set_cons_zero, List.set_cons_succ])
            refine wpTill_pure (i := 4) (v := ?_) rfl (by kernel_rfl) (by kernel_rfl) (by kernel_rfl) (by kernel_rfl) (fun _ _ _ h => h) (Or.inl ⟨by rfl, ?_⟩) (fun _ => hC0) ?_
            rotate_left
            · intro w hSw; clear hSw; go_simp; (try with_reducible rfl)
            (try simp only [List.getElem_toArray, List.getElem_cons_succ, List.getElem_cons_zero])
            (try simp only [Act.put, List.setIfInBounds_toArray, List.set_cons_zero, List.set_cons_succ])
            refine wpTill_pure (i := 5) (v := ?_) rfl (by kernel_rfl) (by kernel_rfl) (by kernel_rfl) (by kernel_rfl) (fun _ _ _ h => h) (Or.inl ⟨by rfl, ?_⟩) (fun _ => hC0) ?_
            rotate_left
            · intro w hSw; clear hSw; go_simp; (try with_reducible rfl)
            (try simp only [List.getElem_toArray, List.getElem_cons_succ, List.getElem_cons_zero])
            (try simp only [Act.put, List.setIfInBounds_toArray, List.set_cons_zero, List.set_cons_succ])
            refine wpTill_take (i := 6) (v := ?_) rfl (by kernel_rfl) (by kernel_rfl) (by kernel_rfl) (by kernel_rfl) (by kernel_rfl) (by kernel_rfl) (fun _ _ _ h => h) (Or.inl ⟨by rfl, ?_⟩) hC0 ?_
            rotate_left
            · intro w hSw; (try dsimp only at hSw); obtain ⟨⟨z0, z1, z2⟩, ⟨z3, z4, z5, z6⟩, z7, z8, z9⟩ := hSw; go_simp; (try with_reducible rfl)
            (try simp only [List.getElem_toArray, List.getElem_cons_succ, List.getElem_cons_zero])
            (try simp only [Act.put, List.setIfInBounds_toArray, List.set_cons_zero, List.set_cons_succ])
            refine wpTill_pure (i := 7) (v := ?_) rfl (by kernel_rfl) (by kernel_rfl) (by kernel_rfl) (by kernel_rfl) (fun _ _ _ h => h) (Or.inl ⟨by rfl, ?_⟩) (fun _ => hC0) ?_
            rotate_left
            · intro w hSw; clear hSw; go_simp; (try with_reducible rfl)
            (try simp only [List.getElem_toArray, List.getElem_cons_succ, List.getElem_cons_zero])
            (try simp only [Act.put, List.setIfInBounds_toArray, List.set_cons_zero, List.set_cons_succ])
            refine wpTill_take (i := 8) (v := ?_) rfl (by kernel_rfl) (by kernel_rfl) (by kernel_rfl) (by kernel_rfl) (by kernel_rfl) (by kernel_rfl) (fun _ _ _ h => h) (Or.inl ⟨by rfl, ?_⟩) hC0 ?_
            rotate_left
            · intro w hSw; (try dsimp only at hSw); obtain ⟨⟨z0, z1, z2⟩, ⟨z3, z4, z5, z6⟩, z7, z8, z9⟩ := hSw; go_simp; (try with_reducible rfl)
            (try simp only [List.getElem_toArray, List.getElem_cons_succ, List.getElem_cons_zero])
            (try simp only [Act.put, List.setIfInBounds_toArray, List.set_cons_zero, List.set_cons_succ])
            refine wpTill_take (i := 9) (v := ?_) rfl (by kernel_rfl) (by kernel_rfl) (by kernel_rfl) (by kernel_rfl) (by kernel_rfl) (by kernel_rfl) (fun _ _ _ h => h) (Or.inl ⟨by rfl, ?_⟩) hC0 ?_
            rotate_left
            · intro w hSw; (try dsimp only at hSw); obtain ⟨⟨z0, z1, z2⟩, ⟨z3, z4, z5, z6⟩, z7, z8, z9⟩ := hSw; go_simp; (try with_reducible rfl)
            (try simp only [List.getElem_toArray, List.getElem_cons_succ, List.getElem_cons_zero])
            (try simp only [Act.put, List.setIfInBounds_toArray, List.set_cons_zero, List.set_cons_succ])
            refine wpTill_one (k := 10) (by kernel_rfl) rfl (fun K hK => ?_)
            (try simp only [List.getElem_toArray, List.getElem_cons_succ, List.getElem_cons_zero])
            go_simp
            refine (unhide HMU _ bd0).mono ?_
            rintro e xw_1 ⟨xv_1, rfl, hv_1, hb_1⟩
            have cc_1 := below_step bd0 hb_1
            have hC_1 : (fun w' : World => (w'.cell? ⟨Gh, i * 3, none⟩ = some (.bool th.s) ∧ w'.cell? ⟨Gh, i * 3 + 1, none⟩ = some (.slice th.a1 th.n1 th.c1) ∧ w'.cell? ⟨Gh, i * 3 + 2, none⟩ = some (.slice th.a2 th.n2 th.c2)) ∧ (w'.cell? ⟨bk, 0, none⟩ = some (.bool tk.s) ∧ w'.cell? ⟨bk, 1, none⟩ = some (.slice tk.a1 tk.n1 tk.c1) ∧ w'.cell? ⟨bk, 2, none⟩ = some (.slice tk.a2 tk.n2 tk.c2) ∧ w'.cell? ⟨bk, 3, none⟩ = some (.slice lk.a lk.n lk.c)) ∧ (w'.cell? ⟨bm, 0, none⟩ = some (.bool tm.s) ∧ w'.cell? ⟨bm, 1, none⟩ = some (.slice tm.a1 tm.n1 tm.c1) ∧ w'.cell? ⟨bm, 2, none⟩ = some (.slice tm.a2 tm.n2 tm.c2))) xw_1 := unhide HCC _ cc_1
            refine hK.out _ _ (fun _ => hC_1) ?_
            clear hK K
            (try simp only [Act.put, List.setIfInBounds_toArray, List.set_cons_zero, List.set_cons_succ])
            refine wpTill_one (k := 11) (by kernel_rfl) rfl (fun K hK => ?_)
            (try simp only [List.getElem_toArray, List.getElem_cons_succ, List.getElem_cons_zero])
            go_simp
            refine (whole_any 2 (by decide) (by decide) _).mono ?_
            rintro e xw_2 ⟨xv_2, rfl, hv_2, hb_2⟩
            have cc_2 := below_step cc_1 hb_2
            have hC_2 : (fun w' : World => (w'.cell? ⟨Gh, i * 3, none⟩ = some (.bool th.s) ∧ w'.cell? ⟨Gh, i * 3 + 1, none⟩ = some (.slice th.a1 th.n1 th.c1) ∧ w'.cell? ⟨Gh, i * 3 + 2, none⟩ = some (.slice th.a2 th.n2 th.c2)) ∧ (w'.cell? ⟨bk, 0, none⟩ = some (.bool tk.s) ∧ w'.cell? ⟨bk, 1, none⟩ = some (.slice tk.a1 tk.n1 tk.c1) ∧ w'.cell? ⟨bk, 2, none⟩ = some (.slice tk.a2 tk.n2 tk.c2) ∧ w'.cell? ⟨bk, 3, none⟩ = some (.slice lk.a lk.n lk.c)) ∧ (w'.cell? ⟨bm, 0, none⟩ = some (.bool tm.s) ∧ w'.cell? ⟨bm, 1, none⟩ = some (.slice tm.a1 tm.n1 tm.c1) ∧ w'.cell? ⟨bm, 2, none⟩ = some (.slice tm.a2 tm.n2 tm.c2))) xw_2 := unhide HCC _ cc_2
            refine hK.out _ _ (fun _ => hC_2) ?_
            clear hK K
            (try simp only [Act.put, List.setIfInBounds_toArray, List.set_cons_zero, List.set_cons_succ])
            refine wpTill_one (k := 12) (by kernel_rfl) rfl (fun K hK => ?_)
            (try simp only [List.getElem_toArray, List.getElem_cons_succ, List.getElem_cons_zero])
            go_simp
            refine (unhide HDV _ _ _ (hv_1.below hb_2) hv_2).mono ?_
            rintro e xw_3 ⟨xv_3, rfl, hv_3, hb_3⟩
            have cc_3 := below_step cc_2 hb_3
            have hC_3 : (fun w' : World => (w'.cell? ⟨Gh, i * 3, none⟩ = some (.bool th.s) ∧ w'.cell? ⟨Gh, i * 3 + 1, none⟩ = some (.slice th.a1 th.n1 th.c1) ∧ w'.cell? ⟨Gh, i * 3 + 2, none⟩ = some (.slice th.a2 th.n2 th.c2)) ∧ (w'.cell? ⟨bk, 0, none⟩ = some (.bool tk.s) ∧ w'.cell? ⟨bk, 1, none⟩ = some (.slice tk.a1 tk.n1 tk.c1) ∧ w'.cell? ⟨bk, 2, none⟩ = some (.slice tk.a2 tk.n2 tk.c2) ∧ w'.cell? ⟨bk, 3, none⟩ = some (.slice lk.a lk.n lk.c)) ∧ (w'.cell? ⟨bm, 0, none⟩ = some (.bool tm.s) ∧ w'.cell? ⟨bm, 1, none⟩ = some (.slice tm.a1 tm.n1 tm.c1) ∧ w'.cell? ⟨bm, 2, none⟩ = some (.slice tm.a2 tm.n2 tm.c2))) xw_3 := unhide HCC _ cc_3
            refine hK.out _ _ (fun _ => hC_3) ?_
            clear hK K
            (try simp only [Act.put, List.setIfInBounds_toArray, List.set_cons_zero, List.set_cons_succ])
            refine wpTill_one (k := 13) (by kernel_rfl) rfl (fun K hK => ?_)
            (try simp only [List.getElem_toArray, List.getElem_cons_succ, List.getElem_cons_zero])
            go_simp
            refine (unhide HAD _ _ cc_3 hv_3).mono ?_
            rintro e xw_4 ⟨xv_4, rfl, hv_4, hb_4⟩
            have cc_4 := below_step cc_3 hb_4
            have hC_4 : (fun w' : World => (w'.cell? ⟨Gh, i * 3, none⟩ = some (.bool th.s) ∧ w'.cell? ⟨Gh, i * 3 + 1, none⟩ = some (.slice th.a1 th.n1 th.c1) ∧ w'.cell? ⟨Gh, i * 3 + 2, none⟩ = some (.slice th.a2 th.n2 th.c2)) ∧ (w'.cell? ⟨bk, 0, none⟩ = some (.bool tk.s) ∧ w'.cell? ⟨bk, 1, none⟩ = some (.slice tk.a1 tk.n1 tk.c1) ∧ w'.cell? ⟨bk, 2, none⟩ = some (.slice tk.a2 tk.n2 tk.c2) ∧ w'.cell? ⟨bk, 3, none⟩ = some (.slice lk.a lk.n lk.c)) ∧ (w'.cell? ⟨bm, 0, none⟩ = some (.bool tm.s) ∧ w'.cell? ⟨bm, 1, none⟩ = some (.slice tm.a1 tm.n1 tm.c1) ∧ w'.cell? ⟨bm, 2, none⟩ = some (.slice tm.a2 tm.n2 tm.c2))) xw_4 := unhide HCC _ cc_4
            refine hK.out _ _ (fun _ => hC_4) ?_
            clear hK K
            (try simp only [Act.put, List.setIfInBounds_toArray, List.set_cons_zero, List.set_cons_succ])
            refine wpTill_pure (i := 14) (v := ?_) rfl (by kernel_rfl) (by kernel_rfl) (by kernel_rfl) (by kernel_rfl) (fun _ _ _ h => h) (Or.inl ⟨by rfl, ?_⟩) (fun _ => hC_4) ?_
            rotate_left
            · intro w hSw; clear hSw; go_simp; (try with_reducible rfl)
            (try simp only [List.getElem_toArray, List.getElem_cons_succ, List.getElem_cons_zero])
            (try simp only [Act.put, List.setIfInBounds_toArray, List.set_cons_zero, List.set_cons_succ])
            obtain ⟨tn, rfl, rn⟩ := tri_of hv_4
            simp only [Tri.val]
            have S8 := (unhide HS8).keep cc_4
            have ⟨⟨y0, y1, y2⟩, l0, l1, l2⟩ := S8.cells (i + 1) (by omega)
            have FZ := S8.set (i + 1) (by omega) tn _ rn
            rw [fill_set (hfC ks)] at FZ
            obtain ⟨W9, hW9⟩ : ∃ W, ((xw_4.setCell ⟨Gh, (i + 1) * 3, none⟩ (.bool tn.s)).setCell ⟨Gh, (i + 1) * 3 + 1, none⟩ (.slice tn.a1 tn.n1 tn.c1)).setCell ⟨Gh, (i + 1) * 3 + 2, none⟩ (.slice tn.a2 tn.n2 tn.c2) = W := ⟨_, rfl⟩
            rw [hW9] at FZ
            have HFS := hide FZ
            clear S8 FZ rn hv_1 hb_1 hv_2 hb_2 hv_3 hb_3 hv_4 hb_4
            refine wpTill_one (k := 15) (by kernel_rfl) rfl (fun K hK => ?_)
            (try simp only [List.getElem_toArray, List.getElem_cons_succ, List.getElem_cons_zero])
            go_simp
            refine hK.out _ _ (fun h => absurd (h.symm.trans (by kernel_rfl)) Bool.false_ne_true) ?_
            clear hK K
            (try simp only [Act.put, List.setIfInBounds_toArray, List.set_cons_zero, List.set_cons_succ])
            refine wpTill_done (by kernel_rfl) ?_ _
            clear l0 l1 l2 y0 y1 y2 hW9 hC0 hC_1 hC_2 hC_3 hC_4 cc_1 cc_2 cc_3 cc_4 bd0 HCC HMU HDV HAD
            go_wp2_with fail
            exact ⟨⟨i + 1, _, by go_num, hlt, unhide HFS⟩, by simp [intOf]; omega⟩
          · obtain rfl : i = ks.length := by omega
            have e1 : ¬ (ks.length : Int) < (ks.length : Int) := by omega
            have LW := S.law (by omega)
            rw [hul] at LW
            have HVH : Hid (LawIs wr (.slice (some ⟨Gh, 0, none⟩) (ks.length + 1) (ks.length + 1)) (row (hfC ks) (ks.length + 1))) := LW
            have HVL9 := hide ((unhide HVL5).below S.bl)
            have HVM9 := hide ((unhide HVM5).below S.bl)
            have HB9 := hide (below_step (unhide HB5) S.bl)
            clear S LW HVL5 HVM5 HB5
            go_wp2
            exact bodyPost_ret (v := .tuple #[.slice am ks.length cm, .slice (some ⟨G, 0, none⟩) (ks.length + 1) (ks.length + 1), .slice (some ⟨Gh, 0, none⟩) (ks.length + 1) (ks.length + 1), .nilIface]) (by simp [results, Tryz.results24, go_sem]) rfl (Or.inl ⟨unhide HFIT, _, _, _, rfl, unhide HVM9, unhide HVL9, unhide HVH, unhide HB9⟩)
      · have HNG : Hid (¬ FitC ks) := fun g => hp g.2
        have HSG : Hid (∃ x : Int, x ≤ 0 ∧ -1 ≤ x ∧ Calls Tryz.prog 18 #[.agg #[.bool tl.s, .slice tl.a1 tl.n1 tl.c1, .slice tl.a2 tl.n2 tl.c2]] wr fun e w' => e = .returned (.int .i64 x) ∧ Below wr.heap.size wr w') := ⟨(lfC ks ks.length).num.sign, sign_np (fun h => hp (num_gt.1 h)), (sign_bd _).1, hsg⟩
        obtain ⟨x, x0, x1, hx⟩ := unhide HSG
        have HX := hide hx
        clear hsg HSG hx hp
        go_wp2_with fail
        clear k0 k1 k2
        refine (unhide HX).mono ?_
        rintro e w5 ⟨rfl, hb5⟩
        have HB5 := hide (below_step (unhide HB2) hb5)
        clear hb5 HX HVL HVM2 HB2 HG
        go_wp2
        exact bodyPost_ret (v := .tuple #[.slice none 0 0, .slice none 0 0, .slice none 0 0, .iface 56 (.int .i64 13)]) (by simp [results, Tryz.results24, go_sem]) rfl (Or.inr ⟨unhide HNG, 13, rfl, unhide HB5⟩)
end Go.Proofs.YtbboacmjbffmhaaGreatDoor
