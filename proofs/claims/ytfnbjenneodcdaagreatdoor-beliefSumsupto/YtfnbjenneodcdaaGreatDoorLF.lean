/- Hidden states: plain.Belief. -/
import Derived.Test.YtfnbjenneodcdaaGreatDoorBL4
import Derived.Test.YtfnbjenneodcdaaGreatDoorBL6
import Derived.Test.YtfnbjenneodcdaaGreatDoorW25
namespace Go.Proofs.YtfnbjenneodcdaaGreatDoor
open Go.RowKit Go.Sort Go.Shelf

set_option maxHeartbeats 16000000 in
set_option maxRecDepth 100000 in
set_option linter.unusedSimpArgs false in
theorem pbelief_any (v : Value) (ps : List (Int × Int)) (pp pg : List (List (Int × Int))) (w : World) (h : PHmIs w v ps pp pg) (sp_ : SmP pp) (sg_ : SmP pg) (hl : ps.length ≤ 1048576) :
    Calls Tryz.prog 14 #[v] w fun e w' => ∃ v, e = .returned v ∧ HmIs w' v (pqs ps) (pqss pp) (pqss pg) ∧ Below w.heap.size w w' := by
  obtain ⟨sf, sp, sg, rfl, hF, hP, hG⟩ := h
  have hfn := pairs_len hF
  have hpn := prows_len hP
  have hgn := prows_len hG
  obtain ⟨nf, hnf⟩ : ∃ n, ps.length = n := ⟨_, rfl⟩
  obtain ⟨np, hnp⟩ : ∃ n, pp.length = n := ⟨_, rfl⟩
  obtain ⟨ng, hng⟩ : ∃ n, pg.length = n := ⟨_, rfl⟩
  rw [hnf] at hfn
  rw [hnp] at hpn
  rw [hng] at hgn
  have HNF := hide hnf
  have HNP := hide hnp
  have HNG := hide hng
  have HSP := hide sp_
  have HSG := hide sg_
  have HLT : Hid (ps.length ≤ 1099511627776) := by show _ ≤ _; omega
  unfold hmval
  simp only [Sl.val] at hF hP hG
  rw [hfn] at hF
  rw [hpn] at hP
  rw [hgn] at hG
  rw [hfn, hpn, hgn]
  have b0 := alloc_below w (.cells #[.slice sf.a nf sf.c, .slice sp.a np sp.c, .slice sg.a ng sg.c] 49)
  have n0 := heap_alloc_new w (.cells #[.slice sf.a nf sf.c, .slice sp.a np sp.c, .slice sg.a ng sg.c] 49)
  obtain ⟨W0, hW0⟩ : ∃ W, w.alloc (.cells #[.slice sf.a nf sf.c, .slice sp.a np sp.c, .slice sg.a ng sg.c] 49) = W := ⟨_, rfl⟩
  obtain ⟨bx, hbx⟩ : ∃ b, w.heap.size = b := ⟨_, rfl⟩
  rw [hW0] at b0 n0
  rw [hbx] at n0
  have b1 := alloc_below W0 (.cells #[.slice none 0 0, .slice none 0 0, .slice none 0 0] 53)
  have n1 := heap_alloc_new W0 (.cells #[.slice none 0 0, .slice none 0 0, .slice none 0 0] 53)
  obtain ⟨W1, hW1⟩ : ∃ W, W0.alloc (.cells #[.slice none 0 0, .slice none 0 0, .slice none 0 0] 53) = W := ⟨_, rfl⟩
  obtain ⟨R, hR⟩ : ∃ R, W0.heap.size = R := ⟨_, rfl⟩
  rw [hW1] at b1 n1
  rw [hR] at n1
  have n0' := heap_kept n0 b1
  have HRZ := hide n1
  have HRL : Hid (R < W1.heap.size) := (Array.getElem?_eq_some_iff.1 n1).1
  have HRG : Hid (w.heap.size ≤ R) := by show _ ≤ R; rw [← hR]; exact b0.size
  have HB1 := hide (below_step b0 b1)
  have HPF := hide ((hF.below b0).below b1)
  have HPP := hide ((hP.below b0).below b1)
  have HPG := hide ((hG.below b0).below b1)
  have HCC : Hid (∀ W, Below W1.heap.size W1 W → (fun w' : World => w'.cell? ⟨bx, 0, none⟩ = some (.slice sf.a nf sf.c) ∧ w'.cell? ⟨bx, 1, none⟩ = some (.slice sp.a np sp.c) ∧ w'.cell? ⟨bx, 2, none⟩ = some (.slice sg.a ng sg.c)) W) := fun W hW => by
    have h' := heap_kept n0' hW
    simp [World.cell?, h']
  clear hF hP hG sp_ sg_ hfn hpn hgn hnf hnp hng b0 b1 n0 n1 n0'
  go_enter Tryz.func14, Tryz.ntmps14
  go_wp2_with fail
  clear hW0 hbx hW1 hR
  refine wp_region_till (fun w' : World => w'.cell? ⟨bx, 0, none⟩ = some (.slice sf.a nf sf.c) ∧ w'.cell? ⟨bx, 1, none⟩ = some (.slice sp.a np sp.c) ∧ w'.cell? ⟨bx, 2, none⟩ = some (.slice sg.a ng sg.c)) 10 (by kernel_rfl) ?_
  have bd0 : Below W1.heap.size W1 W1.drew := (Below.refl _ _).drew
  have hC0 : (fun w' : World => w'.cell? ⟨bx, 0, none⟩ = some (.slice sf.a nf sf.c) ∧ w'.cell? ⟨bx, 1, none⟩ = some (.slice sp.a np sp.c) ∧ w'.cell? ⟨bx, 2, none⟩ = some (.slice sg.a ng sg.c)) W1.drew := unhide HCC _ bd0
  refine wpTill_pure (i := 0) (v := ?_) rfl (by kernel_rfl) (by kernel_rfl) (by kernel_rfl) (by kernel_rfl) (fun _ _ _ h => h) (Or.inl ⟨by rfl, ?_⟩) (fun _ => hC0) ?_
  rotate_left
  · intro w hSw; clear hSw; go_simp; (try with_reducible rfl)
  (try simp only [List.getElem_toArray, List.getElem_cons_succ, List.getElem_cons_zero])
  (try simp only [Act.put, List.setIfInBounds_toArray, List.set_cons_zero, List.set_cons_succ])
  refine wpTill_take (i := 1) (v := ?_) rfl (by kernel_rfl) (by kernel_rfl) (by kernel_rfl) (by kernel_rfl) (by kernel_rfl) (by kernel_rfl) (fun _ _ _ h => h) (Or.inl ⟨by rfl, ?_⟩) hC0 ?_
  rotate_left
  · intro w hSw; (try dsimp only at hSw); obtain ⟨z0, z1, z2⟩ := hSw; go_simp; (try with_reducible rfl)
  (try simp only [List.getElem_toArray, List.getElem_cons_succ, List.getElem_cons_zero])
  (try simp only [Act.put, List.setIfInBounds_toArray, List.set_cons_zero, List.set_cons_succ])
  refine wpTill_pure (i := 3) (v := ?_) rfl (by kernel_rfl) (by kernel_rfl) (by kernel_rfl) (by kernel_rfl) (fun _ _ _ h => h) (Or.inl ⟨by rfl, ?_⟩) (fun _ => hC0) ?_
  rotate_left
  · intro w hSw; clear hSw; go_simp; (try with_reducible rfl)
  (try simp only [List.getElem_toArray, List.getElem_cons_succ, List.getElem_cons_zero])
  (try simp only [Act.put, List.setIfInBounds_toArray, List.set_cons_zero, List.set_cons_succ])
  refine wpTill_take (i := 4) (v := ?_) rfl (by kernel_rfl) (by kernel_rfl) (by kernel_rfl) (by kernel_rfl) (by kernel_rfl) (by kernel_rfl) (fun _ _ _ h => h) (Or.inl ⟨by rfl, ?_⟩) hC0 ?_
  rotate_left
  · intro w hSw; (try dsimp only at hSw); obtain ⟨z0, z1, z2⟩ := hSw; go_simp; (try with_reducible rfl)
  (try simp only [List.getElem_toArray, List.getElem_cons_succ, List.getElem_cons_zero])
  (try simp only [Act.put, List.setIfInBounds_toArray, List.set_cons_zero, List.set_cons_succ])
  refine wpTill_pure (i := 6) (v := ?_) rfl (by kernel_rfl) (by kernel_rfl) (by kernel_rfl) (by kernel_rfl) (fun _ _ _ h => h) (Or.inl ⟨by rfl, ?_⟩) (fun _ => hC0) ?_
  rotate_left
  · intro w hSw; clear hSw; go_simp; (try with_reducible rfl)
  (try simp only [List.getElem_toArray, List.getElem_cons_succ, List.getElem_cons_zero])
  (try simp only [Act.put, List.setIfInBounds_toArray, List.set_cons_zero, List.set_cons_succ])
  refine wpTill_take (i := 7) (v := ?_) rfl (by kernel_rfl) (by kernel_rfl) (by kernel_rfl) (by kernel_rfl) (by kernel_rfl) (by kernel_rfl) (fun _ _ _ h => h) (Or.inl ⟨by rfl, ?_⟩) hC0 ?_
  rotate_left
  · intro w hSw; (try dsimp only at hSw); obtain ⟨z0, z1, z2⟩ := hSw; go_simp; (try with_reducible rfl)
  (try simp only [List.getElem_toArray, List.getElem_cons_succ, List.getElem_cons_zero])
  (try simp only [Act.put, List.setIfInBounds_toArray, List.set_cons_zero, List.set_cons_succ])
  refine wpTill_one (k := 2) (by kernel_rfl) rfl (fun K hK => ?_)
  (try simp only [List.getElem_toArray, List.getElem_cons_succ, List.getElem_cons_zero])
  go_simp
  refine (fs_own (.slice sf.a nf sf.c) ps _ ((unhide HPF).below bd0) (unhide HLT)).mono ?_
  rintro e xw_1 ⟨xv_1, rfl, hv_1, hb_1, hf_1⟩
  have cc_1 := below_step bd0 hb_1
  have hC_1 : (fun w' : World => w'.cell? ⟨bx, 0, none⟩ = some (.slice sf.a nf sf.c) ∧ w'.cell? ⟨bx, 1, none⟩ = some (.slice sp.a np sp.c) ∧ w'.cell? ⟨bx, 2, none⟩ = some (.slice sg.a ng sg.c)) xw_1 := unhide HCC _ cc_1
  refine hK.out _ _ (fun _ => hC_1) ?_
  clear hK K
  (try simp only [Act.put, List.setIfInBounds_toArray, List.set_cons_zero, List.set_cons_succ])
  have HV1 := hide hv_1
  have HF1 := hide hf_1
  obtain ⟨a1, c1, rfl, _⟩ := hv_1
  rw [pqs_length, unhide HNF] at HV1 HF1 ⊢
  clear hf_1
  refine wpTill_one (k := 5) (by kernel_rfl) rfl (fun K hK => ?_)
  (try simp only [List.getElem_toArray, List.getElem_cons_succ, List.getElem_cons_zero])
  go_simp
  refine (prows_fr (.slice sp.a np sp.c) pp _ ((unhide HPP).below cc_1) (unhide HSP)).mono ?_
  rintro e xw_2 ⟨xv_2, rfl, hv_2, hb_2⟩
  have cc_2 := below_step cc_1 hb_2
  have hC_2 : (fun w' : World => w'.cell? ⟨bx, 0, none⟩ = some (.slice sf.a nf sf.c) ∧ w'.cell? ⟨bx, 1, none⟩ = some (.slice sp.a np sp.c) ∧ w'.cell? ⟨bx, 2, none⟩ = some (.slice sg.a ng sg.c)) xw_2 := unhide HCC _ cc_2
  refine hK.out _ _ (fun _ => hC_2) ?_
  clear hK K
  (try simp only [Act.put, List.setIfInBounds_toArray, List.set_cons_zero, List.set_cons_succ])
  have HV2 := hide hv_2
  obtain ⟨a2, c2, rfl, _⟩ := hv_2
  rw [pqss_length, unhide HNP] at HV2 ⊢
  refine wpTill_one (k := 8) (by kernel_rfl) rfl (fun K hK => ?_)
  (try simp only [List.getElem_toArray, List.getElem_cons_succ, List.getElem_cons_zero])
  go_simp
  refine (prows_fr (.slice sg.a ng sg.c) pg _ ((unhide HPG).below cc_2) (unhide HSG)).mono ?_
  rintro e xw_3 ⟨xv_3, rfl, hv_3, hb_3⟩
  have cc_3 := below_step cc_2 hb_3
  have hC_3 : (fun w' : World => w'.cell? ⟨bx, 0, none⟩ = some (.slice sf.a nf sf.c) ∧ w'.cell? ⟨bx, 1, none⟩ = some (.slice sp.a np sp.c) ∧ w'.cell? ⟨bx, 2, none⟩ = some (.slice sg.a ng sg.c)) xw_3 := unhide HCC _ cc_3
  refine hK.out _ _ (fun _ => hC_3) ?_
  clear hK K
  (try simp only [Act.put, List.setIfInBounds_toArray, List.set_cons_zero, List.set_cons_succ])
  have HV3 := hide hv_3
  obtain ⟨a3, c3, rfl, _⟩ := hv_3
  rw [pqss_length, unhide HNG] at HV3 ⊢
  refine wpTill_pure (i := 9) (v := ?_) rfl (by kernel_rfl) (by kernel_rfl) (by kernel_rfl) (by kernel_rfl) (fun _ _ _ h => h) (Or.inl ⟨by rfl, ?_⟩) (fun _ => hC_3) ?_
  rotate_left
  · intro w hSw; clear hSw; go_simp; (try with_reducible rfl)
  (try simp only [List.getElem_toArray, List.getElem_cons_succ, List.getElem_cons_zero])
  (try simp only [Act.put, List.setIfInBounds_toArray, List.set_cons_zero, List.set_cons_succ])
  have hRb : xw_3.heap[R]? = some (.cells #[.slice none 0 0, .slice none 0 0, .slice none 0 0] 53) := by rw [cc_3.block _ (unhide HRL)]; exact unhide HRZ
  have y0 : xw_3.cell? ⟨R, 0, none⟩ = some (.slice none 0 0) := by simp [World.cell?, hRb]
  have y1 : xw_3.cell? ⟨R, 1, none⟩ = some (.slice none 0 0) := by simp [World.cell?, hRb]
  have y2 : xw_3.cell? ⟨R, 2, none⟩ = some (.slice none 0 0) := by simp [World.cell?, hRb]
  have l0 : xw_3.frozen? ⟨R, 0, none⟩ = false := by simp [World.frozen?, hRb]
  have l1 : xw_3.frozen? ⟨R, 1, none⟩ = false := by simp [World.frozen?, hRb]
  have l2 : xw_3.frozen? ⟨R, 2, none⟩ = false := by simp [World.frozen?, hRb]
  have hno : ∀ g, some R = some g → Wordless xw_3 g := fun g e => by
    injection e with e
    rw [← e]
    exact wordless_of hRb (fun u hu => by
      have hu : u ∈ [Value.slice none 0 0, .slice none 0 0, .slice none 0 0] := by simpa using hu
      simp only [List.mem_cons, List.not_mem_nil, or_false] at hu
      rcases hu with rfl | rfl | rfl <;> trivial)
  have hgr : xw_3.grownBy (((xw_3.setCell ⟨R, 0, none⟩ (.slice a1 nf c1)).setCell ⟨R, 1, none⟩ (.slice a2 np c2)).setCell ⟨R, 2, none⟩ (.slice a3 ng c3)) (some R) := grown_step (grown_step (grown_set xw_3 R 0 _))
  have G2 := (((unhide HV2).below hb_3).mono cc_1.size).far (R := R) hgr hno (unhide HRL)
  have G3 := ((unhide HV3).mono cc_2.size).far (R := R) hgr hno (unhide HRL)
  have G1 : LawIs _ (Sl.val (a1, nf, c1)) (pqs ps) := ((((unhide HV1).below hb_2).below hb_3) : LawIs xw_3 (Sl.val (a1, nf, c1)) (pqs ps)).far hgr hno (fun _ ad e he => by
    have e : a1 = some ad := e
    injection he with he
    have hRl := unhide HRL
    rcases unhide HF1 with h | ⟨g, n, cap, h, hg⟩
    · injection h with h1
      rw [h1] at e; cases e
    · injection h with h1
      rw [h1] at e
      injection e with e
      rw [← e] at he
      simp only at he
      have := bd0.size
      omega)
  have FB := (((below_step (unhide HB1) cc_3).setCell (p := ⟨R, 0, none⟩) (unhide HRG) (.slice a1 nf c1)).setCell (p := ⟨R, 1, none⟩) (unhide HRG) (.slice a2 np c2)).setCell (p := ⟨R, 2, none⟩) (unhide HRG) (.slice a3 ng c3)
  obtain ⟨W9, hW9⟩ : ∃ W, ((xw_3.setCell ⟨R, 0, none⟩ (.slice a1 nf c1)).setCell ⟨R, 1, none⟩ (.slice a2 np c2)).setCell ⟨R, 2, none⟩ (.slice a3 ng c3) = W := ⟨_, rfl⟩
  rw [hW9] at G1 G2 G3 FB
  have HG1 := hide G1
  have HG2 := hide G2
  have HG3 := hide G3
  have HFB := hide FB
  clear G1 G2 G3 FB hgr hno
  refine wpTill_one (k := 10) (by kernel_rfl) rfl (fun K hK => ?_)
  (try simp only [List.getElem_toArray, List.getElem_cons_succ, List.getElem_cons_zero])
  go_simp
  refine hK.out _ _ (fun h => absurd (h.symm.trans (by kernel_rfl)) Bool.false_ne_true) ?_
  clear hK K
  (try simp only [Act.put, List.setIfInBounds_toArray, List.set_cons_zero, List.set_cons_succ])
  refine wpTill_done (by kernel_rfl) ?_ _
  clear hC0 hC_1 hC_2 hC_3 cc_1 cc_2 cc_3 bd0 hb_1 hb_2 hb_3 y0 y1 y2 l0 l1 l2 HCC
  have z : W9.cell? ⟨R, 0, none⟩ = some (.slice a1 nf c1) ∧ W9.cell? ⟨R, 1, none⟩ = some (.slice a2 np c2) ∧ W9.cell? ⟨R, 2, none⟩ = some (.slice a3 ng c3) := by
    rw [← hW9]
    simp [World.cell?, setCell_eq, mapBlock, onCells, Array.getElem?_modify, hRb]
  obtain ⟨z0, z1, z2⟩ := z
  clear hW9 hRb
  go_wp2
  (try simp only [Exit.inBlock, Exit.then])
  exact bodyPost_ret (v := .agg #[.slice a1 nf c1, .slice a2 np c2, .slice a3 ng c3]) (by simp [results, Tryz.results14, go_sem, z0, z1, z2]) rfl ⟨_, rfl, ⟨(a1, nf, c1), (a2, np, c2), (a3, ng, c3), rfl, unhide HG1, unhide HG2, unhide HG3⟩, unhide HFB⟩

end Go.Proofs.YtfnbjenneodcdaaGreatDoor
/- foresightkeep's sure. -/
namespace Go.Proofs.YtfnbjenneodcdaaGreatDoor
open Go.RowKit Go.Sort Go.Shelf

def sf_ (i : Nat) : Int := if i = 0 then 1 else 0
theorem sur_chk : chk [(Rat.divInt 1 2), (Rat.divInt 1 2)] = 0 := by
  unfold chk
  have b : ¬ ∃ j, j < ([(Rat.divInt 1 2), (Rat.divInt 1 2)] : List Rat).length ∧ (([(Rat.divInt 1 2), (Rat.divInt 1 2)] : List Rat)[j]!).num < 0 := fun ⟨j, hj, h⟩ => by
    have hj : j < 2 := hj
    match j, hj with
    | 0, _ => exact absurd h (by decide +kernel)
    | 1, _ => exact absurd h (by decide +kernel)
  have c : qsum [(Rat.divInt 1 2), (Rat.divInt 1 2)] ([(Rat.divInt 1 2), (Rat.divInt 1 2)] : List Rat).length = 1 := by decide +kernel
  rw [if_neg (by decide), if_neg b, if_pos c]
theorem sur_chk1 : chk [((1 : Int) : Rat), ((0 : Int) : Rat)] = 0 := by
  unfold chk
  have b : ¬ ∃ j, j < ([((1 : Int) : Rat), ((0 : Int) : Rat)] : List Rat).length ∧ (([((1 : Int) : Rat), ((0 : Int) : Rat)] : List Rat)[j]!).num < 0 := fun ⟨j, hj, h⟩ => by
    have hj : j < 2 := hj
    match j, hj with
    | 0, _ => exact absurd h (by decide +kernel)
    | 1, _ => exact absurd h (by decide +kernel)
  have c : qsum [((1 : Int) : Rat), ((0 : Int) : Rat)] ([((1 : Int) : Rat), ((0 : Int) : Rat)] : List Rat).length = 1 := by decide +kernel
  rw [if_neg (by decide), if_neg b, if_pos c]
theorem sur_chk2 : chk [((0 : Int) : Rat), ((1 : Int) : Rat)] = 0 := by
  unfold chk
  have b : ¬ ∃ j, j < ([((0 : Int) : Rat), ((1 : Int) : Rat)] : List Rat).length ∧ (([((0 : Int) : Rat), ((1 : Int) : Rat)] : List Rat)[j]!).num < 0 := fun ⟨j, hj, h⟩ => by
    have hj : j < 2 := hj
    match j, hj with
    | 0, _ => exact absurd h (by decide +kernel)
    | 1, _ => exact absurd h (by decide +kernel)
  have c : qsum [((0 : Int) : Rat), ((1 : Int) : Rat)] ([((0 : Int) : Rat), ((1 : Int) : Rat)] : List Rat).length = 1 := by decide +kernel
  rw [if_neg (by decide), if_neg b, if_pos c]
theorem shc_two {a b : Rat} (h : chk [a, b] = 0) : shc 2 [a, b] = 0 := by
  unfold shc
  rw [if_pos (show [a, b].length = 2 from rfl), h]
theorem sur_code : hcode [(Rat.divInt 1 2), (Rat.divInt 1 2)] [[(Rat.divInt 1 2), (Rat.divInt 1 2)], [(Rat.divInt 1 2), (Rat.divInt 1 2)]] [[((1 : Int) : Rat), ((0 : Int) : Rat)], [((0 : Int) : Rat), ((1 : Int) : Rat)]] = 0 := by
  unfold hcode
  have h1 : ([[(Rat.divInt 1 2), (Rat.divInt 1 2)], [(Rat.divInt 1 2), (Rat.divInt 1 2)]] : List (List Rat)).length = ([(Rat.divInt 1 2), (Rat.divInt 1 2)] : List Rat).length ∧ ([[((1 : Int) : Rat), ((0 : Int) : Rat)], [((0 : Int) : Rat), ((1 : Int) : Rat)]] : List (List Rat)).length = ([(Rat.divInt 1 2), (Rat.divInt 1 2)] : List Rat).length := ⟨rfl, rfl⟩
  rw [if_pos ⟨by decide, by decide⟩, if_pos h1]
  have e0 : shc ([(Rat.divInt 1 2), (Rat.divInt 1 2)] : List Rat).length [(Rat.divInt 1 2), (Rat.divInt 1 2)] = 0 := shc_two sur_chk
  rw [if_pos e0]
  have s0 : hst 2 [[(Rat.divInt 1 2), (Rat.divInt 1 2)], [(Rat.divInt 1 2), (Rat.divInt 1 2)]] [[((1 : Int) : Rat), ((0 : Int) : Rat)], [((0 : Int) : Rat), ((1 : Int) : Rat)]] 0 = 0 := by
    unfold hst
    have a : shc 2 (([[(Rat.divInt 1 2), (Rat.divInt 1 2)], [(Rat.divInt 1 2), (Rat.divInt 1 2)]] : List (List Rat))[0]!) = 0 := shc_two sur_chk
    rw [if_pos a, if_pos ⟨by decide, by decide⟩]
    exact shc_two sur_chk1
  have s1 : hst 2 [[(Rat.divInt 1 2), (Rat.divInt 1 2)], [(Rat.divInt 1 2), (Rat.divInt 1 2)]] [[((1 : Int) : Rat), ((0 : Int) : Rat)], [((0 : Int) : Rat), ((1 : Int) : Rat)]] 1 = 0 := by
    unfold hst
    have a : shc 2 (([[(Rat.divInt 1 2), (Rat.divInt 1 2)], [(Rat.divInt 1 2), (Rat.divInt 1 2)]] : List (List Rat))[1]!) = 0 := shc_two sur_chk
    rw [if_pos a, if_pos ⟨by decide, by decide⟩]
    exact shc_two sur_chk2
  show (if (if hcd 2 [[(Rat.divInt 1 2), (Rat.divInt 1 2)], [(Rat.divInt 1 2), (Rat.divInt 1 2)]] [[((1 : Int) : Rat), ((0 : Int) : Rat)], [((0 : Int) : Rat), ((1 : Int) : Rat)]] 0 = 0 then hst 2 [[(Rat.divInt 1 2), (Rat.divInt 1 2)], [(Rat.divInt 1 2), (Rat.divInt 1 2)]] [[((1 : Int) : Rat), ((0 : Int) : Rat)], [((0 : Int) : Rat), ((1 : Int) : Rat)]] 0 else _) = 0 then hst 2 [[(Rat.divInt 1 2), (Rat.divInt 1 2)], [(Rat.divInt 1 2), (Rat.divInt 1 2)]] [[((1 : Int) : Rat), ((0 : Int) : Rat)], [((0 : Int) : Rat), ((1 : Int) : Rat)]] 1 else _) = 0
  have h3 : hcd 2 [[(Rat.divInt 1 2), (Rat.divInt 1 2)], [(Rat.divInt 1 2), (Rat.divInt 1 2)]] [[((1 : Int) : Rat), ((0 : Int) : Rat)], [((0 : Int) : Rat), ((1 : Int) : Rat)]] 0 = 0 := rfl
  rw [if_pos h3, s0, if_pos rfl, s1]
theorem sur_scode : scode [(Rat.divInt 1 2), (Rat.divInt 1 2)] [[(Rat.divInt 1 2), (Rat.divInt 1 2)], [(Rat.divInt 1 2), (Rat.divInt 1 2)]] [[((1 : Int) : Rat), ((0 : Int) : Rat)], [((0 : Int) : Rat), ((1 : Int) : Rat)]] 2 sf_ = 0 := by
  unfold scode
  rw [if_pos sur_code, if_pos (by decide)]
  have : anyS (([[((1 : Int) : Rat), ((0 : Int) : Rat)], [((0 : Int) : Rat), ((1 : Int) : Rat)]] : List (List Rat))[0]!).length sf_ 2 = false := by decide +kernel
  rw [this]; rfl
theorem sur_sm : SmHm [(Rat.divInt 1 2), (Rat.divInt 1 2)] [[(Rat.divInt 1 2), (Rat.divInt 1 2)], [(Rat.divInt 1 2), (Rat.divInt 1 2)]] [[((1 : Int) : Rat), ((0 : Int) : Rat)], [((0 : Int) : Rat), ((1 : Int) : Rat)]] := by
  refine ⟨by decide, by decide, by decide, fun i hi => ?_, fun i hi => ?_, fun i hi => ?_, fun i k hi hk => ?_, fun i k hi hk => ?_⟩
  · have hi : i < 2 := hi
    match i, hi with
    | 0, _ => decide
    | 1, _ => decide
  · have hi : i < 2 := hi
    match i, hi with
    | 0, _ => decide
    | 1, _ => decide
  · have hi : i < 2 := hi
    match i, hi with
    | 0, _ => exact ⟨by decide +kernel, by decide +kernel⟩
    | 1, _ => exact ⟨by decide +kernel, by decide +kernel⟩
  · have hi : i < 2 := hi
    match i, hi with
    | 0, _ =>
      have hk : k < 2 := hk
      match k, hk with
      | 0, _ => exact ⟨by decide +kernel, by decide +kernel⟩
      | 1, _ => exact ⟨by decide +kernel, by decide +kernel⟩
    | 1, _ =>
      have hk : k < 2 := hk
      match k, hk with
      | 0, _ => exact ⟨by decide +kernel, by decide +kernel⟩
      | 1, _ => exact ⟨by decide +kernel, by decide +kernel⟩
  · have hi : i < 2 := hi
    match i, hi with
    | 0, _ =>
      have hk : k < 2 := hk
      match k, hk with
      | 0, _ => exact ⟨by decide +kernel, by decide +kernel⟩
      | 1, _ => exact ⟨by decide +kernel, by decide +kernel⟩
    | 1, _ =>
      have hk : k < 2 := hk
      match k, hk with
      | 0, _ => exact ⟨by decide +kernel, by decide +kernel⟩
      | 1, _ => exact ⟨by decide +kernel, by decide +kernel⟩
theorem sur_row : ∀ i, i < 2 → Blf.vst (hm [(Rat.divInt 1 2), (Rat.divInt 1 2)] [[(Rat.divInt 1 2), (Rat.divInt 1 2)], [(Rat.divInt 1 2), (Rat.divInt 1 2)]] [[((1 : Int) : Rat), ((0 : Int) : Rat)], [((0 : Int) : Rat), ((1 : Int) : Rat)]]) (sOf sf_) 2 i = (if i = 0 then 1 else 0) := fun i hi => by
  match i, hi with
  | 0, _ => decide +kernel
  | 1, _ => decide +kernel
theorem sur_pr : Blf.pr (hm [(Rat.divInt 1 2), (Rat.divInt 1 2)] [[(Rat.divInt 1 2), (Rat.divInt 1 2)], [(Rat.divInt 1 2), (Rat.divInt 1 2)]] [[((1 : Int) : Rat), ((0 : Int) : Rat)], [((0 : Int) : Rat), ((1 : Int) : Rat)]]) (sOf sf_) (Blf.vst (hm [(Rat.divInt 1 2), (Rat.divInt 1 2)] [[(Rat.divInt 1 2), (Rat.divInt 1 2)], [(Rat.divInt 1 2), (Rat.divInt 1 2)]] [[((1 : Int) : Rat), ((0 : Int) : Rat)], [((0 : Int) : Rat), ((1 : Int) : Rat)]]) (sOf sf_) 2) 2 = Rat.divInt 1 4 := by decide +kernel
theorem sur_text : qtext (Rat.divInt 1 4) = [49, 47, 52] := by decide +kernel

set_option maxHeartbeats 16000000 in
set_option maxRecDepth 100000 in
set_option linter.unusedSimpArgs false in
theorem sure_any (w : World) (htab : Tab w) : Calls Tryz.prog 18 #[] w fun e w' => e = .returned (.bool true) ∧ Below w.heap.size w w' := by
  have KKe : KK = 1099511627776 := rfl
  have HTB := hide htab
  clear htab
  go_enter Tryz.func18, Tryz.ntmps18
  go_wp2_with fail
  refine (of_any 1 2 (by decide) (by decide) (by decide) (by decide) (by decide) w).mono ?_
  rintro e w1 ⟨v1, rfl, hv1, hb1⟩
  obtain ⟨th, rfl, r1⟩ := tri_of hv1
  simp only [Tri.val]
  have b1 := alloc_below w1 (.cells #[.bool th.s, .slice th.a1 th.n1 th.c1, .slice th.a2 th.n2 th.c2] 26)
  have X1 := BoxIs.new r1
  obtain ⟨W1, hW1⟩ : ∃ W, w1.alloc (.cells #[.bool th.s, .slice th.a1 th.n1 th.c1, .slice th.a2 th.n2 th.c2] 26) = W := ⟨_, rfl⟩
  obtain ⟨gh, hgh⟩ : ∃ g, w1.heap.size = g := ⟨_, rfl⟩
  rw [hW1] at b1 X1
  rw [hgh] at X1
  have HB := hide (below_step hb1 b1)
  have HXh := hide X1
  clear hv1 hb1 r1 b1 X1
  go_wp2_with fail
  clear hW1 hgh
  refine (whole_any 1 (by decide) (by decide) W1).mono ?_
  rintro e w2 ⟨v2, rfl, hv2, hb2⟩
  obtain ⟨t1, rfl, r1⟩ := tri_of hv2
  simp only [Tri.val]
  replace HB := hide (below_step (unhide HB) hb2)
  replace HXh := hide ((unhide HXh).keep hb2)
  have R1 := hide r1
  clear hv2 hb2 r1
  go_wp2_with fail
  refine (whole_any 0 (by decide) (by decide) w2).mono ?_
  rintro e w3 ⟨v3, rfl, hv3, hb3⟩
  obtain ⟨tz, rfl, rz⟩ := tri_of hv3
  simp only [Tri.val]
  replace HB := hide (below_step (unhide HB) hb3)
  replace HXh := hide ((unhide HXh).keep hb3)
  have r1 := (unhide R1).below hb3
  have b4 := alloc_below w3 (.cells #[.bool t1.s, .slice t1.a1 t1.n1 t1.c1, .slice t1.a2 t1.n2 t1.c2] 26)
  have X4 := BoxIs.new r1
  have b5 := alloc_below (w3.alloc (.cells #[.bool t1.s, .slice t1.a1 t1.n1 t1.c1, .slice t1.a2 t1.n2 t1.c2] 26)) (.cells #[.bool tz.s, .slice tz.a1 tz.n1 tz.c1, .slice tz.a2 tz.n2 tz.c2] 26)
  have X5 := BoxIs.new (rz.below b4)
  rw [alloc_size] at X5
  have X4' := X4.keep b5
  have b45 := below_step b4 b5
  obtain ⟨Wb, hWb⟩ : ∃ W, (w3.alloc (.cells #[.bool t1.s, .slice t1.a1 t1.n1 t1.c1, .slice t1.a2 t1.n2 t1.c2] 26)).alloc (.cells #[.bool tz.s, .slice tz.a1 tz.n1 tz.c1, .slice tz.a2 tz.n2 tz.c2] 26) = W := ⟨_, rfl⟩
  rw [hWb] at X5 X4' b45
  replace HB := hide (below_step (unhide HB) b45)
  replace HXh := hide ((unhide HXh).keep b45)
  have HX3 := hide X4'
  have HX4 := hide X5
  clear hv3 hb3 r1 rz b4 X4 X4' b5 b45 X5 R1
  have ⟨chWb0, chWb1, chWb2⟩ := (unhide HXh).cells _ (Below.refl _ _)
  have ba := alloc_below Wb (.cells #[.bool th.s, .slice th.a1 th.n1 th.c1, .slice th.a2 th.n2 th.c2, .bool th.s, .slice th.a1 th.n1 th.c1, .slice th.a2 th.n2 th.c2] 26)
  have na := heap_alloc_new Wb (.cells #[.bool th.s, .slice th.a1 th.n1 th.c1, .slice th.a2 th.n2 th.c2, .bool th.s, .slice th.a1 th.n1 th.c1, .slice th.a2 th.n2 th.c2] 26)
  obtain ⟨W5, hW5⟩ : ∃ W, Wb.alloc (.cells #[.bool th.s, .slice th.a1 th.n1 th.c1, .slice th.a2 th.n2 th.c2, .bool th.s, .slice th.a1 th.n1 th.c1, .slice th.a2 th.n2 th.c2] 26) = W := ⟨_, rfl⟩
  obtain ⟨gA, hgA⟩ : ∃ g, Wb.heap.size = g := ⟨_, rfl⟩
  rw [hW5] at ba na
  rw [hgA] at na
  replace HB := hide (below_step (unhide HB) ba)
  replace HXh := hide ((unhide HXh).keep ba)
  replace HX3 := hide ((unhide HX3).keep ba)
  replace HX4 := hide ((unhide HX4).keep ba)
  have LA := hide (law_two na (unhide HXh).2 (unhide HXh).2)
  clear ba na
  have ⟨chW50, chW51, chW52⟩ := (unhide HXh).cells _ (Below.refl _ _)
  have ba := alloc_below W5 (.cells #[.bool th.s, .slice th.a1 th.n1 th.c1, .slice th.a2 th.n2 th.c2, .bool th.s, .slice th.a1 th.n1 th.c1, .slice th.a2 th.n2 th.c2] 26)
  have na := heap_alloc_new W5 (.cells #[.bool th.s, .slice th.a1 th.n1 th.c1, .slice th.a2 th.n2 th.c2, .bool th.s, .slice th.a1 th.n1 th.c1, .slice th.a2 th.n2 th.c2] 26)
  obtain ⟨W6, hW6⟩ : ∃ W, W5.alloc (.cells #[.bool th.s, .slice th.a1 th.n1 th.c1, .slice th.a2 th.n2 th.c2, .bool th.s, .slice th.a1 th.n1 th.c1, .slice th.a2 th.n2 th.c2] 26) = W := ⟨_, rfl⟩
  obtain ⟨gB, hgB⟩ : ∃ g, W5.heap.size = g := ⟨_, rfl⟩
  rw [hW6] at ba na
  rw [hgB] at na
  replace HB := hide (below_step (unhide HB) ba)
  replace HXh := hide ((unhide HXh).keep ba)
  replace HX3 := hide ((unhide HX3).keep ba)
  replace HX4 := hide ((unhide HX4).keep ba)
  replace LA := hide ((unhide LA).below ba)
  have LB := hide (law_two na (unhide HXh).2 (unhide HXh).2)
  clear ba na
  have ⟨chW60, chW61, chW62⟩ := (unhide HXh).cells _ (Below.refl _ _)
  have ba := alloc_below W6 (.cells #[.bool th.s, .slice th.a1 th.n1 th.c1, .slice th.a2 th.n2 th.c2, .bool th.s, .slice th.a1 th.n1 th.c1, .slice th.a2 th.n2 th.c2] 26)
  have na := heap_alloc_new W6 (.cells #[.bool th.s, .slice th.a1 th.n1 th.c1, .slice th.a2 th.n2 th.c2, .bool th.s, .slice th.a1 th.n1 th.c1, .slice th.a2 th.n2 th.c2] 26)
  obtain ⟨W7, hW7⟩ : ∃ W, W6.alloc (.cells #[.bool th.s, .slice th.a1 th.n1 th.c1, .slice th.a2 th.n2 th.c2, .bool th.s, .slice th.a1 th.n1 th.c1, .slice th.a2 th.n2 th.c2] 26) = W := ⟨_, rfl⟩
  obtain ⟨gC, hgC⟩ : ∃ g, W6.heap.size = g := ⟨_, rfl⟩
  rw [hW7] at ba na
  rw [hgC] at na
  replace HB := hide (below_step (unhide HB) ba)
  replace HXh := hide ((unhide HXh).keep ba)
  replace HX3 := hide ((unhide HX3).keep ba)
  replace HX4 := hide ((unhide HX4).keep ba)
  replace LA := hide ((unhide LA).below ba)
  replace LB := hide ((unhide LB).below ba)
  have LC := hide (law_two na (unhide HXh).2 (unhide HXh).2)
  clear ba na
  have ba := alloc_below W7 (.cells #[.slice (some ⟨gB, 0, none⟩) 2 2, .slice (some ⟨gC, 0, none⟩) 2 2] 41)
  have na := heap_alloc_new W7 (.cells #[.slice (some ⟨gB, 0, none⟩) 2 2, .slice (some ⟨gC, 0, none⟩) 2 2] 41)
  obtain ⟨W8, hW8⟩ : ∃ W, W7.alloc (.cells #[.slice (some ⟨gB, 0, none⟩) 2 2, .slice (some ⟨gC, 0, none⟩) 2 2] 41) = W := ⟨_, rfl⟩
  obtain ⟨gD, hgD⟩ : ∃ g, W7.heap.size = g := ⟨_, rfl⟩
  rw [hW8] at ba na
  rw [hgD] at na
  replace HB := hide (below_step (unhide HB) ba)
  replace HXh := hide ((unhide HXh).keep ba)
  replace HX3 := hide ((unhide HX3).keep ba)
  replace HX4 := hide ((unhide HX4).keep ba)
  replace LA := hide ((unhide LA).below ba)
  replace LB := hide ((unhide LB).below ba)
  replace LC := hide ((unhide LC).below ba)
  have LD := hide (rows_two na (unhide LB) (unhide LC))
  clear ba na
  have ⟨cpW80, cpW81, cpW82⟩ := (unhide HX3).cells _ (Below.refl _ _)
  have ⟨cqW80, cqW81, cqW82⟩ := (unhide HX4).cells _ (Below.refl _ _)
  have ba := alloc_below W8 (.cells #[.bool t1.s, .slice t1.a1 t1.n1 t1.c1, .slice t1.a2 t1.n2 t1.c2, .bool tz.s, .slice tz.a1 tz.n1 tz.c1, .slice tz.a2 tz.n2 tz.c2] 26)
  have na := heap_alloc_new W8 (.cells #[.bool t1.s, .slice t1.a1 t1.n1 t1.c1, .slice t1.a2 t1.n2 t1.c2, .bool tz.s, .slice tz.a1 tz.n1 tz.c1, .slice tz.a2 tz.n2 tz.c2] 26)
  obtain ⟨W9, hW9⟩ : ∃ W, W8.alloc (.cells #[.bool t1.s, .slice t1.a1 t1.n1 t1.c1, .slice t1.a2 t1.n2 t1.c2, .bool tz.s, .slice tz.a1 tz.n1 tz.c1, .slice tz.a2 tz.n2 tz.c2] 26) = W := ⟨_, rfl⟩
  obtain ⟨gE, hgE⟩ : ∃ g, W8.heap.size = g := ⟨_, rfl⟩
  rw [hW9] at ba na
  rw [hgE] at na
  replace HB := hide (below_step (unhide HB) ba)
  replace HXh := hide ((unhide HXh).keep ba)
  replace HX3 := hide ((unhide HX3).keep ba)
  replace HX4 := hide ((unhide HX4).keep ba)
  replace LA := hide ((unhide LA).below ba)
  replace LB := hide ((unhide LB).below ba)
  replace LC := hide ((unhide LC).below ba)
  replace LD := hide ((unhide LD).below ba)
  have LE := hide (law_two na (unhide HX3).2 (unhide HX4).2)
  clear ba na
  have ⟨cpW90, cpW91, cpW92⟩ := (unhide HX3).cells _ (Below.refl _ _)
  have ⟨cqW90, cqW91, cqW92⟩ := (unhide HX4).cells _ (Below.refl _ _)
  have ba := alloc_below W9 (.cells #[.bool tz.s, .slice tz.a1 tz.n1 tz.c1, .slice tz.a2 tz.n2 tz.c2, .bool t1.s, .slice t1.a1 t1.n1 t1.c1, .slice t1.a2 t1.n2 t1.c2] 26)
  have na := heap_alloc_new W9 (.cells #[.bool tz.s, .slice tz.a1 tz.n1 tz.c1, .slice tz.a2 tz.n2 tz.c2, .bool t1.s, .slice t1.a1 t1.n1 t1.c1, .slice t1.a2 t1.n2 t1.c2] 26)
  obtain ⟨W10, hW10⟩ : ∃ W, W9.alloc (.cells #[.bool tz.s, .slice tz.a1 tz.n1 tz.c1, .slice tz.a2 tz.n2 tz.c2, .bool t1.s, .slice t1.a1 t1.n1 t1.c1, .slice t1.a2 t1.n2 t1.c2] 26) = W := ⟨_, rfl⟩
  obtain ⟨gF, hgF⟩ : ∃ g, W9.heap.size = g := ⟨_, rfl⟩
  rw [hW10] at ba na
  rw [hgF] at na
  replace HB := hide (below_step (unhide HB) ba)
  replace HXh := hide ((unhide HXh).keep ba)
  replace HX3 := hide ((unhide HX3).keep ba)
  replace HX4 := hide ((unhide HX4).keep ba)
  replace LA := hide ((unhide LA).below ba)
  replace LB := hide ((unhide LB).below ba)
  replace LC := hide ((unhide LC).below ba)
  replace LD := hide ((unhide LD).below ba)
  replace LE := hide ((unhide LE).below ba)
  have LF := hide (law_two na (unhide HX4).2 (unhide HX3).2)
  clear ba na
  have ba := alloc_below W10 (.cells #[.slice (some ⟨gE, 0, none⟩) 2 2, .slice (some ⟨gF, 0, none⟩) 2 2] 41)
  have na := heap_alloc_new W10 (.cells #[.slice (some ⟨gE, 0, none⟩) 2 2, .slice (some ⟨gF, 0, none⟩) 2 2] 41)
  obtain ⟨W11, hW11⟩ : ∃ W, W10.alloc (.cells #[.slice (some ⟨gE, 0, none⟩) 2 2, .slice (some ⟨gF, 0, none⟩) 2 2] 41) = W := ⟨_, rfl⟩
  obtain ⟨gG, hgG⟩ : ∃ g, W10.heap.size = g := ⟨_, rfl⟩
  rw [hW11] at ba na
  rw [hgG] at na
  replace HB := hide (below_step (unhide HB) ba)
  replace HXh := hide ((unhide HXh).keep ba)
  replace HX3 := hide ((unhide HX3).keep ba)
  replace HX4 := hide ((unhide HX4).keep ba)
  replace LA := hide ((unhide LA).below ba)
  replace LB := hide ((unhide LB).below ba)
  replace LC := hide ((unhide LC).below ba)
  replace LD := hide ((unhide LD).below ba)
  replace LE := hide ((unhide LE).below ba)
  replace LF := hide ((unhide LF).below ba)
  have LG := hide (rows_two na (unhide LE) (unhide LF))
  clear ba na
  have ba := alloc_below W11 (.cells #[.slice (some ⟨gA, 0, none⟩) 2 2, .slice (some ⟨gD, 0, none⟩) 2 2, .slice (some ⟨gG, 0, none⟩) 2 2] 53)
  have na := heap_alloc_new W11 (.cells #[.slice (some ⟨gA, 0, none⟩) 2 2, .slice (some ⟨gD, 0, none⟩) 2 2, .slice (some ⟨gG, 0, none⟩) 2 2] 53)
  obtain ⟨W12, hW12⟩ : ∃ W, W11.alloc (.cells #[.slice (some ⟨gA, 0, none⟩) 2 2, .slice (some ⟨gD, 0, none⟩) 2 2, .slice (some ⟨gG, 0, none⟩) 2 2] 53) = W := ⟨_, rfl⟩
  obtain ⟨gH, hgH⟩ : ∃ g, W11.heap.size = g := ⟨_, rfl⟩
  rw [hW12] at ba na
  rw [hgH] at na
  have k0 : W12.cell? ⟨gH, 0, none⟩ = some (.slice (some ⟨gA, 0, none⟩) 2 2) := by simp [World.cell?, na]
  have k1 : W12.cell? ⟨gH, 1, none⟩ = some (.slice (some ⟨gD, 0, none⟩) 2 2) := by simp [World.cell?, na]
  have k2 : W12.cell? ⟨gH, 2, none⟩ = some (.slice (some ⟨gG, 0, none⟩) 2 2) := by simp [World.cell?, na]
  have bs := alloc_below W12 (.cells #[.int .i64 1, .int .i64 0] 3)
  have ns := heap_alloc_new W12 (.cells #[.int .i64 1, .int .i64 0] 3)
  obtain ⟨W13, hW13⟩ : ∃ W, W12.alloc (.cells #[.int .i64 1, .int .i64 0] 3) = W := ⟨_, rfl⟩
  obtain ⟨gS, hgS⟩ : ∃ g, W12.heap.size = g := ⟨_, rfl⟩
  rw [hW13] at bs ns
  rw [hgS] at ns
  have hNR : NRow W13 (.slice (some ⟨gS, 0, none⟩) 2 2) 2 sf_ := ⟨_, _, rfl, Nat.le_refl _, by decide, fun _ => ⟨gS, 0, rfl, (Array.getElem?_eq_some_iff.1 ns).1, fun j hj => by
    match j, hj with
    | 0, _ => simp [World.cell?, ns, sf_]
    | 1, _ => simp [World.cell?, ns, sf_]⟩⟩
  have HPA := hide (path_any (hmval (some ⟨gA, 0, none⟩, 2, 2) (some ⟨gD, 0, none⟩, 2, 2) (some ⟨gG, 0, none⟩, 2, 2)) (some ⟨gS, 0, none⟩, 2, 2) [(Rat.divInt 1 2), (Rat.divInt 1 2)] [[(Rat.divInt 1 2), (Rat.divInt 1 2)], [(Rat.divInt 1 2), (Rat.divInt 1 2)]] [[((1 : Int) : Rat), ((0 : Int) : Rat)], [((0 : Int) : Rat), ((1 : Int) : Rat)]] 2 sf_ W13 ⟨_, _, _, rfl, ((unhide LA).below ba).below bs, ((unhide LD).below ba).below bs, ((unhide LG).below ba).below bs⟩ sur_sm hNR (by decide))
  unfold hmval at HPA
  replace HB := hide (below_step (below_step (unhide HB) ba) bs)
  clear na ba bs ns hNR LA LB LC LD LE LF LG
  go_wp2_with fail
  clear hWb hW5 hgA hW6 hgB hW7 hgC hW8 hgD hW9 hgE hW10 hgF hW11 hgG chWb0 chWb1 chWb2 chW50 chW51 chW52 chW60 chW61 chW62 cpW80 cpW81 cpW82 cqW80 cqW81 cqW82 cpW90 cpW91 cpW92 cqW90 cqW91 cqW92 hW12 hgH k0 k1 k2 hW13 hgS
  refine (unhide HPA).mono ?_
  rintro e w20 (⟨-, -, g20, t20, rfl, hn20, hr20, hb20⟩ | ⟨hc, -⟩)
  rotate_left
  · refine absurd ⟨sur_scode, ?_⟩ hc
    rw [sur_pr]
    decide +kernel
  rw [sur_pr] at hr20
  simp only [Tri.val]
  have hn21 : NRow w20 (.slice (some ⟨g20, 0, none⟩) 2 2) 2 sf_ := hn20.congr (fun j hj => by
    show ((Blf.vst _ _ 2 j : Nat) : Int) = sf_ j
    rw [sur_row j hj]
    match j, hj with
    | 0, _ => rfl
    | 1, _ => rfl)
  obtain ⟨a2, c2, e2, _, _, q3⟩ := hn21
  obtain ⟨b20, o20, ea2, hbl2, hc2⟩ := q3 (by decide)
  have k0 : w20.cell? ⟨b20, o20, none⟩ = some (.int .i64 1) := hc2 0 (by decide)
  have k1 : w20.cell? ⟨b20, o20 + 1, none⟩ = some (.int .i64 0) := hc2 1 (by decide)
  obtain ⟨rfl, rfl⟩ : g20 = b20 ∧ 0 = o20 := by
    injection e2 with e2
    rw [ea2] at e2
    injection e2 with e2
    injection e2 with e3 e4
    exact ⟨e3, e4⟩
  have b21 := alloc_below w20 (.cells #[.bool t20.s, .slice t20.a1 t20.n1 t20.c1, .slice t20.a2 t20.n2 t20.c2] 26)
  have X21 := BoxIs.new hr20
  obtain ⟨W21, hW21⟩ : ∃ W, w20.alloc (.cells #[.bool t20.s, .slice t20.a1 t20.n1 t20.c1, .slice t20.a2 t20.n2 t20.c2] 26) = W := ⟨_, rfl⟩
  obtain ⟨gq, hgq⟩ : ∃ g, w20.heap.size = g := ⟨_, rfl⟩
  rw [hW21] at b21 X21
  rw [hgq] at X21
  have k0' : W21.cell? ⟨g20, 0, none⟩ = some (.int .i64 1) := by
    rw [b21.cell (p := ⟨g20, 0, none⟩) hbl2]; exact k0
  have k1' : W21.cell? ⟨g20, 1, none⟩ = some (.int .i64 0) := by
    rw [b21.cell (p := ⟨g20, 1, none⟩) hbl2]; exact k1
  have ⟨x0, x1, x2⟩ := X21.cells _ (Below.refl _ _)
  replace HB := hide (below_step (below_step (unhide HB) hb20) b21)
  have HTX := hide (textR_any t20.val (Rat.divInt 1 4) W21 X21.2 1 ⟨by decide +kernel, by decide +kernel⟩ (by rw [KKe]; omega) (tab_below (unhide HTB) (unhide HB)))
  rw [sur_text] at HTX
  simp only [Tri.val] at HTX
  clear hn20 e2 q3 ea2 hbl2 hc2 k0 k1 hr20 hb20 b21 X21 HPA
  go_wp2_with fail
  clear hW21 hgq
  refine (unhide HTX).mono ?_
  rintro e w22 ⟨rfl, hb22⟩
  replace HB := hide (below_step (unhide HB) hb22)
  clear hb22 k0' k1' x0 x1 x2
  go_wp2
  go_ret
  exact ⟨rfl, unhide HB⟩

end Go.Proofs.YtfnbjenneodcdaaGreatDoor
