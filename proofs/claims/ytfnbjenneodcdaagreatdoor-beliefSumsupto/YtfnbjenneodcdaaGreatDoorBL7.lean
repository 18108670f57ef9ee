/- Hidden states: plain.Belief. -/
import Derived.Test.YtfnbjenneodcdaaGreatDoorBL4
namespace Go.Proofs.YtfnbjenneodcdaaGreatDoor
open Go.RowKit Go.Sort Go.Shelf

set_option maxHeartbeats 16000000 in
set_option maxRecDepth 100000 in
set_option linter.unusedSimpArgs false in
theorem pbelief_any (v : Value) (ps : List (Int × Int)) (pp pg : List (List (Int × Int))) (w : World) (h : PHmIs w v ps pp pg) (sp_ : SmP pp) (sg_ : SmP pg) (hl : ps.length ≤ 1048576) :
    Calls Tryz.prog 14 #[v] w fun e w' => ∃ v, e = .returned v ∧ HmIs w' v (pqs ps) (pqss pp) (pqss pg) ∧ Below w.heap.size w w' := by
  obtain ⟨sf, sp, sg, rfl, hF, hP, hG⟩ := h
  have hfn := pairs_len hF
  have hpn := prows_len hP
  have hgn := prows_len hG
  obtain ⟨nf, hnf⟩ : ∃ n, ps.length = n := ⟨_, rfl⟩
  obtain ⟨np, hnp⟩ : ∃ n, pp.length = n := ⟨_, rfl⟩
  obtain ⟨ng, hng⟩ : ∃ n, pg.length = n := ⟨_, rfl⟩
  rw [hnf] at hfn
  rw [hnp] at hpn
  rw [hng] at hgn
  have HNF := hide hnf
  have HNP := hide hnp
  have HNG := hide hng
  have HSP := hide sp_
  have HSG := hide sg_
  have HLT : Hid (ps.length ≤ 1099511627776) := by show _ ≤ _; omega
  unfold hmval
  simp only [Sl.val] at hF hP hG
  rw [hfn] at hF
  rw [hpn] at hP
  rw [hgn] at hG
  rw [hfn, hpn, hgn]
  have b0 := alloc_below w (.cells #[.slice sf.a nf sf.c, .slice sp.a np sp.c, .slice sg.a ng sg.c] 49)
  have n0 := heap_alloc_new w (.cells #[.slice sf.a nf sf.c, .slice sp.a np sp.c, .slice sg.a ng sg.c] 49)
  obtain ⟨W0, hW0⟩ : ∃ W, w.alloc (.cells #[.slice sf.a nf sf.c, .slice sp.a np sp.c, .slice sg.a ng sg.c] 49) = W := ⟨_, rfl⟩
  obtain ⟨bx, hbx⟩ : ∃ b, w.heap.size = b := ⟨_, rfl⟩
  rw [hW0] at b0 n0
  rw [hbx] at n0
  have b1 := alloc_below W0 (.cells #[.slice none 0 0, .slice none 0 0, .slice none 0 0] 53)
  have n1 := heap_alloc_new W0 (.cells #[.slice none 0 0, .slice none 0 0, .slice none 0 0] 53)
  obtain ⟨W1, hW1⟩ : ∃ W, W0.alloc (.cells #[.slice none 0 0, .slice none 0 0, .slice none 0 0] 53) = W := ⟨_, rfl⟩
  obtain ⟨R, hR⟩ : ∃ R, W0.heap.size = R := ⟨_, rfl⟩
  rw [hW1] at b1 n1
  rw [hR] at n1
  have n0' := heap_kept n0 b1
  have HRZ := hide n1
  have HRL : Hid (R < W1.heap.size) := (Array.getElem?_eq_some_iff.1 n1).1
  have HRG : Hid (w.heap.size ≤ R) := by show _ ≤ R; rw [← hR]; exact b0.size
  have HB1 := hide (below_step b0 b1)
  have HPF := hide ((hF.below b0).below b1)
  have HPP := hide ((hP.below b0).below b1)
  have HPG := hide ((hG.below b0).below b1)
  have HCC : Hid (∀ W, Below W1.heap.size W1 W → (fun w' : World => w'.cell? ⟨bx, 0, none⟩ = some (.slice sf.a nf sf.c) ∧ w'.cell? ⟨bx, 1, none⟩ = some (.slice sp.a np sp.c) ∧ w'.cell? ⟨bx, 2, none⟩ = some (.slice sg.a ng sg.c)) W) := fun W hW => by
    have h' := heap_kept n0' hW
    simp [World.cell?, h']
  clear hF hP hG sp_ sg_ hfn hpn hgn hnf hnp hng b0 b1 n0 n1 n0'
  go_enter Tryz.func14, Tryz.ntmps14
  go_wp2_with fail
  clear hW0 hbx hW1 hR
  refine wp_region_till (fun w' : World => w'.cell? ⟨bx, 0, none⟩ = some (.slice sf.a nf sf.c) ∧ w'.cell? ⟨bx, 1, none⟩ = some (.slice sp.a np sp.c) ∧ w'.cell? ⟨bx, 2, none⟩ = some (.slice sg.a ng sg.c)) 10 (by kernel_rfl) ?_
  have bd0 : Below W1.heap.size W1 W1.drew := (Below.refl _ _).drew
  have hC0 : (fun w' : World => w'.cell? ⟨bx, 0, none⟩ = some (.slice sf.a nf sf.c) ∧ w'.cell? ⟨bx, 1, none⟩ = some (.slice sp.a np sp.c) ∧ w'.cell? ⟨bx, 2, none⟩ = some (.slice sg.a ng sg.c)) W1.drew := unhide HCC _ bd0
  refine wpTill_pure (i := 0) (v := ?_) rfl (by kernel_rfl) (by kernel_rfl) (by kernel_rfl) (by kernel_rfl) (fun _ _ _ h => h) (Or.inl ⟨by rfl, ?_⟩) (fun _ => hC0) ?_
  rotate_left
  · intro w hSw; clear hSw; go_simp; (try with_reducible rfl)
  (try simp only [List.getElem_toArray, List.getElem_cons_succ, List.getElem_cons_zero])
  (try simp only [Act.put, List.setIfInBounds_toArray, List.set_cons_zero, List.set_cons_succ])
  refine wpTill_take (i := 1) (v := ?_) rfl (by kernel_rfl) (by kernel_rfl) (by kernel_rfl) (by kernel_rfl) (by kernel_rfl) (by kernel_rfl) (fun _ _ _ h => h) (Or.inl ⟨by rfl, ?_⟩) hC0 ?_
  rotate_left
  · intro w hSw; (try dsimp only at hSw); obtain ⟨z0, z1, z2⟩ := hSw; go_simp; (try with_reducible rfl)
  (try simp only [List.getElem_toArray, List.getElem_cons_succ, List.getElem_cons_zero])
  (try simp only [Act.put, List.setIfInBounds_toArray, List.set_cons_zero, List.set_cons_succ])
  refine wpTill_pure (i := 3) (v := ?_) rfl (by kernel_rfl) (by kernel_rfl) (by kernel_rfl) (by kernel_rfl) (fun _ _ _ h => h) (Or.inl ⟨by rfl, ?_⟩) (fun _ => hC0) ?_
  rotate_left
  · intro w hSw; clear hSw; go_simp; (try with_reducible rfl)
  (try simp only [List.getElem_toArray, List.getElem_cons_succ, List.getElem_cons_zero])
  (try simp only [Act.put, List.setIfInBounds_toArray, List.set_cons_zero, List.set_cons_succ])
  refine wpTill_take (i := 4) (v := ?_) rfl (by kernel_rfl) (by kernel_rfl) (by kernel_rfl) (by kernel_rfl) (by kernel_rfl) (by kernel_rfl) (fun _ _ _ h => h) (Or.inl ⟨by rfl, ?_⟩) hC0 ?_
  rotate_left
  · intro w hSw; (try dsimp only at hSw); obtain ⟨z0, z1, z2⟩ := hSw; go_simp; (try with_reducible rfl)
  (try simp only [List.getElem_toArray, List.getElem_cons_succ, List.getElem_cons_zero])
  (try simp only [Act.put, List.setIfInBounds_toArray, List.set_cons_zero, List.set_cons_succ])
  refine wpTill_pure (i := 6) (v := ?_) rfl (by kernel_rfl) (by kernel_rfl) (by kernel_rfl) (by kernel_rfl) (fun _ _ _ h => h) (Or.inl ⟨by rfl, ?_⟩) (fun _ => hC0) ?_
  rotate_left
  · intro w hSw; clear hSw; go_simp; (try with_reducible rfl)
  (try simp only [List.getElem_toArray, List.getElem_cons_succ, List.getElem_cons_zero])
  (try simp only [Act.put, List.setIfInBounds_toArray, List.set_cons_zero, List.set_cons_succ])
  refine wpTill_take (i := 7) (v := ?_) rfl (by kernel_rfl) (by kernel_rfl) (by kernel_rfl) (by kernel_rfl) (by kernel_rfl) (by kernel_rfl) (fun _ _ _ h => h) (Or.inl ⟨by rfl, ?_⟩) hC0 ?_
  rotate_left
  · intro w hSw; (try dsimp only at hSw); obtain ⟨z0, z1, z2⟩ := hSw; go_simp; (try with_reducible rfl)
  (try simp only [List.getElem_toArray, List.getElem_cons_succ, List.getElem_cons_zero])
  (try simp only [Act.put, List.setIfInBounds_toArray, List.set_cons_zero, List.set_cons_succ])
  refine wpTill_one (k := 2) (by kernel_rfl) rfl (fun K hK => ?_)
  (try simp only [List.getElem_toArray, List.getElem_cons_succ, List.getElem_cons_zero])
  go_simp
  refine (fs_own (.slice sf.a nf sf.c) ps _ ((unhide HPF).below bd0) (unhide HLT)).mono ?_
  rintro e xw_1 ⟨xv_1, rfl, hv_1, hb_1, hf_1⟩
  have cc_1 := below_step bd0 hb_1
  have hC_1 : (fun w' : World => w'.cell? ⟨bx, 0, none⟩ = some (.slice sf.a nf sf.c) ∧ w'.cell? ⟨bx, 1, none⟩ = some (.slice sp.a np sp.c) ∧ w'.cell? ⟨bx, 2, none⟩ = some (.slice sg.a ng sg.c)) xw_1 := unhide HCC _ cc_1
  refine hK.out _ _ (fun _ => hC_1) ?_
  clear hK K
  (try simp only [Act.put, List.setIfInBounds_toArray, List.set_cons_zero, List.set_cons_succ])
  have HV1 := hide hv_1
  have HF1 := hide hf_1
  obtain ⟨a1, c1, rfl, _⟩ := hv_1
  rw [pqs_length, unhide HNF] at HV1 HF1 ⊢
  clear hf_1
  refine wpTill_one (k := 5) (by kernel_rfl) rfl (fun K hK => ?_)
  (try simp only [List.getElem_toArray, List.getElem_cons_succ, List.getElem_cons_zero])
  go_simp
  refine (prows_fr (.slice sp.a np sp.c) pp _ ((unhide HPP).below cc_1) (unhide HSP)).mono ?_
  rintro e xw_2 ⟨xv_2, rfl, hv_2, hb_2⟩
  have cc_2 := below_step cc_1 hb_2
  have hC_2 : (fun w' : World => w'.cell? ⟨bx, 0, none⟩ = some (.slice sf.a nf sf.c) ∧ w'.cell? ⟨bx, 1, none⟩ = some (.slice sp.a np sp.c) ∧ w'.cell? ⟨bx, 2, none⟩ = some (.slice sg.a ng sg.c)) xw_2 := unhide HCC _ cc_2
  refine hK.out _ _ (fun _ => hC_2) ?_
  clear hK K
  (try simp only [Act.put, List.setIfInBounds_toArray, List.set_cons_zero, List.set_cons_succ])
  have HV2 := hide hv_2
  obtain ⟨a2, c2, rfl, _⟩ := hv_2
  rw [pqss_length, unhide HNP] at HV2 ⊢
  refine wpTill_one (k := 8) (by kernel_rfl) rfl (fun K hK => ?_)
  (try simp only [List.getElem_toArray, List.getElem_cons_succ, List.getElem_cons_zero])
  go_simp
  refine (prows_fr (.slice sg.a ng sg.c) pg _ ((unhide HPG).below cc_2) (unhide HSG)).mono ?_
  rintro e xw_3 ⟨xv_3, rfl, hv_3, hb_3⟩
  have cc_3 := below_step cc_2 hb_3
  have hC_3 : (fun w' : World => w'.cell? ⟨bx, 0, none⟩ = some (.slice sf.a nf sf.c) ∧ w'.cell? ⟨bx, 1, none⟩ = some (.slice sp.a np sp.c) ∧ w'.cell? ⟨bx, 2, none⟩ = some (.slice sg.a ng sg.c)) xw_3 := unhide HCC _ cc_3
  refine hK.out _ _ (fun _ => hC_3) ?_
  clear hK K
  (try simp only [Act.put, List.setIfInBounds_toArray, List.set_cons_zero, List.set_cons_succ])
  have HV3 := hide hv_3
  obtain ⟨a3, c3, rfl, _⟩ := hv_3
  rw [pqss_length, unhide HNG] at HV3 ⊢
  refine wpTill_pure (i := 9) (v := ?_) rfl (by kernel_rfl) (by kernel_rfl) (by kernel_rfl) (by kernel_rfl) (fun _ _ _ h => h) (Or.inl ⟨by rfl, ?_⟩) (fun _ => hC_3) ?_
  rotate_left
  · intro w hSw; clear hSw; go_simp; (try with_reducible rfl)
  (try simp only [List.getElem_toArray, List.getElem_cons_succ, List.getElem_cons_zero])
  (try simp only [Act.put, List.setIfInBounds_toArray, List.set_cons_zero, List.set_cons_succ])
  have hRb : xw_3.heap[R]? = some (.cells #[.slice none 0 0, .slice none 0 0, .slice none 0 0] 53) := by rw [cc_3.block _ (unhide HRL)]; exact unhide HRZ
  have y0 : xw_3.cell? ⟨R, 0, none⟩ = some (.slice none 0 0) := by simp [World.cell?, hRb]
  have y1 : xw_3.cell? ⟨R, 1, none⟩ = some (.slice none 0 0) := by simp [World.cell?, hRb]
  have y2 : xw_3.cell? ⟨R, 2, none⟩ = some (.slice none 0 0) := by simp [World.cell?, hRb]
  have l0 : xw_3.frozen? ⟨R, 0, none⟩ = false := by simp [World.frozen?, hRb]
  have l1 : xw_3.frozen? ⟨R, 1, none⟩ = false := by simp [World.frozen?, hRb]
  have l2 : xw_3.frozen? ⟨R, 2, none⟩ = false := by simp [World.frozen?, hRb]
  have hno : ∀ g, some R = some g → Wordless xw_3 g := fun g e => by
    injection e with e
    rw [← e]
    exact wordless_of hRb (fun u hu => by
      have hu : u ∈ [Value.slice none 0 0, .slice none 0 0, .slice none 0 0] := by simpa using hu
      simp only [List.mem_cons, List.not_mem_nil, or_false] at hu
      rcases hu with rfl | rfl | rfl <;> trivial)
  have hgr : xw_3.grownBy (((xw_3.setCell ⟨R, 0, none⟩ (.slice a1 nf c1)).setCell ⟨R, 1, none⟩ (.slice a2 np c2)).setCell ⟨R, 2, none⟩ (.slice a3 ng c3)) (some R) := grown_step (grown_step (grown_set xw_3 R 0 _))
  have G2 := (((unhide HV2).below hb_3).mono cc_1.size).far (R := R) hgr hno (unhide HRL)
  have G3 := ((unhide HV3).mono cc_2.size).far (R := R) hgr hno (unhide HRL)
  have G1 : LawIs _ (Sl.val (a1, nf, c1)) (pqs ps) := ((((unhide HV1).below hb_2).below hb_3) : LawIs xw_3 (Sl.val (a1, nf, c1)) (pqs ps)).far hgr hno (fun _ ad e he => by
    have e : a1 = some ad := e
    injection he with he
    have hRl := unhide HRL
    rcases unhide HF1 with h | ⟨g, n, cap, h, hg⟩
    · injection h with h1
      rw [h1] at e; cases e
    · injection h with h1
      rw [h1] at e
      injection e with e
      rw [← e] at he
      simp only at he
      have := bd0.size
      omega)
  have FB := (((below_step (unhide HB1) cc_3).setCell (p := ⟨R, 0, none⟩) (unhide HRG) (.slice a1 nf c1)).setCell (p := ⟨R, 1, none⟩) (unhide HRG) (.slice a2 np c2)).setCell (p := ⟨R, 2, none⟩) (unhide HRG) (.slice a3 ng c3)
  obtain ⟨W9, hW9⟩ : ∃ W, ((xw_3.setCell ⟨R, 0, none⟩ (.slice a1 nf c1)).setCell ⟨R, 1, none⟩ (.slice a2 np c2)).setCell ⟨R, 2, none⟩ (.slice a3 ng c3) = W := ⟨_, rfl⟩
  rw [hW9] at G1 G2 G3 FB
  have HG1 := hide G1
  have HG2 := hide G2
  have HG3 := hide G3
  have HFB := hide FB
  clear G1 G2 G3 FB hgr hno
  refine wpTill_one (k := 10) (by kernel_rfl) rfl (fun K hK => ?_)
  (try simp only [List.getElem_toArray, List.getElem_cons_succ, List.getElem_cons_zero])
  go_simp
  refine hK.out _ _ (fun h => absurd (h.symm.trans (by kernel_rfl)) Bool.false_ne_true) ?_
  clear hK K
  (try simp only [Act.put, List.setIfInBounds_toArray, List.set_cons_zero, List.set_cons_succ])
  refine wpTill_done (by kernel_rfl) ?_ _
  clear hC0 hC_1 hC_2 hC_3 cc_1 cc_2 cc_3 bd0 hb_1 hb_2 hb_3 y0 y1 y2 l0 l1 l2 HCC
  have z : W9.cell? ⟨R, 0, none⟩ = some (.slice a1 nf c1) ∧ W9.cell? ⟨R, 1, none⟩ = some (.slice a2 np c2) ∧ W9.cell? ⟨R, 2, none⟩ = some (.slice a3 ng c3) := by
    rw [← hW9]
    simp [World.cell?, setCell_eq, mapBlock, onCells, Array.getElem?_modify, hRb]
  obtain ⟨z0, z1, z2⟩ := z
  clear hW9 hRb
  go_wp2
  (try simp only [Exit.inBlock, Exit.then])
  exact bodyPost_ret (v := .agg #[.slice a1 nf c1, .slice a2 np c2, .slice a3 ng c3]) (by simp [results, Tryz.results14, go_sem, z0, z1, z2]) rfl ⟨_, rfl, ⟨(a1, nf, c1), (a2, np, c2), (a3, ng, c3), rfl, unhide HG1, unhide HG2, unhide HG3⟩, unhide HFB⟩

end Go.Proofs.YtfnbjenneodcdaaGreatDoor
