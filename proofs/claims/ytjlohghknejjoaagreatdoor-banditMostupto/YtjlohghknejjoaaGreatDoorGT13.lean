/- Arms: an arm and a fraction, and their boxes. -/
import Derived.Test.YtjlohghknejjoaaGreatDoorGT1
import Derived.Test.YtjlohghknejjoaaGreatDoorGT12
namespace Go.Proofs.YtjlohghknejjoaaGreatDoor
open Go.RowKit Go.Sort Go.Shelf

theorem RowsFr.far2 {B R : Nat} {w w' : World} {v : Value} {ks : List (List Rat)} (h : RowsFr B w v ks) (hg : w.grownBy w' (some R)) (hno : ∀ g, some R = some g → Wordless w g) (hR : R < B) : RowsFr B w' v ks := by
  obtain ⟨a, c, e, h1, h2, h3⟩ := h
  refine ⟨a, c, e, h1, h2, fun hp => ?_⟩
  obtain ⟨b, o, ea, hB, hlt, hc⟩ := h3 hp
  refine ⟨b, o, ea, hB, Nat.lt_of_lt_of_le hlt hg.size, fun j hj => ?_⟩
  obtain ⟨l, c0, r, hl⟩ := hc j hj
  refine ⟨l, ?_, r.far hg hno (fun _ ad ea he => ?_), hl⟩
  · rw [hg.cell_far ⟨b, o + j, none⟩ hlt (fun e => by injection e with e; simp only at e; omega)]
    exact c0
  · have := hl ad ea
    injection he with he
    omega
theorem RowsFr.mono {B B' : Nat} {w : World} {v : Value} {ks : List (List Rat)} (h : RowsFr B w v ks) (hB : B' ≤ B) : RowsFr B' w v ks := by
  obtain ⟨a, c, e, h1, h2, h3⟩ := h
  refine ⟨a, c, e, h1, h2, fun hp => ?_⟩
  obtain ⟨b, o, ea, hb, hlt, hc⟩ := h3 hp
  refine ⟨b, o, ea, by omega, hlt, fun j hj => ?_⟩
  obtain ⟨l, c0, r, hl⟩ := hc j hj
  exact ⟨l, c0, r, fun ad e => Nat.le_trans hB (hl ad e)⟩
/-- An arm of the call's own. -/
def ArmFr (B : Nat) (w : World) (v : Value) (g : List Rat) (P : List (List Rat)) : Prop := ∃ m l : Sl, v = aval m l ∧ LawIs w m.val g ∧ (∀ ad, m.a = some ad → B ≤ ad.block) ∧ RowsFr B w l.val P

set_option maxHeartbeats 16000000 in
set_option maxRecDepth 100000 in
set_option linter.unusedSimpArgs false in
theorem pbandit_any (v : Value) (ps : List (Int × Int)) (pss : List (List (Int × Int))) (w : World) (h : PArmIs w v ps pss) (sm : SmP pss) (hl : ps.length ≤ 1048576) :
    Calls Tryz.prog 7 #[v] w fun e w' => ∃ v, e = .returned v ∧ ArmFr w.heap.size w' v (pqs ps) (pqss pss) ∧ Below w.heap.size w w' := by
  obtain ⟨m, l, rfl, hT, hP⟩ := h
  have hpn := prows_len hP
  have htn := pairs_len hT
  obtain ⟨np, hnp⟩ : ∃ n, pss.length = n := ⟨_, rfl⟩
  obtain ⟨nt, hnt⟩ : ∃ n, ps.length = n := ⟨_, rfl⟩
  rw [hnp] at hpn
  rw [hnt] at htn
  have HNP := hide hnp
  have HNT := hide hnt
  have HSP := hide sm
  have HLT : Hid (ps.length ≤ 1099511627776) := by show _ ≤ _; omega
  unfold aval
  simp only [Sl.val] at hP hT
  rw [hpn] at hP
  rw [htn] at hT
  rw [hpn, htn]
  have b0 := alloc_below w (.cells #[.slice m.a nt m.c, .slice l.a np l.c] 25)
  have n0 := heap_alloc_new w (.cells #[.slice m.a nt m.c, .slice l.a np l.c] 25)
  obtain ⟨W0, hW0⟩ : ∃ W, w.alloc (.cells #[.slice m.a nt m.c, .slice l.a np l.c] 25) = W := ⟨_, rfl⟩
  obtain ⟨bx, hbx⟩ : ∃ b, w.heap.size = b := ⟨_, rfl⟩
  rw [hW0] at b0 n0
  rw [hbx] at n0
  have b1 := alloc_below W0 (.cells #[.slice none 0 0, .slice none 0 0] 32)
  have n1 := heap_alloc_new W0 (.cells #[.slice none 0 0, .slice none 0 0] 32)
  obtain ⟨W1, hW1⟩ : ∃ W, W0.alloc (.cells #[.slice none 0 0, .slice none 0 0] 32) = W := ⟨_, rfl⟩
  obtain ⟨R, hR⟩ : ∃ R, W0.heap.size = R := ⟨_, rfl⟩
  rw [hW1] at b1 n1
  rw [hR] at n1
  have n0' := heap_kept n0 b1
  have HRZ := hide n1
  have HRL : Hid (R < W1.heap.size) := (Array.getElem?_eq_some_iff.1 n1).1
  have hbl : bx < W1.heap.size := (Array.getElem?_eq_some_iff.1 n0').1
  have HRG : Hid (w.heap.size ≤ R) := by show _ ≤ R; rw [← hR]; exact b0.size
  have HB1 := hide (below_step b0 b1)
  have HPR := hide ((hP.below b0).below b1)
  have HPT := hide ((hT.below b0).below b1)
  have HCC : Hid (∀ W, Below W1.heap.size W1 W → (fun w' : World => w'.cell? ⟨bx, 0, none⟩ = some (.slice m.a nt m.c) ∧ w'.cell? ⟨bx, 1, none⟩ = some (.slice l.a np l.c)) W) := fun W hW => by
    have h' := heap_kept n0' hW
    simp [World.cell?, h']
  clear hP hT sm hpn htn hnp hnt b0 b1 n0 n1 n0' hbl
  go_enter Tryz.func7, Tryz.ntmps7
  go_wp2_with fail
  clear hW0 hbx hW1 hR
  refine wp_region_till (fun w' : World => w'.cell? ⟨bx, 0, none⟩ = some (.slice m.a nt m.c) ∧ w'.cell? ⟨bx, 1, none⟩ = some (.slice l.a np l.c)) 7 (by kernel_rfl) ?_
  have bd0 : Below W1.heap.size W1 W1.drew := (Below.refl _ _).drew
  have hC0 : (fun w' : World => w'.cell? ⟨bx, 0, none⟩ = some (.slice m.a nt m.c) ∧ w'.cell? ⟨bx, 1, none⟩ = some (.slice l.a np l.c)) W1.drew := unhide HCC _ bd0
  refine wpTill_pure (i := 0) (v := ?_) rfl (by kernel_rfl) (by kernel_rfl) (by kernel_rfl) (by kernel_rfl) (fun _ _ _ h => h) (Or.inl ⟨by rfl, ?_⟩) (fun _ => hC0) ?_
  rotate_left
  · intro w hSw; clear hSw; go_simp; (try with_reducible rfl)
  (try simp only [List.getElem_toArray, List.getElem_cons_succ, List.getElem_cons_zero])
  (try simp only [Act.put, List.setIfInBounds_toArray, List.set_cons_zero, List.set_cons_succ])
  refine wpTill_take (i := 1) (v := ?_) rfl (by kernel_rfl) (by kernel_rfl) (by kernel_rfl) (by kernel_rfl) (by kernel_rfl) (by kernel_rfl) (fun _ _ _ h => h) (Or.inl ⟨by rfl, ?_⟩) hC0 ?_
  rotate_left
  · intro w hSw; (try dsimp only at hSw); obtain ⟨z0, z1⟩ := hSw; go_simp; (try with_reducible rfl)
  (try simp only [List.getElem_toArray, List.getElem_cons_succ, List.getElem_cons_zero])
  (try simp only [Act.put, List.setIfInBounds_toArray, List.set_cons_zero, List.set_cons_succ])
  refine wpTill_pure (i := 3) (v := ?_) rfl (by kernel_rfl) (by kernel_rfl) (by kernel_rfl) (by kernel_rfl) (fun _ _ _ h => h) (Or.inl ⟨by rfl, ?_⟩) (fun _ => hC0) ?_
  rotate_left
  · intro w hSw; clear hSw; go_simp; (try with_reducible rfl)
  (try simp only [List.getElem_toArray, List.getElem_cons_succ, List.getElem_cons_zero])
  (try simp only [Act.put, List.setIfInBounds_toArray, List.set_cons_zero, List.set_cons_succ])
  refine wpTill_take (i := 4) (v := ?_) rfl (by kernel_rfl) (by kernel_rfl) (by kernel_rfl) (by kernel_rfl) (by kernel_rfl) (by kernel_rfl) (fun _ _ _ h => h) (Or.inl ⟨by rfl, ?_⟩) hC0 ?_
  rotate_left
  · intro w hSw; (try dsimp only at hSw); obtain ⟨z0, z1⟩ := hSw; go_simp; (try with_reducible rfl)
  (try simp only [List.getElem_toArray, List.getElem_cons_succ, List.getElem_cons_zero])
  (try simp only [Act.put, List.setIfInBounds_toArray, List.set_cons_zero, List.set_cons_succ])
  refine wpTill_one (k := 2) (by kernel_rfl) rfl (fun K hK => ?_)
  (try simp only [List.getElem_toArray, List.getElem_cons_succ, List.getElem_cons_zero])
  go_simp
  refine (fs_own (.slice m.a nt m.c) ps _ ((unhide HPT).below bd0) (unhide HLT)).mono ?_
  rintro e xw_1 ⟨xv_1, rfl, hv_1, hb_1, hf_1⟩
  have cc_1 := below_step bd0 hb_1
  have hC_1 : (fun w' : World => w'.cell? ⟨bx, 0, none⟩ = some (.slice m.a nt m.c) ∧ w'.cell? ⟨bx, 1, none⟩ = some (.slice l.a np l.c)) xw_1 := unhide HCC _ cc_1
  refine hK.out _ _ (fun _ => hC_1) ?_
  clear hK K
  (try simp only [Act.put, List.setIfInBounds_toArray, List.set_cons_zero, List.set_cons_succ])
  have HV1 := hide hv_1
  have HF1 := hide hf_1
  obtain ⟨a1, c1, rfl, _⟩ := hv_1
  rw [pqs_length, unhide HNT] at HV1 HF1 ⊢
  clear hf_1
  refine wpTill_one (k := 5) (by kernel_rfl) rfl (fun K hK => ?_)
  (try simp only [List.getElem_toArray, List.getElem_cons_succ, List.getElem_cons_zero])
  go_simp
  refine (prows_fr (.slice l.a np l.c) pss _ ((unhide HPR).below cc_1) (unhide HSP)).mono ?_
  rintro e xw_2 ⟨xv_2, rfl, hv_2, hb_2⟩
  have cc_2 := below_step cc_1 hb_2
  have hC_2 : (fun w' : World => w'.cell? ⟨bx, 0, none⟩ = some (.slice m.a nt m.c) ∧ w'.cell? ⟨bx, 1, none⟩ = some (.slice l.a np l.c)) xw_2 := unhide HCC _ cc_2
  refine hK.out _ _ (fun _ => hC_2) ?_
  clear hK K
  (try simp only [Act.put, List.setIfInBounds_toArray, List.set_cons_zero, List.set_cons_succ])
  have HV2 := hide hv_2
  obtain ⟨a2, c2, rfl, _⟩ := hv_2
  rw [pqss_length, unhide HNP] at HV2 ⊢
  refine wpTill_pure (i := 6) (v := ?_) rfl (by kernel_rfl) (by kernel_rfl) (by kernel_rfl) (by kernel_rfl) (fun _ _ _ h => h) (Or.inl ⟨by rfl, ?_⟩) (fun _ => hC_2) ?_
  rotate_left
  · intro w hSw; clear hSw; go_simp; (try with_reducible rfl)
  (try simp only [List.getElem_toArray, List.getElem_cons_succ, List.getElem_cons_zero])
  (try simp only [Act.put, List.setIfInBounds_toArray, List.set_cons_zero, List.set_cons_succ])
  have hRb : xw_2.heap[R]? = some (.cells #[.slice none 0 0, .slice none 0 0] 32) := by rw [cc_2.block _ (unhide HRL)]; exact unhide HRZ
  have y0 : xw_2.cell? ⟨R, 0, none⟩ = some (.slice none 0 0) := by simp [World.cell?, hRb]
  have y1 : xw_2.cell? ⟨R, 1, none⟩ = some (.slice none 0 0) := by simp [World.cell?, hRb]
  have l0 : xw_2.frozen? ⟨R, 0, none⟩ = false := by simp [World.frozen?, hRb]
  have l1 : xw_2.frozen? ⟨R, 1, none⟩ = false := by simp [World.frozen?, hRb]
  have hno : ∀ g, some R = some g → Wordless xw_2 g := fun g e => by
    injection e with e
    rw [← e]
    exact wordless_of hRb (fun u hu => by
      have hu : u ∈ [Value.slice none 0 0, .slice none 0 0] := by simpa using hu
      simp only [List.mem_cons, List.not_mem_nil, or_false] at hu
      rcases hu with rfl | rfl <;> trivial)
  have hgr : xw_2.grownBy ((xw_2.setCell ⟨R, 0, none⟩ (.slice a1 nt c1)).setCell ⟨R, 1, none⟩ (.slice a2 np c2)) (some R) := grown_step (grown_set xw_2 R 0 _)
  have G1 : LawIs _ (Sl.val (a1, nt, c1)) (pqs ps) := (((unhide HV1).below hb_2) : LawIs xw_2 (Sl.val (a1, nt, c1)) (pqs ps)).far hgr hno (fun _ ad e he => by
    have e : a1 = some ad := e
    injection he with he
    have hRl := unhide HRL
    rcases unhide HF1 with h | ⟨g, n, cap, h, hg⟩
    · injection h with h1
      rw [h1] at e; cases e
    · injection h with h1
      rw [h1] at e
      injection e with e
      rw [← e] at he
      simp only at he
      have := bd0.size
      omega)
  have hlo : R < xw_1.heap.size := Nat.lt_of_lt_of_le (unhide HRL) cc_1.size
  have G2 := ((unhide HV2).far2 (B := xw_1.heap.size) (R := R) hgr hno hlo).mono (B' := w.heap.size) (Nat.le_trans (unhide HB1).size cc_1.size)
  have GF : ∀ ad, a1 = some ad → w.heap.size ≤ ad.block := fun ad e => by
    rcases unhide HF1 with h | ⟨g, n, cap, h, hg⟩
    · injection h with h1
      rw [h1] at e; cases e
    · injection h with h1
      rw [h1] at e
      injection e with e
      rw [← e]
      have h2 := (unhide HB1).size
      have h3 := bd0.size
      show w.heap.size ≤ g
      omega
  have FB := ((below_step (unhide HB1) cc_2).setCell (p := ⟨R, 0, none⟩) (unhide HRG) (.slice a1 nt c1)).setCell (p := ⟨R, 1, none⟩) (unhide HRG) (.slice a2 np c2)
  obtain ⟨W9, hW9⟩ : ∃ W, ((xw_2.setCell ⟨R, 0, none⟩ (.slice a1 nt c1)).setCell ⟨R, 1, none⟩ (.slice a2 np c2)) = W := ⟨_, rfl⟩
  rw [hW9] at G1 G2 FB
  have HG1 := hide G1
  have HG2 := hide G2
  have HFB := hide FB
  have HGF := hide GF
  clear G1 G2 GF FB hgr hno hlo
  refine wpTill_one (k := 7) (by kernel_rfl) rfl (fun K hK => ?_)
  (try simp only [List.getElem_toArray, List.getElem_cons_succ, List.getElem_cons_zero])
  go_simp
  refine hK.out _ _ (fun h => absurd (h.symm.trans (by kernel_rfl)) Bool.false_ne_true) ?_
  clear hK K
  (try simp only [Act.put, List.setIfInBounds_toArray, List.set_cons_zero, List.set_cons_succ])
  refine wpTill_done (by kernel_rfl) ?_ _
  clear hC0 hC_1 hC_2 cc_1 cc_2 bd0 hb_1 hb_2 y0 y1 l0 l1 HCC
  have z : W9.cell? ⟨R, 0, none⟩ = some (.slice a1 nt c1) ∧ W9.cell? ⟨R, 1, none⟩ = some (.slice a2 np c2) := by
    rw [← hW9]
    simp [World.cell?, setCell_eq, mapBlock, onCells, Array.getElem?_modify, hRb]
  obtain ⟨z0, z1⟩ := z
  clear hW9 hRb
  go_wp2
  (try simp only [Exit.inBlock, Exit.then])
  exact bodyPost_ret (v := .agg #[.slice a1 nt c1, .slice a2 np c2]) (by simp [results, Tryz.results7, go_sem, z0, z1]) rfl ⟨_, rfl, ⟨(a1, nt, c1), (a2, np, c2), rfl, unhide HG1, unhide HGF, unhide HG2⟩, unhide HFB⟩

end Go.Proofs.YtjlohghknejjoaaGreatDoor
namespace Go.Proofs.YtjlohghknejjoaaGreatDoor
open Go.RowKit Go.Sort Go.Shelf

/-- A row that lies between B and T. -/
def RowsBt (B T : Nat) (w : World) (v : Value) (ks : List (List Rat)) : Prop := ∃ (a : Option Addr) (c : Nat), v = .slice a ks.length c ∧ ks.length ≤ c ∧ c ≤ 9223372036854775807 ∧
  (0 < ks.length → ∃ b o, a = some ⟨b, o, none⟩ ∧ B ≤ b ∧ b < T ∧ b < w.heap.size ∧ ∀ j, j < ks.length → ∃ l : Sl, w.cell? ⟨b, o + j, none⟩ = some (.slice l.a l.n l.c) ∧ LawIs w l.val ks[j]! ∧ (0 < l.n → ∀ ad, l.a = some ad → B ≤ ad.block ∧ ad.block < T))
theorem RowsBt.below {B T : Nat} {w w' : World} {v : Value} {ks : List (List Rat)} (h : RowsBt B T w v ks) (hb : Below w.heap.size w w') : RowsBt B T w' v ks := by
  obtain ⟨a, c, e, h1, h2, h3⟩ := h
  refine ⟨a, c, e, h1, h2, fun hp => ?_⟩
  obtain ⟨b, o, ea, hB, hT, hlt, hc⟩ := h3 hp
  refine ⟨b, o, ea, hB, hT, Nat.lt_of_lt_of_le hlt hb.size, fun j hj => ?_⟩
  obtain ⟨l, c0, r, hl⟩ := hc j hj
  refine ⟨l, ?_, r.below hb, hl⟩
  rw [hb.cell (p := ⟨b, o + j, none⟩) hlt]
  exact c0
theorem RowsBt.far {B T R : Nat} {w w' : World} {v : Value} {ks : List (List Rat)} (h : RowsBt B T w v ks) (hg : w.grownBy w' (some R)) (hno : Wordless w R) (hR : R < B ∨ T ≤ R) : RowsBt B T w' v ks := by
  obtain ⟨a, c, e, h1, h2, h3⟩ := h
  refine ⟨a, c, e, h1, h2, fun hp => ?_⟩
  obtain ⟨b, o, ea, hB, hT, hlt, hc⟩ := h3 hp
  have hne : R ≠ b := fun e => by
    rw [← e] at hB hT
    exact hR.elim (fun x => absurd x (Nat.not_lt.2 hB)) (fun x => absurd hT (Nat.not_lt.2 x))
  refine ⟨b, o, ea, hB, hT, Nat.lt_of_lt_of_le hlt hg.size, fun j hj => ?_⟩
  obtain ⟨l, c0, r, hl⟩ := hc j hj
  refine ⟨l, ?_, r.far hg (fun g e => by injection e with e; rw [← e]; exact hno) (fun hn ad ea he => ?_), hl⟩
  · rw [hg.cell_far ⟨b, o + j, none⟩ hlt (fun e => hne (Option.some.inj e).symm)]
    exact c0
  · have h9 := hl hn ad ea
    have he : R = ad.block := Option.some.inj he
    rw [← he] at h9
    exact hR.elim (fun x => absurd x (Nat.not_lt.2 h9.1)) (fun x => absurd h9.2 (Nat.not_lt.2 x))
theorem RowsBt.rows {B T : Nat} {w : World} {v : Value} {ks : List (List Rat)} (h : RowsBt B T w v ks) : RowsAre w v ks := by
  obtain ⟨a, c, e, h1, h2, h3⟩ := h
  refine ⟨a, c, e, h1, h2, fun hp => ?_⟩
  obtain ⟨b, o, ea, hB, hT, hlt, hc⟩ := h3 hp
  refine ⟨b, o, ea, hlt, fun j hj => ?_⟩
  obtain ⟨l, c0, r, hl⟩ := hc j hj
  exact ⟨l, c0, r⟩
def ArmBt (B T : Nat) (w : World) (v : Value) (g : List Rat) (P : List (List Rat)) : Prop := T ≤ w.heap.size ∧ ∃ m l : Sl, v = aval m l ∧ LawIs w m.val g ∧ (0 < m.n → ∀ ad, m.a = some ad → B ≤ ad.block ∧ ad.block < T) ∧ RowsBt B T w l.val P
theorem ArmBt.below {B T : Nat} {w w' : World} {v : Value} {g : List Rat} {P : List (List Rat)} (h : ArmBt B T w v g P) (hb : Below w.heap.size w w') : ArmBt B T w' v g P := by
  obtain ⟨h0, m, l, e, h1, h2, h3⟩ := h
  exact ⟨Nat.le_trans h0 hb.size, m, l, e, h1.below hb, h2, h3.below hb⟩
theorem ArmBt.far {B T R : Nat} {w w' : World} {v : Value} {g : List Rat} {P : List (List Rat)} (h : ArmBt B T w v g P) (hg : w.grownBy w' (some R)) (hno : Wordless w R) (hR : R < B ∨ T ≤ R) : ArmBt B T w' v g P := by
  obtain ⟨h0, m, l, e, h1, h2, h3⟩ := h
  refine ⟨Nat.le_trans h0 hg.size, m, l, e, h1.far hg (fun g e => by injection e with e; rw [← e]; exact hno) (fun hn ad ea he => ?_), h2, h3.far hg hno hR⟩
  have h9 := h2 hn ad ea
  have he : R = ad.block := Option.some.inj he
  rw [← he] at h9
  exact hR.elim (fun x => absurd x (Nat.not_lt.2 h9.1)) (fun x => absurd h9.2 (Nat.not_lt.2 x))
theorem ArmFr.bt {B : Nat} {w : World} {v : Value} {g : List Rat} {P : List (List Rat)} (h : ArmFr B w v g P) : ArmBt B w.heap.size w v g P := by
  obtain ⟨m, l, e, h1, h2, h3⟩ := h
  refine ⟨Nat.le_refl _, m, l, e, h1, fun hn ad ea => ⟨h2 ad ea, law_lt h1 hn ea⟩, ?_⟩
  obtain ⟨a, c, e, k1, k2, k3⟩ := h3
  refine ⟨a, c, e, k1, k2, fun hp => ?_⟩
  obtain ⟨b, o, ea, hb, hlt, hc⟩ := k3 hp
  refine ⟨b, o, ea, hb, hlt, hlt, fun j hj => ?_⟩
  obtain ⟨l, c0, r, hl⟩ := hc j hj
  exact ⟨l, c0, r, fun hn ad e => ⟨hl ad e, law_lt r hn e⟩⟩
theorem grown_set3 (W : World) (b : Nat) (x0 x1 x2 : Value) : W.grownBy (((W.setCell ⟨b, 0, none⟩ x0).setCell ⟨b, 1, none⟩ x1).setCell ⟨b, 2, none⟩ x2) (some b) := grown_step (grown_step (grown_set W b 0 x0))
theorem grown_set2 (W : World) (b : Nat) (x0 x1 : Value) : W.grownBy ((W.setCell ⟨b, 0, none⟩ x0).setCell ⟨b, 1, none⟩ x1) (some b) := grown_step (grown_set W b 0 x0)
theorem box_wordless {w : World} {b : Nat} {t : Tri} {q : Rat} (h : BoxIs w b t q) : Wordless w b := wordless_of h.1 (fun u hu => by
  have hu : u ∈ [Value.bool t.s, .slice t.a1 t.n1 t.c1, .slice t.a2 t.n2 t.c2] := by simpa using hu
  simp only [List.mem_cons, List.not_mem_nil, or_false] at hu
  rcases hu with rfl | rfl | rfl <;> trivial)
theorem armz_wordless {w : World} {b : Nat} (h : w.heap[b]? = some (.cells #[.slice none 0 0, .slice none 0 0] 32)) : Wordless w b := wordless_of h (fun u hu => by
  have hu : u ∈ [Value.slice none 0 0, .slice none 0 0] := by simpa using hu
  simp only [List.mem_cons, List.not_mem_nil, or_false] at hu
  rcases hu with rfl | rfl <;> trivial)
/-- What the region holds: an arm and a fraction, two boxes. -/
structure ArmJ (w0 : World) (gs : List Rat) (P : List (List Rat)) (q : Rat) (s : Nat × Bool × Bool) (w : World) (v1 v2 v5 v6 : Value) : Prop where
  bl : Below w0.heap.size w0 w
  r1 : 1 ≤ s.1 → ∃ B T, ArmBt B T w v1 gs P ∧ (s.2.1 = true → ∀ b, v5 = .pointer (some ⟨b, 0, none⟩) → b < B ∨ T ≤ b) ∧ (s.2.2 = true → ∀ b, v6 = .pointer (some ⟨b, 0, none⟩) → b < B ∨ T ≤ b)
  r2 : 2 ≤ s.1 → RatIs w v2 q
  a1 : s.2.1 = true → ∃ b, v5 = .pointer (some ⟨b, 0, none⟩) ∧ w.heap[b]? = some (.cells #[.slice none 0 0, .slice none 0 0] 32) ∧ w0.heap.size ≤ b
  a2 : s.2.2 = true → ∃ b, v6 = .pointer (some ⟨b, 0, none⟩) ∧ BoxIs w b zTri 0 ∧ w0.heap.size ≤ b
  bd : s.1 ≤ 2
theorem ArmJ.keep {w0 w w' : World} {gs : List Rat} {P : List (List Rat)} {q : Rat} {s : Nat × Bool × Bool} {v1 v2 v5 v6 : Value} (J : ArmJ w0 gs P q s w v1 v2 v5 v6) (hb : Below w.heap.size w w') : ArmJ w0 gs P q s w' v1 v2 v5 v6 :=
  ⟨below_step J.bl hb, fun h => by obtain ⟨B, T, h1, h2⟩ := J.r1 h; exact ⟨B, T, h1.below hb, h2⟩, fun h => (J.r2 h).below hb, fun h => by obtain ⟨b, e1, e2, e3⟩ := J.a1 h; exact ⟨b, e1, heap_kept e2 hb, e3⟩, fun h => by obtain ⟨b, e1, e2, e3⟩ := J.a2 h; exact ⟨b, e1, e2.keep hb, e3⟩, J.bd⟩
def nextArm (s : Nat × Bool × Bool) (i : Nat) : Option (Nat × Bool × Bool) :=
  if i = 4 ∧ s.2.1 = false then some (s.1, true, s.2.2) else if i = 5 ∧ s.2.2 = false then some (s.1, s.2.1, true)
  else if i = 1 ∧ s.1 = 0 then some (1, s.2.1, s.2.2) else if i = 3 ∧ s.1 = 1 then some (2, s.2.1, s.2.2) else none
def allB (f : Bool → Bool) : Bool := f false && f true
theorem allB_of {f : Bool → Bool} (h : allB f = true) (b : Bool) : f b = true := by
  unfold allB at h
  rw [Bool.and_eq_true] at h
  cases b
  · exact h.1
  · exact h.2
def upto5 (f : Nat → Bool) : Bool := f 0 && (f 1 && (f 2 && (f 3 && f 4)))
theorem upto5_of {f : Nat → Bool} (h : upto5 f = true) (k : Nat) (hk : k ≤ 4) : f k = true := by
  unfold upto5 at h
  simp only [Bool.and_eq_true] at h
  match k, hk with
  | 0, _ => exact h.1
  | 1, _ => exact h.2.1
  | 2, _ => exact h.2.2.1
  | 3, _ => exact h.2.2.2.1
  | 4, _ => exact h.2.2.2.2
theorem not_of {g : Bool} (h : (!g) = true) : g = false := by cases g <;> simp_all
theorem checkArm {g fin : Nat × Bool × Bool → Bool} (hb : ∀ s : Nat × Bool × Bool, 4 < s.1 → fin s = true) (h : (upto5 fun k => allB fun c0 => allB fun c1 => fin (k, c0, c1) || g (k, c0, c1)) = true) : ∀ s, fin s = false → g s = true := by
  rintro ⟨k, c0, c1⟩ hs
  have hk : k ≤ 4 := by
    rcases Nat.lt_or_ge 4 k with h1 | h1
    · rw [hb _ h1] at hs; cases hs
    · exact h1
  have q := allB_of (allB_of (upto5_of h k hk) c0) c1
  rw [hs, Bool.false_or] at q
  exact q
end Go.Proofs.YtjlohghknejjoaaGreatDoor
