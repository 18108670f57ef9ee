/- Calls that share lines: all up to a number together. -/
import Derived.Test.YtigilnkcjblhcaaDoorQ5
namespace Go.Proofs.YtigilnkcjblhcaaDoor
open Go.RowKit Go.Sort Go.Shelf

def upto (qs : List Rat) (i : Nat) : Rat := qsum qs (i + 1)

set_option maxHeartbeats 8000000 in
set_option maxRecDepth 100000 in
set_option linter.unusedSimpArgs false in
theorem sums_any (v : Value) (qs : List Rat) (J : Nat) (w : World) (h : LawIs w v qs) (hq : ∀ j, j < qs.length → RS qs[j]! J) (hJ : (qs.length * (J + 1) + 1 + J) + (qs.length * (J + 1) + 1 + J) + 1 ≤ KK) (hl : qs.length ≤ 1000) :
    Calls Tryd.prog 43 #[v] w fun e w' => ∃ v, e = .returned v ∧ LawIs w' v (row (upto qs) qs.length) ∧ Below w.heap.size w w' := by
  obtain ⟨a, c, rfl, h1, h2, h3⟩ := h
  have H3 := hide h3
  have HQ := hide hq
  have qmk := make_ratios (qs.length : Int) (by omega) (by omega) w
  rw [Int.toNat_natCast] at qmk
  have S0 := SumsAt.start w w qs.length (Below.refl _ _)
  rw [fill_zero (upto qs) qs.length] at S0
  obtain ⟨W0, hW0⟩ : ∃ W, w.alloc (.cells (tcells (List.replicate qs.length zTri)).toArray 34) = W := ⟨_, rfl⟩
  obtain ⟨G, hG⟩ : ∃ G, w.heap.size = G := ⟨_, rfl⟩
  rw [hW0, hG] at qmk S0
  have X0 := BoxIs.new (w := W0) (t := zTri) (q := 0) (rat_zero _)
  have S1 := S0.keep (alloc_below W0 (.cells #[.bool false, .slice none 0 0, .slice none 0 0] 34))
  have hGs : G < W0.heap.size := (Array.getElem?_eq_some_iff.1 S0.row).1
  obtain ⟨W1, hW1⟩ : ∃ W, W0.alloc (.cells #[.bool false, .slice none 0 0, .slice none 0 0] 34) = W := ⟨_, rfl⟩
  obtain ⟨bs, hbs⟩ : ∃ b, W0.heap.size = b := ⟨_, rfl⟩
  have X1 : BoxIs W1 bs zTri 0 := by rw [← hW1, ← hbs]; exact X0
  rw [hW1] at S1
  rw [hbs] at hGs
  have HS0 := hide S1
  have HX0 := hide X1
  have HNE := hide (Nat.ne_of_gt hGs)
  have HGB : Hid (w.heap.size ≤ bs) := by show _ ≤ _; omega
  have HGE := hide hG
  clear h3 hq S0 X0 S1 X1
  go_enter Tryd.func43, Tryd.ntmps43
  go_wp2_with fail
  clear qmk hW0 hW1 hbs hG hGs
  go_loopw [12] (fun vi wr => ∃ (i : Nat) (us : List Tri) (t : Tri), vi = .int .i64 (i : Int) ∧ i ≤ qs.length ∧ SumsAt w wr G us (fill (upto qs) qs.length i) ∧ BoxIs wr bs t (qsum qs i)) (fun vi _ => qs.length - (intOf vi).toNat)
  case atStart => exact ⟨0, _, _, rfl, Nat.zero_le _, unhide HS0, unhide HX0⟩
  case round =>
    obtain ⟨i, us, t, rfl, hi, S, X⟩ := hrel
    have hul : us.length = qs.length := by rw [S.len, fill_length]
    clear HS0 HX0
    by_cases hlt : i < qs.length
    · obtain ⟨b, o, rfl, hblt, hcs⟩ := unhide H3 (by omega)
      obtain ⟨xs, xp1, xp2, xn1, xd1, xn2, xd2, xk0, xk1, xk2, xr⟩ := hcs i hlt
      obtain ⟨tx, rfl, rfl, rfl, rfl, rfl, rfl, rfl⟩ : ∃ t : Tri, xs = t.s ∧ xp1 = t.a1 ∧ xp2 = t.a2 ∧ xn1 = t.n1 ∧ xd1 = t.c1 ∧ xn2 = t.n2 ∧ xd2 = t.c2 := ⟨⟨xs, xp1, xp2, xn1, xd1, xn2, xd2⟩, rfl, rfl, rfl, rfl, rfl, rfl, rfl⟩
      rw [← S.bl.cell (p := ⟨b, o + i * 3, none⟩) hblt] at xk0
      rw [← S.bl.cell (p := ⟨b, o + i * 3 + 1, none⟩) hblt] at xk1
      rw [← S.bl.cell (p := ⟨b, o + i * 3 + 2, none⟩) hblt] at xk2
      have Y0 := BoxIs.new (t := tx) (xr.below S.bl)
      have bA := alloc_below wr (.cells #[.bool tx.s, .slice tx.a1 tx.n1 tx.c1, .slice tx.a2 tx.n2 tx.c2] 34)
      have S1 := S.keep bA
      have X1 := X.keep bA
      have hbg : bs < wr.heap.size := X.lt
      have hGg : G < wr.heap.size := (Array.getElem?_eq_some_iff.1 S.row).1
      obtain ⟨W2, hW2⟩ : ∃ W, wr.alloc (.cells #[.bool tx.s, .slice tx.a1 tx.n1 tx.c1, .slice tx.a2 tx.n2 tx.c2] 34) = W := ⟨_, rfl⟩
      obtain ⟨g, hg⟩ : ∃ g, wr.heap.size = g := ⟨_, rfl⟩
      rw [hW2] at Y0 S1 X1
      rw [hg] at Y0 hbg hGg
      have HS1 := hide S1
      have HX1 := hide X1
      have e1 : (i : Int) < (qs.length : Int) := by omega
      have e0 : (0 : Int) ≤ (i : Int) := by omega
      have HAD := hide (addR_any t.val tx.val (qsum qs i) qs[i]! W2 X1.2 Y0.2 (qs.length * (J + 1) + 1 + J) ((qsum_RS (unhide HQ) i hi).mono (by have := Nat.mul_le_mul_right (J + 1) hi; omega)) ((unhide HQ i hlt).mono (by omega)) hJ)
      simp only [Tri.val] at HAD
      have ⟨c0, c1, c2⟩ := Y0.cells _ (Below.refl _ _)
      have ⟨c3, c4, c5⟩ := X1.cells _ (Below.refl _ _)
      clear S X Y0 S1 X1 bA xr hcs
      go_wp2_with fail
      clear hW2 hg xk0 xk1 xk2
      refine (unhide HAD).mono ?_
      rintro e xw ⟨xv, rfl, hv, hb⟩
      obtain ⟨ta, rfl, ra⟩ := tri_of hv
      simp only [Tri.val]
      have S2 := (unhide HS1).keep hb
      have X2 := (unhide HX1).keep hb
      have ⟨l0, l1, l2⟩ := X2.free
      have ⟨y0, y1, y2⟩ := X2.cells _ (Below.refl _ _)
      have NX := X2.set ra
      have NS : SumsAt w _ G us (fill (upto qs) qs.length i) := ⟨by rw [Below.heap_setCell _ _ _ _ (fun e => unhide HNE e.symm), Below.heap_setCell _ _ _ _ (fun e => unhide HNE e.symm), Below.heap_setCell _ _ _ _ (fun e => unhide HNE e.symm)]; exact S2.row, S2.len, fun j hj => (S2.rat j hj).boxSet X2 (.bool ta.s) (.slice ta.a1 ta.n1 ta.c1) (.slice ta.a2 ta.n2 ta.c2), ((S2.bl.setCell (p := ⟨bs, 0, none⟩) (unhide HGB) (.bool ta.s)).setCell (p := ⟨bs, 1, none⟩) (unhide HGB) (.slice ta.a1 ta.n1 ta.c1)).setCell (p := ⟨bs, 2, none⟩) (unhide HGB) (.slice ta.a2 ta.n2 ta.c2), S2.gl⟩
      obtain ⟨W3, hW3⟩ : ∃ W, ((xw.setCell ⟨bs, 0, none⟩ (.bool ta.s)).setCell ⟨bs, 1, none⟩ (.slice ta.a1 ta.n1 ta.c1)).setCell ⟨bs, 2, none⟩ (.slice ta.a2 ta.n2 ta.c2) = W := ⟨_, rfl⟩
      rw [hW3] at NX NS
      have ⟨x0, x1, x2⟩ := NX.cells _ (Below.refl _ _)
      have ⟨⟨z0, z1, z2⟩, m0, m1, m2⟩ := NS.cells i (by omega)
      have FZ := NS.set i (by omega) ta (upto qs i) NX.2
      rw [fill_set (upto qs)] at FZ
      have FX := NX.rowed NS.row (unhide HNE) (i * 3) (i * 3 + 1) (i * 3 + 2) (.bool ta.s) (.slice ta.a1 ta.n1 ta.c1) (.slice ta.a2 ta.n2 ta.c2)
      obtain ⟨W4, hW4⟩ : ∃ W, ((W3.setCell ⟨G, i * 3, none⟩ (.bool ta.s)).setCell ⟨G, i * 3 + 1, none⟩ (.slice ta.a1 ta.n1 ta.c1)).setCell ⟨G, i * 3 + 2, none⟩ (.slice ta.a2 ta.n2 ta.c2) = W := ⟨_, rfl⟩
      rw [hW4] at FZ FX
      have HFS := hide FZ
      have HFX : Hid (BoxIs W4 bs ta (qsum qs (i + 1))) := FX
      clear S2 X2 NX NS FZ FX ra hb hv HAD HS1 HX1 c0 c1 c2 c3 c4 c5
      go_wp2_with fail
      exact ⟨⟨i + 1, us.set i ta, ta, by go_num, hlt, unhide HFS, unhide HFX⟩, by simp [intOf]; omega⟩
    · obtain rfl : i = qs.length := by omega
      have e1 : ¬ (qs.length : Int) < (qs.length : Int) := by omega
      have LW := S.law (by omega)
      rw [hul] at LW
      have HLW := hide LW
      have HBB := hide S.bl
      clear S X LW
      go_wp2
      go_ret
      exact ⟨_, rfl, unhide HLW, unhide HBB⟩
end Go.Proofs.YtigilnkcjblhcaaDoor
