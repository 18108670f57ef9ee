/- Hidden states: seen. -/
import Derived.Test.YtfnbjenneodcdaaGreatDoorBL21
namespace Go.Proofs.YtfnbjenneodcdaaGreatDoor
open Go.RowKit Go.Sort Go.Shelf

def seenA (n : Nat) (A : Nat → Nat → Rat) : Nat → Rat
  | 0 => 1
  | t + 1 => Bth.ps (A t) n
set_option maxHeartbeats 16000000 in
set_option maxRecDepth 100000 in
set_option linter.unusedSimpArgs false in
theorem seen_any (v : Value) (T n J : Nat) (A : Nat → Nat → Rat) (w : World) (h : RowsAre w v (mrows T n A)) (hT : T ≤ 1000) (_hn : n ≤ 1000) (hRz : ∀ t i, t < T → i < n → RS (A t i) J) (hJ : (n * (J + 1) + 1 + J) + (n * (J + 1) + 1 + J) + 1 ≤ KK) :
    Calls Tryz.prog 47 #[v] w fun e w' => ∃ v, e = .returned v ∧ RatIs w' v (seenA n A T) ∧ Below w.heap.size w w' := by
  have hA : ∃ l : Sl, v = l.val ∧ RowsAre w l.val (mrows T n A) := by
    obtain ⟨a, c, e, h1⟩ := h
    exact ⟨(a, (mrows T n A).length, c), e, a, c, rfl, h1⟩
  obtain ⟨l, rfl, hl⟩ := hA
  have hln := rows_len hl
  rw [mrows_length] at hln
  have HL := hide hl
  have hcap : T ≤ l.c ∧ l.c ≤ 9223372036854775807 := by
    obtain ⟨a, c, e, h1, h2, _⟩ := hl
    have e1 : l.c = c := by injection e
    rw [mrows_length] at h1
    rw [e1]; exact ⟨h1, h2⟩
  obtain ⟨hcap1, hcap2⟩ := hcap
  have hR' := hide hRz
  have hJ' := hide hJ
  simp only [Sl.val]
  rw [hln]
  have b0 := alloc_below w (.cells #[.bool false, .slice none 0 0, .slice none 0 0] 26)
  have X0 := BoxIs.new (w := w) (t := zTri) (q := 0) (rat_zero _)
  obtain ⟨W0, hW0⟩ : ∃ W, w.alloc (.cells #[.bool false, .slice none 0 0, .slice none 0 0] 26) = W := ⟨_, rfl⟩
  obtain ⟨R, hR⟩ : ∃ R, w.heap.size = R := ⟨_, rfl⟩
  have X0' : BoxIs W0 R zTri 0 := by rw [← hW0, ← hR]; exact X0
  rw [hW0] at b0
  have HX : Hid (∀ W, Below W0.heap.size W0 W → BoxIs W R zTri 0) := fun W hW => X0'.keep hW
  have HBW : Hid (∀ W, Below W0.heap.size W0 W → Below w.heap.size w W) := fun W hW => below_step b0 hW
  have HG : Hid (w.heap.size ≤ R) := by show _ ≤ R; rw [hR]; exact Nat.le_refl _
  have HB0 := hide b0
  clear X0 X0' b0
  clear h hl hln hRz hJ
  go_enter Tryz.func47, Tryz.ntmps47
  by_cases hT0 : T = 0
  · subst hT0
    have e0 : (((0 : Nat) : Int) == 0) = true := rfl
    go_wp2_with fail
    clear hW0 hR
    refine (whole_any 1 (by decide) (by decide) W0).mono ?_
    rintro e w1 ⟨v1, rfl, hv1, hb1⟩
    obtain ⟨t1, rfl, r1⟩ := tri_of hv1
    simp only [Tri.val]
    have Y := unhide HX _ hb1
    have ⟨l0, l1, l2⟩ := Y.free
    have ⟨y0, y1, y2⟩ := Y.cells _ (Below.refl _ _)
    have FIN := Y.set r1
    have FB := (((unhide HBW _ hb1).setCell (p := ⟨R, 0, none⟩) (unhide HG) (.bool t1.s)).setCell (p := ⟨R, 1, none⟩) (unhide HG) (.slice t1.a1 t1.n1 t1.c1)).setCell (p := ⟨R, 2, none⟩) (unhide HG) (.slice t1.a2 t1.n2 t1.c2)
    obtain ⟨Wf, hWf⟩ : ∃ W, ((w1.setCell ⟨R, 0, none⟩ (.bool t1.s)).setCell ⟨R, 1, none⟩ (.slice t1.a1 t1.n1 t1.c1)).setCell ⟨R, 2, none⟩ (.slice t1.a2 t1.n2 t1.c2) = W := ⟨_, rfl⟩
    rw [hWf] at FIN FB
    have HFIN := hide FIN
    have HFB := hide FB
    have ⟨x0, x1, x2⟩ := FIN.cells _ (Below.refl _ _)
    clear Y FIN FB
    go_wp2
    (try simp only [Exit.inBlock, Exit.then])
    exact bodyPost_ret (v := .agg #[.bool t1.s, .slice t1.a1 t1.n1 t1.c1, .slice t1.a2 t1.n2 t1.c2]) (by simp [results, Tryz.results47, go_sem, x0, x1, x2]) rfl ⟨_, rfl, (unhide HFIN).2, unhide HFB⟩
  · obtain ⟨u, hu⟩ : ∃ u, T = u + 1 := ⟨T - 1, by omega⟩
    have e0 : ((T : Int) == 0) = false := by rw [beq_eq_false_iff_ne]; omega
    have e1 : IntKind.i64.wrap ((T : Int) - 1) = (u : Int) := by rw [IntKind.wrap_i64]; omega
    have u1 : (u : Int) < (T : Int) := by omega
    have u0 : (0 : Int) ≤ (u : Int) := by omega
    have hml : u < (mrows T n A).length := by rw [mrows_length]; omega
    obtain ⟨bq, oq, mq, hqa, hbq, k0, hA⟩ := ((unhide HL).below (unhide HB0)).at hml
    rw [mrows_get (by omega)] at hA
    have HSU := hide (sumR_any mq.val (row (A u) n) J W0 hA (fun j hj => by
      rw [row_length] at hj
      rw [row_get hj]; exact unhide hR' u j (by omega) hj) (by rw [row_length]; exact unhide hJ'))
    simp only [Sl.val] at HSU
    have HV : Hid (qsum (row (A u) n) (row (A u) n).length = seenA n A T) := by
      show _ = seenA n A T
      rw [hu, row_length, qsum_row _ _ n (Nat.le_refl _)]; rfl
    rw [unhide HV] at HSU
    rw [hqa]
    clear hu hml hqa hbq hA hT0
    go_wp2_with fail
    clear hW0 hR k0
    refine (unhide HSU).mono ?_
    rintro e w1 ⟨v1, rfl, hv1, hb1⟩
    obtain ⟨t1, rfl, r1⟩ := tri_of hv1
    simp only [Tri.val]
    have Y := unhide HX _ hb1
    have ⟨l0, l1, l2⟩ := Y.free
    have ⟨y0, y1, y2⟩ := Y.cells _ (Below.refl _ _)
    have FIN := Y.set r1
    have FB := (((unhide HBW _ hb1).setCell (p := ⟨R, 0, none⟩) (unhide HG) (.bool t1.s)).setCell (p := ⟨R, 1, none⟩) (unhide HG) (.slice t1.a1 t1.n1 t1.c1)).setCell (p := ⟨R, 2, none⟩) (unhide HG) (.slice t1.a2 t1.n2 t1.c2)
    obtain ⟨Wf, hWf⟩ : ∃ W, ((w1.setCell ⟨R, 0, none⟩ (.bool t1.s)).setCell ⟨R, 1, none⟩ (.slice t1.a1 t1.n1 t1.c1)).setCell ⟨R, 2, none⟩ (.slice t1.a2 t1.n2 t1.c2) = W := ⟨_, rfl⟩
    rw [hWf] at FIN FB
    have HFIN := hide FIN
    have HFB := hide FB
    have ⟨x0, x1, x2⟩ := FIN.cells _ (Below.refl _ _)
    clear Y FIN FB
    go_wp2
    (try simp only [Exit.inBlock, Exit.then])
    exact bodyPost_ret (v := .agg #[.bool t1.s, .slice t1.a1 t1.n1 t1.c1, .slice t1.a2 t1.n2 t1.c2]) (by simp [results, Tryz.results47, go_sem, x0, x1, x2]) rfl ⟨_, rfl, (unhide HFIN).2, unhide HFB⟩

end Go.Proofs.YtfnbjenneodcdaaGreatDoor
