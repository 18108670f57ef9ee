/- The checker asks whether a fraction is the one it wants, or an error. -/
import Derived.Test.YtfpmgnlddlcpoaaGreatDoorB16
import Derived.Test.YtfpmgnlddlcpoaaGreatDoorT1
namespace Go.Proofs.YtfpmgnlddlcpoaaGreatDoor
open Go.RowKit Go.Sort Go.Shelf

set_option maxHeartbeats 4000000 in
set_option maxRecDepth 100000 in
set_option linter.unusedSimpArgs false in
theorem one_nil (v : Value) (q : Rat) (bw : Nat) (w : World) (h : RatIs w v q) (hn : (q.num.natAbs : Int) < 10000000000000000000) (hd : (q.den : Int) < 10000000000000000000) (htab : Tab w) (x : BRat w bw 0 q) (t1 : Txt q.num) (t2 : Txt (q.den : Int)) :
    Calls Tryz.prog 5 #[v, .nilIface, .pointer (some ⟨bw, 0, none⟩), .int .i64 0] w fun e w' => e = .returned (.bool true) ∧ Below w.heap.size w w' := by
  have h' := h
  obtain ⟨ov, un, rfl, ho, hu⟩ := h'
  obtain ⟨y1, y2, y3, rfl, _, _⟩ := ho
  obtain ⟨u1, u2, u3, rfl, _, _⟩ := hu
  have bA := abelow w (.cells #[.bool (decide (q.num < 0)), .slice y1 y2 y3, .slice u1 u2 u3] 25)
  have hT := textR_small _ q _ (h.below bA) hn hd (tab_below htab bA)
  have hR : ∀ W, Below w.heap.size w W → Calls Tryz.prog 10 #[.pointer (some ⟨bw, 0, none⟩)] W fun e w' => e = .returned (.string ⟨(qtext q).toArray⟩) ∧ Below W.heap.size W w' := fun W hW => refText_any bw 0 q W (x.below hW) t1 t2
  obtain ⟨R, hRR⟩ : ∃ R, qtext q = R := ⟨_, rfl⟩
  rw [hRR] at hT hR
  obtain ⟨s, hs⟩ : ∃ s, decide (q.num < 0) = s := ⟨_, rfl⟩
  rw [hs] at hT bA ⊢
  have HT := hide hT
  have HR := hide hR
  have HB := hide bA
  clear h hT hR bA hRR hs t1 t2 x hn hd htab
  go_enter Tryz.func5, Tryz.ntmps5
  go_wp2_with fail
  refine (unhide HT).mono ?_
  rintro e w1 ⟨rfl, hb1⟩
  have HB1 := hide (bstep (unhide HB) hb1)
  clear hb1 HT HB
  go_wp2_with fail
  refine (unhide HR _ (unhide HB1)).mono ?_
  rintro e w2 ⟨rfl, hb2⟩
  have HB2 := hide (bstep (unhide HB1) hb2)
  clear hb2 HR HB1
  go_wp2
  go_ret
  exact ⟨rfl, unhide HB2⟩

set_option maxHeartbeats 4000000 in
set_option maxRecDepth 100000 in
set_option linter.unusedSimpArgs false in
theorem one_err (v : Value) (bw : Nat) (k : Int) (hk : k ≠ 0) (w : World) (h : RatIs w v 0) (htab : Tab w) (hg : ErrTy w) :
    Calls Tryz.prog 5 #[v, .iface 30 (.int .i64 k), .pointer (some ⟨bw, 0, none⟩), .int .i64 k] w fun e w' => e = .returned (.bool true) ∧ Below w.heap.size w w' := by
  obtain ⟨q, hq⟩ : ∃ q : Rat, 0 = q := ⟨_, rfl⟩
  rw [hq] at h
  have h' := h
  obtain ⟨ov, un, rfl, ho, hu⟩ := h'
  obtain ⟨y1, y2, y3, rfl, _, _⟩ := ho
  obtain ⟨u1, u2, u3, rfl, _, _⟩ := hu
  have bA := abelow w (.cells #[.bool (decide (q.num < 0)), .slice y1 y2 y3, .slice u1 u2 u3] 25)
  have hL := tell_errno k _ (hg.below bA)
  have hT : ∀ W, Below w.heap.size w W → Calls Tryz.prog 9 #[.agg #[.bool (decide (q.num < 0)), .slice y1 y2 y3, .slice u1 u2 u3]] W fun e w' => e = .returned (.string ⟨#[48]⟩) ∧ Below W.heap.size W w' := fun W hW => (textR_small _ q W (h.below hW) (by rw [← hq]; decide) (by rw [← hq]; decide) (tab_below htab hW)).mono (by
    rintro e w' ⟨rfl, hb⟩
    refine ⟨?_, hb⟩
    rw [← hq, show qtext 0 = [48] by unfold qtext upperText; simp [dec_zero]])
  have hC : ∀ W, Below (w.alloc (.cells #[.bool (decide (q.num < 0)), .slice y1 y2 y3, .slice u1 u2 u3] 25)).heap.size (w.alloc (.cells #[.bool (decide (q.num < 0)), .slice y1 y2 y3, .slice u1 u2 u3] 25)) W → W.cell? ⟨w.heap.size, 0, none⟩ = some (.bool (decide (q.num < 0))) ∧ W.cell? ⟨w.heap.size, 1, none⟩ = some (.slice y1 y2 y3) ∧ W.cell? ⟨w.heap.size, 2, none⟩ = some (.slice u1 u2 u3) := fun W hW => by
    have hlt : w.heap.size < (w.alloc (.cells #[.bool (decide (q.num < 0)), .slice y1 y2 y3, .slice u1 u2 u3] 25)).heap.size := by simp
    refine ⟨?_, ?_, ?_⟩
    · rw [hW.cell (p := ⟨w.heap.size, 0, none⟩) hlt]; simp
    · rw [hW.cell (p := ⟨w.heap.size, 1, none⟩) hlt]; simp
    · rw [hW.cell (p := ⟨w.heap.size, 2, none⟩) hlt]; simp
  obtain ⟨s, hs⟩ : ∃ s, decide (q.num < 0) = s := ⟨_, rfl⟩
  rw [hs] at hT hL bA hC ⊢
  have HT := hide hT
  have HL := hide hL
  have HB := hide bA
  have HC := hide hC
  have kz : (k != 0) = true := by simpa using hk
  clear h hT hL bA hs htab hg hC hk hq
  go_enter Tryz.func5, Tryz.ntmps5
  go_wp2_with fail
  refine (unhide HL).mono ?_
  rintro e w1 ⟨rfl, hb1⟩
  have ⟨z0, z1, z2⟩ := unhide HC _ hb1
  have HB1 := hide (bstep (unhide HB) hb1)
  clear hb1 HL HB HC
  go_wp2_with fail
  refine (unhide HT _ (unhide HB1)).mono ?_
  rintro e w2 ⟨rfl, hb2⟩
  have HB2 := hide (bstep (unhide HB1) hb2)
  clear hb2 HT HB1
  go_wp2
  go_ret
  exact ⟨rfl, unhide HB2⟩
end Go.Proofs.YtfpmgnlddlcpoaaGreatDoor
