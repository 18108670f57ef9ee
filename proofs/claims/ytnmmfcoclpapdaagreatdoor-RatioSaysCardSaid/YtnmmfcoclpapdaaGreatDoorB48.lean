/- The document's quotient. -/
import Derived.Test.YtnmmfcoclpapdaaGreatDoorBG
import Derived.Test.YtnmmfcoclpapdaaGreatDoorB46
namespace Go.Proofs.YtnmmfcoclpapdaaGreatDoor
open Go.RowKit Go.Sort Go.Shelf

set_option maxHeartbeats 4000000 in
set_option maxRecDepth 100000 in
set_option linter.unusedSimpArgs false in
theorem refQuot_any (b1 b2 i j : Nat) (qx qy : Rat) (w : World) (x : BRz w b1 0 qx) (y : BRz w b2 0 qy) (rx : RS qx i) (ry : RS qy j) (hij : i + j ≤ 400000) (hy : qy.num ≠ 0) :
    Calls Tryz.prog 28 #[.pointer (some ⟨b1, 0, none⟩), .pointer (some ⟨b2, 0, none⟩)] w (NewsZ w (qx / qy)) := by
  have k := slotR_new w
  have bA := abelow w (.cells #[.bool false, .slice none 0 0, .bool false, .slice none 0 0] 103)
  obtain ⟨W0, hW0⟩ : ∃ W, w.alloc (.cells #[.bool false, .slice none 0 0, .bool false, .slice none 0 0] 103) = W := ⟨_, rfl⟩
  obtain ⟨g, hg⟩ : ∃ g, w.heap.size = g := ⟨_, rfl⟩
  rw [hW0, hg] at k
  rw [hW0] at bA
  have HS := hide (rquoz_any g 0 b1 0 b2 0 i j qx qy W0 k (x.below bA) (y.below bA) rx ry hij hy)
  have HB := hide bA
  have HG := hide hg
  have HSG := hide (signz_any b2 0 qy w y)
  have hs : (qy.num.sign == 0) = false := by
    rw [beq_eq_false_iff_ne]
    exact fun e => hy (Int.sign_eq_zero_iff_zero.1 e)
  have HW0 := hide hW0
  clear k bA x y rx ry hij hW0 hg hy
  go_enter Tryz.func28, Tryz.ntmps28
  go_wp2_with fail
  refine (unhide HSG).mono ?_
  rintro e w1 ⟨rfl, hw⟩
  have hw := hw.symm
  subst hw
  have hW0 := unhide HW0
  have hg := unhide HG
  go_wp2_with fail
  clear hW0 hg
  refine (unhide HS).mono ?_
  rintro e w1 ⟨rfl, hr, hf⟩
  have HR := hide hr
  have HF := hide (hf w (unhide HB) (Nat.le_of_eq (unhide HG)))
  clear hr hf HS
  go_wp2
  go_ret
  exact ⟨g, rfl, Nat.le_of_eq (unhide HG), (unhide HR).z, unhide HF⟩
set_option maxHeartbeats 4000000 in
set_option maxRecDepth 100000 in
set_option linter.unusedSimpArgs false in
theorem refDivz_any (b1 b2 : Nat) (qx qy : Rat) (w : World) (y : BRz w b2 0 qy) (hy : qy = 0) :
    Calls Tryz.prog 28 #[.pointer (some ⟨b1, 0, none⟩), .pointer (some ⟨b2, 0, none⟩)] w (NewsZ w (qx / qy)) := by
  have hz : qx / qy = 0 := by rw [hy, Rat.div_def, Rat.inv_zero, Rat.mul_zero]
  rw [hz]
  have hsg := signz_any b2 0 qy w y
  rw [hy] at hsg
  have HSG := hide hsg
  have HB := hide (abelow w (.cells #[.bool false, .slice none 0 0, .bool false, .slice none 0 0] 103))
  have HZ := hide (rz_new w)
  clear y hy hsg hz
  go_enter Tryz.func28, Tryz.ntmps28
  go_wp2_with fail
  refine (unhide HSG).mono ?_
  rintro e w1 ⟨rfl, hw⟩
  have hw := hw.symm
  subst hw
  go_wp2
  go_ret
  exact ⟨_, rfl, Nat.le_refl _, unhide HZ, unhide HB⟩
end Go.Proofs.YtnmmfcoclpapdaaGreatDoor
