/- The document's difference. -/
import Derived.Test.YtcelbgleajpenaaGreatDoorBG
import Derived.Test.YtcelbgleajpenaaGreatDoorB45
namespace Go.Proofs.YtcelbgleajpenaaGreatDoor
open Go.RowKit Go.Sort Go.Shelf

set_option maxHeartbeats 4000000 in
set_option maxRecDepth 100000 in
set_option linter.unusedSimpArgs false in
theorem refSub_any (b1 b2 i j : Nat) (qx qy : Rat) (w : World) (x : BRz w b1 0 qx) (y : BRz w b2 0 qy) (rx : RS qx i) (ry : RS qy j) (hij : i + j ≤ 400000) :
    Calls Tryz.prog 44 #[.pointer (some ⟨b1, 0, none⟩), .pointer (some ⟨b2, 0, none⟩)] w (NewsZ w (qx - qy)) := by
  have k := slotR_new w
  have bA := abelow w (.cells #[.bool false, .slice none 0 0, .bool false, .slice none 0 0] 86)
  obtain ⟨W0, hW0⟩ : ∃ W, w.alloc (.cells #[.bool false, .slice none 0 0, .bool false, .slice none 0 0] 86) = W := ⟨_, rfl⟩
  obtain ⟨g, hg⟩ : ∃ g, w.heap.size = g := ⟨_, rfl⟩
  rw [hW0, hg] at k
  rw [hW0] at bA
  have HS := hide (rsub_any g 0 b1 0 b2 0 i j qx qy W0 k (x.below bA) (y.below bA) rx ry hij)
  have HB := hide bA
  have HG := hide hg
  clear k bA x y rx ry hij
  go_enter Tryz.func44, Tryz.ntmps44
  go_wp2_with fail
  clear hW0 hg
  refine (unhide HS).mono ?_
  rintro e w1 ⟨rfl, hr, hf⟩
  have HR := hide hr
  have HF := hide (hf w (unhide HB) (Nat.le_of_eq (unhide HG)))
  clear hr hf HS
  go_wp2
  go_ret
  exact ⟨g, rfl, Nat.le_of_eq (unhide HG), (unhide HR).z, unhide HF⟩
end Go.Proofs.YtcelbgleajpenaaGreatDoor
