/- walk.divided; orders of two calls and one box. -/
import Derived.Test.YtjadhoembmenkaaGreatDoorX1
import Derived.Test.YtjadhoembmenkaaGreatDoorX2
import Derived.Test.YtjadhoembmenkaaGreatDoorA15
namespace Go.Proofs.YtjadhoembmenkaaGreatDoor
open Go.RowKit Go.Sort Go.Shelf

theorem wpHold_listed {P : Program} {md : Region.Mode} {ops : Array Oper} {Q : Exit → Act → World → Prop} {C : World → Prop} {m n : Nat} {L L' : Array Bool} {a : Act} {w : World} (hn : m = n) (h : L = L') (H : wpHold P md ops Q C n L' a w) : wpHold P md ops Q C m L a w := by subst hn; subst h; exact H
theorem wpHold_name {P : Program} {md : Region.Mode} {ops : Array Oper} {Q : Exit → Act → World → Prop} {C : World → Prop} {n : Nat} {L : Array Bool} {a : Act} {w : World} (H : ∀ a0, a0 = a → wpHold P md ops Q C n L a0 w) : wpHold P md ops Q C n L a w := H a rfl

end Go.Proofs.YtjadhoembmenkaaGreatDoor
