/- Stays. -/
import Derived.Test.YtbboacmjbffmhaaGreatDoorS6
namespace Go.Proofs.YtbboacmjbffmhaaGreatDoor
open Go.RowKit Go.Sort Go.Shelf

def StaysPost (w : World) (ks : List (Rat × List Rat)) (e : Ending) (w' : World) : Prop :=
  (FitC ks ∧ ∃ v, e = .returned (.tuple #[v, .nilIface]) ∧ LawIs w' v (row (staysC ks) ks.length) ∧ Below w.heap.size w w') ∨
  (¬ FitC ks ∧ ∃ k : Int, e = .returned (.tuple #[.slice none 0 0, .iface 56 (.int .i64 k)]) ∧ Below w.heap.size w w')

end Go.Proofs.YtbboacmjbffmhaaGreatDoor
