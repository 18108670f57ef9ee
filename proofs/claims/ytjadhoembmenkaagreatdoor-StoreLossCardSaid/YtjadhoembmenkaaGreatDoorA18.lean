/- A row of fractions of the call's own, made by make and written into. -/
import Derived.Test.YtjadhoembmenkaaGreatDoorA16
import Derived.BigQuiet
import Derived.Test.YtjadhoembmenkaaGreatDoorA12
import Derived.Test.YtjadhoembmenkaaGreatDoorA14
namespace Go.Proofs.YtjadhoembmenkaaGreatDoor
open Go.RowKit Go.Sort Go.Shelf

theorem chk_zero {qs : List Rat} (h : chk qs = 0) : 0 < qs.length ∧ qs.length ≤ 101 ∧ (∀ j, j < qs.length → 0 ≤ qs[j]!.num) ∧ qsum qs qs.length = 1 := by
  unfold chk at h
  split at h
  · omega
  · rename_i h1
    split at h
    · omega
    · rename_i h2
      split at h
      · rename_i h3
        exact ⟨by omega, by omega, fun j hj => Int.not_lt.1 (fun hn => h2 ⟨j, hj, hn⟩), h3⟩
      · omega

end Go.Proofs.YtjadhoembmenkaaGreatDoor
/- chance.trimmed. -/
namespace Go.Proofs.YtjadhoembmenkaaGreatDoor
open Go.RowKit Go.Sort Go.Shelf

end Go.Proofs.YtjadhoembmenkaaGreatDoor
namespace Go.Proofs.YtjadhoembmenkaaGreatDoor
open Go.RowKit Go.Sort Go.Shelf

def zTri : Tri := ⟨false, none, none, 0, 0, 0, 0⟩

end Go.Proofs.YtjadhoembmenkaaGreatDoor
/- make of a row of fractions. -/
namespace Go.Proofs.YtjadhoembmenkaaGreatDoor
open Go.RowKit Go.Sort Go.Shelf

end Go.Proofs.YtjadhoembmenkaaGreatDoor
/- chance.Both. -/
namespace Go.Proofs.YtjadhoembmenkaaGreatDoor
open Go.RowKit Go.Sort Go.Shelf

end Go.Proofs.YtjadhoembmenkaaGreatDoor
/- The checker's coins. -/
namespace Go.Proofs.YtjadhoembmenkaaGreatDoor
open Go.RowKit Go.Sort Go.Shelf

end Go.Proofs.YtjadhoembmenkaaGreatDoor
