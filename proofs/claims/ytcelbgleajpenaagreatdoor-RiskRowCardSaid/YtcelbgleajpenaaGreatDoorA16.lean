/- Fractions appended to a row of the call's own: the spare cells hold no words, so the numbers of the fractions lie elsewhere. -/
import Derived.Test.YtcelbgleajpenaaGreatDoorA15
namespace Go.Proofs.YtcelbgleajpenaaGreatDoor
open Go.RowKit Go.Sort Go.Shelf

def notWord : Value → Prop | .int _ _ => False | _ => True
theorem Tri.notWord (t : Tri) : ∀ u ∈ t.cells, notWord u := by
  intro u hu
  simp only [Tri.cells, List.mem_cons, List.not_mem_nil, or_false] at hu
  rcases hu with rfl | rfl | rfl <;> trivial
theorem tcells_notWord (ts : List Tri) : ∀ u ∈ tcells ts, Go.Proofs.YtcelbgleajpenaaGreatDoor.notWord u := by
  intro u hu
  obtain ⟨t, _, h⟩ := List.mem_flatMap.1 hu
  exact t.notWord u h
def zR : Array Value := #[.bool false, .slice none 0 0, .slice none 0 0]
end Go.Proofs.YtcelbgleajpenaaGreatDoor
/- plain.Fs: pairs made a row of fractions. -/
namespace Go.Proofs.YtcelbgleajpenaaGreatDoor
open Go.RowKit Go.Sort Go.Shelf

theorem Tryz.infoR : (Tryz.prog.info? 37).map (fun i => (i.zero, i.size, i.bytes)) = some (some (.agg zR), 3, 56) := by kernel_rfl

theorem tri_of {w : World} {v : Value} {q : Rat} (h : RatIs w v q) : ∃ t : Tri, v = t.val ∧ RatIs w t.val q := by
  have h' := h
  obtain ⟨ov, un, rfl, ho, hu⟩ := h'
  obtain ⟨y1, y2, y3, rfl, _, _⟩ := ho
  obtain ⟨y4, y5, y6, rfl, _, _⟩ := hu
  exact ⟨⟨_, y1, y4, y2, y3, y5, y6⟩, rfl, h⟩

end Go.Proofs.YtcelbgleajpenaaGreatDoor
/- plain.Law; the checker's own sum. -/
namespace Go.Proofs.YtcelbgleajpenaaGreatDoor
open Go.RowKit Go.Sort Go.Shelf

end Go.Proofs.YtcelbgleajpenaaGreatDoor
