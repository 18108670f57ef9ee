/- The checker's rows of words of 32 bits that it makes itself; a sum. -/
import Derived.Test.YtfpmgnlddlcpoaaGreatDoorB1
import Derived.Laws.MakeOwn
import Derived.Sort.Row
namespace Go.Proofs.YtfpmgnlddlcpoaaGreatDoor
open Go.RowKit Go.Sort

def halves (xs : List Int) : List Value := xs.map (.int .u32 ·)
theorem halves_get {xs : List Int} {j : Nat} (h : j < xs.length) : (halves xs)[j]? = some (.int .u32 xs[j]!) := by simp [halves, h]
theorem Tryz.infoH : (Tryz.prog.info? 127).map (fun i => (i.zero, i.size, i.bytes)) = some (some (.int .u32 0), 1, 4) := by kernel_rfl

theorem make_halves (k : Nat) (h1 : k ≤ 1099511627776) (w : World) :
    (Instr.makeSlice 45 (.int .i64 (k : Int)) (.int .i64 (k : Int))).run Tryz.prog w = .ok (.slice (some ⟨w.heap.size, 0, none⟩) k k) (w.alloc (.cells (halves (List.replicate k 0)).toArray 127)) := by
  obtain ⟨i, hi, hz0, hz1, hz2⟩ := info_parts Tryz.infoH
  have e : madeCells (Value.int .u32 0).cells ((k : Int).toNat * i.size) = (halves (List.replicate k 0)).toArray := by
    rw [hz1]
    apply Array.ext
    · simp [madeCells, halves]
    · intro j h1 h2
      simp [madeCells, halves, Value.cells, Nat.mod_one]
  rw [run_make w 45 127 i (.int .u32 0) Tryz.underlying45 hi hz0 .i64 .i64 k k (by omega) (Int.le_refl _) (by rw [hz2]; omega) (by omega), e]
  simp

/-- A row of the call's own in block g. -/
structure HOwn (w wr : World) (g : Nat) (xs : List Int) : Prop where
  row : wr.heap[g]? = some (.cells (halves xs).toArray 127)
  bl : Below w.heap.size w wr
  gl : w.heap.size ≤ g

theorem HOwn.start (w : World) (k : Nat) : HOwn w (w.alloc (.cells (halves (List.replicate k 0)).toArray 127)) w.heap.size (List.replicate k 0) :=
  ⟨by rw [show (w.alloc (.cells (halves (List.replicate k 0)).toArray 127)).heap = w.heap.push (.cells (halves (List.replicate k 0)).toArray 127) from rfl, Array.getElem?_push_size], (Below.refl _ _).alloc (Nat.le_refl _) _, Nat.le_refl _⟩
theorem HOwn.lt {w wr : World} {g : Nat} {xs : List Int} (h : HOwn w wr g xs) : g < wr.heap.size := (Array.getElem?_eq_some_iff.1 h.row).1
theorem HOwn.cell {w wr : World} {g : Nat} {xs : List Int} (h : HOwn w wr g xs) {j : Nat} (hj : j < xs.length) : wr.cell? ⟨g, j, none⟩ = some (.int .u32 xs[j]!) ∧ wr.frozen? ⟨g, j, none⟩ = false := by
  refine ⟨?_, by simp [World.frozen?, h.row]⟩
  simp only [World.cell?, h.row]
  have := halves_get (xs := xs) hj
  simpa using this
theorem HOwn.set {w wr : World} {g : Nat} {xs : List Int} (h : HOwn w wr g xs) (j : Nat) (x : Int) : HOwn w (wr.setCell ⟨g, j, none⟩ (.int .u32 x)) g (xs.set j x) := by
  refine ⟨?_, h.bl.setCell h.gl _, h.gl⟩
  rw [setCell_eq]
  simp only [mapBlock, Array.getElem?_modify, h.row, if_true, Option.map_some, onCells]
  simp [halves, List.map_set]
theorem HOwn.drew {w wr : World} {g : Nat} {xs : List Int} (h : HOwn w wr g xs) (k : Nat) : HOwn w (wr.drewN k) g xs := ⟨h.row, ⟨h.bl.os, h.bl.tape, h.bl.output, h.bl.size, h.bl.block⟩, h.gl⟩
theorem HOwn.hrow {w wr : World} {g : Nat} {xs : List Int} (h : HOwn w wr g xs) (hl : xs.length ≤ 9223372036854775807) : HRow wr (some ⟨g, 0, none⟩) xs.length xs.length (fun j => xs[j]!) :=
  ⟨Nat.le_refl _, hl, fun _ => ⟨g, 0, rfl, h.lt, fun j hj => by rw [Nat.zero_add]; exact (h.cell hj).1⟩⟩

end Go.Proofs.YtfpmgnlddlcpoaaGreatDoor
