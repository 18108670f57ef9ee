/- A number's text. -/
import Derived.Test.YtjeddhknmoldcaaDoorW16
import Derived.Test.YtjeddhknmoldcaaDoorW19
import Derived.Laws.OwnMore
namespace Go.Proofs.YtjeddhknmoldcaaDoor
open Go.RowKit Go.Sort Go.Shelf Go.Dd

theorem append_nothing (w : World) (ty : TypeId) (p : Addr) (c : Nat) (g : Nat) :
    (Builtin.append_ #[25, 25] ty #[.slice (some ⟨g, 0, none⟩) 0 0, .slice (some p) 0 c]).run Tryd.prog (w.alloc (.cells #[] 54)) = .ok (.slice (some ⟨g, 0, none⟩) 0 0) (w.alloc (.cells #[] 54)) := by
  obtain ⟨i, hi, hz0, hz1, hz2⟩ := info_parts Tryd.info54
  simp [Builtin.append_, run_underlying Tryd.underlying25, sizeOf, typeInfo, hi, Builtin.lenOf, Builtin.firstCells, loadCells, loadCellsFrom, storeCells]

set_option maxRecDepth 100000 in
theorem clone_zero (a : Option Addr) (c : Nat) (w : World) :
    Calls Tryd.prog 34 #[.slice a 0 c] w fun e w' => ∃ a' c', e = .returned (.slice a' 0 c') ∧ Below w.heap.size w w' := by
  have q1 := fun (W : World) (a : Option Addr) (n c : Nat) => Lib.run_eql_slice_nil (P := Tryd.prog) W 25 54 a n c 0 0 Tryd.underlying25
  cases a with
  | none =>
    go_enter Tryd.func34, Tryd.ntmps34
    go_wp2
    go_ret
    exact ⟨_, _, rfl, Below.refl _ _⟩
  | some p =>
    have q2 := fun ty => append_nothing w ty p c w.heap.size
    go_enter Tryd.func34, Tryd.ntmps34
    go_wp2
    go_ret
    exact ⟨_, _, rfl, alloc_below _ _⟩

theorem head_holds {w : World} {g : Nat} {x : Int} (h : Head w g 1 (fun _ => x)) : Holds enc w g 0 #[x] := fun j hj => by
  obtain ⟨cur, hh, hc⟩ := h
  have hj0 : j = 0 := by simpa using hj
  subst hj0
  refine ⟨?_, ?_⟩
  · simp only [World.cell?, hh]
    simpa [enc] using hc 0 (by decide)
  · simp [World.frozen?, hh]

theorem dig_one {N : Int} (h0 : 0 ≤ N) (h1 : N < 18446744073709551616) : Wd.dig N 0 = N := by
  simp [Wd.dig, Wd.pw]
  omega

theorem row_of_head {w : World} {g n c : Nat} {f : Nat → Int} (h : Head w g n f) (hc : n ≤ c) (hm : c ≤ 9223372036854775807) : RowIs w (some ⟨g, 0, none⟩) n c f := by
  obtain ⟨cur, hh, hv⟩ := h
  refine ⟨hc, hm, fun _ => ⟨g, 0, rfl, (Array.getElem?_eq_some_iff.1 hh).1, fun j hj => ?_⟩⟩
  simp only [World.cell?, hh, Nat.zero_add]
  exact hv j hj

/-- One round of the parts. -/
structure PartAt (w : World) (wr : World) (N : Int) (vp : Value) : Prop where
  ex : ∃ g2 c2, vp = .slice (some ⟨g2, 0, none⟩) 1 c2 ∧ wr.cell? ⟨g2, 0, none⟩ = some (.int .u64 N)
  below : Below w.heap.size w wr

theorem owns_nil (w : World) (B : Nat) : w.ownsRow B 54 1 (.slice none 0 0) 0 [] := ⟨rfl, Or.inl ⟨rfl, rfl⟩⟩

theorem news_one {w : World} (x : Int) : ∀ j u, ([Value.int .u64 x] : List Value)[j]? = some u → (w.alloc (.cells #[.int .u64 x] 54)).cell? ((⟨w.heap.size, 0, none⟩ : Addr).add j) = some u := fun j u hu => by
  cases j with
  | zero =>
    simp at hu
    subst hu
    rw [addr_add, World.cell?_alloc_new]
    simp
  | succ j => simp at hu
end Go.Proofs.YtjeddhknmoldcaaDoor
