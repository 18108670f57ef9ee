/-
  No cell of these rows narrows 'for every input' (looked for: loops, veiled, ifaces, maps, wideKeys, modest, calm, conditions, laid).
  DERIVED. THE GIVEN ROWS OF THIS SEAT. 5 by the template 'for every input the law returns true; each argument reads behind the call as it read before'; 0 by the template 'total and deterministic' (their statements: YtfebbjbobogkcaaTotals.lean).
  GIVEN WITH THE SEED: the statements are not yours to turn. If you find one false, say at which input.
  Laid BY PROGRAM, IN A SANDBOX (cutbox-rows.mjs): the forced cells as the released guide's own fill.sh prints them over the translation 9905135f628c06bd… (all of the seat's roots in one cut). By AI agents, Wed Nov 11 2026. No macro, syntax, notation, axiom, sorry.
-/
import Derived.Test.YtfebbjbobogkcaaChecked
import GoSem.Claim
import GoSem.ClaimJoined
import GoSem.ClaimMapViews
import Derived.JoinedTies
import Derived.KernelRfl
namespace Go.Proofs.Ytfebbjbobogkcaa
/- THE CELL 'sum', in the pinned program and in every row, IS THE sha256 OF THE DUMP (.gsa) THAT YtfebbjbobogkcaaProg.lean LOADS. Nothing in Lean hashes anything: it is a label: what it is worth is what the hold of that sum in a sandbox is worth. -/
noncomputable def Try.pinned : Pinned := { name := "ytfebbjbobogkcaa", sum := "9905135f628c06bd53fdee554cd5493640b24ebc90ee1e66528db0b449c2771c", checked := Try.checked }
namespace Rows
def none {H : Type} : Left H := { results := [], args := [] }

/-- 'foresightlaw.PathEnds': WHATEVER THE INPUT: true; the input reads as it did. -/
def pathEndsSpec : ChangeSpec := { name := "pathEnds", fn := fun _ => fun
  | [d1, d2, d3] => { results := [.lit (.bool true)], args := [d1, d2, d3] }
  | _ => none }
def pathEndsRow : OpenClaim := { program := "ytfebbjbobogkcaa", sum := "9905135f628c06bd53fdee554cd5493640b24ebc90ee1e66528db0b449c2771c", func := "foresight/foresightlaw.PathEnds", spec := "pathEnds", apart := false }
def PathEndsSaid : Prop := pathEndsRow.holds Try.pinned (OpenSpec.ofChange pathEndsSpec)

/-- ITS FALSE NEIGHBOUR: 'it returns false'. Refute it at one input. -/
def pathEndsWrong : ChangeSpec := { name := "pathEnds", fn := fun _ => fun
  | [d1, d2, d3] => { results := [.lit (.bool false)], args := [d1, d2, d3] }
  | _ => none }
def PathEndsWrongFalsely : Prop := pathEndsRow.holds Try.pinned (OpenSpec.ofChange pathEndsWrong)

/-- 'foresightkeep.PathLindley': WHATEVER THE INPUT: true; the input reads as it did. -/
def pathLindleySpec : ChangeSpec := { name := "pathLindley", fn := fun _ => fun
  | [d] => { results := [.lit (.bool true)], args := [d] }
  | _ => none }
def pathLindleyRow : OpenClaim := { program := "ytfebbjbobogkcaa", sum := "9905135f628c06bd53fdee554cd5493640b24ebc90ee1e66528db0b449c2771c", func := "foresight/foresightkeep.PathLindley", spec := "pathLindley", unfollowed := true, recurses := true, apart := false }
def PathLindleySaid : Prop := pathLindleyRow.holds Try.pinned (OpenSpec.ofChange pathLindleySpec)

/-- ITS FALSE NEIGHBOUR: 'it returns false'. Refute it at one input. -/
def pathLindleyWrong : ChangeSpec := { name := "pathLindley", fn := fun _ => fun
  | [d] => { results := [.lit (.bool false)], args := [d] }
  | _ => none }
def PathLindleyWrongFalsely : Prop := pathLindleyRow.holds Try.pinned (OpenSpec.ofChange pathLindleyWrong)

/-- 'foresightkeep.PathLittle': WHATEVER THE INPUT: true; the input reads as it did. -/
def pathLittleSpec : ChangeSpec := { name := "pathLittle", fn := fun _ => fun
  | [d1, d2] => { results := [.lit (.bool true)], args := [d1, d2] }
  | _ => none }
def pathLittleRow : OpenClaim := { program := "ytfebbjbobogkcaa", sum := "9905135f628c06bd53fdee554cd5493640b24ebc90ee1e66528db0b449c2771c", func := "foresight/foresightkeep.PathLittle", spec := "pathLittle", unfollowed := true, recurses := true, apart := false }
def PathLittleSaid : Prop := pathLittleRow.holds Try.pinned (OpenSpec.ofChange pathLittleSpec)

/-- ITS FALSE NEIGHBOUR: 'it returns false'. Refute it at one input. -/
def pathLittleWrong : ChangeSpec := { name := "pathLittle", fn := fun _ => fun
  | [d1, d2] => { results := [.lit (.bool false)], args := [d1, d2] }
  | _ => none }
def PathLittleWrongFalsely : Prop := pathLittleRow.holds Try.pinned (OpenSpec.ofChange pathLittleWrong)

/-- 'foresightkeep.PathWork': WHATEVER THE INPUT: true; the input reads as it did. -/
def pathWorkSpec : ChangeSpec := { name := "pathWork", fn := fun _ => fun
  | [d1, d2, d3, d4] => { results := [.lit (.bool true)], args := [d1, d2, d3, d4] }
  | _ => none }
def pathWorkRow : OpenClaim := { program := "ytfebbjbobogkcaa", sum := "9905135f628c06bd53fdee554cd5493640b24ebc90ee1e66528db0b449c2771c", func := "foresight/foresightkeep.PathWork", spec := "pathWork", unfollowed := true, recurses := true, apart := false }
def PathWorkSaid : Prop := pathWorkRow.holds Try.pinned (OpenSpec.ofChange pathWorkSpec)

/-- ITS FALSE NEIGHBOUR: 'it returns false'. Refute it at one input. -/
def pathWorkWrong : ChangeSpec := { name := "pathWork", fn := fun _ => fun
  | [d1, d2, d3, d4] => { results := [.lit (.bool false)], args := [d1, d2, d3, d4] }
  | _ => none }
def PathWorkWrongFalsely : Prop := pathWorkRow.holds Try.pinned (OpenSpec.ofChange pathWorkWrong)

/-- 'foresightkeep.PathShortest': WHATEVER THE INPUT: true; the input reads as it did. -/
def pathShortestSpec : ChangeSpec := { name := "pathShortest", fn := fun _ => fun
  | [d1, d2] => { results := [.lit (.bool true)], args := [d1, d2] }
  | _ => none }
def pathShortestRow : OpenClaim := { program := "ytfebbjbobogkcaa", sum := "9905135f628c06bd53fdee554cd5493640b24ebc90ee1e66528db0b449c2771c", func := "foresight/foresightkeep.PathShortest", spec := "pathShortest", unfollowed := true, recurses := true, apart := false }
def PathShortestSaid : Prop := pathShortestRow.holds Try.pinned (OpenSpec.ofChange pathShortestSpec)

/-- ITS FALSE NEIGHBOUR: 'it returns false'. Refute it at one input. -/
def pathShortestWrong : ChangeSpec := { name := "pathShortest", fn := fun _ => fun
  | [d1, d2] => { results := [.lit (.bool false)], args := [d1, d2] }
  | _ => none }
def PathShortestWrongFalsely : Prop := pathShortestRow.holds Try.pinned (OpenSpec.ofChange pathShortestWrong)

/- THE SECOND FORM. 'bulk': how many values and letters a reading holds, each counted each time it is reached (what is shared counts as often as it is met; a slice's spare places count too). A statement '..UptoSaid' is the law's where the arguments, and the package variables that the reading takes, are together of bulk at most 1048576: NARROWER than '..Said'. Prove '..Said' where nothing that the law and all that it calls make is longer than what came in: it says more and counts as full. Else prove '..UptoSaid'. A law counts once. -/
mutual
def uptoBulk {H : Type} : DataW H → Nat
  | .lit (.string bytes) => bytes.length + 1
  | .lit _ => 1
  | .nil => 1
  | .ptr d => uptoBulk d + 1
  | .slice elems spare => uptoBulkAll elems + uptoBulkAll spare + 1
  | .agg parts => uptoBulkAll parts + 1
  | .iface _ d => uptoBulk d + 1
  | .map entries => uptoBulkEntries entries + 1
  | .held _ => 1
def uptoBulkAll {H : Type} : List (DataW H) → Nat
  | [] => 0
  | d :: r => uptoBulk d + uptoBulkAll r
def uptoBulkEntries {H : Type} : List (Lit × DataW H) → Nat
  | [] => 0
  | x :: r => uptoBulkEntry x + uptoBulkEntries r
def uptoBulkEntry {H : Type} : Lit × DataW H → Nat
  | (.string bytes, d) => bytes.length + uptoBulk d + 1
  | (_, d) => uptoBulk d + 1
 end
def uptoSmall : (H : Type) → List (DataW H) → Bool := fun _ ds => decide (uptoBulkAll ds ≤ 1048576)
def OpenSpec.upto (s : _root_.Go.ChangeSpec) : _root_.Go.OpenSpec := { _root_.Go.OpenSpec.ofChange s with cond := some uptoSmall }

/-- 'foresightlaw.PathEnds', WHERE WHAT IT READS IS OF BULK AT MOST 1048576: true; the input reads as it did. -/
def pathEndsUptoRow : OpenClaim := { program := "ytfebbjbobogkcaa", sum := "9905135f628c06bd53fdee554cd5493640b24ebc90ee1e66528db0b449c2771c", func := "foresight/foresightlaw.PathEnds", spec := "pathEnds", apart := false, narrowed := true }
def PathEndsUptoSaid : Prop := pathEndsUptoRow.holds Try.pinned (OpenSpec.upto pathEndsSpec)

/-- 'foresightkeep.PathLindley', WHERE WHAT IT READS IS OF BULK AT MOST 1048576: true; the input reads as it did. -/
def pathLindleyUptoRow : OpenClaim := { program := "ytfebbjbobogkcaa", sum := "9905135f628c06bd53fdee554cd5493640b24ebc90ee1e66528db0b449c2771c", func := "foresight/foresightkeep.PathLindley", spec := "pathLindley", unfollowed := true, recurses := true, apart := false, narrowed := true }
def PathLindleyUptoSaid : Prop := pathLindleyUptoRow.holds Try.pinned (OpenSpec.upto pathLindleySpec)

/-- 'foresightkeep.PathLittle', WHERE WHAT IT READS IS OF BULK AT MOST 1048576: true; the input reads as it did. -/
def pathLittleUptoRow : OpenClaim := { program := "ytfebbjbobogkcaa", sum := "9905135f628c06bd53fdee554cd5493640b24ebc90ee1e66528db0b449c2771c", func := "foresight/foresightkeep.PathLittle", spec := "pathLittle", unfollowed := true, recurses := true, apart := false, narrowed := true }
def PathLittleUptoSaid : Prop := pathLittleUptoRow.holds Try.pinned (OpenSpec.upto pathLittleSpec)

/-- 'foresightkeep.PathWork', WHERE WHAT IT READS IS OF BULK AT MOST 1048576: true; the input reads as it did. -/
def pathWorkUptoRow : OpenClaim := { program := "ytfebbjbobogkcaa", sum := "9905135f628c06bd53fdee554cd5493640b24ebc90ee1e66528db0b449c2771c", func := "foresight/foresightkeep.PathWork", spec := "pathWork", unfollowed := true, recurses := true, apart := false, narrowed := true }
def PathWorkUptoSaid : Prop := pathWorkUptoRow.holds Try.pinned (OpenSpec.upto pathWorkSpec)

/-- 'foresightkeep.PathShortest', WHERE WHAT IT READS IS OF BULK AT MOST 1048576: true; the input reads as it did. -/
def pathShortestUptoRow : OpenClaim := { program := "ytfebbjbobogkcaa", sum := "9905135f628c06bd53fdee554cd5493640b24ebc90ee1e66528db0b449c2771c", func := "foresight/foresightkeep.PathShortest", spec := "pathShortest", unfollowed := true, recurses := true, apart := false, narrowed := true }
def PathShortestUptoSaid : Prop := pathShortestUptoRow.holds Try.pinned (OpenSpec.upto pathShortestSpec)

end Rows
end Go.Proofs.Ytfebbjbobogkcaa
