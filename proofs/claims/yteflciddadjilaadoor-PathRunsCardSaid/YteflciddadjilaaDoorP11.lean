/- The program's Ends and Work. -/
import Derived.Test.YteflciddadjilaaDoorP7
namespace Go.Proofs.YteflciddadjilaaDoor
open Go.RowKit Go.Sort Sim

/-- Does a piece count? -/
def cnts (t : T3) : Bool := decide (0 ≤ t.2.1 ∧ t.2.1 ≤ t.2.2 ∧ t.2.2 ≤ 100000000000)

/-- Is it of a job? -/
def ofJob (n : Nat) (t : T3) : Prop := cnts t = true ∧ 0 ≤ t.1 ∧ t.1 < (n : Int)
def endsI (n : Nat) (g : Nat → T3) : Nat → (Nat → Int)
  | 0 => fun _ => 0
  | k + 1 => if cnts (g k) = true ∧ 0 ≤ (g k).1 ∧ (g k).1 < (n : Int) then updI (endsI n g k) (g k).1.toNat (max (endsI n g k (g k).1.toNat) (g k).2.2) else endsI n g k
theorem endsI_yes {n : Nat} {g : Nat → T3} {k j : Nat} {y z : Int} (hg : g k = ((j : Int), y, z)) (h1 : cnts (g k) = true) (h2 : j < n) : endsI n g (k + 1) = updI (endsI n g k) j (max (endsI n g k j) z) := by
  show (if _ then _ else _) = _
  rw [if_pos ⟨h1, by rw [hg]; exact Int.natCast_nonneg _, by rw [hg]; show (j : Int) < n; omega⟩, hg]
  rfl
theorem endsI_no {n : Nat} {g : Nat → T3} {k : Nat} (h : ¬ (cnts (g k) = true ∧ 0 ≤ (g k).1 ∧ (g k).1 < (n : Int))) : endsI n g (k + 1) = endsI n g k := by
  show (if _ then _ else _) = _
  rw [if_neg h]

def wk (f : Nat → T3) (at_ : Int) : Nat → Int
  | 0 => 0
  | k + 1 => if (f k).1 ≤ at_ then IntKind.i64.wrap (wk f at_ k + (f k).2.1) else wk f at_ k
def wpc (g : Nat → T3) (at_ w0 : Int) : Nat → Int
  | 0 => w0
  | k + 1 => if cnts (g k) = true ∧ (g k).2.1 < min (g k).2.2 at_ then IntKind.i64.wrap (wpc g at_ w0 k - (min (g k).2.2 at_ - (g k).2.1)) else wpc g at_ w0 k

end Go.Proofs.YteflciddadjilaaDoor
