/- Rows of whole numbers, beside the fractions. -/
import Derived.Test.YtdicbnchkfclaaaDoorM10
import Derived.Test.YtdicbnchkfclaaaDoorA1
import Derived.WalkLawsBesides
import Derived.BigQuiet
import Derived.Deep.QuietTactic
import Derived.Deep.Draws
namespace Go.Proofs.YtdicbnchkfclaaaDoor
open Go.RowKit

/-- A row of ints in memory: n of them, number j is f j. -/
def IRow (w : World) (a : Option Addr) (n c : Nat) (f : Nat → Int) : Prop :=
  n ≤ c ∧ c ≤ 9223372036854775807 ∧ (0 < n → ∃ b o, a = some ⟨b, o, none⟩ ∧ b < w.heap.size ∧ ∀ j, j < n → w.cell? ⟨b, o + j, none⟩ = some (.int .i64 (f j)))

theorem IRow.below {w w' : World} {a : Option Addr} {n c : Nat} {f : Nat → Int} (h : IRow w a n c f) (hb : Below w.heap.size w w') : IRow w' a n c f := by
  obtain ⟨h1, h2, h3⟩ := h
  refine ⟨h1, h2, fun hn => ?_⟩
  obtain ⟨b, o, e, hlt, hc⟩ := h3 hn
  refine ⟨b, o, e, Nat.lt_of_lt_of_le hlt hb.size, fun j hj => ?_⟩
  rw [hb.cell (p := ⟨b, o + j, none⟩) hlt]
  exact hc j hj

/-- Two rows of numbers are alike. -/
def likeB (n m : Nat) (f g : Nat → Int) : Bool := decide (n = m ∧ ∀ i, i < n → f i = g i)

theorem likeB_true {n m : Nat} {f g : Nat → Int} : likeB n m f g = true ↔ n = m ∧ ∀ i, i < n → f i = g i := by unfold likeB; exact decide_eq_true_iff
theorem likeB_false {n m : Nat} {f g : Nat → Int} : likeB n m f g = false ↔ ¬ (n = m ∧ ∀ i, i < n → f i = g i) := by unfold likeB; exact decide_eq_false_iff_not

theorem drew2 (w : World) (a b : Nat) : ∃ k, (w.drewN a).drewN b = w.drewN k := ⟨a + b, by simp⟩

theorem IRow.suffix {w : World} {b o n c : Nat} {f : Nat → Int} (h : IRow w (some ⟨b, o, none⟩) n c f) (lo : Nat) (hlo : lo < n) : IRow w (some ⟨b, o + lo, none⟩) (n - lo) (c - lo) (fun j => f (lo + j)) := by
  obtain ⟨h1, h2, h3⟩ := h
  refine ⟨by omega, by omega, fun _ => ?_⟩
  obtain ⟨b', o', e, hlt, hc⟩ := h3 (by omega)
  obtain ⟨rfl, rfl, _⟩ := by simpa using e
  exact ⟨b, o + lo, rfl, hlt, fun j hj => by rw [Nat.add_assoc]; exact hc (lo + j) (by omega)⟩

theorem IRow.firsts {w : World} {a : Option Addr} {n c : Nat} {f : Nat → Int} (h : IRow w a n c f) (m : Nat) (hm : m ≤ n) : IRow w a m c f := by
  obtain ⟨h1, h2, h3⟩ := h
  refine ⟨by omega, h2, fun _ => ?_⟩
  obtain ⟨b', o', e, hlt, hc⟩ := h3 (by omega)
  exact ⟨b', o', e, hlt, fun j hj => hc j (by omega)⟩

/-- The last j letters of a text are the first j of a word. -/
def EndsIn (L : Nat) (f g : Nat → Int) (j : Nat) : Prop := ∀ i, i < j → f (L - j + i) = g i

end Go.Proofs.YtdicbnchkfclaaaDoor
