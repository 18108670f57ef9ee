/- Fractions added: numbers of any length. -/
import Derived.Test.YtfpmgnlddlcpoaaGreatDoorA11
import Derived.Test.YtfpmgnlddlcpoaaGreatDoorA8
namespace Go.Proofs.YtfpmgnlddlcpoaaGreatDoor
open Go.RowKit Go.Sort Go.Shelf

/-- Both numbers of a fraction are below so many words. -/
def RS (q : Rat) (j : Nat) : Prop := (q.num.natAbs : Int) < Wd.pw j ∧ (q.den : Int) < Wd.pw j

theorem quotM (va vb : Value) (A B : Nat) (w : World) (ha : NatIs w va A) (hb : NatIs w vb B) (hA : Sm A) (hB0 : B ≠ 0) :
    Calls Tryz.prog 23 #[va, vb] w fun e w' => ∃ v, e = .returned v ∧ NatIs w' v ((A / B : Nat) : Int) ∧ Below w.heap.size w w' := by
  rw [Int.natCast_ediv]
  exact quotient_any va vb A B w ha hb hA (by omega)
theorem gcdM (va vb : Value) (A B : Nat) (w : World) (ha : NatIs w va A) (hb : NatIs w vb B) (hA : Sm A) (hB : Sm B) :
    Calls Tryz.prog 22 #[va, vb] w fun e w' => ∃ v, e = .returned v ∧ NatIs w' v ((Nat.gcd A B : Nat) : Int) ∧ Below w.heap.size w w' :=
  gcd_any va vb A B w ha hb hA hB

end Go.Proofs.YtfpmgnlddlcpoaaGreatDoor
/- Fractions multiplied: numbers of any length. -/
namespace Go.Proofs.YtfpmgnlddlcpoaaGreatDoor
open Go.RowKit Go.Sort Go.Shelf

theorem mul_math (a b : Rat) (s : Bool) (hs : sn s ((a.num.natAbs * b.num.natAbs : Nat) : Int) = a.num * b.num) :
    (a.den / Nat.gcd b.num.natAbs a.den) * (b.den / Nat.gcd a.num.natAbs b.den) ≠ 0 ∧
    (((a.num.natAbs / Nat.gcd a.num.natAbs b.den) * (b.num.natAbs / Nat.gcd b.num.natAbs a.den) : Nat) : Int).natAbs.gcd ((a.den / Nat.gcd b.num.natAbs a.den) * (b.den / Nat.gcd a.num.natAbs b.den)) = 1 ∧
    mkRat (sn s (((a.num.natAbs / Nat.gcd a.num.natAbs b.den) * (b.num.natAbs / Nat.gcd b.num.natAbs a.den) : Nat) : Int)) ((a.den / Nat.gcd b.num.natAbs a.den) * (b.den / Nat.gcd a.num.natAbs b.den)) = a * b := by
  have ra := a.reduced
  have rb := b.reduced
  have hda := a.den_pos
  have hdb := b.den_pos
  rw [Rat.mul_def']
  generalize hna : a.num.natAbs = na at *
  generalize hnb : b.num.natAbs = nb at *
  generalize a.den = da at *
  generalize b.den = db at *
  have l0 : 0 < Nat.gcd na db := Nat.gcd_pos_of_pos_right _ hdb
  have r0 : 0 < Nat.gcd nb da := Nat.gcd_pos_of_pos_right _ hda
  have c1 := Nat.coprime_div_gcd_div_gcd l0
  have c2 := Nat.coprime_div_gcd_div_gcd r0
  have d1 := Nat.gcd_dvd_left na db
  have d2 := Nat.gcd_dvd_right na db
  have d3 := Nat.gcd_dvd_left nb da
  have d4 := Nat.gcd_dvd_right nb da
  generalize Nat.gcd na db = l at *
  generalize Nat.gcd nb da = r at *
  have p1 : 0 < da / r := Nat.div_pos (Nat.le_of_dvd hda d4) r0
  have p2 : 0 < db / l := Nat.div_pos (Nat.le_of_dvd hdb d2) l0
  refine ⟨by have := Nat.mul_pos p1 p2; omega, ?_, ?_⟩
  · rw [Int.natAbs_natCast]
    refine Nat.Coprime.mul_left (Nat.Coprime.mul_right ?_ c1) (Nat.Coprime.mul_right c2 ?_)
    · exact Nat.Coprime.coprime_dvd_left (Nat.div_dvd_of_dvd d1) (Nat.Coprime.coprime_dvd_right (Nat.div_dvd_of_dvd d4) ra)
    · exact Nat.Coprime.coprime_dvd_left (Nat.div_dvd_of_dvd d3) (Nat.Coprime.coprime_dvd_right (Nat.div_dvd_of_dvd d2) rb)
  · have hlr : l * r ≠ 0 := by have := Nat.mul_pos l0 r0; omega
    rw [← Rat.mkRat_mul_left (a := l * r) hlr]
    have e1 : l * r * (da / r * (db / l)) = da * db := by
      rw [show l * r * (da / r * (db / l)) = (r * (da / r)) * (l * (db / l)) by grind, Nat.mul_div_cancel' d4, Nat.mul_div_cancel' d2]
    have e2 : l * r * (na / l * (nb / r)) = na * nb := by
      rw [show l * r * (na / l * (nb / r)) = (l * (na / l)) * (r * (nb / r)) by grind, Nat.mul_div_cancel' d1, Nat.mul_div_cancel' d3]
    rw [e1]
    congr 1
    rw [← hs, ← e2]
    cases s
    · simp [sn]
    · simp [sn, Int.mul_neg]

theorem sn_mul (x y : Int) : sn (!(decide (x < 0) == decide (y < 0))) ((x.natAbs * y.natAbs : Nat) : Int) = x * y := by
  rw [Int.natCast_mul]
  by_cases h1 : x < 0 <;> by_cases h2 : y < 0
  · rw [decide_eq_true h1, decide_eq_true h2, show (x.natAbs : Int) = -x by omega, show (y.natAbs : Int) = -y by omega]
    exact Int.neg_mul_neg x y
  · rw [decide_eq_true h1, decide_eq_false h2, show (x.natAbs : Int) = -x by omega, show (y.natAbs : Int) = y by omega]
    show -(-x * y) = x * y
    rw [Int.neg_mul, Int.neg_neg]
  · rw [decide_eq_false h1, decide_eq_true h2, show (x.natAbs : Int) = x by omega, show (y.natAbs : Int) = -y by omega]
    show -(x * -y) = x * y
    rw [Int.mul_neg, Int.neg_neg]
  · rw [decide_eq_false h1, decide_eq_false h2, show (x.natAbs : Int) = x by omega, show (y.natAbs : Int) = y by omega]
    rfl

theorem rat_zero (w : World) : RatIs w (.agg #[.bool false, .slice none 0 0, .slice none 0 0]) 0 :=
  ⟨.slice none 0 0, .slice none 0 0, rfl, natIs_zero w none 0 (by decide), natIs_zero w none 0 (by decide)⟩

end Go.Proofs.YtfpmgnlddlcpoaaGreatDoor
/- Fractions turned, taken away, divided: numbers of any length. -/
namespace Go.Proofs.YtfpmgnlddlcpoaaGreatDoor
open Go.RowKit Go.Sort Go.Shelf

theorem turned_math (q : Rat) : mkRat (sn (!decide (q.num < 0)) (q.num.natAbs : Int)) q.den = -q := by
  have e : sn (!decide (q.num < 0)) (q.num.natAbs : Int) = -q.num := by
    by_cases h : q.num < 0
    · rw [decide_eq_true h]; show (q.num.natAbs : Int) = -q.num; omega
    · rw [decide_eq_false h]; show -(q.num.natAbs : Int) = -q.num; omega
  rw [e]
  have := Rat.mkRat_self (-q)
  rw [Rat.neg_num, Rat.neg_den] at this
  exact this

theorem three_store {w w' : World} {x0 x1 x2 : Value} (h : w'.cell? ⟨w.heap.size, 0, none⟩ = some x0 ∧ w'.cell? ⟨w.heap.size, 1, none⟩ = some x1 ∧ w'.cell? ⟨w.heap.size, 2, none⟩ = some x2) (z0 z1 z2 : Value) :
    (((w'.setCell ⟨w.heap.size + 1, 0, none⟩ z0).setCell ⟨w.heap.size + 1, 1, none⟩ z1).setCell ⟨w.heap.size + 1, 2, none⟩ z2).cell? ⟨w.heap.size, 0, none⟩ = some x0 ∧
    (((w'.setCell ⟨w.heap.size + 1, 0, none⟩ z0).setCell ⟨w.heap.size + 1, 1, none⟩ z1).setCell ⟨w.heap.size + 1, 2, none⟩ z2).cell? ⟨w.heap.size, 1, none⟩ = some x1 ∧
    (((w'.setCell ⟨w.heap.size + 1, 0, none⟩ z0).setCell ⟨w.heap.size + 1, 1, none⟩ z1).setCell ⟨w.heap.size + 1, 2, none⟩ z2).cell? ⟨w.heap.size, 2, none⟩ = some x2 := by
  have e : ∀ (k o : Nat), k ≠ w.heap.size + 1 → (((w'.setCell ⟨w.heap.size + 1, 0, none⟩ z0).setCell ⟨w.heap.size + 1, 1, none⟩ z1).setCell ⟨w.heap.size + 1, 2, none⟩ z2).cell? ⟨k, o, none⟩ = w'.cell? ⟨k, o, none⟩ := fun k o hk =>
    World.cell?_of_block (w := w') (a := ⟨k, o, none⟩) (by rw [Below.heap_setCell _ _ _ _ hk, Below.heap_setCell _ _ _ _ hk, Below.heap_setCell _ _ _ _ hk])
  obtain ⟨h1, h2, h3⟩ := h
  exact ⟨by rw [e _ _ (by omega)]; exact h1, by rw [e _ _ (by omega)]; exact h2, by rw [e _ _ (by omega)]; exact h3⟩

theorem RS.neg {q : Rat} {j : Nat} (h : RS q j) : RS (-q) j := by
  obtain ⟨h1, h2⟩ := h
  refine ⟨?_, by rw [Rat.neg_den]; exact h2⟩
  rw [Rat.neg_num, Int.natAbs_neg]; exact h1

end Go.Proofs.YtfpmgnlddlcpoaaGreatDoor
