/- Comparisons, signs, questions; equations alike. -/
import Derived.Test.YtaacibgmdeoikaaGreatDoorN5
import Derived.Test.YtaacibgmdeoikaaGreatDoorQ0
namespace Go.Proofs.YtaacibgmdeoikaaGreatDoor
open Go.RowKit Go.Sort Go.Shelf

/-- The sign of a comparison. -/
def cmpv (a b : Rat) : Int := Wd.sg (a.num * b.den) (b.num * a.den)
theorem cmpv_lt {a b : Rat} (h : a < b) : cmpv a b = -1 := by
  have h' := Rat.lt_iff a b |>.1 h
  unfold cmpv Wd.sg
  rw [if_pos h']
theorem cmpv_ge {a b : Rat} (h : b ≤ a) : 0 ≤ cmpv a b ∧ cmpv a b ≤ 1 := by
  have h' := Rat.le_iff b a |>.1 h
  unfold cmpv
  exact sg_ge h'
theorem cmpv_le {a b : Rat} (h : a ≤ b) : -1 ≤ cmpv a b ∧ cmpv a b ≤ 0 := by
  have h' := Rat.le_iff a b |>.1 h
  unfold cmpv Wd.sg
  by_cases e : a.num * b.den < b.num * a.den
  · rw [if_pos e]; exact ⟨by decide, by decide⟩
  · rw [if_neg e, if_pos (by omega)]; exact ⟨by decide, by decide⟩
theorem cmpR_all (va vb : Value) (qa qb : Rat) (w : World) (ha : RatIs w va qa) (hb : RatIs w vb qb) (j : Nat) (ra : RS qa j) (rb : RS qb j) (hj : j ≤ KK) :
    Calls Tryz.prog 15 #[va, vb] w fun e w' => e = .returned (.int .i64 (cmpv qa qb)) ∧ Below w.heap.size w w' :=
  cmpR_any va vb qa qb w ha hb (sm_of ra.1 hj) (sm_of rb.1 hj) (sm_of ra.2 hj) (sm_of rb.2 hj)

theorem cmpv_gt {a b : Rat} (h : b < a) : cmpv a b = 1 := by
  have h' := Rat.lt_iff b a |>.1 h
  unfold cmpv Wd.sg
  rw [if_neg (by omega), if_neg (by omega)]
theorem sign_neg {q : Rat} (h : q < 0) : q.num.sign = -1 := Int.sign_eq_neg_one_of_neg (by
  have := Rat.lt_iff q 0 |>.1 h
  simpa using this)
theorem sign_nn {q : Rat} (h : ¬ q < 0) : 0 ≤ q.num.sign := Int.sign_nonneg_iff.2 (by
  have : ¬ _ := fun x => h (Rat.lt_iff q 0 |>.2 x)
  simpa using this)
theorem sign_ps {q : Rat} (h : 0 < q) : q.num.sign = 1 := Int.sign_eq_one_of_pos (by
  have := Rat.lt_iff 0 q |>.1 h
  simpa using this)
theorem sign_np {q : Rat} (h : ¬ 0 < q) : q.num.sign ≤ 0 := by
  have : ¬ (0 : Int) < q.num := fun x => h (Rat.lt_iff 0 q |>.2 (by simpa using x))
  rcases Int.lt_or_eq_of_le (Int.not_lt.1 this) with a | a
  · rw [Int.sign_eq_neg_one_of_neg a]; decide
  · rw [a]; decide

/-- A question's answer. -/
def AskPost (w : World) (P : Prop) (e : Ending) (w' : World) : Prop := ((P ∧ e = .returned (.bool true)) ∨ (¬ P ∧ e = .returned (.bool false))) ∧ Below w.heap.size w w'
theorem sat_congr {n : Nat} {A B : Nat → Nat → Rat} (h : ∀ i j, i < n → j < n + 1 → A i j = B i j) (x : Nat → Rat) (t : Rat) : Lin.Sat n A x t ↔ Lin.Sat n B x t := by
  constructor
  · intro s i hi
    have := s i hi
    rw [h i n hi (by omega), Bth.ps_congr n (fun j hj => by rw [h i j hi (by omega)])] at this
    exact this
  · intro s i hi
    have := s i hi
    rw [← h i n hi (by omega), Bth.ps_congr n (fun j hj => by rw [← h i j hi (by omega)])] at this
    exact this
theorem solved_congr {n : Nat} {A B : Nat → Nat → Rat} (h : ∀ i j, i < n → j < n + 1 → A i j = B i j) {x : Nat → Rat} (s : Lin.Solved n A x) : Lin.Solved n B x :=
  ⟨(sat_congr h x 1).1 s.1, fun y hy => s.2 y ((sat_congr h y 0).2 hy)⟩
def bf (qs : List Rat) (k : Nat) : Rat := qs[k]!
end Go.Proofs.YtaacibgmdeoikaaGreatDoor
