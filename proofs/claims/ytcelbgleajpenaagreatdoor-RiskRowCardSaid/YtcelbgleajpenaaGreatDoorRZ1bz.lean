/- Renewals: checkCosts, cost. -/
import Derived.Test.YtcelbgleajpenaaGreatDoorX1
import Derived.Test.YtcelbgleajpenaaGreatDoorX2
import Derived.Test.YtcelbgleajpenaaGreatDoorA15
import Derived.WalkKit
import Derived.Test.YtcelbgleajpenaaGreatDoorA18
import Derived.Test.YtcelbgleajpenaaGreatDoorA12
import Derived.Test.YtcelbgleajpenaaGreatDoorRows
import Derived.WalkSpells
import Derived.WalkLawsBesides
import Derived.Test.YtcelbgleajpenaaGreatDoorA1
import Derived.Test.YtcelbgleajpenaaGreatDoorS0
import Derived.Test.YtcelbgleajpenaaGreatDoorA14
import Derived.Test.YtcelbgleajpenaaGreatDoorA16
import Derived.Test.YtcelbgleajpenaaGreatDoorBI
import Derived.BigQuiet
import Derived.Laws.CopyOwn
import Derived.Test.YtcelbgleajpenaaGreatDoorBG
import Derived.Test.YtcelbgleajpenaaGreatDoorB28
namespace Go.Proofs.YtcelbgleajpenaaGreatDoor
open Go.RowKit Go.Sort Go.Shelf

theorem wpHold_listed {P : Program} {md : Region.Mode} {ops : Array Oper} {Q : Exit → Act → World → Prop} {C : World → Prop} {m n : Nat} {L L' : Array Bool} {a : Act} {w : World} (hn : m = n) (h : L = L') (H : wpHold P md ops Q C n L' a w) : wpHold P md ops Q C m L a w := by subst hn; subst h; exact H
theorem wpHold_name {P : Program} {md : Region.Mode} {ops : Array Oper} {Q : Exit → Act → World → Prop} {C : World → Prop} {n : Nat} {L : Array Bool} {a : Act} {w : World} (H : ∀ a0, a0 = a → wpHold P md ops Q C n L a0 w) : wpHold P md ops Q C n L a w := H a rfl

/-- Two calls, one behind the other, and one that makes memory, at any time. -/
theorem two_one_any {P : Program} {ops : Array Oper} {Q : Exit → Act → World → Prop} {C : World → Prop} {md : Region.Mode} (mk : Nat → Bool → Array Bool) (i1 i2 ia m : Nat) (I : Nat → Bool → Act → World → Prop)
    (hr : ∀ c l, c ≤ 2 → (Region.ready md ops (mk c l)).all (fun i => (i == i1 && c == 0) || (i == i2 && c == 1) || (i == ia && !l) || (c == 2 && l)) = true)
    (hne : ∀ c l, c ≤ 2 → (c == 2 && l) = false → (Region.ready md ops (mk c l)).isEmpty = false)
    (h1 : ∀ l, (mk 0 l).setIfInBounds i1 true = mk 1 l) (h2 : ∀ l, (mk 1 l).setIfInBounds i2 true = mk 2 l) (ha : ∀ c, (mk c false).setIfInBounds ia true = mk c true)
    (s1 : ∀ l a w, I 0 l a w → wpOp P ops Q i1 (fun a' w' => C w' ∧ I 1 l a' w') a w)
    (s2 : ∀ l a w, I 1 l a w → wpOp P ops Q i2 (fun a' w' => C w' ∧ I 2 l a' w') a w)
    (sa : ∀ c a w, I c false a w → wpOp P ops Q ia (fun a' w' => C w' ∧ I c true a' w') a w)
    (fin : ∀ a w, I 2 true a w → wpHold P md ops Q C m (mk 2 true) a w) :
    ∀ n c l, c ≤ 2 → (2 - c) + (1 - l.toNat) = n → ∀ a w, I c l a w → wpHold P md ops Q C (n + m) (mk c l) a w := by
  intro n
  induction n with
  | zero =>
    intro c l hc hn a w h
    obtain rfl : c = 2 := by omega
    cases l <;> simp at hn
    rw [Nat.zero_add]
    exact fin a w h
  | succ n ih =>
    intro c l hc hn a w h
    have hall := hr c l hc
    have hend : (c == 2 && l) = false := by
      cases l <;> simp at hn ⊢
      omega
    have hnn := hne c l hc hend
    rw [Nat.succ_add]
    refine ⟨fun e => (by rw [e] at hnn; cases hnn), fun i hi => ?_⟩
    have hk := List.all_eq_true.1 hall i hi
    rw [hend] at hk
    simp only [Bool.or_eq_true, Bool.and_eq_true, beq_iff_eq, Bool.not_eq_true', Bool.or_false] at hk
    rcases hk with (⟨rfl, rfl⟩ | ⟨rfl, rfl⟩) | ⟨rfl, rfl⟩
    · exact wpOp_mono (fun a' w' h' => ⟨h'.1, by rw [h1]; exact ih 1 l (by omega) (by omega) a' w' h'.2⟩) (s1 l a w h)
    · exact wpOp_mono (fun a' w' h' => ⟨h'.1, by rw [h2]; exact ih 2 l (by omega) (by omega) a' w' h'.2⟩) (s2 l a w h)
    · exact wpOp_mono (fun a' w' h' => ⟨h'.1, by rw [ha]; exact ih c true hc (by simp at hn ⊢; omega) a' w' h'.2⟩) (sa c a w h)

end Go.Proofs.YtcelbgleajpenaaGreatDoor
namespace Go.Proofs.YtcelbgleajpenaaGreatDoor
open Go.RowKit Go.Sort Go.Shelf

/-- The first k of a row of N are said, the others 0. -/
def fill (f : Nat → Rat) (N k : Nat) : List Rat := (List.range N).map fun i => if i < k then f i else 0
theorem fill_length (f : Nat → Rat) (N k : Nat) : (fill f N k).length = N := by simp [fill]
theorem fill_zero (f : Nat → Rat) (N : Nat) : List.replicate N 0 = fill f N 0 := by
  apply List.ext_getElem?
  intro i
  unfold fill
  by_cases h : i < N <;> simp [h]
theorem fill_get {f : Nat → Rat} {N k i : Nat} (h : i < k) (hN : i < N) : (fill f N k)[i]! = f i := by simp [fill, h, hN]
theorem fill_set (f : Nat → Rat) (N k : Nat) : (fill f N k).set k (f k) = fill f N (k + 1) := by
  apply List.ext_getElem?
  intro i
  unfold fill
  rw [List.getElem?_set]
  by_cases h : k = i
  · subst h
    by_cases hk : k < N <;> simp [hk]
  · by_cases hi : i < N
    · have e : (i < k + 1) = (i < k) := by apply propext; omega
      simp [h, hi, e]
    · simp [h, hi]
/-- A row that is said wholly. -/
def row (f : Nat → Rat) (N : Nat) : List Rat := fill f N N
theorem row_length (f : Nat → Rat) (N : Nat) : (row f N).length = N := fill_length _ _ _
theorem row_get {f : Nat → Rat} {N i : Nat} (h : i < N) : (row f N)[i]! = f i := fill_get h h
theorem make_ratios (k : Int) (h0 : 0 ≤ k) (h1 : k ≤ 1099511627776) (w : World) :
    (Instr.makeSlice 42 (.int .i64 k) (.int .i64 k)).run Tryz.prog w = .ok (.slice (some ⟨w.heap.size, 0, none⟩) k.toNat k.toNat) (w.alloc (.cells (tcells (List.replicate k.toNat zTri)).toArray 37)) := by
  obtain ⟨i, hi, hz0, hz1, hz2⟩ := info_parts Tryz.infoR
  have e : madeCells (Value.agg zR).cells (k.toNat * i.size) = (tcells (List.replicate k.toNat zTri)).toArray := by
    rw [hz1, zcells]
    have hzc : (Value.agg zR).cells = zR := by simp [Value.cells, zR]
    rw [hzc]
    generalize k.toNat * 3 = n
    apply Array.ext
    · simp [madeCells]
    · intro j h1 h2
      simp [madeCells, zR]
  rw [run_make w 42 37 i (.agg zR) Tryz.underlying42 hi hz0 .i64 .i64 k k h0 (Int.le_refl _) (by rw [hz2]; omega) (by omega), e]

end Go.Proofs.YtcelbgleajpenaaGreatDoor
namespace Go.Proofs.YtcelbgleajpenaaGreatDoor
open Go.RowKit Go.Sort Go.Shelf

theorem one_RS' : RS (1 : Rat) 1 := by
  refine ⟨?_, ?_⟩ <;> (show (1 : Int) < Wd.pw 1; decide)
theorem RS.sub' {a b : Rat} {i j : Nat} (ha : RS a i) (hb : RS b j) : RS (a - b) (i + j + 1) := by
  rw [Rat.sub_eq_add_neg]; exact ha.add hb.neg
end Go.Proofs.YtcelbgleajpenaaGreatDoor
namespace Go.Proofs.YtcelbgleajpenaaGreatDoor
open Go.RowKit Go.Sort Go.Shelf

/-- The sign of a comparison. -/
def cmpv (a b : Rat) : Int := Wd.sg (a.num * b.den) (b.num * a.den)
theorem cmpv_le {a b : Rat} (h : a ≤ b) : -1 ≤ cmpv a b ∧ cmpv a b ≤ 0 := by
  have h' := Rat.le_iff a b |>.1 h
  unfold cmpv Wd.sg
  by_cases e : a.num * b.den < b.num * a.den
  · rw [if_pos e]; exact ⟨by decide, by decide⟩
  · rw [if_neg e, if_pos (by omega)]; exact ⟨by decide, by decide⟩
theorem cmpR_all (va vb : Value) (qa qb : Rat) (w : World) (ha : RatIs w va qa) (hb : RatIs w vb qb) (j : Nat) (ra : RS qa j) (rb : RS qb j) (hj : j ≤ KK) :
    Calls Tryz.prog 83 #[va, vb] w fun e w' => e = .returned (.int .i64 (cmpv qa qb)) ∧ Below w.heap.size w w' :=
  cmpR_any va vb qa qb w ha hb (sm_of ra.1 hj) (sm_of rb.1 hj) (sm_of ra.2 hj) (sm_of rb.2 hj)
theorem cmpv_gt {a b : Rat} (h : b < a) : cmpv a b = 1 := by
  have h' := Rat.lt_iff b a |>.1 h
  unfold cmpv Wd.sg
  rw [if_neg (by omega), if_neg (by omega)]
end Go.Proofs.YtcelbgleajpenaaGreatDoor
namespace Go.Proofs.YtcelbgleajpenaaGreatDoor
open Go.RowKit Go.Sort Go.Shelf

theorem RS_int {x : Int} (h : I64 x) : RS (x : Rat) 1 := by
  refine ⟨?_, ?_⟩
  · rw [Rat.num_intCast, Wd.pw_one]; have := h.1; have := h.2; omega
  · rw [Rat.den_intCast]; decide
end Go.Proofs.YtcelbgleajpenaaGreatDoor
namespace Go.Proofs.YtcelbgleajpenaaGreatDoor
open Go.RowKit Go.Sort Go.Shelf

/-- Two fractions one behind the other, and a box. -/
structure TwoJ (q1 q2 : Rat) (w0 : World) (c : Nat) (l : Bool) (w : World) (s1 s2 s3 : Value) : Prop where
  bl : Below w0.heap.size w0 w
  r1 : 1 ≤ c → RatIs w s1 q1
  r2 : 2 ≤ c → RatIs w s2 q2
  al : l = true → ∃ b, s3 = .pointer (some ⟨b, 0, none⟩) ∧ BoxIs w b zTri 0 ∧ w0.heap.size ≤ b

theorem sign_nn' {z : Int} (h : 0 ≤ z) : 0 ≤ z.sign := by
  rcases Int.lt_or_eq_of_le h with a | a
  · rw [Int.sign_eq_one_of_pos a]; decide
  · rw [← a]; decide
theorem one_RSi : RS ((1 : Int) : Rat) 1 := by
  rw [show ((1 : Int) : Rat) = 1 by simp]; exact one_RS'
end Go.Proofs.YtcelbgleajpenaaGreatDoor
