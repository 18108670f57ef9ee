/- Things of gates: gates in memory; what one gate may not stand on. -/
import Derived.Test.YtpopcfclpemlaaaDoorMR
import Derived.Test.YtpopcfclpemlaaaDoorRNA
import Derived.BigQuiet
import Derived.Deep.QuietTactic
import Derived.Deep.Draws
namespace Go.Proofs.YtpopcfclpemlaaaDoor
open Go.RowKit Go.Sort Go.Shelf

/-- A row of ints in memory: n of them, number j is f j. -/
def IRow (w : World) (a : Option Addr) (n c : Nat) (f : Nat → Int) : Prop :=
  n ≤ c ∧ c ≤ 9223372036854775807 ∧ (0 < n → ∃ b o, a = some ⟨b, o, none⟩ ∧ b < w.heap.size ∧ ∀ j, j < n → w.cell? ⟨b, o + j, none⟩ = some (.int .i64 (f j)))
theorem IRow.below {w w' : World} {a : Option Addr} {n c : Nat} {f : Nat → Int} (h : IRow w a n c f) (hb : Below w.heap.size w w') : IRow w' a n c f := by
  obtain ⟨h1, h2, h3⟩ := h
  refine ⟨h1, h2, fun hn => ?_⟩
  obtain ⟨b, o, e, hlt, hc⟩ := h3 hn
  refine ⟨b, o, e, Nat.lt_of_lt_of_le hlt hb.size, fun j hj => ?_⟩
  rw [hb.cell (p := ⟨b, o + j, none⟩) hlt]
  exact hc j hj
def mfst (g : Nat → Int) : Nat → Int
  | 0 => 0
  | k + 1 => if mfst g k ≠ 0 then mfst g k else g k
theorem mfst_at {g : Nat → Int} {i n : Nat} (h : i < n) (h0 : mfst g i = 0) (hg : g i ≠ 0) : mfst g n = g i := by
  induction n with
  | zero => exact absurd h (Nat.not_lt_zero _)
  | succ n ih =>
    show (if mfst g n ≠ 0 then mfst g n else g n) = _
    by_cases c : i = n
    · subst c; rw [if_neg (by simp [h0])]
    · have := ih (by omega); rw [this, if_pos hg]
theorem mfst_next {g : Nat → Int} {i : Nat} (h0 : mfst g i = 0) (hg : g i = 0) : mfst g (i + 1) = 0 := by
  show (if mfst g i ≠ 0 then mfst g i else g i) = _
  rw [if_neg (by simp [h0])]; exact hg
theorem mfst_zero {g : Nat → Int} : ∀ {n : Nat}, mfst g n = 0 → ∀ i, i < n → g i = 0
  | 0, _, i, hi => absurd hi (Nat.not_lt_zero _)
  | n + 1, h, i, hi => by
    have h' : (if mfst g n ≠ 0 then mfst g n else g n) = 0 := h
    by_cases c : mfst g n = 0
    · rw [if_neg (by simp [c])] at h'
      by_cases e : i = n
      · subst e; exact h'
      · exact mfst_zero c i (by omega)
    · rw [if_pos c] at h'; exact absurd h' c
/-- Gates in memory: how many each asks for, and the row of what it stands on. -/
def GRow (w : World) (a : Option Addr) (N c : Nat) (g : Rsk.Gs) (H : Nat → Option Addr × Nat) : Prop :=
  N ≤ c ∧ c ≤ 9223372036854775807 ∧ (∀ i, i < N → IRow w (H i).1 (g.C i) (H i).2 (g.R i)) ∧ (0 < N → ∃ b o, a = some ⟨b, o, none⟩ ∧ b < w.heap.size ∧ ∀ i, i < N → w.cell? ⟨b, o + i * 2, none⟩ = some (.int .i64 (g.L i)) ∧ w.cell? ⟨b, o + i * 2 + 1, none⟩ = some (.slice (H i).1 (g.C i) (H i).2))
theorem GRow.below {w w' : World} {a : Option Addr} {N c : Nat} {g : Rsk.Gs} {H : Nat → Option Addr × Nat} (h : GRow w a N c g H) (hb : Below w.heap.size w w') : GRow w' a N c g H := by
  obtain ⟨h1, h2, h3, h4⟩ := h
  refine ⟨h1, h2, fun i hi => (h3 i hi).below hb, fun hn => ?_⟩
  obtain ⟨b, o, e, hlt, hc⟩ := h4 hn
  refine ⟨b, o, e, Nat.lt_of_lt_of_le hlt hb.size, fun j hj => ?_⟩
  rw [hb.cell (p := ⟨b, o + j * 2, none⟩) hlt, hb.cell (p := ⟨b, o + j * 2 + 1, none⟩) hlt]
  exact hc j hj
/-- May a gate with so many ahead not stand on this? -/
def gbad (A P : Int) (x : Int) : Bool := decide (x < -A ∨ P ≤ x)
def gany (A P : Int) (f : Nat → Int) (n : Nat) : Bool := (List.range n).any (fun j => gbad A P (f j))
def gcd1 (P : Int) (g : Rsk.Gs) (i : Nat) : Int := if 20 < g.C i then 4 else if g.L i < 0 ∨ (g.C i : Int) < g.L i then 1 else if gany (i : Int) P (g.R i) (g.C i) then 2 else 0
def gcode (P : Int) (g : Rsk.Gs) (N : Nat) : Int := if P < 1 ∨ 10 < P ∨ N < 1 ∨ 20 < N then 4 else mfst (gcd1 P g) N
theorem gany_false {A P : Int} {f : Nat → Int} {n j : Nat} (h : gany A P f n = false) (hj : j < n) : -A ≤ f j ∧ f j < P := by
  cases hb : gbad A P (f j) with
  | true => rw [show gany A P f n = true from List.any_eq_true.2 ⟨j, List.mem_range.2 hj, hb⟩] at h; cases h
  | false => have := of_decide_eq_false hb; omega
/-- Gates that may be. -/
structure GoodG (P : Nat) (g : Rsk.Gs) (N : Nat) : Prop where
  p1 : 1 ≤ P
  p2 : P ≤ 10
  n1 : 1 ≤ N
  n2 : N ≤ 20
  c : ∀ i, i < N → g.C i ≤ 20
  l : ∀ i, i < N → 0 ≤ g.L i ∧ g.L i ≤ (g.C i : Int)
  r : ∀ i j, i < N → j < g.C i → -(i : Int) ≤ g.R i j ∧ g.R i j < (P : Int)
theorem goodG_of {P : Nat} {g : Rsk.Gs} {N : Nat} (h : gcode (P : Int) g N = 0) : GoodG P g N := by
  unfold gcode at h
  by_cases c : (P : Int) < 1 ∨ 10 < (P : Int) ∨ N < 1 ∨ 20 < N
  · rw [if_pos c] at h; exact absurd h (by decide)
  · rw [if_neg c] at h
    have each : ∀ i, i < N → g.C i ≤ 20 ∧ (0 ≤ g.L i ∧ g.L i ≤ (g.C i : Int)) ∧ gany (i : Int) P (g.R i) (g.C i) = false := fun i hi => by
      have r := mfst_zero h i hi
      unfold gcd1 at r
      by_cases c1 : 20 < g.C i
      · rw [if_pos c1] at r; exact absurd r (by decide)
      · rw [if_neg c1] at r
        by_cases c2 : g.L i < 0 ∨ (g.C i : Int) < g.L i
        · rw [if_pos c2] at r; exact absurd r (by decide)
        · rw [if_neg c2] at r
          cases hd : gany (i : Int) P (g.R i) (g.C i) with
          | true => rw [hd, if_pos rfl] at r; exact absurd r (by decide)
          | false => exact ⟨by omega, ⟨by omega, by omega⟩, rfl⟩
    exact ⟨by omega, by omega, by omega, by omega, fun i hi => (each i hi).1, fun i hi => (each i hi).2.1, fun i j hi hj => gany_false (each i hi).2.2 hj⟩

set_option maxHeartbeats 16000000 in
set_option maxRecDepth 100000 in
set_option linter.unusedSimpArgs false in
theorem gwrong_any (x A P : Int) (pa pp : Nat) (w : World) (hA : w.cell? ⟨pa, 0, none⟩ = some (.int .i64 A)) (hP : w.cell? ⟨pp, 0, none⟩ = some (.int .i64 P)) (a0 : 0 ≤ A) (a1 : A ≤ 100) :
    Calls Tryd.prog 86 #[.int .i64 x, .pointer (some ⟨pa, 0, none⟩), .pointer (some ⟨pp, 0, none⟩)] w fun e w' => e = .returned (.bool (gbad A P x)) ∧ w' = w := by
  have jw : IntKind.i64.wrap (-A) = -A := by rw [IntKind.wrap_i64]; omega
  by_cases c1 : x < -A
  · rw [show gbad A P x = true from decide_eq_true (Or.inl c1)]
    go_enter Tryd.func86, Tryd.ntmps86
    go_wp2
    go_ret
    exact ⟨rfl, rfl⟩
  · by_cases c2 : P ≤ x
    · rw [show gbad A P x = true from decide_eq_true (Or.inr c2)]
      go_enter Tryd.func86, Tryd.ntmps86
      go_wp2
      go_ret
      exact ⟨rfl, rfl⟩
    · rw [show gbad A P x = false from decide_eq_false (fun h => h.elim c1 c2)]
      go_enter Tryd.func86, Tryd.ntmps86
      go_wp2
      go_ret
      exact ⟨rfl, rfl⟩

def gbwIx (A P : Int) ( f : Nat → Int) (n : Nat) (w : World) (e : Ending) (w' : World) : Prop := (∃ r : Int, e = .returned (.int .i64 r) ∧ decide (0 ≤ r) = (List.range n).any (fun j => gbad A P (f j))) ∧ w' = w
theorem gbw_true {f : Nat → Int} {n j : Nat} {A P : Int} (hj : j < n) (h : gbad A P (f j) = true) : (List.range n).any (fun j => gbad A P (f j)) = true := List.any_eq_true.2 ⟨j, List.mem_range.2 hj, h⟩
theorem gbw_false {f : Nat → Int} {n : Nat} {A P : Int} (h : ∀ j, j < n → gbad A P (f j) = false) : (List.range n).any (fun j => gbad A P (f j)) = false := by
  cases hb : (List.range n).any (fun j => gbad A P (f j)) with
  | false => rfl
  | true =>
    obtain ⟨i, h1, h2⟩ := List.any_eq_true.1 hb
    rw [h i (List.mem_range.1 h1)] at h2
    cases h2
set_option maxHeartbeats 4000000 in
theorem gbw_index (a : Option Addr) (n c : Nat) (f : Nat → Int) (A P : Int) (pa pp : Nat) (w : World) (ha : IRow w a n c f) (hn : n ≤ 1000000) (hA : w.cell? ⟨pa, 0, none⟩ = some (.int .i64 A)) (hP : w.cell? ⟨pp, 0, none⟩ = some (.int .i64 P)) (a0 : 0 ≤ A) (a1 : A ≤ 100) :
    Calls Tryd.prog 105 #[.slice a n c, .func (.func 86) #[] #[.pointer (some ⟨pa, 0, none⟩), .pointer (some ⟨pp, 0, none⟩)]] w (gbwIx A P f n w) := by
  have HCL : Hid (∀ x : Int, Calls Tryd.prog 86 #[.int .i64 x, .pointer (some ⟨pa, 0, none⟩), .pointer (some ⟨pp, 0, none⟩)] w fun e w' => e = .returned (.bool (gbad A P x)) ∧ w' = w) := fun x => gwrong_any x A P pa pp w hA hP a0 a1
  obtain ⟨h1, h2, h3⟩ := ha
  have H3 := hide h3
  clear h3
  go_enter Tryd.func105, Tryd.ntmps105
  go_wp2
  go_loopw [8] (fun vi wr => ∃ m : Nat, vi = .int .i64 (m : Int) ∧ m ≤ n ∧ (∀ j, j < m → gbad A P (f j) = false) ∧ wr = w) (fun vi _ => n - (intOf vi).toNat)
  case atStart => exact ⟨0, rfl, Nat.zero_le _, fun j hj => absurd hj (Nat.not_lt_zero _), rfl⟩
  case round =>
    obtain ⟨m, rfl, hm, hj, rfl⟩ := hrel
    by_cases hlt : m < n
    · obtain ⟨b, o, rfl, hbl, hc⟩ := unhide H3 (by omega)
      have k0 := hc m hlt
      obtain ⟨x, hx⟩ : ∃ x, f m = x := ⟨_, rfl⟩
      rw [hx] at k0
      have e2 : (0 : Int) ≤ (m : Int) := by omega
      have e3 : (m : Int) < (n : Int) := by omega
      have HJ := hide hj
      have HX := hide hx
      have C := hide (unhide HCL x)
      clear hc H3 hj hx HCL
      cases hb : gbad A P x with
      | true =>
        rw [hb] at C
        have HF : Hid ((List.range n).any (fun j => gbad A P (f j)) = true) := gbw_true hlt (by rw [unhide HX]; exact hb)
        clear hb
        go_wp2_with fail
        refine (unhide C).mono ?_
        rintro e_ w2 ⟨rfl, rfl⟩
        go_wp2
        go_ret
        exact ⟨⟨_, rfl, by rw [unhide HF]; exact decide_eq_true (by omega)⟩, rfl⟩
      | false =>
        rw [hb] at C
        have HF : Hid (gbad A P (f m) = false) := by show gbad A P (f m) = false; rw [unhide HX]; exact hb
        clear hb
        go_wp2_with fail
        refine (unhide C).mono ?_
        rintro e_ w2 ⟨rfl, rfl⟩
        go_wp2
        refine ⟨⟨m + 1, by go_num, hlt, fun j hj => ?_, by first | exact rfl | trivial⟩, by simp [intOf]; omega⟩
        by_cases hjm : j = m
        · rw [hjm]; exact unhide HF
        · exact unhide HJ j (by omega)
    · obtain rfl : m = n := by omega
      have HF := hide (gbw_false hj)
      clear hj
      have e3 : ¬ (m : Int) < (m : Int) := by omega
      go_wp2
      go_ret
      exact ⟨⟨_, rfl, by rw [unhide HF]; exact decide_eq_false (by omega)⟩, rfl⟩
set_option maxHeartbeats 4000000 in
theorem gbw_contains (a : Option Addr) (n c : Nat) (f : Nat → Int) (A P : Int) (pa pp : Nat) (w : World) (ha : IRow w a n c f) (hn : n ≤ 1000000) (hA : w.cell? ⟨pa, 0, none⟩ = some (.int .i64 A)) (hP : w.cell? ⟨pp, 0, none⟩ = some (.int .i64 P)) (a0 : 0 ≤ A) (a1 : A ≤ 100) :
    Calls Tryd.prog 85 #[.slice a n c, .func (.func 86) #[] #[.pointer (some ⟨pa, 0, none⟩), .pointer (some ⟨pp, 0, none⟩)]] w fun e w' => e = .returned (.bool ((List.range n).any (fun j => gbad A P (f j)))) ∧ w' = w := by
  have C := hide (gbw_index a n c f A P pa pp w ha hn hA hP a0 a1)
  have q1 := ha.1
  have q2 := ha.2.1
  obtain ⟨B, hB⟩ : ∃ B, (List.range n).any (fun j => gbad A P (f j)) = B := ⟨_, rfl⟩
  have HB := hide hB
  rw [hB]
  clear ha hB
  go_enter Tryd.func85, Tryd.ntmps85
  go_wp2_with fail
  refine (unhide C).mono ?_
  rintro e_ w2 ⟨⟨r, rfl, hr⟩, rfl⟩
  by_cases h : 0 ≤ r
  · rw [decide_eq_true h] at hr
    obtain rfl : B = true := (unhide HB).symm.trans hr.symm
    clear hr
    go_wp2
    go_ret
    exact ⟨rfl, rfl⟩
  · rw [decide_eq_false h] at hr
    obtain rfl : B = false := (unhide HB).symm.trans hr.symm
    have h' : decide (0 ≤ r) = false := decide_eq_false h
    clear hr
    go_wp2
    go_ret
    exact ⟨rfl, rfl⟩
end Go.Proofs.YtpopcfclpemlaaaDoor
/- Things of gates: Check. -/
namespace Go.Proofs.YtpopcfclpemlaaaDoor
open Go.RowKit Go.Sort Go.Shelf

set_option maxHeartbeats 16000000 in
set_option maxRecDepth 100000 in
set_option linter.unusedSimpArgs false in
theorem gcheck_any (P : Int) (a : Option Addr) (N c : Nat) (g : Rsk.Gs) (H : Nat → Option Addr × Nat) (w : World) (h : GRow w a N c g H) :
    Calls Tryd.prog 51 #[.int .i64 P, .slice a N c] w fun e w' => e = .returned (errV (gcode P g N)) ∧ Below w.heap.size w w' := by
  have b0 := alloc_below w (.cells #[.int .i64 P] 3)
  have n0 := heap_alloc_new w (.cells #[.int .i64 P] 3)
  obtain ⟨W0, hW0⟩ : ∃ W, w.alloc (.cells #[.int .i64 P] 3) = W := ⟨_, rfl⟩
  obtain ⟨pp, hpp⟩ : ∃ b, w.heap.size = b := ⟨_, rfl⟩
  rw [hW0] at b0 n0
  rw [hpp] at n0
  have HB0p : Hid (Below pp w W0) := show Below _ _ _ by rw [← hpp]; exact b0
  have k0 : W0.cell? ⟨pp, 0, none⟩ = some (.int .i64 P) := by simp [World.cell?, n0]
  have HPC : Hid (∀ W, Below W0.heap.size W0 W → W.cell? ⟨pp, 0, none⟩ = some (.int .i64 P)) := fun W hW => by
    rw [hW.cell (p := ⟨pp, 0, none⟩) (Array.getElem?_eq_some_iff.1 n0).1]; exact k0
  have HB0 := hide b0
  obtain ⟨h1, h2, h3, h4⟩ := h
  have H3 := hide h3
  have H4 := hide h4
  clear h3 h4 b0 n0
  by_cases hb : P < 1 ∨ 10 < P ∨ N < 1 ∨ 20 < N
  · have e : gcode P g N = 4 := by unfold gcode; rw [if_pos hb]
    rw [e]
    by_cases c1 : P < 1
    · clear hb e
      go_enter Tryd.func51, Tryd.ntmps51
      go_wp2
      go_ret
      first | exact ⟨rfl, unhide HB0⟩ | exact ⟨rfl, unhide HB0p⟩
    · by_cases c2 : 10 < P
      · clear hb e
        go_enter Tryd.func51, Tryd.ntmps51
        go_wp2
        go_ret
        first | exact ⟨rfl, unhide HB0⟩ | exact ⟨rfl, unhide HB0p⟩
      · by_cases c3 : N < 1
        · have c3' : (N : Int) < 1 := by omega
          clear hb e
          go_enter Tryd.func51, Tryd.ntmps51
          go_wp2
          go_ret
          first | exact ⟨rfl, unhide HB0⟩ | exact ⟨rfl, unhide HB0p⟩
        · have c3' : ¬ (N : Int) < 1 := by omega
          have c4' : (20 : Int) < (N : Int) := by omega
          clear hb e
          go_enter Tryd.func51, Tryd.ntmps51
          go_wp2
          go_ret
          first | exact ⟨rfl, unhide HB0⟩ | exact ⟨rfl, unhide HB0p⟩
  · have e : gcode P g N = mfst (gcd1 P g) N := by unfold gcode; rw [if_neg hb]
    rw [e]
    have c1 : ¬ P < 1 := by omega
    have c2 : ¬ 10 < P := by omega
    have c3 : ¬ (N : Int) < 1 := by omega
    have c4 : ¬ (20 : Int) < (N : Int) := by omega
    have hN20 : N ≤ 20 := by omega
    clear hb e
    go_enter Tryd.func51, Tryd.ntmps51
    go_wp2_with fail
    clear hW0 hpp k0
    go_loopw [26] (fun vi wr => ∃ i : Nat, vi = .int .i64 (i : Int) ∧ i ≤ N ∧ mfst (gcd1 P g) i = 0 ∧ Below W0.heap.size W0 wr) (fun vi _ => N - (intOf vi).toNat)
    case atStart => exact ⟨0, rfl, Nat.zero_le _, rfl, Below.refl _ _⟩
    case round =>
      obtain ⟨i, rfl, hi, hz, hbr⟩ := hrel
      have HZ := hide hz
      have HBR := hide hbr
      by_cases hlt : i < N
      · have j1 : (i : Int) < (N : Int) := by omega
        have j0 : (0 : Int) ≤ (i : Int) := by omega
        obtain ⟨b, o, rfl, hbl, hc⟩ := unhide H4 (by omega)
        have ⟨q0, q1⟩ := hc i hlt
        rw [← (below_step (unhide HB0) hbr).cell (p := ⟨b, o + i * 2, none⟩) hbl] at q0
        rw [← (below_step (unhide HB0) hbr).cell (p := ⟨b, o + i * 2 + 1, none⟩) hbl] at q1
        obtain ⟨s1, s2, s3⟩ := unhide H3 i hlt
        have HIR := hide (unhide H3 i hlt)
        have HGC : Hid (gcd1 P g i = if 20 < g.C i then 4 else if g.L i < 0 ∨ (g.C i : Int) < g.L i then 1 else if gany (i : Int) P (g.R i) (g.C i) then 2 else 0) := rfl
        obtain ⟨L, hL⟩ : ∃ x, g.L i = x := ⟨_, rfl⟩
        obtain ⟨C, hC⟩ : ∃ x, g.C i = x := ⟨_, rfl⟩
        obtain ⟨R, hR⟩ : ∃ x, g.R i = x := ⟨_, rfl⟩
        obtain ⟨ha, hhd⟩ : ∃ x, (H i).1 = x := ⟨_, rfl⟩
        obtain ⟨hcap, hhc⟩ : ∃ x, (H i).2 = x := ⟨_, rfl⟩
        rw [hL, hC, hR] at HGC
        rw [hL] at q0
        rw [hC, hhd, hhc] at q1 HIR
        rw [hR] at HIR
        rw [hC] at s1
        rw [hhc] at s1 s2
        have HLT := hide hlt
        have bA := alloc_below wr (.cells #[.int .i64 0] 3)
        have nA := heap_alloc_new wr (.cells #[.int .i64 0] 3)
        obtain ⟨WA, hWA⟩ : ∃ W, wr.alloc (.cells #[.int .i64 0] 3) = W := ⟨_, rfl⟩
        obtain ⟨pa, hpa⟩ : ∃ x, wr.heap.size = x := ⟨_, rfl⟩
        have hsz : WA.heap.size = pa + 1 := by rw [← hWA, alloc_size, hpa]
        rw [hWA] at bA nA
        rw [hpa] at nA
        have bZ := alloc_below WA (.cells #[.int .i64 0, .slice none 0 0] 58)
        have nZ := heap_alloc_new WA (.cells #[.int .i64 0, .slice none 0 0] 58)
        have nA1 := heap_kept nA bZ
        obtain ⟨pg, hpg⟩ : ∃ x, pa + 1 = x := ⟨_, rfl⟩
        rw [hsz, hpg] at nZ
        rw [hpg] at hsz
        obtain ⟨WZ, hWZ⟩ : ∃ W, WA.alloc (.cells #[.int .i64 0, .slice none 0 0] 58) = W := ⟨_, rfl⟩
        rw [hWZ] at bZ nZ nA1
        have bZ2 := below_step bA bZ
        have hpp1 : pa ≠ pg := by omega
        have hpa2 : wr.heap.size ≤ pa := by omega
        have hpg2 : wr.heap.size ≤ pg := by omega
        have x0 : WZ.cell? ⟨pa, 0, none⟩ = some (.int .i64 0) := by simp [World.cell?, nA1]
        have x1 : WZ.frozen? ⟨pa, 0, none⟩ = false := by simp [World.frozen?, nA1]
        have nY : (WZ.setCell ⟨pa, 0, none⟩ (.int .i64 (i : Int))).heap[pg]? = some (.cells #[.int .i64 0, .slice none 0 0] 58) := by
          rw [Below.heap_setCell _ _ _ _ (fun e => hpp1 e.symm)]; exact nZ
        have nA2 : (WZ.setCell ⟨pa, 0, none⟩ (.int .i64 (i : Int))).heap[pa]? = some (.cells #[.int .i64 (i : Int)] 3) := by
          rw [setCell_eq]
          simp [mapBlock, Array.getElem?_modify, nA1, onCells]
        have bY := bZ2.setCell (p := ⟨pa, 0, none⟩) hpa2 (.int .i64 (i : Int))
        obtain ⟨WY, hWY⟩ : ∃ W, WZ.setCell ⟨pa, 0, none⟩ (.int .i64 (i : Int)) = W := ⟨_, rfl⟩
        rw [hWY] at nY nA2 bY
        have z0 : WY.cell? ⟨pg, 0, none⟩ = some (.int .i64 0) := by simp [World.cell?, nY]
        have z1 : WY.cell? ⟨pg, 1, none⟩ = some (.slice none 0 0) := by simp [World.cell?, nY]
        have f0 : WY.frozen? ⟨pg, 0, none⟩ = false := by simp [World.frozen?, nY]
        have f1 : WY.frozen? ⟨pg, 1, none⟩ = false := by simp [World.frozen?, nY]
        have nB : ((WY.setCell ⟨pg, 0, none⟩ (.int .i64 L)).setCell ⟨pg, 1, none⟩ (.slice ha C hcap)).heap[pg]? = some (.cells #[.int .i64 L, .slice ha C hcap] 58) := by
          rw [setCell_eq, setCell_eq]
          simp [mapBlock, Array.getElem?_modify, nY, onCells]
        have nA3 : ((WY.setCell ⟨pg, 0, none⟩ (.int .i64 L)).setCell ⟨pg, 1, none⟩ (.slice ha C hcap)).heap[pa]? = some (.cells #[.int .i64 (i : Int)] 3) := by
          rw [Below.heap_setCell _ _ _ _ hpp1, Below.heap_setCell _ _ _ _ hpp1]; exact nA2
        have bB := (bY.setCell (p := ⟨pg, 0, none⟩) hpg2 (.int .i64 L)).setCell (p := ⟨pg, 1, none⟩) hpg2 (.slice ha C hcap)
        obtain ⟨WB, hWB⟩ : ∃ W, (WY.setCell ⟨pg, 0, none⟩ (.int .i64 L)).setCell ⟨pg, 1, none⟩ (.slice ha C hcap) = W := ⟨_, rfl⟩
        rw [hWB] at bB nB nA3
        have k1 : WB.cell? ⟨pg, 0, none⟩ = some (.int .i64 L) := by simp [World.cell?, nB]
        have k2 : WB.cell? ⟨pg, 1, none⟩ = some (.slice ha C hcap) := by simp [World.cell?, nB]
        have k3 : WB.cell? ⟨pa, 0, none⟩ = some (.int .i64 (i : Int)) := by simp [World.cell?, nA3]
        have k4 : WB.cell? ⟨pp, 0, none⟩ = some (.int .i64 P) := unhide HPC _ (below_step hbr bB)
        have HBB := hide (below_step hbr bB)
        have HIB := hide ((unhide HIR).below (below_step (below_step (unhide HB0) hbr) bB))
        clear bA nA bZ nZ nA1 bZ2 hpp1 hpa2 hpg2 nY nA2 bY nB nA3 bB hbr hz hlt hc hL hC hR hhd hhc HIR
        by_cases d1 : 20 < C
        · have d1' : (20 : Int) < (C : Int) := by omega
          rw [if_pos d1] at HGC
          have HF : Hid (mfst (gcd1 P g) N = 4) := by
            have := mfst_at (g := gcd1 P g) (unhide HLT) (unhide HZ) (by rw [unhide HGC]; decide)
            rw [unhide HGC] at this; exact this
          clear HGC d1
          go_wp2
          go_ret
          exact ⟨by rw [unhide HF]; rfl, below_step (unhide HB0) (unhide HBB)⟩
        · have d1' : ¬ (20 : Int) < (C : Int) := by omega
          rw [if_neg d1] at HGC
          by_cases d2 : L < 0 ∨ (C : Int) < L
          · rw [if_pos d2] at HGC
            have HF : Hid (mfst (gcd1 P g) N = 1) := by
              have := mfst_at (g := gcd1 P g) (unhide HLT) (unhide HZ) (by rw [unhide HGC]; decide)
              rw [unhide HGC] at this; exact this
            by_cases d3 : L < 0
            · clear HGC d1 d2
              go_wp2
              go_ret
              exact ⟨by rw [unhide HF]; rfl, below_step (unhide HB0) (unhide HBB)⟩
            · have d4 : (C : Int) < L := by omega
              clear HGC d1 d2
              go_wp2
              go_ret
              exact ⟨by rw [unhide HF]; rfl, below_step (unhide HB0) (unhide HBB)⟩
          · rw [if_neg d2] at HGC
            have d3 : ¬ L < 0 := by omega
            have d4 : ¬ (C : Int) < L := by omega
            have HCT : Hid (Calls Tryd.prog 85 #[.slice ha C hcap, .func (.func 86) #[] #[.pointer (some ⟨pa, 0, none⟩), .pointer (some ⟨pp, 0, none⟩)]] WB fun e w' => e = .returned (.bool (gany (i : Int) P R C)) ∧ w' = WB) := gbw_contains ha C hcap R (i : Int) P pa pp WB (unhide HIB) (by omega) k3 k4 (by omega) (by omega)
            obtain ⟨B, hB⟩ : ∃ B, gany (i : Int) P R C = B := ⟨_, rfl⟩
            rw [hB] at HGC HCT
            clear hB d1 d2
            cases B with
            | true =>
              have HF : Hid (mfst (gcd1 P g) N = 2) := by
                have := mfst_at (g := gcd1 P g) (unhide HLT) (unhide HZ) (by rw [unhide HGC]; decide)
                rw [unhide HGC] at this; exact this
              clear HGC
              go_wp2_with fail
              refine (unhide HCT).mono ?_
              rintro e_ w2 ⟨rfl, rfl⟩
              clear HCT
              go_wp2
              go_ret
              exact ⟨by rw [unhide HF]; rfl, below_step (unhide HB0) (unhide HBB)⟩
            | false =>
              have HF : Hid (mfst (gcd1 P g) (i + 1) = 0) := mfst_next (unhide HZ) (unhide HGC)
              clear HGC
              go_wp2_with fail
              refine (unhide HCT).mono ?_
              rintro e_ w2 ⟨rfl, rfl⟩
              clear HCT
              go_wp2
              exact ⟨⟨i + 1, by go_num, unhide HLT, unhide HF, unhide HBB⟩, by have := unhide HLT; simp [intOf]; omega⟩
      · obtain rfl : i = N := by omega
        have j1 : ¬ (i : Int) < (i : Int) := by omega
        clear hbr hz
        go_wp2
        go_ret
        exact ⟨by rw [unhide HZ]; rfl, below_step (unhide HB0) (unhide HBR)⟩

end Go.Proofs.YtpopcfclpemlaaaDoor
/- Things of gates: sets as numbers, has, works. -/
namespace Go.Proofs.YtpopcfclpemlaaaDoor
open Go.RowKit Go.Sort Go.Shelf

/-- The cells of a row of truths. -/
def brow (lf : Nat → Bool) (n : Nat) : List Value := (List.range n).map fun j => .bool (lf j)
theorem brow_length (lf : Nat → Bool) (n : Nat) : (brow lf n).length = n := by simp [brow]
theorem brow_get (lf : Nat → Bool) {n j : Nat} (h : j < n) : (brow lf n)[j]? = some (.bool (lf j)) := by simp [brow, h]
def updB (f : Nat → Bool) (j : Nat) (v : Bool) : Nat → Bool := fun i => if i = j then v else f i
theorem brow_set (lf : Nat → Bool) {n j : Nat} (v : Bool) : (brow lf n).set j (.bool v) = brow (updB lf j v) n := by
  apply List.ext_getElem?
  intro i
  unfold brow updB
  rw [List.getElem?_set]
  by_cases h : j = i
  · subst h
    by_cases hj : j < n <;> simp [hj]
  · by_cases hi : i < n <;> simp [h, hi, Ne.symm h]
theorem brow_congr {f g : Nat → Bool} {n : Nat} (h : ∀ j, j < n → f j = g j) : brow f n = brow g n := by
  unfold brow
  exact List.map_congr_left fun j hj => by rw [h j (List.mem_range.1 hj)]
/-- Block G is the row. -/
def OwnB (w : World) (G n : Nat) (lf : Nat → Bool) : Prop := w.heap[G]? = some (.cells (brow lf n).toArray 4)
theorem OwnB.lt {w : World} {G n : Nat} {lf : Nat → Bool} (h : OwnB w G n lf) : G < w.heap.size := (Array.getElem?_eq_some_iff.1 h).1
theorem OwnB.keep {w w' : World} {G n : Nat} {lf : Nat → Bool} (h : OwnB w G n lf) (hb : Below w.heap.size w w') : OwnB w' G n lf := by
  unfold OwnB; rw [hb.block G h.lt]; exact h
theorem OwnB.cell {w : World} {G n : Nat} {lf : Nat → Bool} (h : OwnB w G n lf) {j : Nat} (hj : j < n) : w.cell? ⟨G, j, none⟩ = some (.bool (lf j)) := by
  unfold OwnB at h
  simp only [World.cell?, h]
  have := brow_get lf hj
  simpa using this
theorem OwnB.free {w : World} {G n : Nat} {lf : Nat → Bool} (h : OwnB w G n lf) (j : Nat) : w.frozen? ⟨G, j, none⟩ = false := by
  unfold OwnB at h; simp [World.frozen?, h]
theorem OwnB.set {w : World} {G n : Nat} {lf : Nat → Bool} (h : OwnB w G n lf) (j : Nat) (v : Bool) : OwnB (w.setCell ⟨G, j, none⟩ (.bool v)) G n (updB lf j v) := by
  unfold OwnB at h ⊢
  rw [setCell_eq]
  simp only [mapBlock, Array.getElem?_modify, h, if_true, Option.map_some, onCells]
  rw [← brow_set]
  simp
theorem OwnB.congr {w : World} {G n : Nat} {f g : Nat → Bool} (h : OwnB w G n f) (e : ∀ j, j < n → f j = g j) : OwnB w G n g := by
  unfold OwnB at h ⊢; rw [← brow_congr e]; exact h
theorem Tryd.infoB : (Tryd.prog.info? 4).map (fun i => (i.zero, i.size, i.bytes)) = some (some (.bool false), 1, 1) := by kernel_rfl
theorem make_bools (k : Nat) (h1 : k ≤ 1099511627776) (w : World) :
    (Instr.makeSlice 48 (.int .i64 (k : Int)) (.int .i64 (k : Int))).run Tryd.prog w = .ok (.slice (some ⟨w.heap.size, 0, none⟩) k k) (w.alloc (.cells (brow (fun _ => false) k).toArray 4)) := by
  obtain ⟨i, hi, hz0, hz1, hz2⟩ := info_parts Tryd.infoB
  have e : madeCells (Value.bool false).cells ((k : Int).toNat * i.size) = (brow (fun _ => false) k).toArray := by
    rw [hz1]
    apply Array.ext
    · simp [madeCells, brow]
    · intro j h1 h2
      simp [madeCells, brow, Value.cells, Nat.mod_one]
  rw [run_make w 48 4 i (.bool false) Tryd.underlying48 hi hz0 .i64 .i64 k k (by omega) (Int.le_refl _) (by rw [hz2]; omega) (by omega), e]
  simp
theorem make_ownB (w : World) (k : Nat) : OwnB (w.alloc (.cells (brow (fun _ => false) k).toArray 4)) w.heap.size k (fun _ => false) := heap_alloc_new w _
theorem bits_and_i64 (a b : Nat) (ha : a < 9223372036854775808) (hb : b < 9223372036854775808) : bits .and .i64 (a : Int) (b : Int) = ((a &&& b : Nat) : Int) := by
  have hx : a &&& b < 2 ^ 63 := Nat.and_lt_two_pow _ (by omega)
  have h1 : (BitVec.ofInt 64 (a : Int)).toNat = a := by
    rw [BitVec.ofInt_natCast, BitVec.toNat_ofNat]; exact Nat.mod_eq_of_lt (by omega)
  have h2 : (BitVec.ofInt 64 (b : Int)).toNat = b := by
    rw [BitVec.ofInt_natCast, BitVec.toNat_ofNat]; exact Nat.mod_eq_of_lt (by omega)
  show IntKind.i64.wrap ((BitVec.ofInt 64 (a : Int) &&& BitVec.ofInt 64 (b : Int)).toNat : Int) = _
  rw [BitVec.toNat_and, h1, h2, IntKind.wrap_i64]
  omega
theorem bits_or_i64 (a b : Nat) (ha : a < 9223372036854775808) (hb : b < 9223372036854775808) : bits .or .i64 (a : Int) (b : Int) = ((a ||| b : Nat) : Int) := by
  have hx : a ||| b < 2 ^ 63 := Nat.or_lt_two_pow (by omega) (by omega)
  have h1 : (BitVec.ofInt 64 (a : Int)).toNat = a := by
    rw [BitVec.ofInt_natCast, BitVec.toNat_ofNat]; exact Nat.mod_eq_of_lt (by omega)
  have h2 : (BitVec.ofInt 64 (b : Int)).toNat = b := by
    rw [BitVec.ofInt_natCast, BitVec.toNat_ofNat]; exact Nat.mod_eq_of_lt (by omega)
  show IntKind.i64.wrap ((BitVec.ofInt 64 (a : Int) ||| BitVec.ofInt 64 (b : Int)).toNat : Int) = _
  rw [BitVec.toNat_or, h1, h2, IntKind.wrap_i64]
  omega
theorem pow_small {k : Nat} (hk : k ≤ 40) : 2 ^ k ≤ 1099511627776 := by
  have : 2 ^ k ≤ 2 ^ 40 := Nat.pow_le_pow_right (by decide) hk
  exact this
theorem wrap64_pow {k : Nat} (hk : k ≤ 40) : wrap64 ((2 : Int) ^ k) = ((2 ^ k : Nat) : Int) := by
  have h := pow_small hk
  have e : ((2 : Int) ^ k) = ((2 ^ k : Nat) : Int) := by push_cast; rfl
  rw [e]
  obtain ⟨m, hm⟩ : ∃ m, 2 ^ k = m := ⟨_, rfl⟩
  rw [hm] at h ⊢
  unfold wrap64
  omega
theorem has_val {s k : Nat} (hs : s < 1099511627776) (hk : k ≤ 40) : (bits .and .i64 (s : Int) (wrap64 ((2 : Int) ^ k)) != 0) = s.testBit k := by
  have h := pow_small hk
  rw [wrap64_pow hk, bits_and_i64 s (2 ^ k) (by omega) (by omega)]
  cases hb : s.testBit k with
  | true =>
    rw [bne_iff_ne]
    intro e
    have e2 : s &&& 2 ^ k = 0 := by omega
    have e3 : (s &&& 2 ^ k).testBit k = false := by rw [e2]; exact Nat.zero_testBit k
    rw [Nat.testBit_and, Nat.testBit_two_pow_self, hb] at e3
    exact absurd e3 (by decide)
  | false =>
    have e2 : s &&& 2 ^ k = 0 := by
      apply Nat.eq_of_testBit_eq
      intro j
      rw [Nat.testBit_and, Nat.testBit_two_pow, Nat.zero_testBit]
      by_cases e : k = j
      · subst e; rw [hb]; rfl
      · rw [decide_eq_false e, Bool.and_false]
    rw [e2]; rfl
set_option maxHeartbeats 16000000 in
set_option maxRecDepth 100000 in
set_option linter.unusedSimpArgs false in
theorem has_any (s k : Nat) (w : World) (hs : s < 1099511627776) (hk : k ≤ 40) :
    Calls Tryd.prog 88 #[.int .i64 (s : Int), .int .i64 (k : Int)] w fun e w' => e = .returned (.bool (s.testBit k)) ∧ w' = w := by
  have j0 : (0 : Int) ≤ (k : Int) := by omega
  have HV := hide (has_val hs hk)
  go_enter Tryd.func88, Tryd.ntmps88
  go_wp2
  rw [unhide HV]
  go_ret
  exact ⟨rfl, rfl⟩
theorem gtv_own (g : Rsk.Gs) (s i j : Nat) : updB (fun j => (Rsk.gtv g s i)[j]!) i (decide (g.L i ≤ (Rsk.many (Rsk.gtv g s i) s (g.R i) (g.C i) : Int))) j = (Rsk.gtv g s (i + 1))[j]! := by
  have e := Rsk.gtv_len g s i
  show _ = (Rsk.gtv g s i ++ [_])[j]!
  unfold updB
  by_cases h : j = i
  · subst h
    rw [if_pos rfl, Rsk.get_app_eq e.symm]
  · rw [if_neg h]
    rcases Nat.lt_or_ge j i with a | a
    · rw [Rsk.get_app_lt (by omega)]
    · rw [Rsk.get_app_gt (by omega)]
      show (Rsk.gtv g s i)[j]! = false
      rw [List.getElem!_eq_getElem?_getD, List.getElem?_eq_none (by omega)]; rfl
set_option maxHeartbeats 16000000 in
set_option maxRecDepth 100000 in
set_option linter.unusedSimpArgs false in
theorem works_any (a : Option Addr) (N c P s : Nat) (g : Rsk.Gs) (H : Nat → Option Addr × Nat) (w : World) (h : GRow w a N c g H) (G : GoodG P g N) (hs : s < 1099511627776) :
    Calls Tryd.prog 54 #[.slice a N c, .int .i64 (s : Int)] w fun e w' => e = .returned (.bool (Rsk.wk g N s)) ∧ Below w.heap.size w w' := by
  have hN1 := G.n1
  have hN2 := G.n2
  have HGD := hide G
  have HSS := hide hs
  obtain ⟨h1, h2, h3, h4⟩ := h
  have H3 := hide h3
  have H4 := hide h4
  have qm := make_bools N (by omega) w
  have O0 := make_ownB w N
  have b0 := alloc_below w (.cells (brow (fun _ => false) N).toArray 4)
  obtain ⟨W0, hW0⟩ : ∃ W, w.alloc (.cells (brow (fun _ => false) N).toArray 4) = W := ⟨_, rfl⟩
  obtain ⟨GB, hGB⟩ : ∃ b, w.heap.size = b := ⟨_, rfl⟩
  rw [hW0] at qm O0 b0
  rw [hGB] at qm O0
  have HG : Hid (w.heap.size ≤ GB) := show _ ≤ _ by omega
  have HO0 : Hid (OwnB W0 GB N (fun j => (Rsk.gtv g s 0)[j]!)) := O0.congr (fun j _ => by show false = ([] : List Bool)[j]!; rw [List.getElem!_eq_getElem?_getD]; rfl)
  have HB0 := hide b0
  have HWK : Hid (Rsk.wk g N s = (Rsk.gtv g s N)[N - 1]!) := rfl
  obtain ⟨wkb, hwk⟩ : ∃ b, Rsk.wk g N s = b := ⟨_, rfl⟩
  rw [hwk] at HWK ⊢
  clear G hs h3 h4 O0 b0 hwk
  go_enter Tryd.func54, Tryd.ntmps54
  go_wp2_with fail
  clear qm hW0 hGB
  go_loopw [16] (fun vi wr => ∃ i : Nat, vi = .int .i64 (i : Int) ∧ i ≤ N ∧ Below w.heap.size w wr ∧ OwnB wr GB N (fun j => (Rsk.gtv g s i)[j]!)) (fun vi _ => N - (intOf vi).toNat)
  case atStart => exact ⟨0, rfl, Nat.zero_le _, unhide HB0, unhide HO0⟩
  case round =>
    obtain ⟨i, rfl, hi, hbr, hO⟩ := hrel
    clear HO0 HB0
    by_cases hlt : i < N
    · have j1 : (i : Int) < (N : Int) := by omega
      have j0 : (0 : Int) ≤ (i : Int) := by omega
      obtain ⟨b, o, rfl, hbl, hc⟩ := unhide H4 (by omega)
      have ⟨q0, q1⟩ := hc i hlt
      rw [← hbr.cell (p := ⟨b, o + i * 2, none⟩) hbl] at q0
      rw [← hbr.cell (p := ⟨b, o + i * 2 + 1, none⟩) hbl] at q1
      have HIR := hide ((unhide H3 i hlt).below hbr)
      obtain ⟨s1, s2, s3⟩ := unhide HIR
      have HRB : Hid (∀ j, j < g.C i → -(i : Int) ≤ g.R i j ∧ g.R i j < (P : Int)) := fun j hj => (unhide HGD).r i j hlt hj
      have hC20 := (unhide HGD).c i hlt
      have HL := hide ((unhide HGD).l i hlt)
      have HGT := hide (gtv_own g s i)
      obtain ⟨L, hL⟩ : ∃ x, g.L i = x := ⟨_, rfl⟩
      obtain ⟨C, hC⟩ : ∃ x, g.C i = x := ⟨_, rfl⟩
      obtain ⟨R, hR⟩ : ∃ x, g.R i = x := ⟨_, rfl⟩
      obtain ⟨ha, hhd⟩ : ∃ x, (H i).1 = x := ⟨_, rfl⟩
      obtain ⟨hcap, hhc⟩ : ∃ x, (H i).2 = x := ⟨_, rfl⟩
      obtain ⟨gs, hgs⟩ : ∃ x, Rsk.gtv g s i = x := ⟨_, rfl⟩
      rw [hL] at q0
      rw [hC, hhd, hhc] at q1 HIR
      rw [hR] at HIR
      rw [hC, hhc] at s1
      rw [hhc] at s2
      rw [hC, hR] at HRB
      rw [hC] at hC20
      rw [hL, hC] at HL
      rw [hL, hC, hR, hgs] at HGT
      rw [hgs] at hO
      have HLT := hide hlt
      have bB := alloc_below wr (.cells #[.int .i64 L, .slice ha C hcap] 58)
      have nB := heap_alloc_new wr (.cells #[.int .i64 L, .slice ha C hcap] 58)
      have O1 := hO.keep bB
      obtain ⟨WB, hWB⟩ : ∃ W, wr.alloc (.cells #[.int .i64 L, .slice ha C hcap] 58) = W := ⟨_, rfl⟩
      obtain ⟨pg, hpg⟩ : ∃ x, wr.heap.size = x := ⟨_, rfl⟩
      rw [hWB] at bB nB O1
      rw [hpg] at nB
      have k1 : WB.cell? ⟨pg, 0, none⟩ = some (.int .i64 L) := by simp [World.cell?, nB]
      have k2 : WB.cell? ⟨pg, 1, none⟩ = some (.slice ha C hcap) := by simp [World.cell?, nB]
      have HBB := hide (below_step hbr bB)
      have HIB := hide ((unhide HIR).below bB)
      have HO1 := hide O1
      have HBL := hide bB
      clear bB nB hbr hO O1 hlt hc hL hC hR hhd hhc hgs HIR s3
      go_wp2_with fail
      clear hWB hpg q0 q1
      go_loopw [8, 24] (fun vm vj wv => ∃ j : Nat, vm = .int .i64 (Rsk.many gs s R j : Int) ∧ vj = .int .i64 (j : Int) ∧ j ≤ C ∧ wv = WB) (fun _ vj _ => C - (intOf vj).toNat)
      case atStart => exact ⟨0, rfl, rfl, Nat.zero_le _, rfl⟩
      case round =>
        obtain ⟨j, rfl, rfl, hj, rfl⟩ := hrel
        by_cases hjC : j < C
        · have f1 : (j : Int) < (C : Int) := by omega
          have f0 : (0 : Int) ≤ (j : Int) := by omega
          obtain ⟨x, hx⟩ : ∃ x, R j = x := ⟨_, rfl⟩
          have hbx := unhide HRB j hjC
          obtain ⟨-, -, t3⟩ := unhide HIB
          obtain ⟨bi, oi, rfl, hbi, hci⟩ := t3 (by omega)
          have r0 := hci j hjC
          rw [hx] at r0 hbx
          have hml := Rsk.many_le gs s R j
          have HMS : Hid (∀ B : Bool, Rsk.hit gs s x = B → Rsk.many gs s R (j + 1) = Rsk.many gs s R j + (if B = true then 1 else 0)) := fun B hB => by
            show Rsk.many gs s R j + (if Rsk.hit gs s (R j) = true then 1 else 0) = _
            rw [hx, hB]
          obtain ⟨mj, hmj⟩ : ∃ m, Rsk.many gs s R j = m := ⟨_, rfl⟩
          rw [hmj] at HMS hml ⊢
          have HJC := hide hjC
          clear t3 hci hmj hx hj
          by_cases hx0 : 0 ≤ x
          · obtain ⟨k, rfl⟩ : ∃ k : Nat, x = (k : Int) := ⟨x.toNat, by omega⟩
            have hk10 : k ≤ 40 := by have := (unhide HGD).p2; omega
            have HHS := hide (has_any s k wr (unhide HSS) hk10)
            have hB : Rsk.hit gs s (k : Int) = s.testBit k := by unfold Rsk.hit; rw [if_pos hx0, Int.toNat_natCast]
            have HM2 := hide (unhide HMS _ hB)
            have e0 : ¬ (k : Int) < 0 := by omega
            clear hB HMS hbx
            cases hT : s.testBit k with
            | true =>
              rw [hT] at HHS HM2
              clear hT
              go_wp2_with fail
              refine (unhide HHS).mono ?_
              rintro e_ w2 ⟨rfl, rfl⟩
              clear HHS
              go_wp2
              exact ⟨⟨j + 1, by rw [unhide HM2]; go_num, by go_num, unhide HJC, by first | exact rfl | trivial⟩, by have := unhide HJC; simp [intOf]; omega⟩
            | false =>
              rw [hT] at HHS HM2
              clear hT
              go_wp2_with fail
              refine (unhide HHS).mono ?_
              rintro e_ w2 ⟨rfl, rfl⟩
              clear HHS
              go_wp2
              exact ⟨⟨j + 1, by rw [unhide HM2]; rfl, by go_num, unhide HJC, by first | exact rfl | trivial⟩, by have := unhide HJC; simp [intOf]; omega⟩
          · have e0 : x < 0 := by omega
            obtain ⟨d, hd⟩ : ∃ d : Nat, -x - 1 = (d : Int) := ⟨(-x - 1).toNat, by omega⟩
            have jw1 : IntKind.i64.wrap (-x) = -x := by rw [IntKind.wrap_i64]; omega
            have jw2 : IntKind.i64.wrap (d : Int) = (d : Int) := by rw [IntKind.wrap_i64]; omega
            have hdN : (d : Int) < (N : Int) := by have := unhide HLT; omega
            have hd0 : (0 : Int) ≤ (d : Int) := by omega
            have hB : Rsk.hit gs s x = gs[d]! := by
              unfold Rsk.hit
              rw [if_neg hx0, show (-x - 1).toNat = d by omega]
            have HM2 := hide (unhide HMS _ hB)
            have kc := (unhide HO1).cell (j := d) (by omega)
            clear hB HMS hbx hx0
            cases hT : gs[d]! with
            | true =>
              rw [hT] at kc HM2
              clear hT
              go_wp2
              exact ⟨⟨j + 1, by rw [unhide HM2]; go_num, by go_num, unhide HJC, by first | exact rfl | trivial⟩, by have := unhide HJC; simp [intOf]; omega⟩
            | false =>
              rw [hT] at kc HM2
              clear hT
              go_wp2
              exact ⟨⟨j + 1, by rw [unhide HM2]; rfl, by go_num, unhide HJC, by first | exact rfl | trivial⟩, by have := unhide HJC; simp [intOf]; omega⟩
        · obtain rfl : j = C := by omega
          have f1 : ¬ (j : Int) < (j : Int) := by omega
          obtain ⟨mj, hmj⟩ : ∃ m, Rsk.many gs s R j = m := ⟨_, rfl⟩
          rw [hmj] at HGT ⊢
          have fz := (unhide HO1).free i
          have kc := (unhide HO1).cell (j := i) (unhide HLT)
          have OS := fun v => (unhide HO1).set i v
          have BS : ∀ v : Value, Below w.heap.size w (wr.setCell ⟨GB, i, none⟩ v) := fun v => (unhide HBB).setCell (p := ⟨GB, i, none⟩) (unhide HG) v
          have HOS := hide OS
          have HBS := hide BS
          clear OS BS hmj
          by_cases hge : L ≤ (mj : Int)
          · rw [decide_eq_true hge] at HGT
            go_wp2
            exact ⟨⟨i + 1, by go_num, unhide HLT, unhide HBS _, (unhide HOS true).congr (fun j _ => unhide HGT j)⟩, by have := unhide HLT; simp [intOf]; omega⟩
          · rw [decide_eq_false hge] at HGT
            go_wp2
            exact ⟨⟨i + 1, by go_num, unhide HLT, unhide HBS _, (unhide HOS false).congr (fun j _ => unhide HGT j)⟩, by have := unhide HLT; simp [intOf]; omega⟩
    · obtain rfl : i = N := by omega
      have j1 : ¬ (i : Int) < (i : Int) := by omega
      obtain ⟨m, hm⟩ : ∃ m, i = m + 1 := ⟨i - 1, by omega⟩
      have jm : (i : Int) - 1 = (m : Int) := by omega
      have jw : IntKind.i64.wrap (m : Int) = (m : Int) := by rw [IntKind.wrap_i64]; omega
      have m0 : (0 : Int) ≤ (m : Int) := by omega
      have m1 : (m : Int) < (i : Int) := by omega
      have kc := hO.cell (j := m) (by omega)
      have e : (Rsk.gtv g s i)[m]! = wkb := by rw [unhide HWK, hm, Nat.add_sub_cancel]
      have kc' : wr.cell? ⟨GB, m, none⟩ = some (.bool wkb) := by rw [kc, e]
      have HF := hide hbr
      clear kc e hO hbr hm
      go_wp2
      go_ret
      exact ⟨rfl, unhide HF⟩

end Go.Proofs.YtpopcfclpemlaaaDoor
