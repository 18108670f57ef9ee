/- Round ways: the map's rows, its checks. -/
import Derived.Test.YtcmddkekidgkoaaDoorTE8
import Derived.BigQuiet
import Derived.Deep.QuietTactic
import Derived.Deep.Draws
namespace Go.Proofs.YtcmddkekidgkoaaDoor
open Go.RowKit Go.Sort Go.Shelf

/-- A row of rows of ints in memory: row i is H i, its numbers are R i. -/
def RRow (w : World) (a : Option Addr) (n c : Nat) (H : Nat → Option Addr × Nat × Nat) (R : Nat → Nat → Int) : Prop :=
  n ≤ c ∧ c ≤ 9223372036854775807 ∧ (∀ i, i < n → IRow w (H i).1 (H i).2.1 (H i).2.2 (R i)) ∧ (0 < n → ∃ b o, a = some ⟨b, o, none⟩ ∧ b < w.heap.size ∧ ∀ i, i < n → w.cell? ⟨b, o + i, none⟩ = some (.slice (H i).1 (H i).2.1 (H i).2.2))
theorem RRow.below {w w' : World} {a : Option Addr} {n c : Nat} {H : Nat → Option Addr × Nat × Nat} {R : Nat → Nat → Int} (h : RRow w a n c H R) (hb : Below w.heap.size w w') : RRow w' a n c H R := by
  obtain ⟨h1, h2, h3, h4⟩ := h
  refine ⟨h1, h2, fun i hi => (h3 i hi).below hb, fun hn => ?_⟩
  obtain ⟨b, o, e, hlt, hc⟩ := h4 hn
  refine ⟨b, o, e, Nat.lt_of_lt_of_le hlt hb.size, fun j hj => ?_⟩
  rw [hb.cell (p := ⟨b, o + j, none⟩) hlt]
  exact hc j hj
def lnH (H : Nat → Option Addr × Nat × Nat) (i : Nat) : Nat := (H i).2.1

def SomeB (e : Ending) : Prop := ∃ b, e = .returned (.bool b)
/-- Is a length none? -/
def dbad (x : Int) : Bool := decide (x < 0 ∨ 1000000000 < x)
def dany (f : Nat → Int) (n : Nat) : Bool := (List.range n).any (fun j => dbad (f j))
/-- What is wrong with row i. -/
def mrow (n : Nat) (R : Nat → Nat → Int) (ln : Nat → Nat) (i : Nat) : Int := if ln i ≠ n then 3 else if dany (R i) n then 2 else 0
def mfst (g : Nat → Int) : Nat → Int
  | 0 => 0
  | k + 1 => if mfst g k ≠ 0 then mfst g k else g k
def mcode (n : Nat) (R : Nat → Nat → Int) (ln : Nat → Nat) : Int := if 9 < n then 4 else mfst (mrow n R ln) n
theorem mfst_at {g : Nat → Int} {i n : Nat} (h : i < n) (h0 : mfst g i = 0) (hg : g i ≠ 0) : mfst g n = g i := by
  induction n with
  | zero => exact absurd h (Nat.not_lt_zero _)
  | succ n ih =>
    show (if mfst g n ≠ 0 then mfst g n else g n) = _
    by_cases c : i = n
    · subst c; rw [if_neg (by simp [h0])]
    · have := ih (by omega); rw [this, if_pos hg]
theorem mfst_next {g : Nat → Int} {i : Nat} (h0 : mfst g i = 0) (hg : g i = 0) : mfst g (i + 1) = 0 := by
  show (if mfst g i ≠ 0 then mfst g i else g i) = _
  rw [if_neg (by simp [h0])]; exact hg
theorem mfst_zero {g : Nat → Int} : ∀ {n : Nat}, mfst g n = 0 → ∀ i, i < n → g i = 0
  | 0, _, i, hi => absurd hi (Nat.not_lt_zero _)
  | n + 1, h, i, hi => by
    have h' : (if mfst g n ≠ 0 then mfst g n else g n) = 0 := h
    by_cases c : mfst g n = 0
    · rw [if_neg (by simp [c])] at h'
      by_cases e : i = n
      · subst e; exact h'
      · exact mfst_zero c i (by omega)
    · rw [if_pos c] at h'; exact absurd h' c
theorem dany_false {f : Nat → Int} {n j : Nat} (h : dany f n = false) (hj : j < n) : 0 ≤ f j ∧ f j ≤ 1000000000 := by
  cases hb : dbad (f j) with
  | true => rw [show dany f n = true from List.any_eq_true.2 ⟨j, List.mem_range.2 hj, hb⟩] at h; cases h
  | false => have := of_decide_eq_false hb; omega
/-- A map that may be. -/
structure GMap (n : Nat) (R : Nat → Nat → Int) (ln : Nat → Nat) : Prop where
  few : n ≤ 9
  len : ∀ i, i < n → ln i = n
  num : ∀ i j, i < n → j < n → 0 ≤ R i j ∧ R i j ≤ 1000000000
theorem gmap_of {n : Nat} {R : Nat → Nat → Int} {ln : Nat → Nat} (h : mcode n R ln = 0) : GMap n R ln := by
  unfold mcode at h
  by_cases c : 9 < n
  · rw [if_pos c] at h; exact absurd h (by decide)
  · rw [if_neg c] at h
    have row := fun i hi => mfst_zero h i hi
    have each : ∀ i, i < n → ln i = n ∧ dany (R i) n = false := fun i hi => by
      have r := row i hi
      unfold mrow at r
      by_cases c1 : ln i = n
      · rw [if_neg (by simpa using c1)] at r
        cases hd : dany (R i) n with
        | true => rw [hd, if_pos rfl] at r; exact absurd r (by decide)
        | false => exact ⟨c1, rfl⟩
      · rw [if_pos c1] at r; exact absurd r (by decide)
    exact ⟨by omega, fun i hi => (each i hi).1, fun i j hi hj => dany_false (each i hi).2 hj⟩

set_option maxHeartbeats 8000000 in
set_option maxRecDepth 100000 in
set_option linter.unusedSimpArgs false in
theorem big_any (a : Option Addr) (n c : Nat) (H : Nat → Option Addr × Nat × Nat) (R : Nat → Nat → Int) (w : World) (hr : RRow w a n c H R) :
    Calls Tryd.prog 28 #[.slice a n c, .int .i64 300] w fun e w' => SomeB e ∧ w' = w := by
  have HR := hide hr
  have q1 := hr.1
  have q2 := hr.2.1
  clear hr
  go_enter Tryd.func28, Tryd.ntmps28
  go_wp2_with fail
  go_loopw [6, 5] (fun vi vs wr => ∃ (i : Nat) (s : Int), vi = .int .i64 (i : Int) ∧ i ≤ n ∧ vs = .int .i64 s ∧ wr = w) (fun vi _ _ => n - (intOf vi).toNat)
  case atStart => exact ⟨0, _, rfl, Nat.zero_le _, rfl, rfl⟩
  case round =>
    obtain ⟨i, s, rfl, hi, rfl, rfl⟩ := hrel
    by_cases hlt : i < n
    · obtain ⟨_, _, h3, h4⟩ := unhide HR
      obtain ⟨b, o, rfl, hbl, hc⟩ := h4 (by omega)
      have c0 := hc i hlt
      have e1 : (0 : Int) ≤ (i : Int) := by omega
      have e2 : (i : Int) < (n : Int) := by omega
      have e6 : IntKind.i64.wrap ((i : Int) + 1) = ((i + 1 : Nat) : Int) := by rw [IntKind.wrap_i64]; omega
      clear h3 h4 hc
      go_wp2
      exact ⟨⟨i + 1, _, rfl, hlt, rfl, by first | rfl | trivial⟩, by simp [intOf]; omega⟩
    · obtain rfl : i = n := by omega
      have e2 : ¬ (i : Int) < (i : Int) := by omega
      clear HR
      by_cases g : 300 < s
      all_goals
        go_wp2
        go_ret
        exact ⟨⟨_, rfl⟩, rfl⟩
set_option maxHeartbeats 8000000 in
set_option maxRecDepth 100000 in
set_option linter.unusedSimpArgs false in
theorem mapCheck_any (a : Option Addr) (n c : Nat) (H : Nat → Option Addr × Nat × Nat) (R : Nat → Nat → Int) (w : World) (hr : RRow w a n c H R) :
    Calls Tryd.prog 29 #[.slice a n c] w fun e w' => e = .returned (.int .i64 (mcode n R (lnH H))) ∧ w' = w := by
  have HR := hide hr
  have q1 := hr.1
  have q2 := hr.2.1
  clear hr
  by_cases hn : 9 < n
  · have e0 : (9 : Int) < (n : Int) := by omega
    rw [show mcode n R (lnH H) = 4 from if_pos hn]
    clear HR hn
    go_enter Tryd.func29, Tryd.ntmps29
    go_wp2
    go_ret
    exact ⟨rfl, rfl⟩
  have e0 : ¬ (9 : Int) < (n : Int) := by omega
  rw [show mcode n R (lnH H) = mfst (mrow n R (lnH H)) n from if_neg hn]
  obtain ⟨g, hg⟩ : ∃ g, mrow n R (lnH H) = g := ⟨_, rfl⟩
  have HG := hide hg
  rw [hg]
  clear hg hn
  go_enter Tryd.func29, Tryd.ntmps29
  go_wp2_with fail
  go_loopw [12, 4, 23, 6] (fun vi _ _ _ wr => ∃ i : Nat, vi = .int .i64 (i : Int) ∧ i ≤ n ∧ mfst g i = 0 ∧ wr = w) (fun vi _ _ _ _ => n - (intOf vi).toNat)
  case atStart => exact ⟨0, rfl, Nat.zero_le _, rfl, rfl⟩
  case round =>
    obtain ⟨i, rfl, hi, hz, rfl⟩ := hrel
    by_cases hlt : i < n
    · obtain ⟨_, _, h3, h4⟩ := unhide HR
      obtain ⟨b, o, rfl, hbl, hc⟩ := h4 (by omega)
      have c0 := hc i hlt
      have hrow := h3 i hlt
      have HGI : Hid (g i = if lnH H i ≠ n then 3 else if dany (R i) n then 2 else 0) := by show g i = _; rw [← unhide HG]; rfl
      obtain ⟨⟨ha, hl0, hcp⟩, hH⟩ : ∃ t, H i = t := ⟨_, rfl⟩
      have hlH : lnH H i = hl0 := by unfold lnH; rw [hH]
      rw [hH] at c0 hrow
      rw [hlH] at HGI
      simp only at c0 hrow
      have HROW := hide hrow
      have HZ := hide hz
      have e1 : (0 : Int) ≤ (i : Int) := by omega
      have e2 : (i : Int) < (n : Int) := by omega
      have e6 : IntKind.i64.wrap ((i : Int) + 1) = ((i + 1 : Nat) : Int) := by rw [IntKind.wrap_i64]; omega
      have q3 := hrow.1
      have q4 := hrow.2.1
      clear h3 h4 hc hrow hH hlH hz
      by_cases hne : hl0 = n
      case neg =>
        have g0 : ((hl0 : Int) != (n : Int)) = true := by simp; omega
        have HF : Hid (mfst g n = 3) := by
          have hgi : g i = 3 := by rw [unhide HGI, if_pos hne]
          show _ = _
          rw [mfst_at hlt (unhide HZ) (by rw [hgi]; decide), hgi]
        clear hne
        go_wp2_with fail
        go_ret
        exact ⟨by rw [unhide HF] <;> rfl, rfl⟩
      subst hne
      have g0 : ((hl0 : Int) != (hl0 : Int)) = false := by simp
      go_wp2_with fail
      go_loopw [23, 6] (fun vj _ wv => ∃ j : Nat, vj = .int .i64 (j : Int) ∧ j ≤ hl0 ∧ (∀ q, q < j → dbad (R i q) = false) ∧ wv = wr) (fun vj _ _ => hl0 - (intOf vj).toNat)
      case atStart => exact ⟨0, rfl, Nat.zero_le _, fun q hq => absurd hq (Nat.not_lt_zero _), by first | rfl | trivial⟩
      case round =>
        obtain ⟨j, rfl, hj, hjn, rfl⟩ := hrel
        by_cases hjl : j < hl0
        · obtain ⟨b2, o2, rfl, hbl2, hc2⟩ := (unhide HROW).2.2 (by omega)
          have k0 := hc2 j hjl
          obtain ⟨x, hx⟩ : ∃ x, R i j = x := ⟨_, rfl⟩
          rw [hx] at k0
          have f1 : (0 : Int) ≤ (j : Int) := by omega
          have f2 : (j : Int) < (hl0 : Int) := by omega
          have f6 : IntKind.i64.wrap ((j : Int) + 1) = ((j + 1 : Nat) : Int) := by rw [IntKind.wrap_i64]; omega
          by_cases hbx : x < 0 ∨ 1000000000 < x
          · have HF : Hid (mfst g hl0 = 2) := by
              have hgi : g i = 2 := by
                rw [unhide HGI, if_neg (by simp), if_pos (show dany (R i) hl0 = true from List.any_eq_true.2 ⟨j, List.mem_range.2 hjl, by show decide (R i j < 0 ∨ 1000000000 < R i j) = true; rw [hx]; exact decide_eq_true hbx⟩)]
              show _ = _
              rw [mfst_at hlt (unhide HZ) (by rw [hgi]; decide), hgi]
            clear hc2 hjn
            by_cases hx0 : x < 0
            · clear hx hbx
              go_wp2
              go_ret
              exact ⟨by rw [unhide HF] <;> rfl, rfl⟩
            · have hx1 : 1000000000 < x := by omega
              clear hx hbx
              go_wp2
              go_ret
              exact ⟨by rw [unhide HF] <;> rfl, rfl⟩
          · have hx0 : ¬ x < 0 := by omega
            have hx1 : ¬ 1000000000 < x := by omega
            have HJ : Hid (∀ q, q < j + 1 → dbad (R i q) = false) := fun q hq => by
              by_cases c : q = j
              · subst c; show decide (R i q < 0 ∨ 1000000000 < R i q) = false; rw [hx]; exact decide_eq_false hbx
              · exact hjn q (by omega)
            clear hc2 hjn hx hbx
            go_wp2
            exact ⟨⟨j + 1, rfl, hjl, unhide HJ, by first | rfl | trivial⟩, by simp [intOf]; omega⟩
        · obtain rfl : j = hl0 := by omega
          have f2 : ¬ (j : Int) < (j : Int) := by omega
          have HF : Hid (mfst g (i + 1) = 0) := by
            have hd : dany (R i) j = false := by
              cases hb : dany (R i) j with
              | false => rfl
              | true =>
                obtain ⟨q, h1, h2⟩ := List.any_eq_true.1 hb
                rw [hjn q (List.mem_range.1 h1)] at h2
                cases h2
            exact mfst_next (unhide HZ) (by rw [unhide HGI, if_neg (by simp), hd]; rfl)
          clear hjn HROW
          go_wp2
          exact ⟨⟨i + 1, rfl, hlt, unhide HF, by first | rfl | trivial⟩, by simp [intOf]; omega⟩
    · obtain rfl : i = n := by omega
      have e2 : ¬ (i : Int) < (i : Int) := by omega
      have HZ := hide hz
      clear hz HR HG
      go_wp2
      go_ret
      exact ⟨by rw [unhide HZ] <;> rfl, rfl⟩
set_option maxHeartbeats 1000000 in
theorem rwithin_any (x m : Int) (w : World) :
    Calls Tryd.prog 62 #[.int .i64 x, .int .i64 m] w fun e w' => e = .returned (.bool (decide (0 ≤ x ∧ x ≤ m))) ∧ w' = w := by
  by_cases h1 : 0 ≤ x
  · by_cases h2 : x ≤ m
    · rw [decide_eq_true (show 0 ≤ x ∧ x ≤ m from ⟨h1, h2⟩)]
      go_enter Tryd.func62, Tryd.ntmps62
      go_wp2
      go_ret
      exact ⟨rfl, rfl⟩
    · rw [decide_eq_false (show ¬ (0 ≤ x ∧ x ≤ m) from fun h => h2 h.2)]
      go_enter Tryd.func62, Tryd.ntmps62
      go_wp2
      go_ret
      exact ⟨rfl, rfl⟩
  · rw [decide_eq_false (show ¬ (0 ≤ x ∧ x ≤ m) from fun h => h1 h.1)]
    go_enter Tryd.func62, Tryd.ntmps62
    go_wp2
    go_ret
    exact ⟨rfl, rfl⟩
set_option maxHeartbeats 1000000 in
theorem dwrong_any (x : Int) (w : World) :
    Calls Tryd.prog 61 #[.int .i64 x] w fun e w' => e = .returned (.bool (dbad x)) ∧ w' = w := by
  have C := hide (rwithin_any x 1000000000 w)
  by_cases h : 0 ≤ x ∧ x ≤ 1000000000
  · rw [show dbad x = false from decide_eq_false (by omega)]
    rw [decide_eq_true h] at C
    clear h
    go_enter Tryd.func61, Tryd.ntmps61
    go_wp2_with fail
    refine (unhide C).mono ?_
    rintro e_ w2 ⟨rfl, rfl⟩
    go_wp2
    go_ret
    exact ⟨rfl, rfl⟩
  · rw [show dbad x = true from decide_eq_true (by omega)]
    rw [decide_eq_false h] at C
    clear h
    go_enter Tryd.func61, Tryd.ntmps61
    go_wp2_with fail
    refine (unhide C).mono ?_
    rintro e_ w2 ⟨rfl, rfl⟩
    go_wp2
    go_ret
    exact ⟨rfl, rfl⟩

def dstIx (f : Nat → Int) (n : Nat) (w : World) (e : Ending) (w' : World) : Prop := (∃ r : Int, e = .returned (.int .i64 r) ∧ decide (0 ≤ r) = (List.range n).any (fun j => dbad (f j))) ∧ w' = w
theorem dst_true {f : Nat → Int} {n j : Nat}  (hj : j < n) (h : dbad (f j) = true) : (List.range n).any (fun j => dbad (f j)) = true := List.any_eq_true.2 ⟨j, List.mem_range.2 hj, h⟩
theorem dst_false {f : Nat → Int} {n : Nat}  (h : ∀ j, j < n → dbad (f j) = false) : (List.range n).any (fun j => dbad (f j)) = false := by
  cases hb : (List.range n).any (fun j => dbad (f j)) with
  | false => rfl
  | true =>
    obtain ⟨i, h1, h2⟩ := List.any_eq_true.1 hb
    rw [h i (List.mem_range.1 h1)] at h2
    cases h2
set_option maxHeartbeats 4000000 in
theorem dst_index (a : Option Addr) (n c : Nat) (f : Nat → Int)  (w : World) (ha : IRow w a n c f) (hn : n ≤ 1000000)  :
    Calls Tryd.prog 94 #[.slice a n c, .func (.func 61) #[] #[]] w (dstIx f n w) := by
  have HCL : Hid (∀ x : Int, Calls Tryd.prog 61 #[.int .i64 x] w fun e w' => e = .returned (.bool (dbad x)) ∧ w' = w) := fun x => dwrong_any x w
  obtain ⟨h1, h2, h3⟩ := ha
  have H3 := hide h3
  clear h3
  go_enter Tryd.func94, Tryd.ntmps94
  go_wp2
  go_loopw [8] (fun vi wr => ∃ m : Nat, vi = .int .i64 (m : Int) ∧ m ≤ n ∧ (∀ j, j < m → dbad (f j) = false) ∧ wr = w) (fun vi _ => n - (intOf vi).toNat)
  case atStart => exact ⟨0, rfl, Nat.zero_le _, fun j hj => absurd hj (Nat.not_lt_zero _), rfl⟩
  case round =>
    obtain ⟨m, rfl, hm, hj, rfl⟩ := hrel
    by_cases hlt : m < n
    · obtain ⟨b, o, rfl, hbl, hc⟩ := unhide H3 (by omega)
      have k0 := hc m hlt
      obtain ⟨x, hx⟩ : ∃ x, f m = x := ⟨_, rfl⟩
      rw [hx] at k0
      have e2 : (0 : Int) ≤ (m : Int) := by omega
      have e3 : (m : Int) < (n : Int) := by omega
      have HJ := hide hj
      have HX := hide hx
      have C := hide (unhide HCL x)
      clear hc H3 hj hx HCL
      cases hb : dbad x with
      | true =>
        rw [hb] at C
        have HF : Hid ((List.range n).any (fun j => dbad (f j)) = true) := dst_true hlt (by rw [unhide HX]; exact hb)
        clear hb
        go_wp2_with fail
        refine (unhide C).mono ?_
        rintro e_ w2 ⟨rfl, rfl⟩
        go_wp2
        go_ret
        exact ⟨⟨_, rfl, by rw [unhide HF]; exact decide_eq_true (by omega)⟩, rfl⟩
      | false =>
        rw [hb] at C
        have HF : Hid (dbad (f m) = false) := by show dbad (f m) = false; rw [unhide HX]; exact hb
        clear hb
        go_wp2_with fail
        refine (unhide C).mono ?_
        rintro e_ w2 ⟨rfl, rfl⟩
        go_wp2
        refine ⟨⟨m + 1, by go_num, hlt, fun j hj => ?_, by first | exact rfl | trivial⟩, by simp [intOf]; omega⟩
        by_cases hjm : j = m
        · rw [hjm]; exact unhide HF
        · exact unhide HJ j (by omega)
    · obtain rfl : m = n := by omega
      have HF := hide (dst_false hj)
      clear hj
      have e3 : ¬ (m : Int) < (m : Int) := by omega
      go_wp2
      go_ret
      exact ⟨⟨_, rfl, by rw [unhide HF]; exact decide_eq_false (by omega)⟩, rfl⟩
set_option maxHeartbeats 4000000 in
theorem dst_contains (a : Option Addr) (n c : Nat) (f : Nat → Int)  (w : World) (ha : IRow w a n c f) (hn : n ≤ 1000000)  :
    Calls Tryd.prog 60 #[.slice a n c, .func (.func 61) #[] #[]] w fun e w' => e = .returned (.bool ((List.range n).any (fun j => dbad (f j)))) ∧ w' = w := by
  have C := hide (dst_index a n c f  w ha hn )
  have q1 := ha.1
  have q2 := ha.2.1
  obtain ⟨B, hB⟩ : ∃ B, (List.range n).any (fun j => dbad (f j)) = B := ⟨_, rfl⟩
  have HB := hide hB
  rw [hB]
  clear ha hB
  go_enter Tryd.func60, Tryd.ntmps60
  go_wp2_with fail
  refine (unhide C).mono ?_
  rintro e_ w2 ⟨⟨r, rfl, hr⟩, rfl⟩
  by_cases h : 0 ≤ r
  · rw [decide_eq_true h] at hr
    obtain rfl : B = true := (unhide HB).symm.trans hr.symm
    clear hr
    go_wp2
    go_ret
    exact ⟨rfl, rfl⟩
  · rw [decide_eq_false h] at hr
    obtain rfl : B = false := (unhide HB).symm.trans hr.symm
    have h' : decide (0 ≤ r) = false := decide_eq_false h
    clear hr
    go_wp2
    go_ret
    exact ⟨rfl, rfl⟩
set_option maxHeartbeats 8000000 in
set_option maxRecDepth 100000 in
set_option linter.unusedSimpArgs false in
theorem rcheck_any (a : Option Addr) (n c : Nat) (H : Nat → Option Addr × Nat × Nat) (R : Nat → Nat → Int) (w : World) (hr : RRow w a n c H R) :
    Calls Tryd.prog 30 #[.slice a n c] w fun e w' => e = .returned (errV (mcode n R (lnH H))) ∧ w' = w := by
  have HR := hide hr
  have q1 := hr.1
  have q2 := hr.2.1
  clear hr
  by_cases hn : 9 < n
  · have e0 : (9 : Int) < (n : Int) := by omega
    rw [show mcode n R (lnH H) = 4 from if_pos hn]
    clear HR hn
    go_enter Tryd.func30, Tryd.ntmps30
    go_wp2
    go_ret
    exact ⟨rfl, rfl⟩
  have e0 : ¬ (9 : Int) < (n : Int) := by omega
  rw [show mcode n R (lnH H) = mfst (mrow n R (lnH H)) n from if_neg hn]
  obtain ⟨g, hg⟩ : ∃ g, mrow n R (lnH H) = g := ⟨_, rfl⟩
  have HG := hide hg
  rw [hg]
  have h9 : n ≤ 9 := by omega
  clear hg hn
  go_enter Tryd.func30, Tryd.ntmps30
  go_wp2_with fail
  go_loopw [11, 4] (fun vi _ wr => ∃ i : Nat, vi = .int .i64 (i : Int) ∧ i ≤ n ∧ mfst g i = 0 ∧ wr = w) (fun vi _ _ => n - (intOf vi).toNat)
  case atStart => exact ⟨0, rfl, Nat.zero_le _, rfl, rfl⟩
  case round =>
    obtain ⟨i, rfl, hi, hz, rfl⟩ := hrel
    by_cases hlt : i < n
    · obtain ⟨_, _, h3, h4⟩ := unhide HR
      obtain ⟨b, o, rfl, hbl, hc⟩ := h4 (by omega)
      have c0 := hc i hlt
      have hrow := h3 i hlt
      have HGI : Hid (g i = if lnH H i ≠ n then 3 else if dany (R i) n then 2 else 0) := by show g i = _; rw [← unhide HG]; rfl
      obtain ⟨⟨ha, hl0, hcp⟩, hH⟩ : ∃ t, H i = t := ⟨_, rfl⟩
      have hlH : lnH H i = hl0 := by unfold lnH; rw [hH]
      rw [hH] at c0 hrow
      rw [hlH] at HGI
      simp only at c0 hrow
      have HROW := hide hrow
      have HZ := hide hz
      have e1 : (0 : Int) ≤ (i : Int) := by omega
      have e2 : (i : Int) < (n : Int) := by omega
      have e6 : IntKind.i64.wrap ((i : Int) + 1) = ((i + 1 : Nat) : Int) := by rw [IntKind.wrap_i64]; omega
      have q3 := hrow.1
      have q4 := hrow.2.1
      clear h3 h4 hc hrow hH hlH hz
      by_cases hne : hl0 = n
      case neg =>
        have g0 : ((hl0 : Int) != (n : Int)) = true := by simp; omega
        have HF : Hid (mfst g n = 3) := by
          have hgi : g i = 3 := by rw [unhide HGI, if_pos hne]
          show _ = _
          rw [mfst_at hlt (unhide HZ) (by rw [hgi]; decide), hgi]
        clear hne
        go_wp2_with fail
        go_ret
        exact ⟨by rw [unhide HF] <;> rfl, rfl⟩
      subst hne
      have g0 : ((hl0 : Int) != (hl0 : Int)) = false := by simp
      have C := hide (dst_contains ha hl0 hcp (R i) wr (unhide HROW) (by omega))
      cases hd : dany (R i) hl0 with
      | true =>
        have hd' : ((List.range hl0).any fun j => dbad (R i j)) = true := hd
        rw [hd'] at C
        have HF : Hid (mfst g hl0 = 2) := by
          have hgi : g i = 2 := by rw [unhide HGI, if_neg (by simp), if_pos hd]
          show _ = _
          rw [mfst_at hlt (unhide HZ) (by rw [hgi]; decide), hgi]
        clear hd hd' HROW
        go_wp2_with fail
        refine (unhide C).mono ?_
        rintro e_ w2 ⟨rfl, rfl⟩
        go_wp2
        go_ret
        exact ⟨by rw [unhide HF] <;> rfl, rfl⟩
      | false =>
        have hd' : ((List.range hl0).any fun j => dbad (R i j)) = false := hd
        rw [hd'] at C
        have HF : Hid (mfst g (i + 1) = 0) := mfst_next (unhide HZ) (by rw [unhide HGI, if_neg (by simp), hd]; rfl)
        clear hd hd' HROW
        go_wp2_with fail
        refine (unhide C).mono ?_
        rintro e_ w2 ⟨rfl, rfl⟩
        go_wp2
        exact ⟨⟨i + 1, rfl, hlt, unhide HF, by first | rfl | trivial⟩, by simp [intOf]; omega⟩
    · obtain rfl : i = n := by omega
      have e2 : ¬ (i : Int) < (i : Int) := by omega
      have HZ := hide hz
      clear hz HR HG
      go_wp2
      go_ret
      exact ⟨by rw [unhide HZ] <;> rfl, rfl⟩
end Go.Proofs.YtcmddkekidgkoaaDoor
