/- The program's Check. -/
import Derived.Test.YteflciddadjilaaDoorP1
namespace Go.Proofs.YteflciddadjilaaDoor
open Go.RowKit Go.Sort

def bad (t : T3) : Bool := decide (t.1 < 0 ∨ 1000000000 < t.1 ∨ t.2.1 < 1 ∨ 1000000000 < t.2.1 ∨ t.2.2 < 0 ∨ 9 < t.2.2)
def prevAt (f : Nat → T3) : Nat → Int
  | 0 => 0
  | k + 1 => (f k).1
/-- The first fault of the first k jobs. -/
def jc (f : Nat → T3) : Nat → Int
  | 0 => 0
  | k + 1 => if jc f k ≠ 0 then jc f k else if bad (f k) then 2 else if (f k).1 < prevAt f k then 12 else 0
def jcode (n : Nat) (f : Nat → T3) : Int := if 60 < n then 4 else jc f n
def errV (k : Int) : Value := if k = 0 then .nilIface else .iface 25 (.int .i64 k)

theorem jc_stays {f : Nat → T3} {m : Nat} (h : jc f m ≠ 0) : ∀ d, jc f (m + d) = jc f m
  | 0 => rfl
  | d + 1 => by
    have ih := jc_stays h d
    show (if jc f (m + d) ≠ 0 then jc f (m + d) else _) = _
    rw [ih, if_pos h]
theorem jc_end {f : Nat → T3} {m n : Nat} {k : Int} (h : jc f (m + 1) = k) (hk : k ≠ 0) (hm : m < n) : jc f n = k := by
  obtain ⟨d, rfl⟩ := Nat.le.dest (show m + 1 ≤ n by omega)
  rw [jc_stays (by rw [h]; exact hk), h]
theorem jc_bad {f : Nat → T3} {m : Nat} (h0 : jc f m = 0) (hb : bad (f m) = true) : jc f (m + 1) = 2 := by
  show (if jc f m ≠ 0 then _ else if bad (f m) then 2 else _) = _
  rw [if_neg (by rw [h0]; decide), if_pos hb]
theorem jc_order {f : Nat → T3} {m : Nat} (h0 : jc f m = 0) (hb : bad (f m) = false) (ho : (f m).1 < prevAt f m) : jc f (m + 1) = 12 := by
  show (if jc f m ≠ 0 then _ else if bad (f m) then 2 else if (f m).1 < prevAt f m then 12 else 0) = _
  rw [if_neg (by rw [h0]; decide), if_neg (by rw [hb]; decide), if_pos ho]
theorem jc_good {f : Nat → T3} {m : Nat} (h0 : jc f m = 0) (hb : bad (f m) = false) (ho : ¬ (f m).1 < prevAt f m) : jc f (m + 1) = 0 := by
  show (if jc f m ≠ 0 then _ else if bad (f m) then 2 else if (f m).1 < prevAt f m then 12 else 0) = _
  rw [if_neg (by rw [h0]; decide), if_neg (by rw [hb]; decide), if_neg ho]

/-- Jobs that may be. -/
structure Good (n : Nat) (f : Nat → T3) : Prop where
  few : n ≤ 60
  at0 : ∀ i, i < n → 0 ≤ (f i).1 ∧ (f i).1 ≤ 1000000000
  size : ∀ i, i < n → 1 ≤ (f i).2.1 ∧ (f i).2.1 ≤ 1000000000
  cls : ∀ i, i < n → 0 ≤ (f i).2.2 ∧ (f i).2.2 ≤ 9
  next : ∀ i, i + 1 < n → (f i).1 ≤ (f (i + 1)).1

theorem jc_zero {f : Nat → T3} : ∀ {n : Nat}, jc f n = 0 → ∀ i, i < n → bad (f i) = false ∧ prevAt f i ≤ (f i).1
  | n + 1, h, i, hi => by
    have h' : (if jc f n ≠ 0 then jc f n else if bad (f n) then 2 else if (f n).1 < prevAt f n then 12 else 0) = (0 : Int) := h
    by_cases c1 : jc f n = 0
    · rw [if_neg (by simpa using c1)] at h'
      by_cases c2 : bad (f n) = true
      · rw [if_pos c2] at h'; exact absurd h' (by decide)
      · rw [if_neg c2] at h'
        by_cases c3 : (f n).1 < prevAt f n
        · rw [if_pos c3] at h'; exact absurd h' (by decide)
        · rcases Nat.lt_or_ge i n with c | c
          · exact jc_zero c1 i c
          · obtain rfl : i = n := by omega
            exact ⟨by simpa using c2, by omega⟩
    · rw [if_pos c1] at h'; exact absurd h' c1
theorem good_of {n : Nat} {f : Nat → T3} (h : jcode n f = 0) : Good n f := by
  unfold jcode at h
  by_cases c : 60 < n
  · rw [if_pos c] at h; exact absurd h (by decide)
  · rw [if_neg c] at h
    have hb : ∀ i, i < n → ¬ ((f i).1 < 0 ∨ 1000000000 < (f i).1 ∨ (f i).2.1 < 1 ∨ 1000000000 < (f i).2.1 ∨ (f i).2.2 < 0 ∨ 9 < (f i).2.2) := fun i hi => by
      have := (jc_zero h i hi).1
      unfold bad at this
      exact of_decide_eq_false this
    exact ⟨by omega, fun i hi => by have := hb i hi; omega, fun i hi => by have := hb i hi; omega, fun i hi => by have := hb i hi; omega, fun i hi => (jc_zero h (i + 1) hi).2⟩
theorem good_mono {n : Nat} {f : Nat → T3} (h : Good n f) {i : Nat} : ∀ {j : Nat}, i ≤ j → j < n → (f i).1 ≤ (f j).1
  | 0, h1, _ => by rw [show i = 0 by omega]; omega
  | j + 1, h1, h2 => by
    rcases Nat.lt_or_ge i (j + 1) with c | c
    · have := good_mono h (i := i) (j := j) (by omega) (by omega)
      have := h.next j h2
      omega
    · rw [show i = j + 1 by omega]; omega
theorem errV_zero : errV 0 = .nilIface := rfl
theorem errV_not {k : Int} (h : k ≠ 0) : errV k = .iface 25 (.int .i64 k) := by unfold errV; rw [if_neg h]

set_option maxHeartbeats 1000000 in
theorem outside_any (x y z : Int) (w : World) :
    Calls Tryd.prog 18 #[.agg #[.int .i64 x, .int .i64 y, .int .i64 z]] w fun e w' => e = .returned (.bool (bad (x, y, z))) ∧ Below w.heap.size w w' := by
  by_cases h1 : x < 0
  · rw [show bad (x, y, z) = true by simp [bad, h1]]
    go_enter Tryd.func18, Tryd.ntmps18
    go_wp2
    go_ret
    exact ⟨rfl, alloc_below _ _⟩
  by_cases h2 : 1000000000 < x
  · rw [show bad (x, y, z) = true by simp [bad, h2]]
    go_enter Tryd.func18, Tryd.ntmps18
    go_wp2
    go_ret
    exact ⟨rfl, alloc_below _ _⟩
  by_cases h3 : y < 1
  · rw [show bad (x, y, z) = true by simp [bad, h3]]
    go_enter Tryd.func18, Tryd.ntmps18
    go_wp2
    go_ret
    exact ⟨rfl, alloc_below _ _⟩
  by_cases h4 : 1000000000 < y
  · rw [show bad (x, y, z) = true by simp [bad, h4]]
    go_enter Tryd.func18, Tryd.ntmps18
    go_wp2
    go_ret
    exact ⟨rfl, alloc_below _ _⟩
  by_cases h5 : z < 0
  · rw [show bad (x, y, z) = true by simp [bad, h5]]
    go_enter Tryd.func18, Tryd.ntmps18
    go_wp2
    go_ret
    exact ⟨rfl, alloc_below _ _⟩
  by_cases h6 : 9 < z
  · rw [show bad (x, y, z) = true by simp [bad, h6]]
    go_enter Tryd.func18, Tryd.ntmps18
    go_wp2
    go_ret
    exact ⟨rfl, alloc_below _ _⟩
  rw [show bad (x, y, z) = false by simp [bad]; omega]
  go_enter Tryd.func18, Tryd.ntmps18
  go_wp2
  go_ret
  exact ⟨rfl, alloc_below _ _⟩

set_option maxHeartbeats 1000000 in
theorem check_any (a : Option Addr) (n c : Nat) (f : Nat → T3) (w : World) (ha : TRow w a n c f) :
    Calls Tryd.prog 11 #[.slice a n c] w fun e w' => e = .returned (errV (jcode n f)) ∧ Below w.heap.size w w' := by
  obtain ⟨h1, h2, h3⟩ := ha
  have H3 := hide h3
  clear h3
  by_cases hn : 60 < n
  · have hv : errV (jcode n f) = .iface 25 (.int .i64 4) := by unfold jcode; rw [if_pos hn]; rfl
    rw [hv]
    have hn' : (60 : Int) < (n : Int) := by omega
    go_enter Tryd.func11, Tryd.ntmps11
    go_wp2
    go_ret
    exact ⟨rfl, Below.refl _ _⟩
  have hj : jcode n f = jc f n := by unfold jcode; rw [if_neg hn]
  rw [hj]
  have hn' : ¬ (60 : Int) < (n : Int) := by omega
  clear hj
  go_enter Tryd.func11, Tryd.ntmps11
  go_wp2
  go_loopw [3, 12] (fun ve vi wr => ∃ m : Nat, vi = .int .i64 (m : Int) ∧ ve = .int .i64 (prevAt f m) ∧ m ≤ n ∧ jc f m = 0 ∧ Below w.heap.size w wr) (fun _ vi _ => n - (intOf vi).toNat)
  case atStart => exact ⟨0, rfl, rfl, Nat.zero_le _, rfl, Below.refl _ _⟩
  case round =>
    obtain ⟨m, rfl, rfl, hm, hj, hb⟩ := hrel
    obtain ⟨p, hp⟩ : ∃ p, prevAt f m = p := ⟨_, rfl⟩
    rw [hp]
    by_cases hlt : m < n
    · obtain ⟨b, o, rfl, hbl, hc⟩ := unhide H3 (by omega)
      have ⟨k0, k1, k2⟩ := hc m hlt
      rw [← hb.cell (p := ⟨b, o + m * 3, none⟩) hbl] at k0
      rw [← hb.cell (p := ⟨b, o + m * 3 + 1, none⟩) hbl] at k1
      rw [← hb.cell (p := ⟨b, o + m * 3 + 2, none⟩) hbl] at k2
      obtain ⟨⟨x, y, z⟩, hf⟩ : ∃ t, f m = t := ⟨_, rfl⟩
      rw [hf] at k0 k1 k2
      simp only at k0 k1 k2
      have e2 : (0 : Int) ≤ (m : Int) := by omega
      have e3 : (m : Int) < (n : Int) := by omega
      have HB := hide hb
      have HJ := hide hj
      have HP := hide hp
      have HF := hide hf
      have HO := hide (outside_any x y z (wr.alloc (.cells #[.int .i64 x, .int .i64 y, .int .i64 z] 49)))
      clear hc H3 hb hj hp hf
      by_cases hbad : bad (x, y, z) = true
      · have hv := jc_end (jc_bad (unhide HJ) (by rw [unhide HF]; exact hbad)) (by decide) hlt
        have hv' : errV (jc f n) = .iface 25 (.int .i64 2) := by rw [hv]; rfl
        have HV := hide hv'
        have HBad := hide hbad
        clear hv hv' hbad
        go_wp2_with fail
        refine (unhide HO).mono ?_
        rintro e w2 ⟨rfl, hb2⟩
        rw [unhide HBad]
        go_wp2
        go_ret
        exact ⟨by rw [unhide HV]; rfl, below_step (below_step (unhide HB) (alloc_below _ _)) hb2⟩
      · have hgood : bad (x, y, z) = false := by simpa using hbad
        have HGood := hide hgood
        by_cases ho : x < p
        · have hv := jc_end (jc_order (unhide HJ) (by rw [unhide HF]; exact hgood) (by rw [unhide HF, unhide HP]; exact ho)) (by decide) hlt
          have hv' : errV (jc f n) = .iface 25 (.int .i64 12) := by rw [hv]; rfl
          have HV := hide hv'
          clear hv hv' hbad hgood
          go_wp2_with fail
          refine (unhide HO).mono ?_
          rintro e w2 ⟨rfl, hb2⟩
          rw [unhide HGood]
          have ⟨q0, q1, q2⟩ := box3 hb2
          go_wp2
          go_ret
          exact ⟨by rw [unhide HV]; rfl, below_step (below_step (unhide HB) (alloc_below _ _)) hb2⟩
        · clear hbad hgood
          go_wp2_with fail
          refine (unhide HO).mono ?_
          rintro e w2 ⟨rfl, hb2⟩
          rw [unhide HGood]
          have ⟨q0, q1, q2⟩ := box3 hb2
          go_wp2
          refine ⟨⟨m + 1, by go_num, ?_, by omega, jc_good (unhide HJ) (by rw [unhide HF]; exact unhide HGood) (by rw [unhide HF, unhide HP]; exact Int.not_lt.2 ho), below_step (below_step (unhide HB) (alloc_below _ _)) hb2⟩, by simp [intOf]; omega⟩
          show _ = Value.int .i64 (f m).1
          rw [unhide HF]
    · obtain rfl : m = n := by omega
      have HV : Hid (errV (jc f m) = .nilIface) := by rw [hj]; exact rfl
      clear hj
      have e3 : ¬ (m : Int) < (m : Int) := by omega
      go_wp2
      go_ret
      exact ⟨by rw [unhide HV]; rfl, hb⟩
end Go.Proofs.YteflciddadjilaaDoor
