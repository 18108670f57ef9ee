/- Needs: what the program's Check says of them. -/
import Derived.Test.YtbbmhidnakghfaaDoorL6
import Derived.Test.YtbbmhidnakghfaaDoorM40
namespace Go.Proofs.YtbbmhidnakghfaaDoor
open Go.RowKit Go.Sort

def nbad (x : Int) : Bool := decide (x < 0 ∨ 1000000 < x)
def anyB (f : Nat → Int) (n : Nat) : Bool := (List.range n).any (fun j => nbad (f j))
theorem anyB_true {f : Nat → Int} {n j : Nat} (hj : j < n) (h : nbad (f j) = true) : anyB f n = true := List.any_eq_true.2 ⟨j, List.mem_range.2 hj, h⟩
theorem anyB_false {f : Nat → Int} {n : Nat} (h : ∀ j, j < n → nbad (f j) = false) : anyB f n = false := by
  cases hb : anyB f n with
  | false => rfl
  | true =>
    obtain ⟨i, h1, h2⟩ := List.any_eq_true.1 hb
    rw [h i (List.mem_range.1 h1)] at h2
    cases h2
theorem anyB_all {f : Nat → Int} {n : Nat} (h : anyB f n = false) (j : Nat) (hj : j < n) : 0 ≤ f j ∧ f j ≤ 1000000 := by
  cases hb : nbad (f j) with
  | true => rw [anyB_true hj hb] at h; cases h
  | false => have := of_decide_eq_false hb; omega
def ncode (wn om km : Nat) (fW fO fK : Nat → Int) : Int := if 50 < wn then 4 else if om ≠ wn ∨ km ≠ wn then 3 else if (anyB fW wn || anyB fO wn || anyB fK wn) = true then 2 else 0
def ndOf (n : Nat) (fW fO fK : Nat → Int) : Lot.Nd := ⟨n, fW, fO, fK⟩
theorem ncode_zero {wn om km : Nat} {fW fO fK : Nat → Int} (h : ncode wn om km fW fO fK = 0) : om = wn ∧ km = wn ∧ Lot.Good (ndOf wn fW fO fK) := by
  unfold ncode at h
  by_cases c : 50 < wn
  · rw [if_pos c] at h; exact absurd h (by decide)
  · rw [if_neg c] at h
    by_cases c2 : om ≠ wn ∨ km ≠ wn
    · rw [if_pos c2] at h; exact absurd h (by decide)
    · rw [if_neg c2] at h
      by_cases c3 : (anyB fW wn || anyB fO wn || anyB fK wn) = true
      · rw [if_pos c3] at h; exact absurd h (by decide)
      · have c4 : anyB fW wn = false ∧ anyB fO wn = false ∧ anyB fK wn = false := by
          cases h1 : anyB fW wn <;> cases h2 : anyB fO wn <;> cases h3 : anyB fK wn <;> simp [h1, h2, h3] at c3 ⊢
        exact ⟨by omega, by omega, ⟨by show wn ≤ 50; omega, fun i hi => anyB_all c4.1 i hi, fun i hi => anyB_all c4.2.1 i hi, fun i hi => anyB_all c4.2.2 i hi⟩⟩

set_option maxHeartbeats 1000000 in
theorem lwithin_any (x m : Int) (w : World) :
    Calls Tryd.prog 14 #[.int .i64 x, .int .i64 m] w fun e w' => e = .returned (.bool (decide (0 ≤ x ∧ x ≤ m))) ∧ w' = w := by
  by_cases h1 : 0 ≤ x
  · by_cases h2 : x ≤ m
    · rw [decide_eq_true (show 0 ≤ x ∧ x ≤ m from ⟨h1, h2⟩)]
      go_enter Tryd.func14, Tryd.ntmps14
      go_wp2
      go_ret
      exact ⟨rfl, rfl⟩
    · rw [decide_eq_false (show ¬ (0 ≤ x ∧ x ≤ m) from fun h => h2 h.2)]
      go_enter Tryd.func14, Tryd.ntmps14
      go_wp2
      go_ret
      exact ⟨rfl, rfl⟩
  · rw [decide_eq_false (show ¬ (0 ≤ x ∧ x ≤ m) from fun h => h1 h.1)]
    go_enter Tryd.func14, Tryd.ntmps14
    go_wp2
    go_ret
    exact ⟨rfl, rfl⟩
set_option maxHeartbeats 1000000 in
theorem wrong_any (x : Int) (w : World) :
    Calls Tryd.prog 16 #[.int .i64 x] w fun e w' => e = .returned (.bool (nbad x)) ∧ w' = w := by
  have C := hide (lwithin_any x 1000000 w)
  by_cases h : 0 ≤ x ∧ x ≤ 1000000
  · rw [show nbad x = false from decide_eq_false (by omega)]
    rw [decide_eq_true h] at C
    clear h
    go_enter Tryd.func16, Tryd.ntmps16
    go_wp2_with fail
    refine (unhide C).mono ?_
    rintro e_ w2 ⟨rfl, rfl⟩
    go_wp2
    go_ret
    exact ⟨rfl, rfl⟩
  · rw [show nbad x = true from decide_eq_true (by omega)]
    rw [decide_eq_false h] at C
    clear h
    go_enter Tryd.func16, Tryd.ntmps16
    go_wp2_with fail
    refine (unhide C).mono ?_
    rintro e_ w2 ⟨rfl, rfl⟩
    go_wp2
    go_ret
    exact ⟨rfl, rfl⟩
def IxPost (f : Nat → Int) (n : Nat) (w : World) (e : Ending) (w' : World) : Prop := (∃ r : Int, e = .returned (.int .i64 r) ∧ decide (0 ≤ r) = anyB f n) ∧ w' = w
set_option maxHeartbeats 4000000 in
theorem index_any (a : Option Addr) (n c : Nat) (f : Nat → Int) (w : World) (ha : IRow w a n c f) (hn : n ≤ 1000000) :
    Calls Tryd.prog 25 #[.slice a n c, .func (.func 16) #[] #[]] w (IxPost f n w) := by
  obtain ⟨h1, h2, h3⟩ := ha
  have H3 := hide h3
  clear h3
  go_enter Tryd.func25, Tryd.ntmps25
  go_wp2
  go_loopw [8] (fun vi wr => ∃ m : Nat, vi = .int .i64 (m : Int) ∧ m ≤ n ∧ (∀ j, j < m → nbad (f j) = false) ∧ wr = w) (fun vi _ => n - (intOf vi).toNat)
  case atStart => exact ⟨0, rfl, Nat.zero_le _, fun j hj => absurd hj (Nat.not_lt_zero _), rfl⟩
  case round =>
    obtain ⟨m, rfl, hm, hj, rfl⟩ := hrel
    by_cases hlt : m < n
    · obtain ⟨b, o, rfl, hbl, hc⟩ := unhide H3 (by omega)
      have k0 := hc m hlt
      obtain ⟨x, hx⟩ : ∃ x, f m = x := ⟨_, rfl⟩
      rw [hx] at k0
      have e2 : (0 : Int) ≤ (m : Int) := by omega
      have e3 : (m : Int) < (n : Int) := by omega
      have HJ := hide hj
      have HX := hide hx
      have C := hide (wrong_any x wr)
      clear hc H3 hj hx
      cases hb : nbad x with
      | true =>
        rw [hb] at C
        have HF := hide (anyB_true (f := f) hlt (by rw [unhide HX]; exact hb))
        clear hb
        go_wp2_with fail
        refine (unhide C).mono ?_
        rintro e_ w2 ⟨rfl, rfl⟩
        go_wp2
        go_ret
        exact ⟨⟨_, rfl, by rw [unhide HF]; exact decide_eq_true (by omega)⟩, rfl⟩
      | false =>
        rw [hb] at C
        have HF : Hid (nbad (f m) = false) := by show nbad (f m) = false; rw [unhide HX]; exact hb
        clear hb
        go_wp2_with fail
        refine (unhide C).mono ?_
        rintro e_ w2 ⟨rfl, rfl⟩
        go_wp2
        refine ⟨⟨m + 1, by go_num, hlt, fun j hj => ?_, by first | exact rfl | trivial⟩, by simp [intOf]; omega⟩
        by_cases hjm : j = m
        · rw [hjm]; exact unhide HF
        · exact unhide HJ j (by omega)
    · obtain rfl : m = n := by omega
      have HF := hide (anyB_false hj)
      clear hj
      have e3 : ¬ (m : Int) < (m : Int) := by omega
      go_wp2
      go_ret
      exact ⟨⟨_, rfl, by rw [unhide HF]; exact decide_eq_false (by omega)⟩, rfl⟩
set_option maxHeartbeats 4000000 in
theorem contains_any (a : Option Addr) (n c : Nat) (f : Nat → Int) (w : World) (ha : IRow w a n c f) (hn : n ≤ 1000000) :
    Calls Tryd.prog 17 #[.slice a n c, .func (.func 16) #[] #[]] w fun e w' => e = .returned (.bool (anyB f n)) ∧ w' = w := by
  have C := hide (index_any a n c f w ha hn)
  have q1 := ha.1
  have q2 := ha.2.1
  obtain ⟨B, hB⟩ : ∃ B, anyB f n = B := ⟨_, rfl⟩
  have HB := hide hB
  rw [hB]
  clear ha hB
  go_enter Tryd.func17, Tryd.ntmps17
  go_wp2_with fail
  refine (unhide C).mono ?_
  rintro e_ w2 ⟨⟨r, rfl, hr⟩, rfl⟩
  by_cases h : 0 ≤ r
  · rw [decide_eq_true h] at hr
    obtain rfl : B = true := (unhide HB).symm.trans hr.symm
    clear hr
    go_wp2
    go_ret
    exact ⟨rfl, rfl⟩
  · rw [decide_eq_false h] at hr
    obtain rfl : B = false := (unhide HB).symm.trans hr.symm
    have h' : decide (0 ≤ r) = false := decide_eq_false h
    clear hr
    go_wp2
    go_ret
    exact ⟨rfl, rfl⟩

def three {α : Type} (x y z : α) (m : Nat) : α := if m = 0 then x else if m = 1 then y else z
set_option maxHeartbeats 8000000 in
theorem ncheck_any (wa : Option Addr) (wn wd : Nat) (oa : Option Addr) (om od : Nat) (ka : Option Addr) (km kd : Nat) (fW fO fK : Nat → Int) (w : World) (hw : IRow w wa wn wd fW) (ho : IRow w oa om od fO) (hk : IRow w ka km kd fK) :
    Calls Tryd.prog 8 #[.agg #[.slice wa wn wd, .slice oa om od, .slice ka km kd]] w fun e w' => e = .returned (errV (ncode wn om km fW fO fK)) ∧ Below w.heap.size w w' := by
  have q1 := hw.1
  have q2 := hw.2.1
  have q3 := ho.1
  have q4 := ho.2.1
  have q5 := hk.1
  have q6 := hk.2.1
  have ⟨c0, c1, c2⟩ := box3 (w := w) (x := .slice wa wn wd) (y := .slice oa om od) (z := .slice ka km kd) (T := 24) (Below.refl _ _)
  have HB1 := hide (alloc_below w (.cells #[.slice wa wn wd, .slice oa om od, .slice ka km kd] 24))
  have HWR := hide hw
  have HOR := hide ho
  have HKR := hide hk
  obtain ⟨W1, hW1⟩ : ∃ W, w.alloc (.cells #[.slice wa wn wd, .slice oa om od, .slice ka km kd] 24) = W := ⟨_, rfl⟩
  rw [hW1] at c0 c1 c2 HB1
  clear hw ho hk
  by_cases hn : 50 < wn
  · have hv : errV (ncode wn om km fW fO fK) = .iface 26 (.int .i64 4) := by unfold ncode; rw [if_pos hn]; rfl
    rw [hv]
    have hn' : (50 : Int) < (wn : Int) := by omega
    clear hv
    go_enter Tryd.func8, Tryd.ntmps8
    go_wp2
    go_ret
    exact ⟨rfl, unhide HB1⟩
  have hn' : ¬ (50 : Int) < (wn : Int) := by omega
  by_cases h1 : om = wn
  case neg =>
    have hv : errV (ncode wn om km fW fO fK) = .iface 26 (.int .i64 3) := by unfold ncode; rw [if_neg hn, if_pos (Or.inl h1)]; rfl
    rw [hv]
    have e1 : ((om : Int) == (wn : Int)) = false := by simp; omega
    clear hv
    go_enter Tryd.func8, Tryd.ntmps8
    go_wp2
    go_ret
    exact ⟨rfl, unhide HB1⟩
  subst h1
  by_cases h2 : km = om
  case neg =>
    have hv : errV (ncode om om km fW fO fK) = .iface 26 (.int .i64 3) := by unfold ncode; rw [if_neg hn, if_pos (Or.inr h2)]; rfl
    rw [hv]
    have e1 : ((km : Int) == (om : Int)) = false := by simp; omega
    have e2 : ((om : Int) == (om : Int)) = true := by simp
    clear hv
    go_enter Tryd.func8, Tryd.ntmps8
    go_wp2
    go_ret
    exact ⟨rfl, unhide HB1⟩
  subst h2
  have hnc : ncode km km km fW fO fK = if (anyB fW km || anyB fO km || anyB fK km) = true then 2 else 0 := by unfold ncode; rw [if_neg hn, if_neg (by omega)]
  obtain ⟨W2, hW2⟩ : ∃ W, W1.alloc (.cells #[.slice wa km wd, .slice oa km od, .slice ka km kd] 22) = W := ⟨_, rfl⟩
  obtain ⟨g, hg⟩ : ∃ g, W1.heap.size = g := ⟨_, rfl⟩
  have HB2 : Hid (Below w.heap.size w W2) := by show Below _ _ _; rw [← hW2]; exact below_step (unhide HB1) (alloc_below W1 _)
  have HR : Hid (∀ m, m < 3 → W2.cell? ⟨g, m, none⟩ = some (.slice (three wa oa ka m) km (three wd od kd m)) ∧ IRow W2 (three wa oa ka m) km (three wd od kd m) (three fW fO fK m)) := by
    show ∀ m, m < 3 → _
    have ⟨d0, d1, d2⟩ := box3 (w := W1) (x := .slice wa km wd) (y := .slice oa km od) (z := .slice ka km kd) (T := 22) (Below.refl _ _)
    rw [hW2, hg] at d0 d1 d2
    intro m hm
    match m, hm with
    | 0, _ => exact ⟨d0, (unhide HWR).below (unhide HB2)⟩
    | 1, _ => exact ⟨d1, (unhide HOR).below (unhide HB2)⟩
    | 2, _ => exact ⟨d2, (unhide HKR).below (unhide HB2)⟩
  have HNC := hide hnc
  have e1 : ((km : Int) == (km : Int)) = true := by simp
  clear hnc HB1 HWR HOR HKR
  go_enter Tryd.func8, Tryd.ntmps8
  go_wp2_with fail
  clear c0 c1 c2 hW1 hW2 hg
  go_loopw [36] (fun vi wr => ∃ m : Nat, vi = .int .i64 (m : Int) ∧ m ≤ 3 ∧ (∀ j, j < m → anyB (three fW fO fK j) km = false) ∧ wr = W2) (fun vi _ => 3 - (intOf vi).toNat)
  case atStart => exact ⟨0, rfl, Nat.zero_le _, fun j hj => absurd hj (Nat.not_lt_zero _), rfl⟩
  case round =>
    obtain ⟨m, rfl, hm, hj, rfl⟩ := hrel
    by_cases hlt : m < 3
    · obtain ⟨k0, hr⟩ := unhide HR m hlt
      have HJ := hide hj
      have C := hide (contains_any _ km _ _ wr hr (by omega))
      have e2 : (0 : Int) ≤ (m : Int) := by omega
      have e3 : (m : Int) < 3 := by omega
      have q7 := hr.1
      have q8 := hr.2.1
      obtain ⟨A, hA⟩ : ∃ A, three wa oa ka m = A := ⟨_, rfl⟩
      obtain ⟨D, hD⟩ : ∃ D, three wd od kd m = D := ⟨_, rfl⟩
      rw [hA, hD] at k0 C
      rw [hD] at q7 q8
      clear hr hj hA hD
      cases hb : anyB (three fW fO fK m) km with
      | true =>
        rw [hb] at C
        have HV : Hid (errV (ncode km km km fW fO fK) = .iface 26 (.int .i64 2)) := by
          show errV _ = _
          rw [unhide HNC, if_pos]
          · rfl
          · match m, hlt, hb with
            | 0, _, hb => have hb' : anyB fW km = true := hb; simp [hb']
            | 1, _, hb => have hb' : anyB fO km = true := hb; simp [hb']
            | 2, _, hb => have hb' : anyB fK km = true := hb; simp [hb']
        clear hb HNC HR
        go_wp2_with fail
        refine (unhide C).mono ?_
        rintro e_ w2 ⟨rfl, rfl⟩
        go_wp2
        go_ret
        exact ⟨by rw [unhide HV]; rfl, unhide HB2⟩
      | false =>
        rw [hb] at C
        have HF := hide hb
        clear hb HR
        go_wp2_with fail
        refine (unhide C).mono ?_
        rintro e_ w2 ⟨rfl, rfl⟩
        go_wp2
        refine ⟨⟨m + 1, by go_num, hlt, fun j hj => ?_, by first | exact rfl | trivial⟩, by simp [intOf]; omega⟩
        by_cases hjm : j = m
        · rw [hjm]; exact unhide HF
        · exact unhide HJ j (by omega)
    · obtain rfl : m = 3 := by omega
      have HV : Hid (errV (ncode km km km fW fO fK) = .nilIface) := by
        show errV _ = _
        have a0 : anyB fW km = false := hj 0 (by omega)
        have a1 : anyB fO km = false := hj 1 (by omega)
        have a2 : anyB fK km = false := hj 2 (by omega)
        rw [unhide HNC, a0, a1, a2]; rfl
      clear hj HR HNC
      go_wp2
      go_ret
      exact ⟨by rw [unhide HV]; rfl, unhide HB2⟩
end Go.Proofs.YtbbmhidnakghfaaDoor
