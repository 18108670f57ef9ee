/- Trees of the program: Check. -/
import Derived.Test.YtcmddkekidgkoaaDoorTE2
namespace Go.Proofs.YtcmddkekidgkoaaDoor
open Go.RowKit Go.Sort Go.Shelf

def ebad (n : Int) (t : T3) : Bool := decide (t.1 < 0 ∨ n ≤ t.1 ∨ t.2.1 < 0 ∨ n ≤ t.2.1 ∨ t.2.2 < 0 ∨ 1000000000 < t.2.2)
def ubad (n : Int) (m : Nat) (f : Nat → T3) : Bool := (List.range m).any (fun j => ebad n (f j))
/-- cu tells whether all can be come to from 0. -/
def Cu (n m : Nat) (f : Nat → T3) (cu : Bool) : Prop := cu = true ↔ Tre.Conn n m (eA f) (eB f)
theorem cu_some (n m : Nat) (f : Nat → T3) : ∃ cu, Cu n m f cu := by
  rcases Classical.em (Tre.Conn n m (eA f) (eB f)) with h | h
  · exact ⟨true, ⟨fun _ => h, fun _ => rfl⟩⟩
  · exact ⟨false, ⟨fun h' => (Bool.false_ne_true h').elim, fun h' => absurd h' h⟩⟩
def kcode (n : Int) (m : Nat) (f : Nat → T3) (cu : Bool) : Int := if n < 1 ∨ 60 < n then 4 else if (m : Int) ≠ n - 1 then 3 else if ubad n m f then 2 else if cu then 0 else 8
theorem ubad_true {n : Int} {m j : Nat} {f : Nat → T3} (hj : j < m) (h : ebad n (f j) = true) : ubad n m f = true := List.any_eq_true.2 ⟨j, List.mem_range.2 hj, h⟩
theorem ubad_false {n : Int} {m : Nat} {f : Nat → T3} (h : ∀ j, j < m → ebad n (f j) = false) : ubad n m f = false := by
  cases hb : ubad n m f with
  | false => rfl
  | true =>
    obtain ⟨i, h1, h2⟩ := List.any_eq_true.1 hb
    rw [h i (List.mem_range.1 h1)] at h2
    cases h2
theorem ubad_good {n m : Nat} {f : Nat → T3} (h : ubad (n : Int) m f = false) : GoodE n m f := by
  have hb : ∀ j, j < m → ¬ ((f j).1 < 0 ∨ (n : Int) ≤ (f j).1 ∨ (f j).2.1 < 0 ∨ (n : Int) ≤ (f j).2.1 ∨ (f j).2.2 < 0 ∨ 1000000000 < (f j).2.2) := fun j hj => by
    cases hc : ebad (n : Int) (f j) with
    | true => rw [ubad_true hj hc] at h; cases h
    | false => exact of_decide_eq_false hc
  exact ⟨fun i hi => by have := hb i hi; omega, fun i hi => by have := hb i hi; omega, fun i hi => by have := hb i hi; omega⟩
/-- A tree that may be. -/
structure GTree (n m : Nat) (f : Nat → T3) (s : Nat → Nat → Bool) : Prop where
  one : 1 ≤ n
  few : n ≤ 60
  mn : m + 1 = n
  good : GoodE n m f
  tr : Tre.Tr n m (eA f) (eB f) s
theorem kcode_zero {N : Int} {m : Nat} {f : Nat → T3} {cu : Bool} (hcu : Cu N.toNat m f cu) (h : kcode N m f cu = 0) : ∃ (n : Nat) (s : Nat → Nat → Bool), N = (n : Int) ∧ GTree n m f s := by
  unfold kcode at h
  by_cases c1 : N < 1 ∨ 60 < N
  · rw [if_pos c1] at h; exact absurd h (by decide)
  rw [if_neg c1] at h
  by_cases c2 : (m : Int) ≠ N - 1
  · rw [if_pos c2] at h; exact absurd h (by decide)
  rw [if_neg c2] at h
  obtain ⟨n, rfl⟩ : ∃ n : Nat, N = (n : Int) := ⟨N.toNat, by omega⟩
  cases c3 : ubad (n : Int) m f with
  | true => rw [c3] at h; exact absurd (show (2 : Int) = 0 from h) (by decide)
  | false =>
    have hg := ubad_good c3
    rw [c3, if_neg (by decide)] at h
    cases cu with
    | false => exact absurd h (by decide)
    | true =>
      have hc : Tre.Conn n m (eA f) (eB f) := hcu.1 rfl
      obtain ⟨s, T⟩ := Tre.tree_of (by omega) hg.lA hg.lB hc
      exact ⟨n, s, rfl, ⟨by omega, by omega, by omega, hg, T⟩⟩
theorem kcode_lim {N : Int} {m : Nat} {f : Nat → T3} {cu : Bool} (h : N < 1 ∨ 60 < N) : kcode N m f cu = 4 := if_pos h
theorem kcode_form {N : Int} {m : Nat} {f : Nat → T3} {cu : Bool} (h : ¬ (N < 1 ∨ 60 < N)) (h2 : (m : Int) ≠ N - 1) : kcode N m f cu = 3 := (if_neg h).trans (if_pos h2)
theorem kcode_range {N : Int} {m : Nat} {f : Nat → T3} {cu : Bool} (h : ¬ (N < 1 ∨ 60 < N)) (h2 : ¬ (m : Int) ≠ N - 1) (h3 : ubad N m f = true) : kcode N m f cu = 2 := ((if_neg h).trans (if_neg h2)).trans (if_pos h3)
theorem kcode_last {N : Int} {m : Nat} {f : Nat → T3} {cu : Bool} (h : ¬ (N < 1 ∨ 60 < N)) (h2 : ¬ (m : Int) ≠ N - 1) (h3 : ubad N m f = false) : kcode N m f cu = if cu then 0 else 8 := ((if_neg h).trans (if_neg h2)).trans (if_neg (by rw [h3]; decide))

set_option maxHeartbeats 1000000 in
theorem twithin_any (x m : Int) (w : World) :
    Calls Tryd.prog 47 #[.int .i64 x, .int .i64 m] w fun e w' => e = .returned (.bool (decide (0 ≤ x ∧ x ≤ m))) ∧ w' = w := by
  by_cases h1 : 0 ≤ x
  · by_cases h2 : x ≤ m
    · rw [decide_eq_true (show 0 ≤ x ∧ x ≤ m from ⟨h1, h2⟩)]
      go_enter Tryd.func47, Tryd.ntmps47
      go_wp2
      go_ret
      exact ⟨rfl, rfl⟩
    · rw [decide_eq_false (show ¬ (0 ≤ x ∧ x ≤ m) from fun h => h2 h.2)]
      go_enter Tryd.func47, Tryd.ntmps47
      go_wp2
      go_ret
      exact ⟨rfl, rfl⟩
  · rw [decide_eq_false (show ¬ (0 ≤ x ∧ x ≤ m) from fun h => h1 h.1)]
    go_enter Tryd.func47, Tryd.ntmps47
    go_wp2
    go_ret
    exact ⟨rfl, rfl⟩

theorem getD_row (g : Nat → Int) {n j : Nat} (h : j < n) : ((List.range n).map g).getD j 0 = g j := by simp [h]
/-- Does a row hold it? -/
theorem contains_row (w : World) (G n c : Nat) (g : Nat → Int) (x : Int) (h : OwnI w G n g) (hn : n ≤ 1000) :
    Calls Tryd.prog 48 #[.slice (some ⟨G, 0, none⟩) n c, .int .i64 x] w fun e w' => e = .returned (.bool (((List.range n).map g).contains x)) ∧ w' = w := by
  have := Tryd.slices_Contains_int G 0 n c ((List.range n).map g) x w (by simp) (by omega) (fun j hj => by
    have hj' : j < n := by simpa using hj
    rw [Nat.zero_add, h.cell hj', getD_row g hj'])
  rwa [List.take_of_length_le (by simp)] at this
theorem contains_conn {n m : Nat} {f : Nat → T3} {out : Nat → Int} {cu : Bool} (hcu : Cu n m f cu) (hr : Tre.Run m (eA f) (eB f) (eL f) allE 0 out) (he : Tre.Ended m (eA f) (eB f) allE out) : ((List.range n).map out).contains (-1) = !cu := by
  have hc : Tre.Conn n m (eA f) (eB f) ↔ ∀ v, v < n → out v ≠ -1 := Tre.search_conn hr he
  cases cu with
  | true =>
    have h := hc.1 (hcu.1 rfl)
    rw [show (!true) = false from rfl, ← Bool.not_eq_true]
    intro h2
    rw [List.contains_iff_mem] at h2
    obtain ⟨v, h3, h4⟩ := List.mem_map.1 h2
    exact h v (List.mem_range.1 h3) h4
  | false =>
    show _ = true
    rw [List.contains_iff_mem]
    apply Classical.byContradiction
    intro h
    exact Bool.false_ne_true (hcu.2 (hc.2 fun v hv e => h (List.mem_map.2 ⟨v, List.mem_range.2 hv, e⟩)))

set_option maxHeartbeats 8000000 in
set_option maxRecDepth 100000 in
theorem tcheck_any (N : Int) (a : Option Addr) (m c : Nat) (f : Nat → T3) (cu : Bool) (w : World) (hN : I64 N) (hcu : Cu N.toNat m f cu) (ha : TRow w a m c f) :
    Calls Tryd.prog 15 #[.int .i64 N, .slice a m c] w fun e w' => e = .returned (errV (kcode N m f cu)) ∧ Below w.heap.size w w' := by
  have HA := hide ha
  have HCU0 := hide hcu
  have q1 := ha.1
  have q2 := ha.2.1
  clear ha hcu
  by_cases hlim : N < 1 ∨ 60 < N
  · have hv : errV (kcode N m f cu) = .iface 25 (.int .i64 4) := by rw [kcode_lim hlim]; rfl
    rw [hv]
    clear hv
    by_cases h1 : N < 1
    · clear hlim
      go_enter Tryd.func15, Tryd.ntmps15
      go_wp2
      go_ret
      exact ⟨rfl, Below.refl _ _⟩
    · have h2 : 60 < N := by omega
      clear hlim
      go_enter Tryd.func15, Tryd.ntmps15
      go_wp2
      go_ret
      exact ⟨rfl, Below.refl _ _⟩
  have HN1 := hide hlim
  have n1 : ¬ N < 1 := by omega
  have n2 : ¬ 60 < N := by omega
  have n3 : IntKind.i64.wrap (N - 1) = N - 1 := by rw [IntKind.wrap_i64]; omega
  by_cases hform : (m : Int) ≠ N - 1
  · have hv : errV (kcode N m f cu) = .iface 25 (.int .i64 3) := by rw [kcode_form hlim hform]; rfl
    rw [hv]
    have e0 : ((m : Int) != N - 1) = true := by simpa using hform
    clear hv hform hlim
    go_enter Tryd.func15, Tryd.ntmps15
    go_wp2
    go_ret
    exact ⟨rfl, Below.refl _ _⟩
  have HN2 := hide hform
  have e0 : ((m : Int) != N - 1) = false := by simpa using hform
  have hm60 : m ≤ 60 := by omega
  clear hlim hform
  go_enter Tryd.func15, Tryd.ntmps15
  go_wp2_with fail
  clear e0
  go_loopw [22] (fun vi wr => ∃ i : Nat, vi = .int .i64 (i : Int) ∧ i ≤ m ∧ (∀ j, j < i → ebad N (f j) = false) ∧ Below w.heap.size w wr) (fun vi _ => m - (intOf vi).toNat)
  case atStart => exact ⟨0, rfl, Nat.zero_le _, fun j hj => absurd hj (Nat.not_lt_zero _), Below.refl _ _⟩
  case round =>
    obtain ⟨i, rfl, hi, hj, hb⟩ := hrel
    by_cases hlt : i < m
    · obtain ⟨b, o, rfl, hbl, hc⟩ := ((unhide HA).below hb).2.2 (by omega)
      have ⟨k0, k1, k2⟩ := hc i hlt
      obtain ⟨⟨x, y, z⟩, hf⟩ : ∃ t, f i = t := ⟨_, rfl⟩
      rw [hf] at k0 k1 k2
      simp only at k0 k1 k2
      have e2 : (0 : Int) ≤ (i : Int) := by omega
      have e3 : (i : Int) < (m : Int) := by omega
      have HB := hide hb
      have HJ := hide hj
      have HF := hide hf
      have ⟨q0, q1', q2'⟩ := box3 (w := wr) (x := .int .i64 x) (y := .int .i64 y) (z := .int .i64 z) (T := 81) (Below.refl _ _)
      have HFIN := hide (below_step hb (alloc_below wr (.cells #[.int .i64 x, .int .i64 y, .int .i64 z] 81)))
      obtain ⟨W1, hW1⟩ : ∃ W, wr.alloc (.cells #[.int .i64 x, .int .i64 y, .int .i64 z] 81) = W := ⟨_, rfl⟩
      rw [hW1] at q0 q1' q2' HFIN
      have C0 := hide (twithin_any x (N - 1) W1)
      have C1 := hide (twithin_any y (N - 1) W1)
      have C2 := hide (twithin_any z 1000000000 W1)
      clear hc hb hj hf
      by_cases g0 : 0 ≤ x ∧ x ≤ N - 1
      · rw [decide_eq_true g0] at C0
        by_cases g1 : 0 ≤ y ∧ y ≤ N - 1
        · rw [decide_eq_true g1] at C1
          by_cases g2 : 0 ≤ z ∧ z ≤ 1000000000
          · rw [decide_eq_true g2] at C2
            have HG : Hid (ebad N (f i) = false) := by unfold ebad; rw [unhide HF]; exact decide_eq_false (by simp only; omega)
            clear g0 g1 g2
            go_wp2_with fail
            refine (unhide C0).mono ?_
            rintro e_ w2 ⟨rfl, rfl⟩
            go_wp2_with fail
            refine (unhide C1).mono ?_
            rintro e_ w2 ⟨rfl, rfl⟩
            go_wp2_with fail
            refine (unhide C2).mono ?_
            rintro e_ w2 ⟨rfl, rfl⟩
            go_wp2
            refine ⟨⟨i + 1, by go_num, hlt, fun j hj => ?_, unhide HFIN⟩, by simp [intOf]; omega⟩
            by_cases hjm : j = i
            · rw [hjm]; exact unhide HG
            · exact unhide HJ j (by omega)
          · rw [decide_eq_false g2] at C2
            have HV : Hid (errV (kcode N m f cu) = .iface 25 (.int .i64 2)) := by
              show errV (kcode N m f cu) = _
              rw [kcode_range (unhide HN1) (unhide HN2) (ubad_true hlt (by unfold ebad; rw [unhide HF]; exact decide_eq_true (by simp only; omega)))]; rfl
            clear g0 g1 g2
            go_wp2_with fail
            refine (unhide C0).mono ?_
            rintro e_ w2 ⟨rfl, rfl⟩
            go_wp2_with fail
            refine (unhide C1).mono ?_
            rintro e_ w2 ⟨rfl, rfl⟩
            go_wp2_with fail
            refine (unhide C2).mono ?_
            rintro e_ w2 ⟨rfl, rfl⟩
            go_wp2
            go_ret
            exact ⟨by rw [unhide HV]; rfl, unhide HFIN⟩
        · rw [decide_eq_false g1] at C1
          have HV : Hid (errV (kcode N m f cu) = .iface 25 (.int .i64 2)) := by
            show errV (kcode N m f cu) = _
            rw [kcode_range (unhide HN1) (unhide HN2) (ubad_true hlt (by unfold ebad; rw [unhide HF]; exact decide_eq_true (by simp only; omega)))]; rfl
          clear g0 g1
          go_wp2_with fail
          refine (unhide C0).mono ?_
          rintro e_ w2 ⟨rfl, rfl⟩
          go_wp2_with fail
          refine (unhide C1).mono ?_
          rintro e_ w2 ⟨rfl, rfl⟩
          go_wp2
          go_ret
          exact ⟨by rw [unhide HV]; rfl, unhide HFIN⟩
      · rw [decide_eq_false g0] at C0
        have HV : Hid (errV (kcode N m f cu) = .iface 25 (.int .i64 2)) := by
          show errV (kcode N m f cu) = _
          rw [kcode_range (unhide HN1) (unhide HN2) (ubad_true hlt (by unfold ebad; rw [unhide HF]; exact decide_eq_true (by simp only; omega)))]; rfl
        clear g0
        go_wp2_with fail
        refine (unhide C0).mono ?_
        rintro e_ w2 ⟨rfl, rfl⟩
        go_wp2
        go_ret
        exact ⟨by rw [unhide HV]; rfl, unhide HFIN⟩
    · obtain rfl : i = m := by omega
      have hub := ubad_false hj
      obtain ⟨n, rfl⟩ : ∃ n : Nat, N = (n : Int) := ⟨N.toNat, by omega⟩
      have HV := hide (kcode_last (cu := cu) (unhide HN1) (unhide HN2) hub)
      have HC := hide (far_any n a i c f 0 wr ((unhide HA).below hb) (by omega) (by omega) (by omega) (by omega) (ubad_good hub))
      have HCU : Hid (Cu n i f cu) := unhide HCU0
      have HB := hide hb
      have e3 : ¬ (i : Int) < (i : Int) := by omega
      have hn60 : n ≤ 60 := by omega
      clear hj hb hub
      go_wp2_with fail
      refine (unhide HC).mono ?_
      rintro e w2 ⟨G, out, hG, rfl, hO, hr, he, hb2⟩
      have C3 := contains_row w2 G n n out (-1) hO (by omega)
      rw [contains_conn (unhide HCU) hr he] at C3
      have HC3 := hide C3
      have HB2 := hide (below_step (unhide HB) hb2)
      have HV2 : Hid (kcode (n : Int) i f cu = if cu then 0 else 8) := unhide HV
      clear hO hr he hb2 C3 HC HV hG HB
      go_wp2_with fail
      refine (unhide HC3).mono ?_
      rintro e w3 ⟨rfl, rfl⟩
      cases cu with
      | true =>
        have HV3 : Hid (errV (kcode (n : Int) i f true) = .nilIface) := by show errV _ = _; rw [show kcode (n : Int) i f _ = _ from unhide HV2]; rfl
        clear HC3
        go_wp2
        go_ret
        exact ⟨by rw [unhide HV3]; rfl, unhide HB2⟩
      | false =>
        have HV3 : Hid (errV (kcode (n : Int) i f false) = .iface 25 (.int .i64 8)) := by show errV _ = _; rw [show kcode (n : Int) i f _ = _ from unhide HV2]; rfl
        clear HC3
        go_wp2
        go_ret
        exact ⟨by rw [unhide HV3]; rfl, unhide HB2⟩
end Go.Proofs.YtcmddkekidgkoaaDoor
