/- Rows of whole numbers, and whether two are alike. -/
import Derived.Test.YtgcpdgcacdofcaaDoorRows
import Derived.WalkKit
import Derived.WalkSpells
import Derived.WalkLawsBesides
import Derived.BigQuiet
import Derived.Deep.QuietTactic
import Derived.Deep.Draws
namespace Go.Proofs.YtgcpdgcacdofcaaDoor
open Go.RowKit

theorem hide {p : Prop} (h : p) : Hid p := h
theorem unhide {p : Prop} (h : Hid p) : p := h
theorem below_drewN (w : World) (k : Nat) : Below w.heap.size w (w.drewN k) := ⟨rfl, rfl, rfl, Nat.le_refl _, fun _ _ => rfl⟩

/-- A row of ints in memory: n of them, number j is f j. -/
def IRow (w : World) (a : Option Addr) (n c : Nat) (f : Nat → Int) : Prop :=
  n ≤ c ∧ c ≤ 9223372036854775807 ∧ (0 < n → ∃ b o, a = some ⟨b, o, none⟩ ∧ b < w.heap.size ∧ ∀ j, j < n → w.cell? ⟨b, o + j, none⟩ = some (.int .i64 (f j)))

theorem IRow.below {w w' : World} {a : Option Addr} {n c : Nat} {f : Nat → Int} (h : IRow w a n c f) (hb : Below w.heap.size w w') : IRow w' a n c f := by
  obtain ⟨h1, h2, h3⟩ := h
  refine ⟨h1, h2, fun hn => ?_⟩
  obtain ⟨b, o, e, hlt, hc⟩ := h3 hn
  refine ⟨b, o, e, Nat.lt_of_lt_of_le hlt hb.size, fun j hj => ?_⟩
  rw [hb.cell (p := ⟨b, o + j, none⟩) hlt]
  exact hc j hj

/-- Two rows of numbers are alike. -/
def likeB (n m : Nat) (f g : Nat → Int) : Bool := decide (n = m ∧ ∀ i, i < n → f i = g i)

theorem likeB_true {n m : Nat} {f g : Nat → Int} : likeB n m f g = true ↔ n = m ∧ ∀ i, i < n → f i = g i := by unfold likeB; exact decide_eq_true_iff
theorem likeB_false {n m : Nat} {f g : Nat → Int} : likeB n m f g = false ↔ ¬ (n = m ∧ ∀ i, i < n → f i = g i) := by unfold likeB; exact decide_eq_false_iff_not

theorem drew2 (w : World) (a b : Nat) : ∃ k, (w.drewN a).drewN b = w.drewN k := ⟨a + b, by simp⟩

set_option maxHeartbeats 1000000 in
theorem refSame_any (a a' : Option Addr) (n c n' c' : Nat) (f g : Nat → Int) (w : World) (ha : IRow w a n c f) (hb : IRow w a' n' c' g) :
    Calls Tryd.prog 15 #[.slice a n c, .slice a' n' c'] w fun e w' => e = .returned (.bool (likeB n n' f g)) ∧ ∃ k, w' = w.drewN k := by
  obtain ⟨h1, h2, h3⟩ := ha
  obtain ⟨h1', h2', h3'⟩ := hb
  by_cases hne : n = n'
  · subst hne
    have HE : Hid ((∀ i, i < n → f i = g i) → likeB n n f g = true) := fun h => likeB_true.2 ⟨rfl, h⟩
    have HN : Hid (∀ i, i < n → f i ≠ g i → likeB n n f g = false) := fun i hi h => likeB_false.2 fun ⟨_, h'⟩ => h (h' i hi)
    generalize likeB n n f g = s at *
    have H3 := hide h3
    have H3' := hide h3'
    clear h3 h3'
    go_enter Tryd.func15, Tryd.ntmps15
    go_wp2
    go_loopw [13] (fun v wr => ∃ m k : Nat, v = .int .i64 (m : Int) ∧ m ≤ n ∧ wr = w.drewN k ∧ (∀ j, j < m → f j = g j)) (fun v _ => n - (intOf v).toNat)
    case atStart => exact ⟨0, 0, rfl, Nat.zero_le _, rfl, fun j h1 => absurd h1 (Nat.not_lt_zero _)⟩
    case round =>
      obtain ⟨m, k, rfl, hm, rfl, hz⟩ := hrel
      have HZ : Hid (∀ j, j < m → f j = g j) := hz
      clear hz
      by_cases hlt : m < n
      · obtain ⟨b, o, rfl, hbl, hc⟩ := unhide H3 (by omega)
        obtain ⟨b', o', rfl, hbl', hc'⟩ := unhide H3' (by omega)
        obtain ⟨x, hx⟩ : ∃ x, f m = x := ⟨_, rfl⟩
        obtain ⟨y, hy⟩ : ∃ y, g m = y := ⟨_, rfl⟩
        have hcm := hc m hlt
        have hcm' := hc' m hlt
        have HX : Hid (f m = x) := hx
        have HY : Hid (g m = y) := hy
        rw [hx] at hcm
        rw [hy] at hcm'
        have e2 : (0 : Int) ≤ (m : Int) := by omega
        have e3 : (m : Int) < (n : Int) := by omega
        clear hc hc' H3 H3' hx hy
        by_cases hxy : x = y
        · subst hxy
          clear HE HN
          go_wp2_with fail
          go_quiet (fail)
          go_wp2
          refine ⟨⟨m + 1, k + nq, by go_num, by omega, rfl, fun j h1 => ?_⟩, ?_⟩
          · rcases Nat.lt_or_ge j m with h | h
            · exact HZ.out j h
            · rw [show j = m by omega, HX.out, HY.out]
          · simp [intOf]; omega
        · have hxb : (x != y) = true := by rw [bne_iff_ne]; exact hxy
          have hs : s = false := HN.out m hlt (by rw [HX.out, HY.out]; exact hxy)
          subst hs
          clear HE HN
          go_wp2_with fail
          go_quiet (fail)
          go_wp2
          go_ret
          exact ⟨rfl, drew2 _ _ _⟩
      · obtain rfl : m = n := by omega
        have hs : s = true := HE.out HZ.out
        subst hs
        clear HE HN H3 H3'
        go_wp2
        go_ret
        exact ⟨rfl, k, rfl⟩
  · have hs : likeB n n' f g = false := likeB_false.2 fun h => hne h.1
    rw [hs]
    clear hs h3 h3'
    have hne : ((n : Int) != (n' : Int)) = true := by rw [bne_iff_ne]; omega
    go_enter Tryd.func15, Tryd.ntmps15
    go_wp2
    go_ret
    exact ⟨rfl, 0, rfl⟩

set_option maxHeartbeats 1000000 in
theorem lawSame_any (a a' : Option Addr) (n c n' c' : Nat) (f g : Nat → Int) (w : World) (ha : IRow w a n c f) (hb : IRow w a' n' c' g) :
    Calls Tryd.prog 7 #[.slice a n c, .slice a' n' c'] w fun e w' => e = .returned (.bool (likeB n n' f g)) ∧ ∃ k, w' = w.drewN k := by
  obtain ⟨h1, h2, h3⟩ := ha
  obtain ⟨h1', h2', h3'⟩ := hb
  by_cases hne : n = n'
  · subst hne
    have HE : Hid ((∀ i, i < n → f i = g i) → likeB n n f g = true) := fun h => likeB_true.2 ⟨rfl, h⟩
    have HN : Hid (∀ i, i < n → f i ≠ g i → likeB n n f g = false) := fun i hi h => likeB_false.2 fun ⟨_, h'⟩ => h (h' i hi)
    generalize likeB n n f g = s at *
    have H3 := hide h3
    have H3' := hide h3'
    clear h3 h3'
    go_enter Tryd.func7, Tryd.ntmps7
    go_wp2
    go_loopw [5] (fun v wr => ∃ m k : Nat, v = .int .i64 (m : Int) ∧ m ≤ n ∧ wr = w.drewN k ∧ (∀ j, j < m → f j = g j)) (fun v _ => n - (intOf v).toNat)
    case atStart => exact ⟨0, 0, rfl, Nat.zero_le _, rfl, fun j h1 => absurd h1 (Nat.not_lt_zero _)⟩
    case round =>
      obtain ⟨m, k, rfl, hm, rfl, hz⟩ := hrel
      have HZ : Hid (∀ j, j < m → f j = g j) := hz
      clear hz
      by_cases hlt : m < n
      · obtain ⟨b, o, rfl, hbl, hc⟩ := unhide H3 (by omega)
        obtain ⟨b', o', rfl, hbl', hc'⟩ := unhide H3' (by omega)
        obtain ⟨x, hx⟩ : ∃ x, f m = x := ⟨_, rfl⟩
        obtain ⟨y, hy⟩ : ∃ y, g m = y := ⟨_, rfl⟩
        have hcm := hc m hlt
        have hcm' := hc' m hlt
        have HX : Hid (f m = x) := hx
        have HY : Hid (g m = y) := hy
        rw [hx] at hcm
        rw [hy] at hcm'
        have e2 : (0 : Int) ≤ (m : Int) := by omega
        have e3 : (m : Int) < (n : Int) := by omega
        clear hc hc' H3 H3' hx hy
        by_cases hxy : x = y
        · subst hxy
          clear HE HN
          go_wp2_with fail
          go_quiet (fail)
          go_wp2
          refine ⟨⟨m + 1, k + nq, by go_num, by omega, rfl, fun j h1 => ?_⟩, ?_⟩
          · rcases Nat.lt_or_ge j m with h | h
            · exact HZ.out j h
            · rw [show j = m by omega, HX.out, HY.out]
          · simp [intOf]; omega
        · have hxb : (x != y) = true := by rw [bne_iff_ne]; exact hxy
          have hs : s = false := HN.out m hlt (by rw [HX.out, HY.out]; exact hxy)
          subst hs
          clear HE HN
          go_wp2_with fail
          go_quiet (fail)
          go_wp2
          go_ret
          exact ⟨rfl, drew2 _ _ _⟩
      · obtain rfl : m = n := by omega
        have hs : s = true := HE.out HZ.out
        subst hs
        clear HE HN H3 H3'
        go_wp2
        go_ret
        exact ⟨rfl, k, rfl⟩
  · have hs : likeB n n' f g = false := likeB_false.2 fun h => hne h.1
    rw [hs]
    clear hs h3 h3'
    have hne : ((n : Int) != (n' : Int)) = true := by rw [bne_iff_ne]; omega
    go_enter Tryd.func7, Tryd.ntmps7
    go_wp2
    go_ret
    exact ⟨rfl, 0, rfl⟩
end Go.Proofs.YtgcpdgcacdofcaaDoor
