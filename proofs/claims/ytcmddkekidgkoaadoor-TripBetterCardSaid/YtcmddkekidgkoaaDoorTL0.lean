/- Rows and numbers held against each other; errors told. -/
import Derived.Test.YtcmddkekidgkoaaDoorTE7
import Derived.Test.YtcmddkekidgkoaaDoorTE8
import Derived.Test.YtcmddkekidgkoaaDoorT1
import Derived.Laws.EntriesVeiled
namespace Go.Proofs.YtcmddkekidgkoaaDoor
open Go.RowKit Go.Sort Go.Shelf

theorem drew2 (w : World) (a b : Nat) : ∃ k, (w.drewN a).drewN b = w.drewN k := ⟨a + b, by simp⟩
/-- Two rows of numbers are alike. -/
def likeB (n m : Nat) (f g : Nat → Int) : Bool := decide (n = m ∧ ∀ i, i < n → f i = g i)
theorem likeB_true {n m : Nat} {f g : Nat → Int} : likeB n m f g = true ↔ n = m ∧ ∀ i, i < n → f i = g i := by unfold likeB; exact decide_eq_true_iff
theorem likeB_false {n m : Nat} {f g : Nat → Int} : likeB n m f g = false ↔ ¬ (n = m ∧ ∀ i, i < n → f i = g i) := by unfold likeB; exact decide_eq_false_iff_not
set_option maxHeartbeats 1000000 in
theorem lawSame_any (a a' : Option Addr) (n c n' c' : Nat) (f g : Nat → Int) (w : World) (ha : IRow w a n c f) (hb : IRow w a' n' c' g) :
    Calls Tryd.prog 44 #[.slice a n c, .slice a' n' c'] w fun e w' => e = .returned (.bool (likeB n n' f g)) ∧ ∃ k, w' = w.drewN k := by
  obtain ⟨h1, h2, h3⟩ := ha
  obtain ⟨h1', h2', h3'⟩ := hb
  by_cases hne : n = n'
  · subst hne
    have HE : Hid ((∀ i, i < n → f i = g i) → likeB n n f g = true) := fun h => likeB_true.2 ⟨rfl, h⟩
    have HN : Hid (∀ i, i < n → f i ≠ g i → likeB n n f g = false) := fun i hi h => likeB_false.2 fun ⟨_, h'⟩ => h (h' i hi)
    generalize likeB n n f g = s at *
    have H3 := hide h3
    have H3' := hide h3'
    clear h3 h3'
    go_enter Tryd.func44, Tryd.ntmps44
    go_wp2
    go_loopw [5] (fun v wr => ∃ m k : Nat, v = .int .i64 (m : Int) ∧ m ≤ n ∧ wr = w.drewN k ∧ (∀ j, j < m → f j = g j)) (fun v _ => n - (intOf v).toNat)
    case atStart => exact ⟨0, 0, rfl, Nat.zero_le _, rfl, fun j h1 => absurd h1 (Nat.not_lt_zero _)⟩
    case round =>
      obtain ⟨m, k, rfl, hm, rfl, hz⟩ := hrel
      have HZ : Hid (∀ j, j < m → f j = g j) := hz
      clear hz
      by_cases hlt : m < n
      · obtain ⟨b, o, rfl, hbl, hc⟩ := unhide H3 (by omega)
        obtain ⟨b', o', rfl, hbl', hc'⟩ := unhide H3' (by omega)
        obtain ⟨x, hx⟩ : ∃ x, f m = x := ⟨_, rfl⟩
        obtain ⟨y, hy⟩ : ∃ y, g m = y := ⟨_, rfl⟩
        have hcm := hc m hlt
        have hcm' := hc' m hlt
        have HX : Hid (f m = x) := hx
        have HY : Hid (g m = y) := hy
        rw [hx] at hcm
        rw [hy] at hcm'
        have e2 : (0 : Int) ≤ (m : Int) := by omega
        have e3 : (m : Int) < (n : Int) := by omega
        clear hc hc' H3 H3' hx hy
        by_cases hxy : x = y
        · subst hxy
          clear HE HN
          go_wp2_with fail
          go_quiet (fail)
          go_wp2
          refine ⟨⟨m + 1, k + nq, by go_num, by omega, rfl, fun j h1 => ?_⟩, ?_⟩
          · rcases Nat.lt_or_ge j m with h | h
            · exact HZ.out j h
            · rw [show j = m by omega, HX.out, HY.out]
          · simp [intOf]; omega
        · have hxb : (x != y) = true := by rw [bne_iff_ne]; exact hxy
          have hs : s = false := HN.out m hlt (by rw [HX.out, HY.out]; exact hxy)
          subst hs
          clear HE HN
          go_wp2_with fail
          go_quiet (fail)
          go_wp2
          go_ret
          exact ⟨rfl, drew2 _ _ _⟩
      · obtain rfl : m = n := by omega
        have hs : s = true := HE.out HZ.out
        subst hs
        clear HE HN H3 H3'
        go_wp2
        go_ret
        exact ⟨rfl, k, rfl⟩
  · have hs : likeB n n' f g = false := likeB_false.2 fun h => hne h.1
    rw [hs]
    clear hs h3 h3'
    have hne : ((n : Int) != (n' : Int)) = true := by rw [bne_iff_ne]; omega
    go_enter Tryd.func44, Tryd.ntmps44
    go_wp2
    go_ret
    exact ⟨rfl, 0, rfl⟩
theorem tellV (k : Int) (w : World) (hg : ErrTy w) : Calls Tryd.prog 14 #[errV k] w fun e w' => e = .returned (.int .i64 k) ∧ Below w.heap.size w w' := by
  by_cases h : k = 0
  · subst h
    refine (tell_nil w).mono ?_
    rintro e w' ⟨rfl, rfl⟩
    exact ⟨rfl, Below.refl _ _⟩
  · rw [errV_not h]
    exact tell_errno k w hg
set_option maxHeartbeats 2000000 in
theorem ints_good (G a' : Option Addr) (n c c' : Nat) (F : Nat → Int) (w : World) (ha : IRow w G n c F) (hb : IRow w a' n c' F) :
    Calls Tryd.prog 18 #[.slice G n c, .nilIface, .slice a' n c', .int .i64 0] w fun e w' => e = .returned (.bool true) ∧ Below w.heap.size w w' := by
  have HS := hide (lawSame_any G a' n c n c' F F w ha hb)
  rw [likeB_true.2 ⟨rfl, fun _ _ => rfl⟩] at HS
  clear ha hb
  go_enter Tryd.func18, Tryd.ntmps18
  go_wp2_with fail
  refine (unhide HS).mono ?_
  rintro e w1 ⟨rfl, q, rfl⟩
  go_wp2
  go_ret
  exact ⟨rfl, below_drewN _ _⟩
set_option maxHeartbeats 2000000 in
theorem ints_bad (k : Int) (hk : k ≠ 0) (w : World) (hg : ErrTy w) :
    Calls Tryd.prog 18 #[.slice none 0 0, .iface 25 (.int .i64 k), .slice none 0 0, .int .i64 k] w fun e w' => e = .returned (.bool true) ∧ Below w.heap.size w w' := by
  have HT := hide (tell_errno k w hg)
  clear hg
  go_enter Tryd.func18, Tryd.ntmps18
  go_wp2_with fail
  refine (unhide HT).mono ?_
  rintro e w1 ⟨rfl, hb⟩
  go_wp2
  go_ret
  exact ⟨rfl, hb⟩
set_option maxHeartbeats 2000000 in
theorem whole_good (x : Int) (w : World) :
    Calls Tryd.prog 24 #[.int .i64 x, .nilIface, .int .i64 x, .int .i64 0] w fun e w' => e = .returned (.bool true) ∧ Below w.heap.size w w' := by
  have e0 : (x == x) = true := by simp
  go_enter Tryd.func24, Tryd.ntmps24
  go_wp2
  go_ret
  exact ⟨rfl, Below.refl _ _⟩
set_option maxHeartbeats 2000000 in
theorem whole_bad (y k : Int) (hk : k ≠ 0) (w : World) (hg : ErrTy w) :
    Calls Tryd.prog 24 #[.int .i64 0, .iface 25 (.int .i64 k), .int .i64 y, .int .i64 k] w fun e w' => e = .returned (.bool true) ∧ Below w.heap.size w w' := by
  have HT := hide (tell_errno k w hg)
  clear hg
  go_enter Tryd.func24, Tryd.ntmps24
  go_wp2_with fail
  refine (unhide HT).mono ?_
  rintro e w1 ⟨rfl, hb⟩
  go_wp2
  go_ret
  exact ⟨rfl, hb⟩
end Go.Proofs.YtcmddkekidgkoaaDoor
