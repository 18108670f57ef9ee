/- Pieces of words: slices.Equal, standsIn. -/
import Derived.Test.YtdicbnchkfclaaaDoorD0
namespace Go.Proofs.YtdicbnchkfclaaaDoor
open Go.RowKit

set_option maxHeartbeats 1000000 in
theorem equal_any (a a' : Option Addr) (n c n' c' : Nat) (f g : Nat → Int) (w : World) (ha : IRow w a n c f) (hb : IRow w a' n' c' g) :
    Calls Tryd.prog 81 #[.slice a n c, .slice a' n' c'] w fun e w' => e = .returned (.bool (likeB n n' f g)) ∧ ∃ k, w' = w.drewN k := by
  obtain ⟨h1, h2, h3⟩ := ha
  obtain ⟨h1', h2', h3'⟩ := hb
  by_cases hne : n = n'
  · subst hne
    have HE : Hid ((∀ i, i < n → f i = g i) → likeB n n f g = true) := fun h => likeB_true.2 ⟨rfl, h⟩
    have HN : Hid (∀ i, i < n → f i ≠ g i → likeB n n f g = false) := fun i hi h => likeB_false.2 fun ⟨_, h'⟩ => h (h' i hi)
    generalize likeB n n f g = s at *
    have H3 := hide h3
    have H3' := hide h3'
    clear h3 h3'
    go_enter Tryd.func81, Tryd.ntmps81
    go_wp2
    go_loopw [13] (fun v wr => ∃ m k : Nat, v = .int .i64 (m : Int) ∧ m ≤ n ∧ wr = w.drewN k ∧ (∀ j, j < m → f j = g j)) (fun v _ => n - (intOf v).toNat)
    case atStart => exact ⟨0, 0, rfl, Nat.zero_le _, rfl, fun j h1 => absurd h1 (Nat.not_lt_zero _)⟩
    case round =>
      obtain ⟨m, k, rfl, hm, rfl, hz⟩ := hrel
      have HZ : Hid (∀ j, j < m → f j = g j) := hz
      clear hz
      by_cases hlt : m < n
      · obtain ⟨b, o, rfl, hbl, hc⟩ := unhide H3 (by omega)
        obtain ⟨b', o', rfl, hbl', hc'⟩ := unhide H3' (by omega)
        obtain ⟨x, hx⟩ : ∃ x, f m = x := ⟨_, rfl⟩
        obtain ⟨y, hy⟩ : ∃ y, g m = y := ⟨_, rfl⟩
        have hcm := hc m hlt
        have hcm' := hc' m hlt
        have HX : Hid (f m = x) := hx
        have HY : Hid (g m = y) := hy
        rw [hx] at hcm
        rw [hy] at hcm'
        have e2 : (0 : Int) ≤ (m : Int) := by omega
        have e3 : (m : Int) < (n : Int) := by omega
        clear hc hc' H3 H3' hx hy
        by_cases hxy : x = y
        · subst hxy
          clear HE HN
          go_wp2_with fail
          go_quiet (fail)
          go_wp2
          refine ⟨⟨m + 1, k + nq, by go_num, by omega, rfl, fun j h1 => ?_⟩, ?_⟩
          · rcases Nat.lt_or_ge j m with h | h
            · exact HZ.out j h
            · rw [show j = m by omega, HX.out, HY.out]
          · simp [intOf]; omega
        · have hxb : (x != y) = true := by rw [bne_iff_ne]; exact hxy
          have hs : s = false := HN.out m hlt (by rw [HX.out, HY.out]; exact hxy)
          subst hs
          clear HE HN
          go_wp2_with fail
          go_quiet (fail)
          go_wp2
          go_ret
          exact ⟨rfl, drew2 _ _ _⟩
      · obtain rfl : m = n := by omega
        have hs : s = true := HE.out HZ.out
        subst hs
        clear HE HN H3 H3'
        go_wp2
        go_ret
        exact ⟨rfl, k, rfl⟩
  · have hs : likeB n n' f g = false := likeB_false.2 fun h => hne h.1
    rw [hs]
    clear hs h3 h3'
    have hne : ((n : Int) != (n' : Int)) = true := by rw [bne_iff_ne]; omega
    go_enter Tryd.func81, Tryd.ntmps81
    go_wp2
    go_ret
    exact ⟨rfl, 0, rfl⟩
theorem below_step' {w w1 w2 : World} (h : Below w.heap.size w w1) (k : Below w1.heap.size w1 w2) : Below w.heap.size w w2 := h.trans (k.mono h.size)

/-- One word is a piece of another one. -/
def StIn (M N : Nat) (g f : Nat → Int) : Prop := ∃ d, d + M ≤ N ∧ ∀ i, i < M → f (d + i) = g i

set_option maxHeartbeats 2000000 in
theorem standsIn_any (a a' : Option Addr) (M c N c' : Nat) (g f : Nat → Int) (w : World) (ha : IRow w a M c g) (hb : IRow w a' N c' f) (hM : 1 ≤ M) (hM2 : M ≤ 12) (hN : 1 ≤ N) (hN2 : N ≤ 12) :
    Calls Tryd.prog 63 #[.slice a M c, .slice a' N c'] w fun e w' => ∃ r : Bool, e = .returned (.bool r) ∧ (r = true ↔ StIn M N g f) ∧ Below w.heap.size w w' := by
  have HA := hide ha
  have HF := hide hb
  obtain ⟨h1, h2, h3⟩ := ha
  obtain ⟨h1', h2', h3'⟩ := hb
  obtain ⟨b, o, rfl, hbl, hc⟩ := h3 (by omega)
  obtain ⟨b', o', rfl, hbl', hc'⟩ := h3' (by omega)
  clear h3 h3' hc hc'
  go_enter Tryd.func63, Tryd.ntmps63
  go_wp2_with fail
  go_loopw [12] (fun vi wr => ∃ d : Nat, vi = .int .i64 (d : Int) ∧ d ≤ N + 1 - M ∧ Below w.heap.size w wr ∧ ∀ e, e < d → ¬ ∀ i, i < M → f (e + i) = g i) (fun vi _ => N + 1 - (intOf vi).toNat)
  case atStart => exact ⟨0, rfl, Nat.zero_le _, Below.refl _ _, fun e h => absurd h (Nat.not_lt_zero _)⟩
  case round =>
    obtain ⟨d, rfl, hd, bl, hno⟩ := hrel
    have HNO := hide hno
    have HBL := hide bl
    clear hno bl
    by_cases hlt : d + M ≤ N
    · have i1 : (d : Int) < (N : Int) - (M : Int) + 1 := by omega
      have i2 : (0 : Int) ≤ (d : Int) := by omega
      have i3 : (d : Int) ≤ (d : Int) + (M : Int) := by omega
      have i4 : (d : Int) + (M : Int) ≤ (c' : Int) := by omega
      have i5 : ((d : Int) + (M : Int) - (d : Int)).toNat = M := by omega
      have HQ := hide (equal_any (some ⟨b', o' + d, none⟩) (some ⟨b, o, none⟩) M (c' - d) M c (fun j => f (d + j)) g wr ((((unhide HF).suffix d (by omega)).firsts M (by omega)).below (unhide HBL)) ((unhide HA).below (unhide HBL)))
      obtain ⟨s, hs⟩ : ∃ s, likeB M M (fun j => f (d + j)) g = s := ⟨_, rfl⟩
      rw [hs] at HQ
      have HS := hide hs
      clear hs
      go_wp2_with fail
      refine (unhide HQ).mono ?_
      rintro e w1 ⟨rfl, kq, rfl⟩
      have HBL2 := hide (below_step' (unhide HBL) (below_drewN wr kq))
      clear HBL HQ
      cases s with
      | true =>
        go_wp2
        go_ret
        exact ⟨true, rfl, ⟨fun _ => ⟨d, hlt, (likeB_true.1 (unhide HS)).2⟩, fun _ => rfl⟩, unhide HBL2⟩
      | false =>
        go_wp2
        refine ⟨⟨d + 1, by go_num, by omega, unhide HBL2, fun e he => ?_⟩, by simp [intOf]; omega⟩
        rcases Nat.lt_or_ge e d with h | h
        · exact unhide HNO e h
        · obtain rfl : e = d := by omega
          exact fun h' => likeB_false.1 (unhide HS) ⟨rfl, h'⟩
    · have i1 : ¬ (d : Int) < (N : Int) - (M : Int) + 1 := by omega
      go_wp2
      go_ret
      refine Or.inl ⟨rfl, ?_, unhide HBL⟩
      rintro ⟨e, he, h⟩
      exact absurd h (unhide HNO e (by omega))

end Go.Proofs.YtdicbnchkfclaaaDoor
