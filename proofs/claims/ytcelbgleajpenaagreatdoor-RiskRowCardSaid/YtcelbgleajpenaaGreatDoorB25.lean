/- What the checker's long division needs: a copy into a row of its own, both numbers shifted so that the divisor's upper word is great. -/
import Derived.Test.YtcelbgleajpenaaGreatDoorBF
import Derived.Test.YtcelbgleajpenaaGreatDoorMB
import Derived.Laws.CopyOwn
namespace Go.Proofs.YtcelbgleajpenaaGreatDoor
open Go.RowKit Go.Sort

theorem HOwn.keep {w wr w' : World} {g : Nat} {xs : List Int} (h : HOwn w wr g xs) (hb : Below wr.heap.size wr w') : HOwn w w' g xs :=
  ⟨by rw [hb.block g h.lt]; exact h.row, bstep h.bl hb, h.gl⟩
/-- The words of a number, so many. -/
def digL (A : Int) (k : Nat) : List Int := (List.range k).map (Wh.dig A)
theorem digL_length (A : Int) (k : Nat) : (digL A k).length = k := by simp [digL]
theorem digL_get {A : Int} {k j : Nat} (h : j < k) : (digL A k)[j]! = Wh.dig A j := by simp [digL, h]
theorem Tryz.size32 : (Tryz.prog.info? 175).map (·.size) = some 1 := by kernel_rfl
theorem copy_digs {A : Int} {n k : Nat} (hn : n ≤ k) (hl : Wh.Len A n) : splice (halves (List.replicate k 0)) 0 (halves (digL A n)) = halves (digL A k) := by
  apply List.ext_getElem?
  intro j
  have l1 : (halves (digL A n)).length = n := by simp [halves, digL]
  simp only [splice, List.take_zero, List.nil_append, Nat.zero_add]
  by_cases hj : j < n
  · rw [List.getElem?_append_left (by rw [l1]; exact hj), halves_get (by rw [digL_length]; exact hj), halves_get (by rw [digL_length]; omega), digL_get hj, digL_get (by omega)]
  · rw [List.getElem?_append_right (by rw [l1]; omega), l1, List.getElem?_drop]
    have e : n + (j - n) = j := by omega
    rw [e]
    by_cases hk : j < k
    · have z : Wh.dig A j = 0 := Wh.dig_zero_of hl.1 (Int.lt_of_lt_of_le hl.2.1 (Wh.pw_mono (by omega)))
      rw [halves_get (by simp; exact hk), halves_get (by rw [digL_length]; exact hk), digL_get hk, z]
      simp [hk]
    · simp [halves, digL, hk]
theorem copy32_run {w W : World} {A : Int} {g n k c : Nat} {a : Option Addr} (own : HOwn w W g (List.replicate k 0)) (hn : n ≤ k) (hl : Wh.Len A n) (hr : HRow W a n c (Wh.dig A)) :
    ∃ W', (Builtin.copy_ #[82, 82] 3 #[.slice (some ⟨g, 0, none⟩) k k, .slice a n c]).run Tryz.prog W = .ok (.int .i64 n) W' ∧ HOwn w W' g (digL A k) := by
  by_cases h0 : n = 0
  · subst h0
    refine ⟨_, run_copy_none _ _ _ _ 175 _ _ _ _ _ _ Tryz.underlying82 Tryz.size32 (Nat.zero_min _), ?_⟩
    have e := copy_digs hn hl
    have e2 : halves (List.replicate k 0) = halves (digL A k) := by rw [← e]; simp [splice, halves, digL]
    exact ⟨by rw [← e2]; exact own.row, own.bl, own.gl⟩
  · obtain ⟨h1, h2, h3⟩ := hr
    have hp : 0 < n := Nat.pos_of_ne_zero h0
    obtain ⟨b, o, rfl, hlt, hc⟩ := h3 hp
    have l1 : (halves (digL A n)).length = n := by simp [halves, digL]
    have hr := run_copy_row (P := Tryz.prog) W 82 82 3 175 g 0 k k ⟨b, o, none⟩ n c (halves (List.replicate k 0)).toArray 175 (halves (digL A n)) Tryz.underlying82 Tryz.size32 own.row
      (by rw [l1]; exact (Nat.min_eq_left hn).symm)
      (fun j v hv => by
        have hj : j < n := by
          rcases Nat.lt_or_ge j n with h | h
          · exact h
          · rw [List.getElem?_eq_none (by rw [l1]; exact h)] at hv; cases hv
        rw [halves_get (by rw [digL_length]; exact hj), digL_get hj] at hv
        injection hv with hv
        subst hv
        have := hc j hj
        by_cases hj0 : j = 0
        · subst hj0; simpa [Addr.add] using this
        · simpa [Addr.add, hj0] using this)
      (by rw [l1]; simp [halves]; exact hn)
      (fun v hv => by
        obtain ⟨j, hj⟩ := List.getElem?_of_mem hv
        have hjn : j < n := by
          rcases Nat.lt_or_ge j n with h | h
          · exact h
          · rw [List.getElem?_eq_none (by rw [l1]; exact h)] at hj; cases hj
        rw [halves_get (by rw [digL_length]; exact hjn)] at hj
        injection hj with hj
        subst hj
        rfl)
    rw [l1] at hr
    refine ⟨_, hr, ?_, below_setRow own.bl own.gl _, own.gl⟩
    rw [setRow_heap _ _ _ _ _ _ own.row]
    have e := copy_digs hn hl
    simp only [splice, List.take_zero, List.nil_append, Nat.zero_add, l1] at e
    rw [← e]
    simp
/-- The divisor shifted: as many words, and its upper one is great. -/
theorem norm_len32 {B : Int} {m k : Nat} (hl : Wh.Len B m) (hm : 0 < m) (h1 : 1 ≤ k) (h2 : k ≤ 32) (lo : (2 : Int) ^ (k - 1) ≤ Wh.dig B (m - 1)) (hi : Wh.dig B (m - 1) < 2 ^ k) : Wh.Len (B * 2 ^ (32 - k)) m ∧ 2147483648 * Wh.pw (m - 1) ≤ B * 2 ^ (32 - k) := by
  obtain ⟨r, rfl⟩ : ∃ r, m = r + 1 := ⟨m - 1, by omega⟩
  rw [Nat.add_sub_cancel] at *
  have p := Wh.pw_pos r
  have b0 := hl.1
  have b1 := hl.2.1
  have e := Wh.vl_dig_all b0 b1
  rw [Wh.vl_succ] at e
  have bd := Wh.vl_bd (f := Wh.dig B) (n := r) (fun j _ => Wh.dig_w B j)
  have sp : (2 : Int) ^ k * 2 ^ (32 - k) = 4294967296 := by
    rw [← Int.pow_add, show k + (32 - k) = 32 by omega]; decide
  have sp2 : (2 : Int) ^ (k - 1) * 2 ^ (32 - k) = 2147483648 := by
    rw [← Int.pow_add, show k - 1 + (32 - k) = 31 by omega]; decide
  have ps := two_pos (32 - k)
  generalize (2 : Int) ^ (32 - k) = S at *
  generalize (2 : Int) ^ (k - 1) = L at *
  generalize (2 : Int) ^ k = K at *
  generalize Wh.dig B r = t at *
  generalize Wh.vl (Wh.dig B) r = low at *
  have lowB : L * Wh.pw r ≤ B := by
    have : Wh.pw r * L ≤ Wh.pw r * t := Int.mul_le_mul_of_nonneg_left lo (by omega)
    rw [Int.mul_comm L]
    omega
  have upB : B < K * Wh.pw r := by
    have : Wh.pw r * (t + 1) ≤ Wh.pw r * K := Int.mul_le_mul_of_nonneg_left (by omega) (by omega)
    rw [Int.mul_comm K]
    rw [Int.mul_add] at this
    omega
  have lowS : 2147483648 * Wh.pw r ≤ B * S := by
    have : L * Wh.pw r * S ≤ B * S := Int.mul_le_mul_of_nonneg_right lowB (by omega)
    rw [Int.mul_right_comm, sp2] at this
    exact this
  have upS : B * S < 4294967296 * Wh.pw r := by
    have : B * S < K * Wh.pw r * S := Int.mul_lt_mul_of_pos_right upB ps
    rw [Int.mul_right_comm, sp] at this
    exact this
  exact ⟨⟨by omega, by rw [Wh.pw_succ]; exact upS, Or.inr (by rw [Nat.add_sub_cancel]; omega)⟩, lowS⟩
end Go.Proofs.YtcelbgleajpenaaGreatDoor
