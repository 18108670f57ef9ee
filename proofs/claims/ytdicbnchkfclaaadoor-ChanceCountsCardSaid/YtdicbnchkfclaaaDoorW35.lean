/- Long division: numbers of any length. -/
import Derived.Test.YtdicbnchkfclaaaDoorW34
import Derived.Test.YtdicbnchkfclaaaDoorW8
namespace Go.Proofs.YtdicbnchkfclaaaDoor
open Go.RowKit Go.Sort Go.Shelf

theorem below_drew (B : Nat) (w : World) (z : Nat) : Below B w (w.drewN z) := ⟨rfl, rfl, rfl, Nat.le_refl _, fun _ _ => rfl⟩

/-- A number whose highest bit is set. -/
theorem norm_len {B : Int} {k s : Nat} (hl : Wd.Len B (k + 2)) (h1 : Wd.dig B (k + 1) * 2 ^ s < 18446744073709551616) (hs : s ≤ 63) : Wd.Len (B * 2 ^ s) (k + 2) := by
  have hS := pow_pos2 s
  have hB0 := Wd.Len.pos hl (by omega)
  have hp := Wd.pw_pos (k + 1)
  have e := Wd.vl_succ (Wd.dig B) (k + 1)
  rw [Wd.vl_dig_all hl.1 hl.2.1] at e
  have b := Wd.vl_bd (f := Wd.dig B) (n := k + 1) (fun j _ => Wd.dig_w B j)
  have wt := Wd.dig_w B (k + 1)
  refine ⟨Int.mul_nonneg (by omega) (by omega), ?_, Or.inr ?_⟩
  · have c1 : (Wd.dig B (k + 1) + 1) * 2 ^ s ≤ 18446744073709551616 := by
      have hSR := pow_split s (by omega)
      have hR := pow_pos2 (64 - s)
      rw [← hSR] at h1 ⊢
      have : Wd.dig B (k + 1) < 2 ^ (64 - s) := by
        rw [Int.mul_comm] at h1
        exact Int.lt_of_mul_lt_mul_left h1 (by omega)
      rw [Int.mul_comm]
      exact Int.mul_le_mul_of_nonneg_left (by omega) (by omega)
    have c2 : B * 2 ^ s < Wd.pw (k + 1) * ((Wd.dig B (k + 1) + 1) * 2 ^ s) := by
      rw [← Int.mul_assoc, Int.mul_add]
      exact Int.mul_lt_mul_of_pos_right (by omega) hS
    have c3 : Wd.pw (k + 1) * ((Wd.dig B (k + 1) + 1) * 2 ^ s) ≤ Wd.pw (k + 1) * 18446744073709551616 := Int.mul_le_mul_of_nonneg_left c1 (by omega)
    have c4 : Wd.pw (k + 2) = Wd.pw (k + 1) * 18446744073709551616 := by rw [Int.mul_comm]; rfl
    rw [c4]; omega
  · have h2 : Wd.pw (k + 1) ≤ B := by
      rcases hl.2.2 with h | h
      · omega
      · exact h
    have : B * 1 ≤ B * 2 ^ s := Int.mul_le_mul_of_nonneg_left (by omega) (by omega)
    show Wd.pw (k + 1) ≤ _
    omega

/-- The beginning: what is above is less than b. -/
theorem start_less {A B : Int} {n k s L : Nat} (hA : A < Wd.pw n) (hB : 9223372036854775808 * Wd.pw (k + 1) ≤ B) (hs : s ≤ 63) (hL : L + (k + 1) = n) : A * 2 ^ s < B * Wd.pw L := by
  have hS := pow_pos2 s
  have c1 : A * 2 ^ s < Wd.pw n * 2 ^ s := Int.mul_lt_mul_of_pos_right hA hS
  have c2 : (2 : Int) ^ s ≤ 9223372036854775808 := by
    have : (2 : Int) ^ s ≤ 2 ^ 63 := by
      obtain ⟨r, hr⟩ : ∃ r, s + r = 63 := ⟨63 - s, by omega⟩
      rw [← hr, Int.pow_add]
      have := pow_pos2 r
      have h4 : (2 : Int) ^ s * 1 ≤ 2 ^ s * 2 ^ r := Int.mul_le_mul_of_nonneg_left (by omega) (by omega)
      omega
    exact this
  have hp := Wd.pw_pos n
  have c3 : Wd.pw n * 2 ^ s ≤ Wd.pw n * 9223372036854775808 := Int.mul_le_mul_of_nonneg_left c2 (by omega)
  have c4 : 9223372036854775808 * Wd.pw (k + 1) * Wd.pw L ≤ B * Wd.pw L := Int.mul_le_mul_of_nonneg_right hB (Int.le_of_lt (Wd.pw_pos L))
  have c5 : 9223372036854775808 * Wd.pw (k + 1) * Wd.pw L = Wd.pw n * 9223372036854775808 := by
    have e := Wd.pw_add L (k + 1)
    rw [← hL, e]
    generalize Wd.pw L = x
    generalize Wd.pw (k + 1) = y
    rw [Int.mul_assoc, Int.mul_comm y x, Int.mul_comm]
  omega

theorem vl_set_zero (d : Array Int) (i n : Nat) (x : Int) (hi : i < n) (hn : n ≤ d.size) (hz : d[i]! = 0) : Wd.vl (fun j => (d.setIfInBounds i x)[j]!) n = Wd.vl (fun j => d[j]!) n + Wd.pw i * x := by
  obtain ⟨r, rfl⟩ : ∃ r, n = i + (1 + r) := ⟨n - i - 1, by omega⟩
  rw [vl_three, vl_three (fun j => d[j]!)]
  have e1 : Wd.vl (fun j => (d.setIfInBounds i x)[j]!) i = Wd.vl (fun j => d[j]!) i := Wd.vl_congr (fun j hj => getElem!_set_other d i j x (by omega))
  have e2 : Wd.vl (fun j => (d.setIfInBounds i x)[i + j]!) 1 = x := by rw [Wd.vl_one, Nat.add_zero, getElem!_set_same d i x (by omega)]
  have e3 : Wd.vl (fun j => d[i + j]!) 1 = 0 := by rw [Wd.vl_one, Nat.add_zero, hz]
  have e4 : Wd.vl (fun j => (d.setIfInBounds i x)[i + (1 + j)]!) r = Wd.vl (fun j => d[i + (1 + j)]!) r := Wd.vl_congr (fun j hj => getElem!_set_other d i _ x (by omega))
  rw [e1, e2, e3, e4]; omega

/-- The state of the division: the rest in block g2, the digits in block g3. -/
structure DivAt (W wr : World) (g2 g3 n L m : Nat) (A B : Int) (dL dW : Array Int) : Prop where
  oL : OwnRow wr g2 dL
  oW : OwnRow wr g3 dW
  sL : dL.size = n
  sW : dW.size = L
  wL : ∀ j, j < n → Wd.W64 dL[j]!
  wW : ∀ j, j < L → Wd.W64 dW[j]!
  z : ∀ j, j < m → dW[j]! = 0
  lt : Wd.vl (fun j => dL[j]!) n < B * Wd.pw m
  eq : Wd.vl (fun j => dL[j]!) n + B * Wd.vl (fun j => dW[j]!) L = A
  bl : Below g2 W wr
  sz : wr.heap.size = W.heap.size

theorem DivAt.step {W wr : World} {g2 g3 n L i k z : Nat} {A B : Int} {dL dW dw : Array Int} (h : DivAt W wr g2 g3 n L (i + 1) A B dL dW) (hne : g2 < g3) (hi : i < L) (hk : dw.size = k + 3) (hin : i + (k + 3) ≤ n) (hB : Wd.Len B (k + 2))
    (hw : ∀ j, j < k + 3 → Wd.W64 dw[j]!) (hr : Wd.vl (fun j => dw[j]!) (k + 3) = Wd.vl (fun j => (win dL i (k + 3))[j]!) (k + 3) % B) (hq : Wd.W64 (Wd.vl (fun j => (win dL i (k + 3))[j]!) (k + 3) / B)) :
    DivAt W (((putRow enc wr g2 i dw).drewN z).setCell ⟨g3, i, none⟩ (.int .u64 (Wd.vl (fun j => (win dL i (k + 3))[j]!) (k + 3) / B))) g2 g3 n L i A B (spl dL dw i) (dW.setIfInBounds i (Wd.vl (fun j => (win dL i (k + 3))[j]!) (k + 3) / B)) := by
  obtain ⟨oL, oW, sL, sW, wL, wW, hz, lt, eq, bl, sz⟩ := h
  have R := div_round sL hk hin wL hB lt eq rfl hr
  refine ⟨own_set_other ((own_spl oL).drewN z) (by omega), own_set ((own_other oW (by omega)).drewN z) (by omega), by rw [spl_size]; exact sL, by simpa using sW, ?_, ?_, ?_, R.2, ?_, ?_, ?_⟩
  · have := spl_words (d := dL) (dw := dw) (i := i) (by rw [sL]; exact wL) (by rw [hk]; exact hw)
    rw [sL] at this; exact this
  · exact words_set wW hq (by omega)
  · intro j hj; rw [getElem!_set_other dW i j _ (by omega)]; exact hz j (by omega)
  · rw [vl_set_zero dW i L _ hi (by omega) (hz i (by omega))]; exact R.1
  · exact ((bl.trans (below_putRow dw (Nat.le_refl _))).trans (below_drew _ _ z)).trans (below_setCell (by omega))
  · rw [size_setCell]; show (putRow enc wr g2 i dw).heap.size = _; rw [size_putRow]; exact sz
end Go.Proofs.YtdicbnchkfclaaaDoor
