/- Parts in a row: how great the numbers are. -/
import Derived.Test.YtcelbgleajpenaaGreatDoorM84
namespace Go.Proofs.YtcelbgleajpenaaGreatDoor.Rsk

/-- Over this number the fraction is whole. -/
def Iv (q : Rat) (D : Nat) : Prop := ∃ z : Int, q * (D : Rat) = (z : Rat)
theorem Iv.add {a b : Rat} {D : Nat} (h : Iv a D) (k : Iv b D) : Iv (a + b) D := by
  obtain ⟨z, h⟩ := h
  obtain ⟨y, k⟩ := k
  exact ⟨z + y, by rw [show ((z + y : Int) : Rat) = (z : Rat) + (y : Rat) by push_cast; rfl, ← h, ← k]; grind⟩
theorem Iv.sub {a b : Rat} {D : Nat} (h : Iv a D) (k : Iv b D) : Iv (a - b) D := by
  obtain ⟨z, h⟩ := h
  obtain ⟨y, k⟩ := k
  exact ⟨z - y, by rw [show ((z - y : Int) : Rat) = (z : Rat) - (y : Rat) by push_cast; rfl, ← h, ← k]; grind⟩
theorem Iv.mul {a b : Rat} {D E : Nat} (h : Iv a D) (k : Iv b E) : Iv (a * b) (D * E) := by
  obtain ⟨z, h⟩ := h
  obtain ⟨y, k⟩ := k
  exact ⟨z * y, by rw [show ((z * y : Int) : Rat) = (z : Rat) * (y : Rat) by push_cast; rfl, show ((D * E : Nat) : Rat) = (D : Rat) * (E : Rat) by push_cast; rfl, ← h, ← k]; grind⟩
theorem Iv.one (D : Nat) : Iv 1 D := ⟨(D : Int), by show (1 : Rat) * (D : Rat) = (((D : Nat) : Int) : Rat); rw [show (((D : Nat) : Int) : Rat) = (D : Rat) from rfl]; grind⟩
theorem Iv.zero (D : Nat) : Iv 0 D := ⟨0, by simp⟩
theorem Iv.cast {a : Rat} {D E : Nat} (h : Iv a D) (e : D = E) : Iv a E := e ▸ h
theorem pwr_Iv {q : Rat} {d : Nat} (h : Iv q d) : ∀ k, Iv (pwr q k) (d ^ k)
  | 0 => Iv.one _
  | k + 1 => by
    rw [Nat.pow_succ]
    exact (pwr_Iv h k).mul h
theorem rrs_Iv {p q : Rat} {d m : Nat} {w : Nat → Rat} (hp : Iv p d) (hq : Iv q d) (hw : ∀ j, j < m → Iv (w j) (d ^ j)) : ∀ i, i ≤ m → Iv (rrs p q w m i) (d ^ m)
  | 0, _ => Iv.zero _
  | i + 1, h => by
    refine (rrs_Iv hp hq hw i (by omega)).add ?_
    refine (((pwr_Iv hq i).mul hp).mul (hw (m - i - 1) (by omega))).cast ?_
    rw [← Nat.pow_succ, ← Nat.pow_add]
    congr 1
    omega
theorem rrv_Iv {p q : Rat} {d b : Nat} (hp : Iv p d) (hq : Iv q d) : ∀ k, Iv (rrv p q b k) (d ^ k) := by
  intro k
  induction k using Nat.strongRecOn with
  | ind k ih =>
    cases k with
    | zero => exact Iv.one _
    | succ k =>
      rw [rrv_step]
      refine (rrs_Iv hp hq (fun j hj => ih j hj) _ (Nat.min_le_right _ _)).add ?_
      split
      · exact pwr_Iv hq _
      · exact Iv.zero _
theorem mul01 {a b : Rat} (h0 : 0 ≤ a) (h1 : a ≤ 1) (k0 : 0 ≤ b) (k1 : b ≤ 1) : 0 ≤ a * b ∧ a * b ≤ 1 ∧ a * b ≤ a := by
  have e1 := Rat.mul_nonneg h0 k0
  have e2 := Rat.mul_nonneg h0 (show 0 ≤ 1 - b by grind)
  exact ⟨e1, by grind, by grind⟩
theorem pwr_01 {q : Rat} (h0 : 0 ≤ q) (h1 : q ≤ 1) : ∀ k, 0 ≤ pwr q k ∧ pwr q k ≤ 1
  | 0 => ⟨by show (0 : Rat) ≤ 1; decide, Rat.le_refl⟩
  | k + 1 => by
    obtain ⟨a, b⟩ := pwr_01 h0 h1 k
    have := mul01 a b h0 h1
    exact ⟨this.1, this.2.1⟩
theorem rrs_01 {p q : Rat} {m : Nat} {w : Nat → Rat} (hp : p = 1 - q) (h0 : 0 ≤ q) (h1 : q ≤ 1) (hw : ∀ j, j < m → 0 ≤ w j ∧ w j ≤ 1) : ∀ i, i ≤ m → 0 ≤ rrs p q w m i ∧ rrs p q w m i ≤ 1 - pwr q i
  | 0, _ => ⟨Rat.le_refl, by show (0 : Rat) ≤ 1 - 1; grind⟩
  | i + 1, h => by
    obtain ⟨a, b⟩ := rrs_01 hp h0 h1 hw i (by omega)
    obtain ⟨c, d⟩ := pwr_01 h0 h1 i
    obtain ⟨e, f⟩ := hw (m - i - 1) (by omega)
    have g := mul01 c d (show 0 ≤ p by grind) (show p ≤ 1 by grind)
    have k := mul01 g.1 g.2.1 e f
    constructor
    · show 0 ≤ rrs p q w m i + pwr q i * p * w (m - i - 1)
      have := k.1
      grind
    · show rrs p q w m i + pwr q i * p * w (m - i - 1) ≤ 1 - pwr q i * q
      have := k.2.2
      rw [hp] at this ⊢
      rw [hp] at b
      grind
theorem rrv_01 {p q : Rat} {b : Nat} (hp : p = 1 - q) (h0 : 0 ≤ q) (h1 : q ≤ 1) : ∀ k, 0 ≤ rrv p q b k ∧ rrv p q b k ≤ 1 := by
  intro k
  induction k using Nat.strongRecOn with
  | ind k ih =>
    cases k with
    | zero => exact ⟨by show (0 : Rat) ≤ 1; decide, Rat.le_refl⟩
    | succ k =>
      rw [rrv_step]
      obtain ⟨a, c⟩ := rrs_01 hp h0 h1 (fun j hj => ih j hj) (min b (k + 1)) (Nat.min_le_right _ _)
      obtain ⟨d, e⟩ := pwr_01 h0 h1 (min b (k + 1))
      split
      · rename_i hlt
        have e2 : min b (k + 1) = k + 1 := by omega
        rw [e2] at a c d e ⊢
        constructor <;> grind
      · constructor <;> grind
end Go.Proofs.YtcelbgleajpenaaGreatDoor.Rsk
