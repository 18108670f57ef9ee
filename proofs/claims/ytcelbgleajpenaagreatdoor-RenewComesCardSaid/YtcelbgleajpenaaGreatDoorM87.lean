/- Parts in a row: how great the numbers are. -/
import Derived.Test.YtcelbgleajpenaaGreatDoorM20
namespace Go.Proofs.YtcelbgleajpenaaGreatDoor.Rsk

/-- Over this number the fraction is whole. -/
def Iv (q : Rat) (D : Nat) : Prop := ∃ z : Int, q * (D : Rat) = (z : Rat)
theorem Iv.add {a b : Rat} {D : Nat} (h : Iv a D) (k : Iv b D) : Iv (a + b) D := by
  obtain ⟨z, h⟩ := h
  obtain ⟨y, k⟩ := k
  exact ⟨z + y, by rw [show ((z + y : Int) : Rat) = (z : Rat) + (y : Rat) by push_cast; rfl, ← h, ← k]; grind⟩
theorem Iv.mul {a b : Rat} {D E : Nat} (h : Iv a D) (k : Iv b E) : Iv (a * b) (D * E) := by
  obtain ⟨z, h⟩ := h
  obtain ⟨y, k⟩ := k
  exact ⟨z * y, by rw [show ((z * y : Int) : Rat) = (z : Rat) * (y : Rat) by push_cast; rfl, show ((D * E : Nat) : Rat) = (D : Rat) * (E : Rat) by push_cast; rfl, ← h, ← k]; grind⟩
theorem Iv.one (D : Nat) : Iv 1 D := ⟨(D : Int), by show (1 : Rat) * (D : Rat) = (((D : Nat) : Int) : Rat); rw [show (((D : Nat) : Int) : Rat) = (D : Rat) from rfl]; grind⟩
theorem Iv.zero (D : Nat) : Iv 0 D := ⟨0, by simp⟩
theorem Iv.more {a : Rat} {D : Nat} (h : Iv a D) (E : Nat) : Iv a (D * E) := by
  have := h.mul (Iv.one E)
  rwa [show a * 1 = a by grind] at this
theorem Iv.cast {a : Rat} {D E : Nat} (h : Iv a D) (e : D = E) : Iv a E := e ▸ h
end Go.Proofs.YtcelbgleajpenaaGreatDoor.Rsk
