/- What Ruin says: the steps. -/
import Derived.Test.YtdicbnchkfclaaaGreatDoorV4
namespace Go.Proofs.YtdicbnchkfclaaaGreatDoor
open Go.RowKit Go.Sort Go.Shelf

theorem fsm_rec (r : Rat) : ∀ n, fsm r (n + 1) = 1 + r * fsm r n
  | 0 => by show (0 : Rat) + r ^ 0 = 1 + r * 0; rw [Rat.pow_zero]; grind
  | n + 1 => by
    show fsm r (n + 1) + r ^ (n + 1) = 1 + r * (fsm r n + r ^ n)
    rw [fsm_rec r n, Rat.pow_succ]
    grind

theorem odds_mul {u : Rat} (h : u ≠ 0) : u * odds u = 1 - u := by
  unfold odds
  rw [Rat.mul_comm]
  exact Rat.div_mul_cancel h

theorem fsm_mid {u : Rat} (h : u ≠ 0) (m : Nat) : u * fsm (odds u) (m + 2) + (1 - u) * fsm (odds u) m = fsm (odds u) (m + 1) := by
  have e := odds_mul h
  have e2 : fsm (odds u) (m + 2) = fsm (odds u) (m + 1) + odds u ^ (m + 1) := rfl
  have e1 : fsm (odds u) (m + 1) = fsm (odds u) m + odds u ^ m := rfl
  have e3 : u * odds u ^ (m + 1) = (1 - u) * odds u ^ m := by rw [Rat.pow_succ, ← e]; grind
  rw [e2]
  grind

theorem ssm_mid {u : Rat} (h : u ≠ 0) (m : Nat) : u * ssm (odds u) (m + 2) + (1 - u) * ssm (odds u) m = ssm (odds u) (m + 1) + u := by
  have e := odds_mul h
  have e2 : ssm (odds u) (m + 2) = ssm (odds u) (m + 1) + fsm (odds u) (m + 1) := rfl
  have e1 : ssm (odds u) (m + 1) = ssm (odds u) m + fsm (odds u) m := rfl
  have e3 := fsm_rec (odds u) m
  have e4 : u * fsm (odds u) (m + 1) = u + (1 - u) * fsm (odds u) m := by rw [e3, ← e]; grind
  rw [e2]
  grind

theorem lost_rec {u : Rat} (h : u ≠ 0) (g m : Nat) : u * lostv u g (m + 2) + (1 - u) * lostv u g m = lostv u g (m + 1) := by
  unfold lostv
  rw [Rat.div_def, Rat.div_def, Rat.div_def, ← fsm_mid h m]
  grind

theorem times_rec {u : Rat} (h : u ≠ 0) (g m : Nat) : 1 + u * timesv u g (m + 2) + (1 - u) * timesv u g m = timesv u g (m + 1) := by
  unfold timesv
  have e : u * u⁻¹ = 1 := Rat.mul_inv_cancel _ h
  have a := fsm_mid h m
  have b := ssm_mid h m
  rw [Rat.div_def, Rat.div_def, Rat.div_def, Rat.div_def, Rat.div_def, Rat.div_def]
  generalize (fsm (odds u) g)⁻¹ = x at *
  generalize u⁻¹ = v at *
  generalize ssm (odds u) g = S at *
  generalize fsm (odds u) (m + 2) = f2 at *
  generalize fsm (odds u) (m + 1) = f1 at *
  generalize fsm (odds u) m = f0 at *
  generalize ssm (odds u) (m + 2) = s2 at *
  generalize ssm (odds u) (m + 1) = s1 at *
  generalize ssm (odds u) m = s0 at *
  have c : (f1 * x * S - s1) * v = ((u * f2 + (1 - u) * f0) * x * S - (u * s2 + (1 - u) * s0 - u)) * v := by rw [a, b]; grind
  rw [c]
  have d : 1 = u * v := e.symm
  grind

theorem lost_zero (u : Rat) (g : Nat) : lostv u g 0 = 1 := by
  unfold lostv
  show 1 - 0 / _ = _
  rw [Rat.div_def]
  grind

theorem lost_end {u : Rat} {g : Nat} (h : (fsm (odds u) g).num ≠ 0) : lostv u g g = 0 := by
  unfold lostv
  have hz : fsm (odds u) g ≠ 0 := fun e => h (by rw [e]; rfl)
  rw [Rat.div_def, Rat.mul_inv_cancel _ hz]
  grind

theorem times_zero (u : Rat) (g : Nat) : timesv u g 0 = 0 := by
  unfold timesv
  show (0 / _ * _ - 0) / _ = _
  rw [Rat.div_def, Rat.div_def]
  grind

theorem times_end {u : Rat} {g : Nat} (h : (fsm (odds u) g).num ≠ 0) : timesv u g g = 0 := by
  unfold timesv
  have hz : fsm (odds u) g ≠ 0 := fun e => h (by rw [e]; rfl)
  rw [Rat.div_def, Rat.div_def, Rat.mul_inv_cancel _ hz]
  grind

theorem fsm_num {u : Rat} {g : Nat} (h0 : 0 < u.num) (h1 : u.num < u.den) (hg : 1 ≤ g) : (fsm (odds u) g).num ≠ 0 := by
  have := (fsm_pos (odds_pos h0 h1) (g - 1)).2
  rw [show g - 1 + 1 = g by omega] at this
  exact num_ne this

theorem lost_RS {u : Rat} {g k : Nat} (hu : RS u 1) (h0 : 0 < u.num) (h1 : u.num < u.den) (hg0 : 1 ≤ g) (hg : g ≤ 20) (hk : k ≤ 20) : RS (lostv u g k) 100000 := by
  have ro := odds_RS hu (by omega)
  exact (one_RS'.sub' ((fsm_RS ro k hk).div' (fsm_RS ro g hg) (fsm_num h0 h1 hg0))).mono (by omega)

theorem times_RS {u : Rat} {g k : Nat} (hu : RS u 1) (h0 : 0 < u.num) (h1 : u.num < u.den) (hg0 : 1 ≤ g) (hg : g ≤ 20) (hk : k ≤ 20) : RS (timesv u g k) 100000 := by
  have ro := odds_RS hu (by omega)
  exact (((((fsm_RS ro k hk).div' (fsm_RS ro g hg) (fsm_num h0 h1 hg0)).mul (ssm_RS ro g hg)).sub' (ssm_RS ro k hk)).div' hu (by omega)).mono (by omega)
end Go.Proofs.YtdicbnchkfclaaaGreatDoor
