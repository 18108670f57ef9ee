/- A window into a row of words, and numbers in rows of the call's own. -/
import Derived.Test.YtdicbnchkfclaaaDoorB1
namespace Go.Proofs.YtdicbnchkfclaaaDoor
open Go.RowKit Go.Sort Go.Shelf

def win (d : Array Int) (i k : Nat) : Array Int := Array.ofFn (n := k) (fun j => d[i + j.1]!)
def spl (d dw : Array Int) (i : Nat) : Array Int := Array.ofFn (n := d.size) (fun j => if i ≤ j.1 ∧ j.1 < i + dw.size then dw[j.1 - i]! else d[j.1]!)
theorem win_size (d : Array Int) (i k : Nat) : (win d i k).size = k := by simp [win]
theorem spl_size (d dw : Array Int) (i : Nat) : (spl d dw i).size = d.size := by simp [spl]
theorem win_get (d : Array Int) (i k j : Nat) (h : j < k) : (win d i k)[j]! = d[i + j]! := by
  rw [getElem!_pos (win d i k) j (by rw [win_size]; exact h)]; simp [win]
theorem spl_get (d dw : Array Int) (i j : Nat) (h : j < d.size) : (spl d dw i)[j]! = if i ≤ j ∧ j < i + dw.size then dw[j - i]! else d[j]! := by
  rw [getElem!_pos (spl d dw i) j (by rw [spl_size]; exact h)]; simp only [spl, Array.getElem_ofFn]

theorem own_win {w : World} {g : Nat} {d : Array Int} (h : OwnRow w g d) {i k : Nat} (hi : i + k ≤ d.size) : Holds enc w g i (win d i k) := fun j hj => by
  rw [win_size] at hj
  rw [win_get d i k j hj]
  have := h.holds (i + j) (by omega)
  rw [Nat.zero_add] at this
  exact this

theorem own_spl {w : World} {g : Nat} {d dw : Array Int} {i : Nat} (h : OwnRow w g d) : OwnRow (putRow enc w g i dw) g (spl d dw i) := by
  unfold OwnRow at *
  simp only [putRow, mapBlock, Array.getElem?_modify, h, if_true, Option.map_some, onCells]
  congr 2
  apply Array.ext_getElem?
  intro k
  simp only [putCells, Array.getElem?_mapIdx, Array.getElem?_map]
  by_cases hk : k < d.size
  · rw [Array.getElem?_eq_getElem hk, Array.getElem?_eq_getElem (by rw [spl_size]; exact hk)]
    have e := spl_get d dw i k hk
    rw [getElem!_pos (spl d dw i) k (by rw [spl_size]; exact hk)] at e
    simp only [Option.map_some, e]
    split
    · rfl
    · rw [getElem!_pos d k hk]
  · rw [Array.getElem?_eq_none (by omega : d.size ≤ k), Array.getElem?_eq_none (by rw [spl_size]; omega)]; rfl

theorem own_other {w : World} {g g' i : Nat} {d dw : Array Int} (h : OwnRow w g d) (hne : g ≠ g') : OwnRow (putRow enc w g' i dw) g d := by
  unfold OwnRow at *
  simp only [putRow, mapBlock, Array.getElem?_modify]
  rw [if_neg (Ne.symm hne)]
  exact h
theorem OwnRow.drewN {w : World} {g : Nat} {d : Array Int} (h : OwnRow w g d) (z : Nat) : OwnRow (w.drewN z) g d := h
theorem own_set {w : World} {g : Nat} {d : Array Int} {i : Nat} {x : Int} (h : OwnRow w g d) (hi : i < d.size) : OwnRow (w.setCell ⟨g, i, none⟩ (.int .u64 x)) g (d.setIfInBounds i x) := by
  have e : w.setCell ⟨g, i, none⟩ (.int .u64 x) = putRow enc w g 0 (d.setIfInBounds i x) := by
    have := putRow_set enc w g 0 d i x hi
    rw [putRow_self _ _ _ _ _ h.holds, Nat.zero_add] at this
    exact this
  rw [e]
  exact h.put (by simp)
theorem own_set_other {w : World} {g g' i : Nat} {d : Array Int} {x : Value} (h : OwnRow w g d) (hne : g ≠ g') : OwnRow (w.setCell ⟨g', i, none⟩ x) g d := by
  rw [setCell_eq]
  unfold OwnRow at *
  simp only [mapBlock, Array.getElem?_modify]
  rw [if_neg (Ne.symm hne)]
  exact h
theorem below_setCell {B g i : Nat} {w : World} {x : Value} (h : B ≤ g) : Below B w (w.setCell ⟨g, i, none⟩ x) := by
  rw [setCell_eq]
  refine ⟨rfl, rfl, rfl, by simp [mapBlock], fun k hk => ?_⟩
  simp only [mapBlock, Array.getElem?_modify]
  rw [if_neg (by omega)]
theorem size_setCell (w : World) (g i : Nat) (x : Value) : (w.setCell ⟨g, i, none⟩ x).heap.size = w.heap.size := by
  rw [setCell_eq]; simp [mapBlock]
theorem size_putRow (w : World) (g i : Nat) (d : Array Int) : (putRow enc w g i d).heap.size = w.heap.size := by simp [putRow, mapBlock]

theorem vl_three (f : Nat → Int) (i k r : Nat) : Wd.vl f (i + (k + r)) = Wd.vl f i + Wd.pw i * Wd.vl (fun j => f (i + j)) k + Wd.pw i * Wd.pw k * Wd.vl (fun j => f (i + (k + j))) r := by
  rw [Wd.vl_split, Wd.vl_split (fun j => f (i + j)), Int.mul_add]
  rw [Int.mul_assoc (Wd.pw i)]; omega

theorem vl_win (d : Array Int) (i k : Nat) : Wd.vl (fun j => (win d i k)[j]!) k = Wd.vl (fun j => d[i + j]!) k := Wd.vl_congr (fun j hj => win_get d i k j hj)

theorem vl_spl (d dw : Array Int) (i r : Nat) (hs : d.size = i + (dw.size + r)) :
    Wd.vl (fun j => (spl d dw i)[j]!) (i + (dw.size + r)) = Wd.vl (fun j => d[j]!) i + Wd.pw i * Wd.vl (fun j => dw[j]!) dw.size + Wd.pw i * Wd.pw dw.size * Wd.vl (fun j => d[i + (dw.size + j)]!) r := by
  rw [vl_three]
  have e1 : Wd.vl (fun j => (spl d dw i)[j]!) i = Wd.vl (fun j => d[j]!) i := Wd.vl_congr (fun j hj => by rw [spl_get d dw i j (by omega), if_neg (by omega)])
  have e2 : Wd.vl (fun j => (spl d dw i)[i + j]!) dw.size = Wd.vl (fun j => dw[j]!) dw.size := Wd.vl_congr (fun j hj => by rw [spl_get d dw i _ (by omega), if_pos (by omega), Nat.add_sub_cancel_left])
  have e3 : Wd.vl (fun j => (spl d dw i)[i + (dw.size + j)]!) r = Wd.vl (fun j => d[i + (dw.size + j)]!) r := Wd.vl_congr (fun j hj => by rw [spl_get d dw i _ (by omega), if_neg (by omega)])
  rw [e1, e2, e3]

theorem spl_words {d dw : Array Int} {i : Nat} (h : ∀ j, j < d.size → Wd.W64 d[j]!) (h' : ∀ j, j < dw.size → Wd.W64 dw[j]!) : ∀ j, j < d.size → Wd.W64 (spl d dw i)[j]! := fun j hj => by
  rw [spl_get d dw i j hj]
  split
  · exact h' _ (by omega)
  · exact h j hj

/-- A number in a row of the call's own, not below block 'base'. -/
def OwnNat (base : Nat) (w : World) (v : Value) (N : Int) : Prop := ∃ (g m : Nat) (d : Array Int), v = .slice (some ⟨g, 0, none⟩) m d.size ∧ base ≤ g ∧ OwnRow w g d ∧ m ≤ d.size ∧ d.size ≤ 2199023255552 ∧ (∀ j, j < d.size → Wd.W64 d[j]!) ∧ Wd.Len N m ∧ Wd.vl (fun j => d[j]!) m = N

theorem OwnNat.natIs {base : Nat} {w : World} {v : Value} {N : Int} (h : OwnNat base w v N) : NatIs w v N := by
  obtain ⟨g, m, d, rfl, hb, ho, hm, hd, hw, hl, hv⟩ := h
  refine ⟨_, m, d.size, rfl, hl, hm, by omega, fun hp => ⟨g, 0, rfl, ho.lt, fun j hj => ?_⟩⟩
  rw [(ho.holds j (by omega)).1, ← hv, Wd.dig_vl (fun j hj => hw j (by omega)) hj]

theorem ownNat_trim {base : Nat} {w : World} {g m : Nat} {d : Array Int} (hb : base ≤ g) (ho : OwnRow w g d) (hs : d.size ≤ 2199023255552) (hw : ∀ j, j < d.size → Wd.W64 d[j]!) (hm : m ≤ d.size) {k : Nat} (hk : k ≤ d.size) (hmk : m ≤ k) (hl : Wd.Len (Wd.vl (fun j => d[j]!) k) m) :
    OwnNat base w (.slice (some ⟨g, 0, none⟩) m d.size) (Wd.vl (fun j => d[j]!) k) := by
  refine ⟨g, m, d, rfl, hb, ho, hm, hs, hw, hl, ?_⟩
  have e : Wd.vl (fun j => d[j]!) m = Wd.vl (Wd.dig (Wd.vl (fun j => d[j]!) k)) m := Wd.vl_congr (fun j hj => by rw [Wd.dig_vl (fun j hj => hw j (by omega)) (by omega)])
  rw [e]
  exact Wd.vl_dig_all hl.1 hl.2.1

/-- One digit more of the quotient. -/
theorem div_round {n i k : Nat} {d dw : Array Int} {B A W q : Int} (hn : d.size = n) (hk : dw.size = k + 3) (hi : i + (k + 3) ≤ n) (hd : ∀ j, j < n → Wd.W64 d[j]!) (hB : Wd.Len B (k + 2)) (hlt : Wd.vl (fun j => d[j]!) n < B * Wd.pw (i + 1)) (heq : Wd.vl (fun j => d[j]!) n + B * W = A)
    (hq : q = Wd.vl (fun j => (win d i (k + 3))[j]!) (k + 3) / B) (hr : Wd.vl (fun j => dw[j]!) (k + 3) = Wd.vl (fun j => (win d i (k + 3))[j]!) (k + 3) % B) :
    Wd.vl (fun j => (spl d dw i)[j]!) n + B * (W + Wd.pw i * q) = A ∧ Wd.vl (fun j => (spl d dw i)[j]!) n < B * Wd.pw i := by
  obtain ⟨r, rfl⟩ : ∃ r, n = i + (k + 3 + r) := ⟨n - i - (k + 3), by omega⟩
  have e1 := vl_three (fun j => d[j]!) i (k + 3) r
  have e2 := vl_spl d dw i r (by rw [hk]; exact hn)
  rw [hk] at e2
  rw [vl_win] at hq hr
  have b1 := Wd.vl_bd (f := fun j => d[j]!) (n := i) (fun j hj => hd j (by omega))
  have b2 := Wd.vl_bd (f := fun j => d[i + j]!) (n := k + 3) (fun j hj => hd _ (by omega))
  have b3 := Wd.vl_bd (f := fun j => d[i + (k + 3 + j)]!) (n := r) (fun j hj => hd _ (by omega))
  have hp := Wd.pw_pos i
  have hpk := Wd.pw_pos (k + 3)
  have hB0 : 0 < B := Wd.Len.pos hB (by omega)
  have hz : Wd.vl (fun j => d[i + (k + 3 + j)]!) r = 0 := by
    rcases Int.lt_or_le 0 (Wd.vl (fun j => d[i + (k + 3 + j)]!) r) with h | h
    · exfalso
      have c1 : Wd.pw i * Wd.pw (k + 3) * 1 ≤ Wd.pw i * Wd.pw (k + 3) * Wd.vl (fun j => d[i + (k + 3 + j)]!) r := Int.mul_le_mul_of_nonneg_left (by omega) (Int.mul_nonneg (by omega) (by omega))
      have c2 : B * Wd.pw (i + 1) ≤ Wd.pw (k + 2) * Wd.pw (i + 1) := Int.mul_le_mul_of_nonneg_right (Int.le_of_lt hB.2.1) (Int.le_of_lt (Wd.pw_pos _))
      have c3 : Wd.pw (k + 2) * Wd.pw (i + 1) = Wd.pw i * Wd.pw (k + 3) := by rw [← Wd.pw_add, ← Wd.pw_add]; congr 1; omega
      have c4 : 0 ≤ Wd.pw i * Wd.vl (fun j => d[i + j]!) (k + 3) := Int.mul_nonneg (by omega) b2.1
      omega
    · omega
  rw [hz, Int.mul_zero, Int.add_zero] at e1 e2
  have st := Wd.take_step e1 b1.1 b1.2 hq hB0 heq
  have e3 : Wd.vl (fun j => d[i + j]!) (k + 3) - q * B = Wd.vl (fun j => dw[j]!) (k + 3) := by
    have := Int.emod_add_mul_ediv (Wd.vl (fun j => d[i + j]!) (k + 3)) B
    rw [hr, hq, Int.mul_comm _ B]; omega
  rw [e3] at st
  rw [e2, Int.mul_comm B (Wd.pw i)]
  exact ⟨st.1, st.2.1⟩

/-- What is taken away goes. -/
theorem win_less {n i k : Nat} {d : Array Int} {B : Int} (hi : i + k ≤ n) (hd : ∀ j, j < n → Wd.W64 d[j]!) (hlt : Wd.vl (fun j => d[j]!) n < B * Wd.pw (i + 1)) : Wd.vl (fun j => (win d i k)[j]!) k < B * 18446744073709551616 := by
  obtain ⟨r, rfl⟩ : ∃ r, n = i + (k + r) := ⟨n - i - k, by omega⟩
  have e1 := vl_three (fun j => d[j]!) i k r
  rw [vl_win]
  have b1 := Wd.vl_bd (f := fun j => d[j]!) (n := i) (fun j hj => hd j (by omega))
  have b3 := Wd.vl_bd (f := fun j => d[i + (k + j)]!) (n := r) (fun j hj => hd _ (by omega))
  have hp := Wd.pw_pos i
  have h3 : 0 ≤ Wd.pw i * Wd.pw k * Wd.vl (fun j => d[i + (k + j)]!) r := Int.mul_nonneg (Int.mul_nonneg (by omega) (Int.le_of_lt (Wd.pw_pos k))) b3.1
  have h4 : Wd.pw i * Wd.vl (fun j => d[i + j]!) k < Wd.pw i * (B * 18446744073709551616) := by
    have : B * Wd.pw (i + 1) = Wd.pw i * (B * 18446744073709551616) := by rw [Wd.pw_succ]; grind
    omega
  exact Int.lt_of_mul_lt_mul_left h4 (by omega)
end Go.Proofs.YtdicbnchkfclaaaDoor
