/- Rows of words that a call makes for itself; numbers added and taken away. -/
import Derived.Test.YtdicbnchkfclaaaDoorW2
import Derived.Laws.CopyOwn
namespace Go.Proofs.YtdicbnchkfclaaaDoor
open Go.RowKit Go.Sort Go.Shelf

/-- The most words of a number that is reckoned with here. -/
def KK : Nat := 1099511627776
def Sm (N : Int) : Prop := N < Wd.pw KK
theorem Sm.len {N : Int} {n : Nat} (h : Sm N) (hl : Wd.Len N n) : n ≤ 1099511627776 := by
  rcases hl.2.2 with h0 | h0
  · omega
  · have : n - 1 < KK := Wd.pw_lt_of (Int.lt_of_le_of_lt h0 h)
    unfold KK at this; omega

/-- Block g is a row of words of the call's own. -/
def OwnRow (w : World) (g : Nat) (d : Array Int) : Prop := w.heap[g]? = some (.cells (d.map enc) 79 (0, 0))

theorem OwnRow.lt {w : World} {g : Nat} {d : Array Int} (h : OwnRow w g d) : g < w.heap.size := (Array.getElem?_eq_some_iff.1 h).1
theorem OwnRow.holds {w : World} {g : Nat} {d : Array Int} (h : OwnRow w g d) : Holds enc w g 0 d := fun j hj => by
  unfold OwnRow at h
  refine ⟨?_, ?_⟩
  · simp only [World.cell?, h]
    simp [hj]
  · simp [World.frozen?, h]
theorem OwnRow.put {w : World} {g : Nat} {d d' : Array Int} (h : OwnRow w g d) (hs : d'.size = d.size) : OwnRow (putRow enc w g 0 d') g d' := by
  unfold OwnRow at *
  simp only [putRow, mapBlock, Array.getElem?_modify, h, if_true, Option.map_some, onCells]
  congr 2
  apply Array.ext_getElem?
  intro k
  simp only [putCells, Array.getElem?_mapIdx, Array.getElem?_map]
  by_cases hk : k < d'.size
  · rw [Array.getElem?_eq_getElem (by omega : k < d.size), Array.getElem?_eq_getElem hk]
    simp [hk]
  · rw [Array.getElem?_eq_none (by omega : d.size ≤ k), Array.getElem?_eq_none (by omega : d'.size ≤ k)]; rfl
theorem below_putRow {B g o : Nat} {w : World} (d : Array Int) (h : B ≤ g) : Below B w (putRow enc w g o d) := by
  refine ⟨rfl, rfl, rfl, by simp [putRow, mapBlock], fun k hk => ?_⟩
  simp only [putRow, mapBlock, Array.getElem?_modify]
  rw [if_neg (by omega)]
theorem OwnRow.rowIs {w : World} {g : Nat} {d : Array Int} {c : Nat} (h : OwnRow w g d) (h1 : d.size ≤ c) (h2 : c ≤ 9223372036854775807) : RowIs w (some ⟨g, 0, none⟩) d.size c (fun j => d[j]!) :=
  ⟨h1, h2, fun _ => ⟨g, 0, rfl, h.lt, fun j hj => (h.holds j hj).1⟩⟩
theorem OwnRow.below {w w' : World} {g B : Nat} {d : Array Int} (h : OwnRow w g d) (hb : Below B w w') (hg : g < B) : OwnRow w' g d := by
  unfold OwnRow at *; rw [hb.block g hg]; exact h

/-- n noughts. -/
def zs (n : Nat) : Array Int := Array.replicate n 0
def zrow (n : Nat) : Array Value := (zs n).map enc
theorem zs_size (n : Nat) : (zs n).size = n := by simp [zs]
theorem zs_get (n j : Nat) : (zs n)[j]! = 0 := by
  by_cases h : j < n
  · rw [getElem!_pos _ j (by simpa [zs] using h)]; simp [zs]
  · rw [getElem!_neg _ j (by simpa [zs] using h)]; rfl

theorem Tryd.info54 : (Tryd.prog.info? 79).map (fun i => (i.zero, i.size, i.bytes)) = some (some (.int .u64 0), 1, 8) := by kernel_rfl

theorem make_row (k : Int) (h0 : 0 ≤ k) (h1 : k ≤ 2199023255552) (w : World) :
    (Instr.makeSlice 34 (.int .i64 k) (.int .i64 k)).run Tryd.prog w = .ok (.slice (some ⟨w.heap.size, 0, none⟩) k.toNat k.toNat) (w.alloc (.cells (zrow k.toNat) 79)) := by
  obtain ⟨i, hi, hz0, hz1, hz2⟩ := info_parts Tryd.info54
  have e : madeCells (Value.int .u64 0).cells (k.toNat * i.size) = zrow k.toNat := by
    rw [hz1, Nat.mul_one]
    generalize k.toNat = n
    apply Array.ext
    · simp [madeCells, zrow, zs]
    · intro j h1 h2
      simp [madeCells, zrow, zs, Value.cells, Nat.mod_one]
  rw [run_make w 34 79 i (.int .u64 0) Tryd.underlying34 hi hz0 .i64 .i64 k k h0 (Int.le_refl _) (by rw [hz2]; omega) (by omega), e]

theorem own_made (w : World) (n : Nat) : OwnRow (w.alloc (.cells (zrow n) 79)) w.heap.size (zs n) := by
  unfold OwnRow
  show (w.heap.push _)[w.heap.size]? = _
  simp [zrow]

/-- One round of taking away: the number so far. -/
theorem sub_val {dk : Array Int} {f g : Nat → Int} {i : Nat} {x y bo : Int} (hi : i < dk.size) (hx : f i = x) (hy : g i = y) (hx0 : 0 ≤ x) (hx1 : x < 18446744073709551616) (hy0 : 0 ≤ y) (hy1 : y < 18446744073709551616)
    (h0 : 0 ≤ bo) (h1 : bo ≤ 1) (hv : Wd.vl (fun j => dk[j]!) i - Wd.pw i * bo = Wd.vl f i - Wd.vl g i) :
    Wd.vl (fun j => (dk.setIfInBounds i ((x - y - bo) % 18446744073709551616))[j]!) (i + 1) - Wd.pw (i + 1) * bor x (y + bo) = Wd.vl f (i + 1) - Wd.vl g (i + 1) := by
  rw [vl_set dk i _ hi, Wd.vl_succ, Wd.vl_succ, hy, hx, Wd.pw_succ]
  have e := bor_eq x (y + bo) hx0 hx1 (by omega) (by omega)
  rw [show x - y - bo = x - (y + bo) by omega, e]
  generalize bor x (y + bo) = z
  have e1 : Wd.pw i * (x - (y + bo) + 18446744073709551616 * z) = Wd.pw i * x - Wd.pw i * y - Wd.pw i * bo + 18446744073709551616 * Wd.pw i * z := by
    rw [Int.mul_add, Int.mul_sub, Int.mul_add, ← Int.mul_assoc, Int.mul_comm (Wd.pw i) 18446744073709551616]; omega
  rw [e1]; omega

theorem sub_end {V A B p bo : Int} (h1 : V < p) (hle : B ≤ A) (hb0 : 0 ≤ bo) (hb1 : bo ≤ 1) (h : V - p * bo = A - B) : V = A - B := by
  have : bo = 0 ∨ bo = 1 := by omega
  rcases this with rfl | rfl <;> omega

/-- A word of a number that came in, in whatever world has it still. -/
theorem row_at {w W : World} {a : Option Addr} {n c : Nat} {f : Nat → Int} (h : RowIs w a n c f) (hb : Below w.heap.size w W) {i : Nat} (hi : i < n) :
    ∃ b o, a = some ⟨b, o, none⟩ ∧ b < w.heap.size ∧ W.cell? ⟨b, o + i, none⟩ = some (.int .u64 (f i)) := by
  obtain ⟨h1, h2, h3⟩ := h
  obtain ⟨b, o, e, hlt, hc⟩ := h3 (by omega)
  exact ⟨b, o, e, hlt, by rw [hb.cell (p := ⟨b, o + i, none⟩) hlt]; exact hc i hi⟩

set_option maxHeartbeats 1000000 in
theorem sub_any (va vb : Value) (A B : Int) (w : World) (ha : NatIs w va A) (hb : NatIs w vb B) (hA : Sm A) (hle : B ≤ A) :
    Calls Tryd.prog 76 #[va, vb] w fun e w' => ∃ v, e = .returned v ∧ NatIs w' v (A - B) ∧ Below w.heap.size w w' := by
  obtain ⟨a, n, c, rfl, hl, hra⟩ := ha
  obtain ⟨a', n', c', rfl, hl', hrb⟩ := hb
  have hn := hA.len hl
  have hmk := make_row (n : Int) (by omega) (by omega)
  simp only [Int.toNat_natCast] at hmk
  obtain ⟨W, hW⟩ : ∃ W, w.alloc (.cells (zrow n) 79) = W := ⟨_, rfl⟩
  have hown : OwnRow W w.heap.size (zs n) := by rw [← hW]; exact own_made w n
  have hbW : Below w.heap.size w W := by rw [← hW]; exact (Below.refl _ _).alloc (Nat.le_refl _) _
  have hnc := hra.1
  have hcc := hra.2.1
  have hnc' := hrb.1
  have hcc' := hrb.2.1
  have HA := hide hra
  have HB := hide hrb
  have HW := hide hW
  clear hra hrb hW
  go_enter Tryd.func76, Tryd.ntmps76
  go_wp2
  rw [unhide HW]
  go_loopw [6, 14] (fun vc vi wr => ∃ (i : Nat) (bo : Int) (dk : Array Int), vc = .int .u64 bo ∧ vi = .int .i64 i ∧ 0 ≤ bo ∧ bo ≤ 1 ∧ i ≤ n ∧ dk.size = n ∧ wr = putRow enc W w.heap.size 0 dk ∧
      (∀ j, j < n → Wd.W64 dk[j]!) ∧ Wd.vl (fun j => dk[j]!) i - Wd.pw i * bo = Wd.vl (Wd.dig A) i - Wd.vl (Wd.dig B) i) (fun _ vi _ => n - (intOf vi).toNat)
  case atStart => exact ⟨0, 0, zs n, rfl, rfl, by decide, by decide, Nat.zero_le _, zs_size n, (putRow_self _ _ _ _ _ hown.holds).symm, fun j _ => by rw [zs_get]; exact ⟨by decide, by decide⟩, by simp [Wd.vl]⟩
  case round =>
    obtain ⟨i, bo, dk, rfl, rfl, hc0, hc1, hi, hs, hwr, hw, hv⟩ := hrel
    have hown' : OwnRow wr w.heap.size dk := by rw [hwr]; exact hown.put (by rw [zs_size]; exact hs)
    have hbr : Below w.heap.size w wr := by rw [hwr]; exact hbW.trans (below_putRow dk (Nat.le_refl _))
    by_cases hlt : i < n
    · obtain ⟨x, hx⟩ : ∃ x, Wd.dig A i = x := ⟨_, rfl⟩
      obtain ⟨y, hy⟩ : ∃ y, Wd.dig B i = y := ⟨_, rfl⟩
      have ⟨hx0, hx1⟩ := Wd.dig_w A i
      have ⟨hy0, hy1⟩ := Wd.dig_w B i
      rw [hx] at hx0 hx1
      rw [hy] at hy0 hy1
      have hfa : wr.frozen? ⟨w.heap.size, i, none⟩ = false := by simpa using (hown'.holds i (by omega)).2
      have hce : ∃ u, wr.cell? ⟨w.heap.size, i, none⟩ = some u := ⟨_, by simpa using (hown'.holds i (by omega)).1⟩
      obtain ⟨u, hce⟩ := hce
      obtain ⟨b, o, hae, hblt, hca⟩ := row_at (unhide HA) hbr hlt
      rw [hx] at hca
      subst hae
      have FIN : Hid (∃ (i' : Nat) (bo' : Int) (dk' : Array Int), Value.int .u64 (bor x (y + bo)) = .int .u64 bo' ∧ Value.int .i64 ((i : Int) + 1) = .int .i64 i' ∧ 0 ≤ bo' ∧ bo' ≤ 1 ∧ i' ≤ n ∧ dk'.size = n ∧
          wr.setCell ⟨w.heap.size, i, none⟩ (.int .u64 ((x - y - bo) % 18446744073709551616)) = putRow enc W w.heap.size 0 dk' ∧
          (∀ j, j < n → Wd.W64 dk'[j]!) ∧ Wd.vl (fun j => dk'[j]!) i' - Wd.pw i' * bo' = Wd.vl (Wd.dig A) i' - Wd.vl (Wd.dig B) i') := by
        refine ⟨i + 1, _, dk.setIfInBounds i ((x - y - bo) % 18446744073709551616), rfl, by go_num, (bor_bd _ _).1, (bor_bd _ _).2, hlt, by simpa using hs, ?_, words_set hw (mod_w _) (by omega), sub_val (by omega) hx hy hx0 hx1 hy0 hy1 hc0 hc1 hv⟩
        rw [hwr]; simpa using putRow_set enc W w.heap.size 0 dk i ((x - y - bo) % 18446744073709551616) (by omega)
      have hym : ¬ i < n' → y = 0 := fun h => by rw [← hy]; exact Wd.dig_zero_of hl'.1 (Int.lt_of_lt_of_le hl'.2.1 (Wd.pw_mono (by omega)))
      have HYM := hide hym
      have HY := hide hy
      have HO := hide hown'
      clear hv hw hx hy hym hwr hown hown' hl hl' hs
      by_cases him : i < n'
      · obtain ⟨b', o', hbe, hblt', hcb⟩ := row_at (unhide HB) hbr him
        rw [unhide HY] at hcb
        subst hbe
        clear HYM HY HA HB hbr
        go_wp2_with (simp only [sub64 x y bo hx0 hy0 hy1 hc0 hc1])
        exact ⟨unhide FIN, by simp [intOf]; omega⟩
      · obtain rfl := unhide HYM him
        clear HYM HY HA HB hbr
        go_wp2_with (simp only [sub64 x 0 bo hx0 hy0 hy1 hc0 hc1])
        exact ⟨by have := unhide FIN; simpa using this, by simp [intOf]; omega⟩
    · obtain rfl : i = n := by omega
      have hri := hown'.rowIs (c := i) (by omega) (by omega)
      rw [hs] at hri
      have hV := sub_end (Wd.vl_bd hw).2 hle hc0 hc1 (by rw [hv, Wd.vl_dig_all hl.1 hl.2.1, Wd.vl_dig_all hl'.1 (Int.lt_of_le_of_lt hle hl.2.1)])
      have HV := hide hV
      have HWD := hide hw
      have HRI := hide hri
      clear hv hw hV hri hown hown' hl hl' hwr
      go_wp2_with (go_at_call 74; refine (trimmed_any _ i i _ _ (unhide HRI) (unhide HWD)).mono ?_; rintro e w' ⟨m, rfl, hm, hlm, rfl⟩)
      go_ret
      refine ⟨_, rfl, ?_, hbr⟩
      rw [← unhide HV]
      exact natIs_trim (unhide HRI) (unhide HWD) hm hlm
end Go.Proofs.YtdicbnchkfclaaaDoor
