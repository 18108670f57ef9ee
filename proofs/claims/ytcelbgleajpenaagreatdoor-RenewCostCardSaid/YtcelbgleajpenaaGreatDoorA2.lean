/- Numbers by words: added in place, added, taken away, multiplied. -/
import Derived.Test.YtcelbgleajpenaaGreatDoorA1
import Derived.Test.YtcelbgleajpenaaGreatDoorShelf
import Derived.Sort.Row
import Derived.Deep.LoopGhost
import Derived.CellFam
import Derived.Laws.CopyOwn
namespace Go.Proofs.YtcelbgleajpenaaGreatDoor
open Go.RowKit Go.Sort Go.Shelf

theorem add64 (x y c : Int) (hx : 0 ≤ x) (hy : 0 ≤ y) (hc0 : 0 ≤ c) (hc : c ≤ 1) (w : World) : (callFunc 172 #[.int .u64 x, .int .u64 y, .int .u64 c]).run Tryz.prog w =
  .ok (.value (.tuple #[.int .u64 ((x + y + c) % 18446744073709551616), .int .u64 ((x + y + c) / 18446744073709551616)])) w := by
 obtain ⟨x, rfl⟩ := Int.eq_ofNat_of_zero_le hx
 obtain ⟨y, rfl⟩ := Int.eq_ofNat_of_zero_le hy
 obtain ⟨c, rfl⟩ := Int.eq_ofNat_of_zero_le hc0
 refine (Any7.bits_Add64 Tryz.lays7x25 x y c (by omega) w).trans ?_
 congr 5 <;> omega

def bor (x y : Int) : Int := if x < y then 1 else 0
theorem bor_bd (x y : Int) : 0 ≤ bor x y ∧ bor x y ≤ 1 := by unfold bor; split <;> decide
theorem bor_eq (x y : Int) (hx : 0 ≤ x) (hx' : x < 18446744073709551616) (hy : 0 ≤ y) (hy' : y ≤ 18446744073709551616) : (x - y) % 18446744073709551616 = x - y + 18446744073709551616 * bor x y := by
 unfold bor; split <;> omega

theorem sub64 (x y b : Int) (hx : 0 ≤ x) (hy : 0 ≤ y) (hy' : y < 18446744073709551616) (hb0 : 0 ≤ b) (hb : b ≤ 1) (w : World) : (callFunc 174 #[.int .u64 x, .int .u64 y, .int .u64 b]).run Tryz.prog w =
  .ok (.value (.tuple #[.int .u64 ((x - y - b) % 18446744073709551616), .int .u64 (bor x (y + b))])) w := by
 obtain ⟨x, rfl⟩ := Int.eq_ofNat_of_zero_le hx
 obtain ⟨y, rfl⟩ := Int.eq_ofNat_of_zero_le hy
 obtain ⟨b, rfl⟩ := Int.eq_ofNat_of_zero_le hb0
 have e1 : (((x + 18446744073709551616 - y - b) % 18446744073709551616 : Nat) : Int) = ((x : Int) - y - b) % 18446744073709551616 := by omega
 have e2 : ((if x < y + b then 1 else 0 : Nat) : Int) = bor (x : Int) (y + b) := by unfold bor; split <;> split <;> omega
 rw [← e1, ← e2]
 exact Any7.bits_Sub64 Tryz.lays7x26 x y b (by omega) w

abbrev enc : Int → Value := Value.int .u64

theorem vl_set (d : Array Int) (i : Nat) (x : Int) (hi : i < d.size) : Wd.vl (fun j => (d.setIfInBounds i x)[j]!) (i + 1) = Wd.vl (fun j => d[j]!) i + Wd.pw i * x := by
 rw [Wd.vl_succ, getElem!_set_same d i x hi]
 congr 1
 exact Wd.vl_congr (fun j hj => getElem!_set_other d i j x (by omega))

theorem add_step (p s : Int) : p * (s % 18446744073709551616) + 18446744073709551616 * p * (s / 18446744073709551616) = p * s := by
 have e := Int.emod_add_mul_ediv s 18446744073709551616
 have : p * s = p * (s % 18446744073709551616 + 18446744073709551616 * (s / 18446744073709551616)) := by rw [e]
 rw [this, Int.mul_add, ← Int.mul_assoc, Int.mul_comm p 18446744073709551616]

theorem words_set {d : Array Int} {n i : Nat} {x : Int} (h : ∀ j, j < n → Wd.W64 d[j]!) (hx : Wd.W64 x) (hi : i < d.size) : ∀ j, j < n → Wd.W64 (d.setIfInBounds i x)[j]! := fun j hj => by
 by_cases e : j = i
 ·rw [e, getElem!_set_same d i x hi]; exact hx
 ·rw [getElem!_set_other d i j x e]; exact h j hj

theorem mod_w (x : Int) : Wd.W64 (x % 18446744073709551616) := ⟨by omega, by omega⟩

theorem addInto_val {d dk : Array Int} {g : Nat → Int} {i : Nat} {x y cr : Int} (hi : i < dk.size) (hx : dk[i]! = x) (hr : dk[i]! = d[i]!) (hy : g i = y)
  (hv : Wd.vl (fun j => dk[j]!) i + Wd.pw i * cr = Wd.vl (fun j => d[j]!) i + Wd.vl g i) :
  Wd.vl (fun j => (dk.setIfInBounds i ((x + y + cr) % 18446744073709551616))[j]!) (i + 1) + Wd.pw (i + 1) * ((x + y + cr) / 18446744073709551616) = Wd.vl (fun j => d[j]!) (i + 1) + Wd.vl g (i + 1) := by
 rw [vl_set dk i _ hi, Wd.vl_succ, Wd.vl_succ, hy, ← hr, hx, Wd.pw_succ]
 have e := add_step (Wd.pw i) (x + y + cr)
 rw [Int.mul_add, Int.mul_add] at e
 omega

set_option maxHeartbeats 1000000 in
theorem addInto_any (b o c : Nat) (d : Array Int) (a' : Option Addr) (m c' : Nat) (g : Nat → Int) (w : World)
  (hH : Holds enc w b o d) (hd : ∀ j, j < d.size → Wd.W64 d[j]!) (hdc : d.size ≤ 9223372036854775807)
  (hg : RowIs w a' m c' g) (hgw : ∀ j, Wd.W64 (g j)) (hgz : ∀ j, m ≤ j → g j = 0) (hne : 0 < m → ∀ b' o', a' = some ⟨b', o', none⟩ → b' ≠ b) :
  Calls Tryz.prog 173 #[.slice (some ⟨b, o, none⟩) d.size c, .slice a' m c'] w fun e w' => e = .returned (.tuple #[]) ∧
   ∃ d' : Array Int, d'.size = d.size ∧ w' = putRow enc w b o d' ∧ (∀ j, j < d.size → Wd.W64 d'[j]!) ∧
    ∃ cr : Int, 0 ≤ cr ∧ cr ≤ 1 ∧ Wd.vl (fun j => d'[j]!) d.size + Wd.pw d.size * cr = Wd.vl (fun j => d[j]!) d.size + Wd.vl g d.size := by
 obtain ⟨h1, h2, h3⟩ := hg
 have H3 := hide h3
 have HN := hide hne
 clear h3 hne
 go_enter Tryz.func173, Tryz.ntmps173
 go_wp2
 go_loopw [4, 9] (fun vc vi wr => ∃ (i : Nat) (cr : Int) (dk : Array Int), vc = .int .u64 cr ∧ vi = .int .i64 i ∧ 0 ≤ cr ∧ cr ≤ 1 ∧ i ≤ d.size ∧ dk.size = d.size ∧ wr = putRow enc w b o dk ∧
   (∀ j, j < d.size → Wd.W64 dk[j]!) ∧ (∀ j, i ≤ j → dk[j]! = d[j]!) ∧ Wd.vl (fun j => dk[j]!) i + Wd.pw i * cr = Wd.vl (fun j => d[j]!) i + Wd.vl g i) (fun _ vi _ => d.size - (intOf vi).toNat)
 case atStart => exact ⟨0, 0, d, rfl, rfl, by decide, by decide, Nat.zero_le _, rfl, (putRow_self _ _ _ _ _ hH).symm, hd, fun _ _ => rfl, by simp [Wd.vl]⟩
 case round =>
  obtain ⟨i, cr, dk, rfl, rfl, hc0, hc1, hi, hs, hwr, hw, hr, hv⟩ := hrel
  by_cases hlt : i < d.size
  ·obtain ⟨x, hx⟩ : ∃ x, dk[i]! = x := ⟨_, rfl⟩
   have hxw := hw i hlt
   have hca : wr.cell? ⟨b, o + i, none⟩ = some (.int .u64 x) := by rw [hwr, ← hx]; exact cell?_putRow _ _ _ _ d dk hH hs i (by omega)
   have hfa : wr.frozen? ⟨b, o + i, none⟩ = false := by rw [hwr, frozen?_putRow]; exact (hH i hlt).2
   obtain ⟨y, hy⟩ : ∃ y, g i = y := ⟨_, rfl⟩
   have hyw := hgw i
   rw [hx] at hxw
   rw [hy] at hyw
   obtain ⟨hx0, hx1⟩ := hxw
   obtain ⟨hy0, hy1⟩ := hyw
   have FIN : Hid (∃ (i' : Nat) (cr' : Int) (dk' : Array Int), Value.int .u64 ((x + y + cr) / 18446744073709551616) = .int .u64 cr' ∧ Value.int .i64 ((i : Int) + 1) = .int .i64 i' ∧ 0 ≤ cr' ∧ cr' ≤ 1 ∧ i' ≤ d.size ∧ dk'.size = d.size ∧
     wr.setCell ⟨b, o + i, none⟩ (.int .u64 ((x + y + cr) % 18446744073709551616)) = putRow enc w b o dk' ∧
     (∀ j, j < d.size → Wd.W64 dk'[j]!) ∧ (∀ j, i' ≤ j → dk'[j]! = d[j]!) ∧ Wd.vl (fun j => dk'[j]!) i' + Wd.pw i' * cr' = Wd.vl (fun j => d[j]!) i' + Wd.vl g i') := by
    refine ⟨i + 1, _, dk.setIfInBounds i ((x + y + cr) % 18446744073709551616), rfl, by go_num, by omega, by omega, hlt, by simpa using hs, ?_, words_set hw (mod_w _) (by omega), fun j hj => ?_, addInto_val (by omega) hx (hr i (Nat.le_refl _)) hy hv⟩
    ·rw [hwr]; exact putRow_set enc w b o dk i _ (by omega)
    ·rw [getElem!_set_other dk i j _ (by omega)]; exact hr j (by omega)
   have hym : ¬ i < m → y = 0 := fun h => by rw [← hy]; exact hgz i (by omega)
   have HYM := hide hym
   have HY := hide hy
   clear hv hr hw hx hy hgz hgw hd hH hym
   by_cases him : i < m
   ·have hm : 0 < m := by omega
    obtain ⟨b', o', ha', hlt', hc'⟩ := unhide H3 hm
    have hbb := unhide HN hm b' o' ha'
    have hcb := hc' i him
    rw [unhide HY, ← cell?_putRow_other enc w b o dk ⟨b', o' + i, none⟩ (Or.inl hbb), ← hwr] at hcb
    subst ha'
    clear hc' hwr H3 HN HYM HY
    go_wp2_with (simp only [add64 x y cr hx0 hy0 hc0 hc1])
    exact ⟨unhide FIN, by simp [intOf]; omega⟩
   ·obtain rfl := unhide HYM him
    clear H3 HN HYM HY hwr
    go_wp2_with (simp only [add64 x 0 cr hx0 hy0 hc0 hc1])
    exact ⟨by have := unhide FIN; simpa using this, by simp [intOf]; omega⟩
  ·obtain rfl : i = d.size := by omega
   go_wp2
   go_end0
   exact ⟨rfl, dk, hs, rfl, hw, cr, hc0, hc1, hv⟩
end Go.Proofs.YtcelbgleajpenaaGreatDoor
/- Rows of words that a call makes for itself; numbers added and taken away. -/
namespace Go.Proofs.YtcelbgleajpenaaGreatDoor
open Go.RowKit Go.Sort Go.Shelf

def KK : Nat := 1099511627776
def Sm (N : Int) : Prop := N < Wd.pw KK
theorem Sm.len {N : Int} {n : Nat} (h : Sm N) (hl : Wd.Len N n) : n ≤ 1099511627776 := by
 rcases hl.2.2 with h0 | h0
 ·omega
 ·have : n - 1 < KK := Wd.pw_lt_of (Int.lt_of_le_of_lt h0 h)
  unfold KK at this; omega

def OwnRow (w : World) (g : Nat) (d : Array Int) : Prop := w.heap[g]? = some (.cells (d.map enc) 134 (0, 0))

theorem OwnRow.lt {w : World} {g : Nat} {d : Array Int} (h : OwnRow w g d) : g < w.heap.size := (Array.getElem?_eq_some_iff.1 h).1
theorem OwnRow.holds {w : World} {g : Nat} {d : Array Int} (h : OwnRow w g d) : Holds enc w g 0 d := fun j hj => by
 unfold OwnRow at h
 refine ⟨?_, ?_⟩
 ·simp only [World.cell?, h]
  simp [hj]
 ·simp [World.frozen?, h]
theorem OwnRow.put {w : World} {g : Nat} {d d' : Array Int} (h : OwnRow w g d) (hs : d'.size = d.size) : OwnRow (putRow enc w g 0 d') g d' := by
 unfold OwnRow at *
 simp only [putRow, mapBlock, Array.getElem?_modify, h, if_true, Option.map_some, onCells]
 congr 2
 apply Array.ext_getElem?
 intro k
 simp only [putCells, Array.getElem?_mapIdx, Array.getElem?_map]
 by_cases hk : k < d'.size
 ·rw [Array.getElem?_eq_getElem (by omega : k < d.size), Array.getElem?_eq_getElem hk]
  simp [hk]
 ·rw [Array.getElem?_eq_none (by omega : d.size ≤ k), Array.getElem?_eq_none (by omega : d'.size ≤ k)]; rfl
theorem below_putRow {B g o : Nat} {w : World} (d : Array Int) (h : B ≤ g) : Below B w (putRow enc w g o d) := by
 refine ⟨rfl, rfl, rfl, by simp [putRow, mapBlock], fun k hk => ?_⟩
 simp only [putRow, mapBlock, Array.getElem?_modify]
 rw [if_neg (by omega)]
theorem OwnRow.rowIs {w : World} {g : Nat} {d : Array Int} {c : Nat} (h : OwnRow w g d) (h1 : d.size ≤ c) (h2 : c ≤ 9223372036854775807) : RowIs w (some ⟨g, 0, none⟩) d.size c (fun j => d[j]!) :=
 ⟨h1, h2, fun _ => ⟨g, 0, rfl, h.lt, fun j hj => (h.holds j hj).1⟩⟩
theorem OwnRow.below {w w' : World} {g B : Nat} {d : Array Int} (h : OwnRow w g d) (hb : Below B w w') (hg : g < B) : OwnRow w' g d := by
 unfold OwnRow at *; rw [hb.block g hg]; exact h

def zs (n : Nat) : Array Int := Array.replicate n 0
def zrow (n : Nat) : Array Value := (zs n).map enc
theorem zs_size (n : Nat) : (zs n).size = n := by simp [zs]
theorem zs_get (n j : Nat) : (zs n)[j]! = 0 := by
 by_cases h : j < n
 ·rw [getElem!_pos _ j (by simpa [zs] using h)]; simp [zs]
 ·rw [getElem!_neg _ j (by simpa [zs] using h)]; rfl

theorem Tryz.info54 : (Tryz.prog.info? 134).map (fun i => (i.zero, i.size, i.bytes)) = some (some (.int .u64 0), 1, 8) := by kernel_rfl

theorem make_row (k : Int) (h0 : 0 ≤ k) (h1 : k ≤ 2199023255552) (w : World) :
  (Instr.makeSlice 35 (.int .i64 k) (.int .i64 k)).run Tryz.prog w = .ok (.slice (some ⟨w.heap.size, 0, none⟩) k.toNat k.toNat) (w.alloc (.cells (zrow k.toNat) 134)) := by
 obtain ⟨i, hi, hz0, hz1, hz2⟩ := info_parts Tryz.info54
 have e : madeCells (Value.int .u64 0).cells (k.toNat * i.size) = zrow k.toNat := by
  rw [hz1, Nat.mul_one]
  generalize k.toNat = n
  apply Array.ext
  ·simp [madeCells, zrow, zs]
  ·intro j h1 h2
   simp [madeCells, zrow, zs, Value.cells, Nat.mod_one]
 rw [run_make w 35 134 i (.int .u64 0) Tryz.underlying35 hi hz0 .i64 .i64 k k h0 (Int.le_refl _) (by rw [hz2]; omega) (by omega), e]

theorem own_made (w : World) (n : Nat) : OwnRow (w.alloc (.cells (zrow n) 134)) w.heap.size (zs n) := by
 unfold OwnRow
 show (w.heap.push _)[w.heap.size]? = _
 simp [zrow]

theorem sub_val {dk : Array Int} {f g : Nat → Int} {i : Nat} {x y bo : Int} (hi : i < dk.size) (hx : f i = x) (hy : g i = y) (hx0 : 0 ≤ x) (hx1 : x < 18446744073709551616) (hy0 : 0 ≤ y) (hy1 : y < 18446744073709551616)
  (h0 : 0 ≤ bo) (h1 : bo ≤ 1) (hv : Wd.vl (fun j => dk[j]!) i - Wd.pw i * bo = Wd.vl f i - Wd.vl g i) :
  Wd.vl (fun j => (dk.setIfInBounds i ((x - y - bo) % 18446744073709551616))[j]!) (i + 1) - Wd.pw (i + 1) * bor x (y + bo) = Wd.vl f (i + 1) - Wd.vl g (i + 1) := by
 rw [vl_set dk i _ hi, Wd.vl_succ, Wd.vl_succ, hy, hx, Wd.pw_succ]
 have e := bor_eq x (y + bo) hx0 hx1 (by omega) (by omega)
 rw [show x - y - bo = x - (y + bo) by omega, e]
 generalize bor x (y + bo) = z
 have e1 : Wd.pw i * (x - (y + bo) + 18446744073709551616 * z) = Wd.pw i * x - Wd.pw i * y - Wd.pw i * bo + 18446744073709551616 * Wd.pw i * z := by
  rw [Int.mul_add, Int.mul_sub, Int.mul_add, ← Int.mul_assoc, Int.mul_comm (Wd.pw i) 18446744073709551616]; omega
 rw [e1]; omega

theorem sub_end {V A B p bo : Int} (h1 : V < p) (hle : B ≤ A) (hb0 : 0 ≤ bo) (hb1 : bo ≤ 1) (h : V - p * bo = A - B) : V = A - B := by
 have : bo = 0 ∨ bo = 1 := by omega
 rcases this with rfl | rfl <;> omega

theorem row_at {w W : World} {a : Option Addr} {n c : Nat} {f : Nat → Int} (h : RowIs w a n c f) (hb : Below w.heap.size w W) {i : Nat} (hi : i < n) :
  ∃ b o, a = some ⟨b, o, none⟩ ∧ b < w.heap.size ∧ W.cell? ⟨b, o + i, none⟩ = some (.int .u64 (f i)) := by
 obtain ⟨h1, h2, h3⟩ := h
 obtain ⟨b, o, e, hlt, hc⟩ := h3 (by omega)
 exact ⟨b, o, e, hlt, by rw [hb.cell (p := ⟨b, o + i, none⟩) hlt]; exact hc i hi⟩

set_option maxHeartbeats 1000000 in
theorem sub_any (va vb : Value) (A B : Int) (w : World) (ha : NatIs w va A) (hb : NatIs w vb B) (hA : Sm A) (hle : B ≤ A) :
  Calls Tryz.prog 145 #[va, vb] w fun e w' => ∃ v, e = .returned v ∧ NatIs w' v (A - B) ∧ Below w.heap.size w w' := by
 obtain ⟨a, n, c, rfl, hl, hra⟩ := ha
 obtain ⟨a', n', c', rfl, hl', hrb⟩ := hb
 have hn := hA.len hl
 have hmk := make_row (n : Int) (by omega) (by omega)
 simp only [Int.toNat_natCast] at hmk
 obtain ⟨W, hW⟩ : ∃ W, w.alloc (.cells (zrow n) 134) = W := ⟨_, rfl⟩
 have hown : OwnRow W w.heap.size (zs n) := by rw [← hW]; exact own_made w n
 have hbW : Below w.heap.size w W := by rw [← hW]; exact (Below.refl _ _).alloc (Nat.le_refl _) _
 have hnc := hra.1
 have hcc := hra.2.1
 have hnc' := hrb.1
 have hcc' := hrb.2.1
 have HA := hide hra
 have HB := hide hrb
 have HW := hide hW
 clear hra hrb hW
 go_enter Tryz.func145, Tryz.ntmps145
 go_wp2
 rw [unhide HW]
 go_loopw [6, 14] (fun vc vi wr => ∃ (i : Nat) (bo : Int) (dk : Array Int), vc = .int .u64 bo ∧ vi = .int .i64 i ∧ 0 ≤ bo ∧ bo ≤ 1 ∧ i ≤ n ∧ dk.size = n ∧ wr = putRow enc W w.heap.size 0 dk ∧
   (∀ j, j < n → Wd.W64 dk[j]!) ∧ Wd.vl (fun j => dk[j]!) i - Wd.pw i * bo = Wd.vl (Wd.dig A) i - Wd.vl (Wd.dig B) i) (fun _ vi _ => n - (intOf vi).toNat)
 case atStart => exact ⟨0, 0, zs n, rfl, rfl, by decide, by decide, Nat.zero_le _, zs_size n, (putRow_self _ _ _ _ _ hown.holds).symm, fun j _ => by rw [zs_get]; exact ⟨by decide, by decide⟩, by simp [Wd.vl]⟩
 case round =>
  obtain ⟨i, bo, dk, rfl, rfl, hc0, hc1, hi, hs, hwr, hw, hv⟩ := hrel
  have hown' : OwnRow wr w.heap.size dk := by rw [hwr]; exact hown.put (by rw [zs_size]; exact hs)
  have hbr : Below w.heap.size w wr := by rw [hwr]; exact hbW.trans (below_putRow dk (Nat.le_refl _))
  by_cases hlt : i < n
  ·obtain ⟨x, hx⟩ : ∃ x, Wd.dig A i = x := ⟨_, rfl⟩
   obtain ⟨y, hy⟩ : ∃ y, Wd.dig B i = y := ⟨_, rfl⟩
   have ⟨hx0, hx1⟩ := Wd.dig_w A i
   have ⟨hy0, hy1⟩ := Wd.dig_w B i
   rw [hx] at hx0 hx1
   rw [hy] at hy0 hy1
   have hfa : wr.frozen? ⟨w.heap.size, i, none⟩ = false := by simpa using (hown'.holds i (by omega)).2
   have hce : ∃ u, wr.cell? ⟨w.heap.size, i, none⟩ = some u := ⟨_, by simpa using (hown'.holds i (by omega)).1⟩
   obtain ⟨u, hce⟩ := hce
   obtain ⟨b, o, hae, hblt, hca⟩ := row_at (unhide HA) hbr hlt
   rw [hx] at hca
   subst hae
   have FIN : Hid (∃ (i' : Nat) (bo' : Int) (dk' : Array Int), Value.int .u64 (bor x (y + bo)) = .int .u64 bo' ∧ Value.int .i64 ((i : Int) + 1) = .int .i64 i' ∧ 0 ≤ bo' ∧ bo' ≤ 1 ∧ i' ≤ n ∧ dk'.size = n ∧
     wr.setCell ⟨w.heap.size, i, none⟩ (.int .u64 ((x - y - bo) % 18446744073709551616)) = putRow enc W w.heap.size 0 dk' ∧
     (∀ j, j < n → Wd.W64 dk'[j]!) ∧ Wd.vl (fun j => dk'[j]!) i' - Wd.pw i' * bo' = Wd.vl (Wd.dig A) i' - Wd.vl (Wd.dig B) i') := by
    refine ⟨i + 1, _, dk.setIfInBounds i ((x - y - bo) % 18446744073709551616), rfl, by go_num, (bor_bd _ _).1, (bor_bd _ _).2, hlt, by simpa using hs, ?_, words_set hw (mod_w _) (by omega), sub_val (by omega) hx hy hx0 hx1 hy0 hy1 hc0 hc1 hv⟩
    rw [hwr]; simpa using putRow_set enc W w.heap.size 0 dk i ((x - y - bo) % 18446744073709551616) (by omega)
   have hym : ¬ i < n' → y = 0 := fun h => by rw [← hy]; exact Wd.dig_zero_of hl'.1 (Int.lt_of_lt_of_le hl'.2.1 (Wd.pw_mono (by omega)))
   have HYM := hide hym
   have HY := hide hy
   have HO := hide hown'
   clear hv hw hx hy hym hwr hown hown' hl hl' hs
   by_cases him : i < n'
   ·obtain ⟨b', o', hbe, hblt', hcb⟩ := row_at (unhide HB) hbr him
    rw [unhide HY] at hcb
    subst hbe
    clear HYM HY HA HB hbr
    go_wp2_with (simp only [sub64 x y bo hx0 hy0 hy1 hc0 hc1])
    exact ⟨unhide FIN, by simp [intOf]; omega⟩
   ·obtain rfl := unhide HYM him
    clear HYM HY HA HB hbr
    go_wp2_with (simp only [sub64 x 0 bo hx0 hy0 hy1 hc0 hc1])
    exact ⟨by have := unhide FIN; simpa using this, by simp [intOf]; omega⟩
  ·obtain rfl : i = n := by omega
   have hri := hown'.rowIs (c := i) (by omega) (by omega)
   rw [hs] at hri
   have hV := sub_end (Wd.vl_bd hw).2 hle hc0 hc1 (by rw [hv, Wd.vl_dig_all hl.1 hl.2.1, Wd.vl_dig_all hl'.1 (Int.lt_of_le_of_lt hle hl.2.1)])
   have HV := hide hV
   have HWD := hide hw
   have HRI := hide hri
   clear hv hw hV hri hown hown' hl hl' hwr
   go_wp2_with (go_at_call 129; refine (trimmed_any _ i i _ _ (unhide HRI) (unhide HWD)).mono ?_; rintro e w' ⟨m, rfl, hm, hlm, rfl⟩)
   go_ret
   refine ⟨_, rfl, ?_, hbr⟩
   rw [← unhide HV]
   exact natIs_trim (unhide HRI) (unhide HWD) hm hlm
end Go.Proofs.YtcelbgleajpenaaGreatDoor
/- Numbers by words: added, multiplied. -/
namespace Go.Proofs.YtcelbgleajpenaaGreatDoor
open Go.RowKit Go.Sort Go.Shelf

def dgs (A : Int) (k : Nat) : Array Int := (Array.range k).map (Wd.dig A)
theorem dgs_size (A : Int) (k : Nat) : (dgs A k).size = k := by simp [dgs]
theorem dgs_get (A : Int) (k j : Nat) (h : j < k) : (dgs A k)[j]! = Wd.dig A j := by
 rw [getElem!_pos _ j (by simpa [dgs] using h)]; simp [dgs]
theorem dgs_w (A : Int) (k : Nat) : ∀ j, j < k → Wd.W64 (dgs A k)[j]! := fun j h => by rw [dgs_get A k j h]; exact Wd.dig_w _ _
theorem dgs_vl (A : Int) (k : Nat) : Wd.vl (fun j => (dgs A k)[j]!) k = Wd.vl (Wd.dig A) k := Wd.vl_congr (fun j h => dgs_get A k j h)

def csL (A : Int) (n : Nat) : List Value := (List.range n).map (fun j => .int .u64 (Wd.dig A j))
theorem csL_length (A : Int) (n : Nat) : (csL A n).length = n := by simp [csL]
theorem csL_get (A : Int) (n j : Nat) (v : Value) (h : (csL A n)[j]? = some v) : j < n ∧ v = .int .u64 (Wd.dig A j) := by
 have hj : j < n := by
  have := (List.getElem?_eq_some_iff.1 h).1
  simpa [csL] using this
 refine ⟨hj, ?_⟩
 simp [csL, hj] at h
 exact h.symm
def zL (k : Nat) : List Value := (zrow k).toList
theorem copy_own {w : World} {g : Nat} {A : Int} {n k : Nat} (h : w.heap[g]? = some (.cells (splice (zL k) 0 (csL A n)).toArray 134 (0, 0))) (hn : n ≤ k) (h0 : 0 ≤ A) (hA : A < Wd.pw n) : OwnRow w g (dgs A k) := by
 unfold OwnRow
 rw [h]
 congr 2
 apply Array.ext_getElem?
 intro j
 simp only [splice, List.take_zero, List.nil_append, Nat.zero_add, csL_length, List.getElem?_toArray, dgs, Array.getElem?_map]
 by_cases hj : j < n
 ·rw [List.getElem?_append_left (by rw [csL_length]; exact hj)]
  simp [csL, hj, Nat.lt_of_lt_of_le hj hn]
 ·rw [List.getElem?_append_right (by rw [csL_length]; omega), csL_length, List.getElem?_drop]
  by_cases hk : j < k
  ·have e : n + (j - n) = j := by omega
   have z : Wd.dig A j = 0 := Wd.dig_zero_of h0 (Int.lt_of_lt_of_le hA (Wd.pw_mono (by omega)))
   simp [e, zL, zrow, zs, hk, z]
  ·have e : n + (j - n) = j := by omega
   simp [e, zL, zrow, zs, hk]

theorem Tryz.size54 : (Tryz.prog.info? 134).map (·.size) = some 1 := by kernel_rfl

theorem copy_run (w : World) {A : Int} {n k c : Nat} {a : Option Addr} (hn : n ≤ k) (hl : Wd.Len A n) (hr : RowIs w a n c (Wd.dig A)) :
  ∃ W, (Builtin.copy_ #[35, 35] 3 #[.slice (some ⟨w.heap.size, 0, none⟩) k k, .slice a n c]).run Tryz.prog (w.alloc (.cells (zrow k) 134)) = .ok (.int .i64 n) W ∧ OwnRow W w.heap.size (dgs A k) ∧ Below w.heap.size w W := by
 have hbW : Below w.heap.size w (w.alloc (.cells (zrow k) 134)) := (Below.refl _ _).alloc (Nat.le_refl _) _
 have hg : (w.alloc (.cells (zrow k) 134)).heap[w.heap.size]? = some (.cells (zrow k) 134 (0, 0)) := by
  show (w.heap.push _)[w.heap.size]? = _
  simp
 by_cases h0 : n = 0
 ·subst h0
  refine ⟨_, run_copy_none _ _ _ _ 134 _ _ _ _ _ _ Tryz.underlying35 Tryz.size54 (Nat.zero_min _), ?_, hbW⟩
  have hz := hl.zero
  subst hz
  refine copy_own (n := 0) ?_ (Nat.zero_le _) (by decide) (by decide)
  rw [hg]
  simp [splice, csL, zL]
 ·obtain ⟨h1, h2, h3⟩ := hr
  have hp : 0 < n := Nat.pos_of_ne_zero h0
  obtain ⟨b, o, rfl, hlt, hc⟩ := h3 hp
  have hr := run_copy_row (P := Tryz.prog) (w.alloc (.cells (zrow k) 134)) 35 35 3 134 w.heap.size 0 k k ⟨b, o, none⟩ n c (zrow k) 134 (csL A n) Tryz.underlying35 Tryz.size54 hg
   (by rw [csL_length]; exact (Nat.min_eq_left hn).symm)
   (fun j v hv => by
    obtain ⟨hj, rfl⟩ := csL_get _ _ _ _ hv
    have := (hbW.cell (p := ⟨b, o + j, none⟩) hlt).trans (hc j hj)
    by_cases hj0 : j = 0
    ·subst hj0; simpa [Addr.add] using this
    ·simpa [Addr.add, hj0] using this)
   (by rw [csL_length]; simp [zrow, zs]; exact hn)
   (fun v hv => by
    obtain ⟨j, hj⟩ := List.getElem?_of_mem hv
    obtain ⟨_, rfl⟩ := csL_get _ _ _ _ hj
    rfl)
  rw [csL_length] at hr
  refine ⟨_, hr, ?_, hbW.trans (below_setRow (Below.refl _ _) (Nat.le_refl _) _)⟩
  refine copy_own (n := n) (k := k) ?_ hn hl.1 hl.2.1
  rw [setRow_heap _ _ _ _ _ _ hg]
  simp [splice, zL, csL_length]

theorem carry_end {V S p cr : Int} (h0 : 0 ≤ V) (h2 : S < p) (hc0 : 0 ≤ cr) (hc1 : cr ≤ 1) (h : V + p * cr = S) : V = S := by
 have : cr = 0 ∨ cr = 1 := by omega
 rcases this with rfl | rfl <;> omega

theorem pw_two {A B : Int} {n : Nat} (hA : A < Wd.pw n) (hB : B < Wd.pw n) : A + B < Wd.pw (n + 1) := by
 have := Wd.pw_pos n
 rw [Wd.pw_succ]; omega

theorem add_fin {w w1 w2 : World} {A B : Int} {n n' : Nat} {d' : Array Int} {cr : Int} (hl : Wd.Len A n) (hl' : Wd.Len B n') (hnn : n' ≤ n) (hown : OwnRow w1 w.heap.size (dgs A (n + 1)))
  (hb : Below w.heap.size w w1) (hn : n ≤ 1099511627776) (hs : d'.size = (dgs A (n + 1)).size) (hw2 : w2 = putRow enc w1 w.heap.size 0 d') (hd : ∀ j, j < (dgs A (n + 1)).size → Wd.W64 d'[j]!) (hc0 : 0 ≤ cr) (hc1 : cr ≤ 1)
  (hv : Wd.vl (fun j => d'[j]!) (dgs A (n + 1)).size + Wd.pw (dgs A (n + 1)).size * cr = Wd.vl (fun j => (dgs A (n + 1))[j]!) (dgs A (n + 1)).size + Wd.vl (Wd.dig B) (dgs A (n + 1)).size) :
  RowIs w2 (some ⟨w.heap.size, 0, none⟩) (n + 1) (n + 1) (fun j => d'[j]!) ∧ (∀ j, j < n + 1 → Wd.W64 d'[j]!) ∧ Wd.vl (fun j => d'[j]!) (n + 1) = A + B ∧ Below w.heap.size w w2 := by
 subst hw2
 rw [dgs_size] at *
 have ho := hown.put (d' := d') (by rw [dgs_size]; exact hs)
 have hr := ho.rowIs (c := n + 1) (by omega) (by omega)
 rw [hs] at hr
 have hB : B < Wd.pw n := Int.lt_of_lt_of_le hl'.2.1 (Wd.pw_mono hnn)
 have hBw : B < Wd.pw (n + 1) := Int.lt_of_lt_of_le hB (Wd.pw_mono (by omega))
 have hAw : A < Wd.pw (n + 1) := Int.lt_of_lt_of_le hl.2.1 (Wd.pw_mono (by omega))
 rw [dgs_vl, Wd.vl_dig_all hl.1 hAw, Wd.vl_dig_all hl'.1 hBw] at hv
 have hp := pw_two hl.2.1 hB
 have := hl.1; have := hl'.1
 exact ⟨hr, hd, carry_end (Wd.vl_bd hd).1 hp hc0 hc1 hv, hb.trans (below_putRow d' (Nat.le_refl _))⟩

theorem dig_zero_above {N : Int} {n : Nat} (hl : Wd.Len N n) : ∀ j, n ≤ j → Wd.dig N j = 0 := fun _ hj => Wd.dig_zero_of hl.1 (Int.lt_of_lt_of_le hl.2.1 (Wd.pw_mono hj))

theorem addInto_own {w W : World} {A B : Int} {n n' : Nat} {a' : Option Addr} {c' : Nat} (hl : Wd.Len A n) (hl' : Wd.Len B n') (hnn : n' ≤ n) (hrb : RowIs w a' n' c' (Wd.dig B)) (hown : OwnRow W w.heap.size (dgs A (n + 1)))
  (hb : Below w.heap.size w W) (hn : n ≤ 1099511627776) :
  Calls Tryz.prog 173 #[.slice (some ⟨w.heap.size, 0, none⟩) (n + 1) (n + 1), .slice a' n' c'] W fun e w2 => e = .returned (.tuple #[]) ∧
   ∃ f : Nat → Int, RowIs w2 (some ⟨w.heap.size, 0, none⟩) (n + 1) (n + 1) f ∧ (∀ j, j < n + 1 → Wd.W64 (f j)) ∧ Wd.vl f (n + 1) = A + B ∧ Below w.heap.size w w2 := by
 have h := addInto_any w.heap.size 0 (n + 1) (dgs A (n + 1)) a' n' c' (Wd.dig B) W hown.holds (by rw [dgs_size]; exact dgs_w A (n + 1)) (by rw [dgs_size]; omega) (hrb.below hb) (Wd.dig_w B) (dig_zero_above hl')
  (fun hp b' o' e => by
   obtain ⟨_, _, h3⟩ := hrb
   obtain ⟨b, o, e', hlt, _⟩ := h3 hp
   rw [e'] at e
   injection e with e
   injection e with e1
   omega)
 rw [dgs_size] at h
 refine h.mono ?_
 rintro e w2 ⟨rfl, d', hs, hw2, hd, cr, hc0, hc1, hv⟩
 have := add_fin hl hl' hnn hown hb hn (by rw [dgs_size]; exact hs) hw2 (by rw [dgs_size]; exact hd) hc0 hc1 (by rw [dgs_size]; exact hv)
 exact ⟨rfl, _, this⟩

set_option maxHeartbeats 1000000 in
set_option maxRecDepth 100000 in
theorem add_any (va vb : Value) (A B : Int) (w : World) (ha : NatIs w va A) (hb : NatIs w vb B) (hA : Sm A) (hB : Sm B) :
  Calls Tryz.prog 144 #[va, vb] w fun e w' => ∃ v, e = .returned v ∧ NatIs w' v (A + B) ∧ Below w.heap.size w w' := by
 obtain ⟨a, n, c, rfl, hl, hra⟩ := ha
 obtain ⟨a', n', c', rfl, hl', hrb⟩ := hb
 have hn := hA.len hl
 have hn' := hB.len hl'
 have hnc := hra.1
 have hcc := hra.2.1
 have hnc' := hrb.1
 have hcc' := hrb.2.1
 have HA := hide hra
 have HB := hide hrb
 have HL := hide hl
 have HL' := hide hl'
 clear hra hrb hl hl' hA hB
 by_cases hlt : n < n'
 ·have hmk := make_row ((n' : Int) + 1) (by omega) (by omega)
  have e : ((n' : Int) + 1).toNat = n' + 1 := by omega
  rw [e] at hmk
  clear e
  obtain ⟨W, hcp, hown, hbW⟩ := copy_run w (k := n' + 1) (by omega) (unhide HL') (unhide HB)
  have HC := hide (addInto_own (unhide HL') (unhide HL) (by omega) (unhide HA) hown hbW hn')
  clear hown hbW
  go_enter Tryz.func144, Tryz.ntmps144
  go_wp2_with (go_at_call 173; refine (unhide HC).mono ?_; rintro e w2 ⟨rfl, f, hr, hf, hv, hb⟩; have HR := hide hr; have HF := hide hf; have HV := hide hv; clear hr hf hv hcp hmk)
  go_wp2_with (go_at_call 129; refine (trimmed_any _ _ _ _ _ (unhide HR) (unhide HF)).mono ?_; rintro e w3 ⟨m, rfl, hm, hlm, rfl⟩)
  go_ret
  refine ⟨_, rfl, ?_, hb⟩
  rw [show A + B = B + A from Int.add_comm A B, ← unhide HV]
  exact natIs_trim (unhide HR) (unhide HF) hm hlm
 ·have hmk := make_row ((n : Int) + 1) (by omega) (by omega)
  have e : ((n : Int) + 1).toNat = n + 1 := by omega
  rw [e] at hmk
  clear e
  obtain ⟨W, hcp, hown, hbW⟩ := copy_run w (k := n + 1) (by omega) (unhide HL) (unhide HA)
  have HC := hide (addInto_own (unhide HL) (unhide HL') (by omega) (unhide HB) hown hbW hn)
  clear hown hbW
  go_enter Tryz.func144, Tryz.ntmps144
  go_wp2_with (go_at_call 173; refine (unhide HC).mono ?_; rintro e w2 ⟨rfl, f, hr, hf, hv, hb⟩; have HR := hide hr; have HF := hide hf; have HV := hide hv; clear hr hf hv hcp hmk)
  go_wp2_with (go_at_call 129; refine (trimmed_any _ _ _ _ _ (unhide HR) (unhide HF)).mono ?_; rintro e w3 ⟨m, rfl, hm, hlm, rfl⟩)
  go_ret
  refine ⟨_, rfl, ?_, hb⟩
  rw [← unhide HV]
  exact natIs_trim (unhide HR) (unhide HF) hm hlm

set_option maxHeartbeats 1000000 in
theorem mulAdd_any (x y m c : Int) (hx : Wd.W64 x) (hy : Wd.W64 y) (hm : Wd.W64 m) (hc : Wd.W64 c) (w : World) :
  Calls Tryz.prog 143 #[.int .u64 x, .int .u64 y, .int .u64 m, .int .u64 c] w fun e w' =>
   e = .returned (.tuple #[.int .u64 ((x * y + m + c) / 18446744073709551616), .int .u64 ((x * y + m + c) % 18446744073709551616)]) ∧ w' = w := by
 obtain ⟨hx0, hx1⟩ := hx
 obtain ⟨hy0, hy1⟩ := hy
 obtain ⟨hm0, hm1⟩ := hm
 obtain ⟨hc0, hc1⟩ := hc
 obtain ⟨X, rfl⟩ := Int.eq_ofNat_of_zero_le hx0
 obtain ⟨Y, rfl⟩ := Int.eq_ofNat_of_zero_le hy0
 have hb : (X : Int) * Y ≤ 18446744073709551615 * 18446744073709551615 := Int.mul_le_mul (by omega) (by omega) (by omega) (by omega)
 have hM := Tryz.bits_Mul64 X Y (by omega) (by omega) w
 obtain ⟨q, hq⟩ : ∃ q, (X : Int) * Y / 18446744073709551616 = q := ⟨_, rfl⟩
 obtain ⟨r, hr⟩ : ∃ r, (X : Int) * Y % 18446744073709551616 = r := ⟨_, rfl⟩
 have e1 : ((X * Y / 18446744073709551616 : Nat) : Int) = q := by rw [← hq]; simp
 have e2 : ((X * Y % 18446744073709551616 : Nat) : Int) = r := by rw [← hr]; simp
 rw [e1, e2] at hM
 have hq0 : 0 ≤ q := by omega
 have hq1 : q ≤ 18446744073709551614 := by rw [← hq]; omega
 have hr0 : 0 ≤ r := by omega
 have hr1 : r < 18446744073709551616 := by omega
 have hxy : (X : Int) * Y = 18446744073709551616 * q + r := by omega
 generalize (X : Int) * Y = P at *
 have hP1 : P ≤ 340282366920938463426481119284349108225 := by omega
 have HP1 := hide hP1
 have HM := hide hM
 have HXY := hide hxy
 clear hM e1 e2 hq hr hb hxy hP1
 have k0 : (0 : Int) ≤ 0 := by omega
 have k1 : (0 : Int) ≤ 1 := by omega
 have s1 := add64 r m 0 hr0 hm0 k0 k1
 have s2 := add64 ((r + m) % 18446744073709551616) c 0 (by omega) hc0 k0 k1
 simp only [Int.add_zero] at s1 s2
 go_enter Tryz.func143, Tryz.ntmps143
 go_wp2_with (first | (go_at_call 171; refine (unhide HM).mono ?_; rintro e w' ⟨rfl, rfl⟩) | fail)
 go_ret2
 refine ⟨?_, rfl⟩
 have hP := unhide HXY
 have hP1 := unhide HP1
 have e1 : IntKind.u64.wrap (q + (r + m) / 18446744073709551616 + ((r + m) % 18446744073709551616 + c) / 18446744073709551616) = (P + m + c) / 18446744073709551616 := by rw [IntKind.wrap_u64]; omega
 have e2 : (r + m + c) % 18446744073709551616 = (P + m + c) % 18446744073709551616 := by omega
 rw [← e1, ← e2]
 rfl

theorem mul_val {dj dk : Array Int} {g : Nat → Int} {i j : Nat} {x y z cr p : Int} (hi : i + j < dj.size) (hz : dj[i + j]! = z) (hr : dj[i + j]! = dk[i + j]!) (hy : g j = y) (hp : x * y = p)
  (hv : Wd.vl (fun t => dj[t]!) (i + j) + Wd.pw (i + j) * cr = Wd.vl (fun t => dk[t]!) (i + j) + Wd.pw i * (x * Wd.vl g j)) :
  Wd.vl (fun t => (dj.setIfInBounds (i + j) ((p + z + cr) % 18446744073709551616))[t]!) (i + (j + 1)) + Wd.pw (i + (j + 1)) * ((p + z + cr) / 18446744073709551616) = Wd.vl (fun t => dk[t]!) (i + (j + 1)) + Wd.pw i * (x * Wd.vl g (j + 1)) := by
 rw [← Nat.add_assoc, vl_set dj (i + j) _ hi, Wd.vl_succ, Wd.vl_succ, hy, ← hr, hz, Wd.pw_succ]
 have e := add_step (Wd.pw (i + j)) (p + z + cr)
 rw [Int.mul_add, Int.mul_add] at e
 have e2 : Wd.pw i * (x * (Wd.vl g j + Wd.pw j * y)) = Wd.pw i * (x * Wd.vl g j) + Wd.pw (i + j) * p := by
  rw [Int.mul_add, Int.mul_add, Wd.pw_add, ← hp]
  congr 1
  rw [Int.mul_assoc, Int.mul_left_comm x]
 rw [e2]
 omega

set_option maxHeartbeats 4000000 in
set_option maxRecDepth 100000 in
theorem mul_long (a a' : Option Addr) (n n' c c' : Nat) (A B : Int) (w : World) (hl : Wd.Len A n) (hl' : Wd.Len B n') (hra : RowIs w a n c (Wd.dig A)) (hrb : RowIs w a' n' c' (Wd.dig B)) (hA : Sm A) (hB : Sm B)
  (hn0 : 0 < n) (hn0' : 0 < n') (hA1 : (A == 1) = false) (hB1 : (B == 1) = false) :
  Calls Tryz.prog 107 #[.slice a n c, .slice a' n' c'] w fun e w' => ∃ v, e = .returned v ∧ NatIs w' v (A * B) ∧ Below w.heap.size w w' := by
 have hn := hA.len hl
 have hn' := hB.len hl'
 have z1 : ((n : Int) == 0) = false := by rw [beq_eq_false_iff_ne]; omega
 have z2 : ((n' : Int) == 0) = false := by rw [beq_eq_false_iff_ne]; omega
 have hmk := make_row ((n : Int) + (n' : Int)) (by omega) (by omega)
 have e : ((n : Int) + (n' : Int)).toNat = n + n' := by omega
 rw [e] at hmk
 clear e
 obtain ⟨W, hW⟩ : ∃ W, w.alloc (.cells (zrow (n + n')) 134) = W := ⟨_, rfl⟩
 have hown : OwnRow W w.heap.size (zs (n + n')) := by rw [← hW]; exact own_made w (n + n')
 have hbW : Below w.heap.size w W := by rw [← hW]; exact (Below.refl _ _).alloc (Nat.le_refl _) _
 have hnc := hra.1
 have hcc := hra.2.1
 have hnc' := hrb.1
 have hcc' := hrb.2.1
 have HO1 := hide (isOne_any (.slice a n c) A w ⟨_, _, _, rfl, hl, hra⟩)
 have HO2 := hide (isOne_any (.slice a' n' c') B w ⟨_, _, _, rfl, hl', hrb⟩)
 rw [hA1] at HO1
 rw [hB1] at HO2
 have HA := hide hra
 have HB := hide hrb
 have HW := hide hW
 have HL := hide hl
 have HL' := hide hl'
 clear hra hrb hW hl hl' hA hB hA1 hB1
 go_enter Tryz.func107, Tryz.ntmps107
 go_wp2_with fail
 refine (unhide HO1).mono ?_
 rintro e w ⟨rfl, rfl⟩
 go_wp2_with fail
 refine (unhide HO2).mono ?_
 rintro e w ⟨rfl, rfl⟩
 clear HO1 HO2
 go_wp2
 rw [unhide HW]
 go_loopw [33] (fun vi wr => ∃ (i : Nat) (dk : Array Int), vi = .int .i64 i ∧ i ≤ n ∧ dk.size = n + n' ∧ wr = putRow enc W w.heap.size 0 dk ∧
   (∀ j, j < n + n' → Wd.W64 dk[j]!) ∧ Wd.vl (fun j => dk[j]!) (i + n') = Wd.vl (Wd.dig A) i * B) (fun vi _ => n - (intOf vi).toNat)
 case atStart => exact ⟨0, zs (n + n'), rfl, Nat.zero_le _, zs_size _, (putRow_self _ _ _ _ _ hown.holds).symm, fun j _ => by rw [zs_get]; exact ⟨by decide, by decide⟩, by rw [Wd.vl_zeros _ _ (fun j _ => zs_get _ j)]; simp [Wd.vl]⟩
 case round =>
  obtain ⟨i, dk, rfl, hi, hs, hwr, hw, hv⟩ := hrel
  have hown' : OwnRow wr w.heap.size dk := by rw [hwr]; exact hown.put (by rw [zs_size]; exact hs)
  have hbr : Below w.heap.size w wr := by rw [hwr]; exact hbW.trans (below_putRow dk (Nat.le_refl _))
  by_cases hlt : i < n
  ·obtain ⟨x, hx⟩ : ∃ x, Wd.dig A i = x := ⟨_, rfl⟩
   have ⟨hx0, hx1⟩ := Wd.dig_w A i
   rw [hx] at hx0 hx1
   obtain ⟨b, o, hae, hblt, hca⟩ := row_at (unhide HA) hbr hlt
   rw [hx] at hca
   subst hae
   have HX := hide hx
   have HV := hide hv
   have HWD := hide hw
   have HWR := hide hwr
   have HO := hide hown
   have HBW := hide hbW
   clear hx hv hw hwr hown hown' hbW hbr hmk
   go_wp2
   go_loopw [8, 40] (fun vc vj w2 => ∃ (j : Nat) (cr : Int) (dj : Array Int), vc = .int .u64 cr ∧ vj = .int .i64 j ∧ Wd.W64 cr ∧ j ≤ n' ∧ dj.size = n + n' ∧ w2 = putRow enc W w.heap.size 0 dj ∧
     (∀ t, t < n + n' → Wd.W64 dj[t]!) ∧ (∀ t, i + j ≤ t → dj[t]! = dk[t]!) ∧
     Wd.vl (fun t => dj[t]!) (i + j) + Wd.pw (i + j) * cr = Wd.vl (fun t => dk[t]!) (i + j) + Wd.pw i * (x * Wd.vl (Wd.dig B) j)) (fun _ vj _ => n' - (intOf vj).toNat)
   case atStart => exact ⟨0, 0, dk, rfl, rfl, ⟨by decide, by decide⟩, Nat.zero_le _, hs, unhide HWR, unhide HWD, fun _ _ => rfl, by simp [Wd.vl]⟩
   case round =>
    clear hca
    obtain ⟨j, cr, dj, rfl, rfl, hcr, hj, hsj, hwj, hwdj, hrj, hvj⟩ := hrel
    have hoj : OwnRow wr w.heap.size dj := by rw [hwj]; exact (unhide HO).put (by rw [zs_size]; exact hsj)
    have hbj : Below w.heap.size w wr := by rw [hwj]; exact (unhide HBW).trans (below_putRow dj (Nat.le_refl _))
    obtain ⟨hcr0, hcr1⟩ := hcr
    by_cases hjl : j < n'
    ·obtain ⟨y, hy⟩ : ∃ y, Wd.dig B j = y := ⟨_, rfl⟩
     have hyw := Wd.dig_w B j
     rw [hy] at hyw
     obtain ⟨z, hz⟩ : ∃ z, dj[i + j]! = z := ⟨_, rfl⟩
     have hzw := hwdj (i + j) (by omega)
     rw [hz] at hzw
     have hcz : wr.cell? ⟨w.heap.size, i + j, none⟩ = some (.int .u64 z) := by rw [← hz]; simpa using (hoj.holds (i + j) (by omega)).1
     have hfz : wr.frozen? ⟨w.heap.size, i + j, none⟩ = false := by simpa using (hoj.holds (i + j) (by omega)).2
     obtain ⟨b', o', hbe, hblt', hcb⟩ := row_at (unhide HB) hbj hjl
     rw [hy] at hcb
     subst hbe
     obtain ⟨p, hp⟩ : ∃ p, x * y = p := ⟨_, rfl⟩
     have hMA := mulAdd_any x y z cr ⟨hx0, hx1⟩ hyw hzw ⟨hcr0, hcr1⟩ wr
     rw [hp] at hMA
     have hp0 : 0 ≤ p := by rw [← hp]; exact Int.mul_nonneg hx0 hyw.1
     have hp1 : p ≤ 340282366920938463426481119284349108225 := by
      have := Int.mul_le_mul (a := x) (b := y) (c := 18446744073709551615) (d := 18446744073709551615) (by omega) (by have := hyw.2; omega) hyw.1 (by omega)
      omega
     have FIN : Hid (∃ (j' : Nat) (cr' : Int) (dj' : Array Int), Value.int .u64 ((p + z + cr) / 18446744073709551616) = .int .u64 cr' ∧ Value.int .i64 ((j : Int) + 1) = .int .i64 j' ∧ Wd.W64 cr' ∧ j' ≤ n' ∧ dj'.size = n + n' ∧
       wr.setCell ⟨w.heap.size, i + j, none⟩ (.int .u64 ((p + z + cr) % 18446744073709551616)) = putRow enc W w.heap.size 0 dj' ∧
       (∀ t, t < n + n' → Wd.W64 dj'[t]!) ∧ (∀ t, i + j' ≤ t → dj'[t]! = dk[t]!) ∧
       Wd.vl (fun t => dj'[t]!) (i + j') + Wd.pw (i + j') * cr' = Wd.vl (fun t => dk[t]!) (i + j') + Wd.pw i * (x * Wd.vl (Wd.dig B) j')) := by
      have := hzw.1; have := hzw.2
      refine ⟨j + 1, _, dj.setIfInBounds (i + j) ((p + z + cr) % 18446744073709551616), rfl, by go_num, ⟨by omega, by omega⟩, hjl, by simpa using hsj, ?_, words_set hwdj (mod_w _) (by omega), fun t ht => ?_, mul_val (by omega) hz (hrj _ (Nat.le_refl _)) hy hp hvj⟩
      ·rw [hwj]; simpa using putRow_set enc W w.heap.size 0 dj (i + j) ((p + z + cr) % 18446744073709551616) (by omega)
      ·rw [getElem!_set_other dj (i + j) t _ (by omega)]; exact hrj t (by omega)
     have HMA := hide hMA
     clear hMA hvj hrj hwdj hwj hsj hoj hbj hy hz hp hp0 hp1
     have ei : ((i : Int) + (j : Int)).toNat = i + j := by omega
     go_wp2_with (go_at_call 143; refine (unhide HMA).mono ?_; rintro e w' ⟨rfl, hww⟩; obtain rfl := hww.symm)
     exact ⟨unhide FIN, by simp [intOf]; omega⟩
    ·obtain rfl : j = n' := by omega
     have hfz : wr.frozen? ⟨w.heap.size, i + j, none⟩ = false := by simpa using (hoj.holds (i + j) (by omega)).2
     have hce : ∃ u, wr.cell? ⟨w.heap.size, i + j, none⟩ = some u := ⟨_, by simpa using (hoj.holds (i + j) (by omega)).1⟩
     obtain ⟨u, hce⟩ := hce
     have ei : ((i : Int) + (j : Int)).toNat = i + j := by omega
     have FIN : Hid (∃ (i' : Nat) (dk' : Array Int), Value.int .i64 ((i : Int) + 1) = .int .i64 i' ∧ i' ≤ n ∧ dk'.size = n + j ∧ wr.setCell ⟨w.heap.size, i + j, none⟩ (.int .u64 cr) = putRow enc W w.heap.size 0 dk' ∧
       (∀ t, t < n + j → Wd.W64 dk'[t]!) ∧ Wd.vl (fun t => dk'[t]!) (i' + j) = Wd.vl (Wd.dig A) i' * B) := by
      refine ⟨i + 1, dj.setIfInBounds (i + j) cr, by go_num, hlt, by simpa using hsj, ?_, words_set hwdj ⟨hcr0, hcr1⟩ (by omega), ?_⟩
      ·rw [hwj]; simpa using putRow_set enc W w.heap.size 0 dj (i + j) cr (by omega)
      ·rw [show i + 1 + j = (i + j) + 1 by omega, vl_set dj (i + j) _ (by omega), hvj, unhide HV, Wd.vl_dig_all (unhide HL').1 (unhide HL').2.1, Wd.vl_succ, unhide HX, Int.add_mul, Int.mul_assoc]
     clear hvj hrj hwdj hwj hsj hoj hbj HV HWD HWR HO HBW HX
     go_wp2
     exact ⟨unhide FIN, by simp [intOf]; omega⟩
  ·obtain rfl : i = n := by omega
   have hri := hown'.rowIs (c := i + n') (by omega) (by omega)
   rw [hs] at hri
   have hV : Wd.vl (fun j => dk[j]!) (i + n') = A * B := by rw [hv, Wd.vl_dig_all (unhide HL).1 (unhide HL).2.1]
   have HV := hide hV
   have HWD := hide hw
   have HRI := hide hri
   clear hv hw hV hri hown hown' hwr hmk
   go_wp2_with (go_at_call 129; refine (trimmed_any _ _ _ _ _ (unhide HRI) (unhide HWD)).mono ?_; rintro e w' ⟨m, rfl, hm, hlm, rfl⟩)
   go_ret
   refine ⟨_, rfl, ?_, hbr⟩
   rw [← unhide HV]
   exact natIs_trim (unhide HRI) (unhide HWD) hm hlm
end Go.Proofs.YtcelbgleajpenaaGreatDoor
/- Numbers by words: multiplied, whatever they are; two words divided by one. -/
namespace Go.Proofs.YtcelbgleajpenaaGreatDoor
open Go.RowKit Go.Sort Go.Shelf

set_option maxHeartbeats 1000000 in
set_option maxRecDepth 100000 in
theorem mul_any (va vb : Value) (A B : Int) (w : World) (ha : NatIs w va A) (hb : NatIs w vb B) (hA : Sm A) (hB : Sm B) :
  Calls Tryz.prog 107 #[va, vb] w fun e w' => ∃ v, e = .returned v ∧ NatIs w' v (A * B) ∧ Below w.heap.size w w' := by
 have ha' := ha
 have hb' := hb
 obtain ⟨a, n, c, rfl, hl, hra⟩ := ha
 obtain ⟨a', n', c', rfl, hl', hrb⟩ := hb
 have hn := hA.len hl
 have hn' := hB.len hl'
 by_cases h0 : n = 0
 ·subst h0
  have hz := hl.zero
  subst hz
  rw [Int.zero_mul]
  clear ha' hb' hl hl' hra hrb hA hB
  go_enter Tryz.func107, Tryz.ntmps107
  go_wp2
  go_ret
  exact ⟨_, rfl, natIs_zero _ _ _ (by decide), Below.refl _ _⟩
 by_cases h0' : n' = 0
 ·subst h0'
  have hz := hl'.zero
  subst hz
  rw [Int.mul_zero]
  have z1 : ((n : Int) == 0) = false := by rw [beq_eq_false_iff_ne]; omega
  clear ha' hb' hl hl' hra hrb hA hB
  go_enter Tryz.func107, Tryz.ntmps107
  go_wp2
  go_ret
  exact ⟨_, rfl, natIs_zero _ _ _ (by decide), Below.refl _ _⟩
 by_cases h1 : A = 1
 ·subst h1
  rw [Int.one_mul]
  have z1 : ((n : Int) == 0) = false := by rw [beq_eq_false_iff_ne]; omega
  have z2 : ((n' : Int) == 0) = false := by rw [beq_eq_false_iff_ne]; omega
  have HO1 := hide (isOne_any (.slice a n c) 1 w ha')
  rw [show ((1 : Int) == 1) = true from rfl] at HO1
  have HB := hide hb'
  clear ha' hb' hl hl' hra hrb hA hB
  go_enter Tryz.func107, Tryz.ntmps107
  go_wp2_with (go_at_call 137; refine (unhide HO1).mono ?_; rintro e w ⟨rfl, rfl⟩)
  go_ret
  exact ⟨_, rfl, unhide HB, Below.refl _ _⟩
 by_cases h2 : B = 1
 ·subst h2
  rw [Int.mul_one]
  have z1 : ((n : Int) == 0) = false := by rw [beq_eq_false_iff_ne]; omega
  have z2 : ((n' : Int) == 0) = false := by rw [beq_eq_false_iff_ne]; omega
  have HO1 := hide (isOne_any (.slice a n c) A w ha')
  rw [show (A == 1) = false by rw [beq_eq_false_iff_ne]; exact h1] at HO1
  have HO2 := hide (isOne_any (.slice a' n' c') 1 w hb')
  rw [show ((1 : Int) == 1) = true from rfl] at HO2
  have HB := hide ha'
  clear ha' hb' hl hl' hra hrb hA hB
  go_enter Tryz.func107, Tryz.ntmps107
  go_wp2_with fail
  refine (unhide HO1).mono ?_
  rintro e w ⟨rfl, rfl⟩
  go_wp2_with fail
  refine (unhide HO2).mono ?_
  rintro e w ⟨rfl, rfl⟩
  go_wp2
  go_ret
  exact ⟨_, rfl, unhide HB, Below.refl _ _⟩
 exact mul_long a a' n n' c c' A B w hl hl' hra hrb hA hB (by omega) (by omega) (by rw [beq_eq_false_iff_ne]; exact h1) (by rw [beq_eq_false_iff_ne]; exact h2)

theorem mul_small {A B : Int} {j k : Nat} (hB : 0 ≤ B) (h1 : A < Wd.pw j) (h2 : B < Wd.pw k) : A * B < Wd.pw (j + k) := by
 rw [Wd.pw_add]
 have := Wd.pw_pos j
 have := Wd.pw_pos k
 have := Int.mul_le_mul (a := A) (b := B) (c := Wd.pw j - 1) (d := Wd.pw k) (by omega) (by omega) (by omega) (by omega)
 rw [Int.sub_mul] at this
 omega

/-! ### Two words divided by one -/
end Go.Proofs.YtcelbgleajpenaaGreatDoor
