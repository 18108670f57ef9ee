/- The checker's product. -/
import Derived.Test.YtcelbgleajpenaaGreatDoorM11
import Derived.Test.YtcelbgleajpenaaGreatDoorA1
import Derived.Laws.MakeOwn
import Derived.Sort.Row
namespace Go.Proofs.YtcelbgleajpenaaGreatDoor
open Go.RowKit

def HRow (w : World) (a : Option Addr) (n c : Nat) (f : Nat → Int) : Prop :=
 n ≤ c ∧ c ≤ 9223372036854775807 ∧ (0 < n → ∃ b o, a = some ⟨b, o, none⟩ ∧ b < w.heap.size ∧ ∀ j, j < n → w.cell? ⟨b, o + j, none⟩ = some (.int .u32 (f j)))

def HNat (w : World) (v : Value) (N : Int) : Prop := ∃ a n c, v = .slice a n c ∧ Wh.Len N n ∧ HRow w a n c (Wh.dig N)

theorem HRow.below {w w' : World} {a : Option Addr} {n c : Nat} {f : Nat → Int} (h : HRow w a n c f) (hb : Below w.heap.size w w') : HRow w' a n c f := by
 obtain ⟨h1, h2, h3⟩ := h
 refine ⟨h1, h2, fun hn => ?_⟩
 obtain ⟨b, o, e, hlt, hc⟩ := h3 hn
 refine ⟨b, o, e, Nat.lt_of_lt_of_le hlt hb.size, fun j hj => ?_⟩
 rw [hb.cell (p := ⟨b, o + j, none⟩) hlt]
 exact hc j hj

theorem HNat.below {w w' : World} {v : Value} {N : Int} (h : HNat w v N) (hb : Below w.heap.size w w') : HNat w' v N := by
 obtain ⟨a, n, c, e, hl, hr⟩ := h
 exact ⟨a, n, c, e, hl, hr.below hb⟩

theorem HNat.nn {w : World} {v : Value} {N : Int} (h : HNat w v N) : 0 ≤ N := by
 obtain ⟨a, n, c, e, hl, hr⟩ := h
 exact hl.1

theorem hNat_zero (w : World) (a : Option Addr) (c : Nat) (hc : c ≤ 9223372036854775807) : HNat w (.slice a 0 c) 0 :=
 ⟨a, 0, c, rfl, ⟨by decide, by decide, Or.inl rfl⟩, ⟨by omega, hc, fun h => by omega⟩⟩

theorem trim_len32 {f : Nat → Int} {n m : Nat} (hf : ∀ j, j < n → Wh.W32 (f j)) (hm : m ≤ n) (hz : ∀ j, m ≤ j → j < n → f j = 0) (ht : m = 0 ∨ f (m - 1) ≠ 0) : Wh.Len (Wh.vl f n) m := by
 rw [Wh.vl_ext f hm hz]
 have b := Wh.vl_bd (f := f) (n := m) (fun j hj => hf j (by omega))
 refine ⟨b.1, b.2, ?_⟩
 rcases Nat.eq_zero_or_pos m with h | h
 ·exact Or.inl h
 ·obtain ⟨k, rfl⟩ : ∃ k, m = k + 1 := ⟨m - 1, by omega⟩
  rcases ht with ht | ht
  ·omega
  ·exact Or.inr (Wh.le_of_top (fun j hj => hf j (by omega)) ht)

theorem hNat_trim {w : World} {a : Option Addr} {n c m : Nat} {f : Nat → Int} (h : HRow w a n c f) (hf : ∀ j, j < n → Wh.W32 (f j)) (hm : m ≤ n) (hl : Wh.Len (Wh.vl f n) m) : HNat w (.slice a m c) (Wh.vl f n) := by
 obtain ⟨h1, h2, h3⟩ := h
 refine ⟨a, m, c, rfl, hl, by omega, h2, fun hp => ?_⟩
 obtain ⟨b, o, e, hlt, hc⟩ := h3 (by omega)
 exact ⟨b, o, e, hlt, fun j hj => by rw [hc j (by omega), Wh.dig_vl hf (by omega)]⟩

set_option maxHeartbeats 1000000 in
theorem trim32_any (a : Option Addr) (n c : Nat) (f : Nat → Int) (w : World) (h : HRow w a n c f) (hf : ∀ j, j < n → Wh.W32 (f j)) :
  Calls Tryz.prog 138 #[.slice a n c] w fun e w' => ∃ m, e = .returned (.slice a m c) ∧ m ≤ n ∧ Wh.Len (Wh.vl f n) m ∧ w' = w := by
 obtain ⟨h1, h2, h3⟩ := h
 have H3 := hide h3
 clear h3
 go_enter Tryz.func138, Tryz.ntmps138
 go_wp2
 go_loop [3] (fun v => ∃ m : Nat, v = .int .i64 (m : Int) ∧ m ≤ n ∧ (∀ j, m ≤ j → j < n → f j = 0)) (fun v => (intOf v).toNat)
 case atStart => exact ⟨n, rfl, Nat.le_refl _, fun j h1 h2 => absurd h1 (Nat.not_le.2 h2)⟩
 case round =>
  obtain ⟨m, rfl, hm, hz⟩ := hrel
  have HZ : Hid (∀ j, m ≤ j → j < n → f j = 0) := hz
  clear hz
  have q1 : (m : Int) ≤ (c : Int) := by omega
  by_cases hm0 : m = 0
  ·subst hm0
   go_wp2
   go_ret
   exact ⟨0, rfl, hm, trim_len32 hf hm (unhide HZ) (Or.inl rfl), rfl⟩
  ·have hp : 0 < m := Nat.pos_of_ne_zero hm0
   have hmn : m - 1 < n := by omega
   have hpn : 0 < n := by omega
   obtain ⟨b, o, rfl, hlt, hc⟩ := unhide H3 hpn
   obtain ⟨x, hx⟩ : ∃ x, f (m - 1) = x := ⟨_, rfl⟩
   have hcm := hc (m - 1) hmn
   rw [hx] at hcm
   have HX : Hid (f (m - 1) = x) := hx
   have e0 : (0 : Int) < (m : Int) := by omega
   have e1 : ((m : Int) - 1).toNat = m - 1 := by omega
   have e2 : (0 : Int) ≤ (m : Int) - 1 := by omega
   have e3 : (m : Int) - 1 < (n : Int) := by omega
   clear hc H3 hx
   by_cases hx0 : x = 0
   ·subst hx0
    go_wp2
    go_round
    case rel => exact ⟨m - 1, by congr 1; omega, by omega, fun j h1 h2 => by
     rcases Nat.lt_or_ge j m with h | h
     ·rw [show j = m - 1 by omega]; exact HX.out
     ·exact HZ.out j h h2⟩
    case measure => simp [intOf]; omega
   ·have hxb : (x == 0) = false := by simpa using hx0
    go_wp2
    go_ret
    exact ⟨m, rfl, hm, trim_len32 hf hm HZ.out (Or.inr (by rw [HX.out]; exact hx0)), rfl⟩

theorem two_vl (x : Int) : Wh.vl (fun j => if j = 0 then x % 4294967296 else x / 4294967296) 2 = x := by
 simp [Wh.vl, Wh.pw]
 omega

set_option maxHeartbeats 1000000 in
theorem words_any (x : Int) (h0 : 0 ≤ x) (h1 : x < 18446744073709551616) (w : World) :
  Calls Tryz.prog 151 #[.int .u64 x] w fun e w' => ∃ v, e = .returned v ∧ HNat w' v x ∧ Below w.heap.size w w' := by
 have hlt : w.heap.size < (w.alloc (.cells #[.int .u32 (x % 4294967296), .int .u32 (x / 4294967296)] 175)).heap.size := by
  rw [show (w.alloc (.cells #[.int .u32 (x % 4294967296), .int .u32 (x / 4294967296)] 175)).heap = w.heap.push (.cells #[.int .u32 (x % 4294967296), .int .u32 (x / 4294967296)] 175) from rfl, Array.size_push]
  omega
 have hrow : HRow (w.alloc (.cells #[.int .u32 (x % 4294967296), .int .u32 (x / 4294967296)] 175)) (some ⟨w.heap.size, 0, none⟩) 2 2 (fun j => if j = 0 then x % 4294967296 else x / 4294967296) := by
  refine ⟨by decide, by decide, fun _ => ⟨_, 0, rfl, hlt, fun j hj => ?_⟩⟩
  have : j = 0 ∨ j = 1 := by omega
  rcases this with rfl | rfl
  ·simp
  ·simp
 have hw32 : ∀ j, j < 2 → Wh.W32 ((fun j => if j = 0 then x % 4294967296 else x / 4294967296) j) := fun j _ => by
  dsimp only
  split
  ·exact ⟨by omega, by omega⟩
  ·exact ⟨by omega, by omega⟩
 have HT := hide (trim32_any _ 2 2 _ _ hrow hw32)
 have HN : Hid (∀ m, m ≤ 2 → Wh.Len (Wh.vl (fun j => if j = 0 then x % 4294967296 else x / 4294967296) 2) m → HNat (w.alloc (.cells #[.int .u32 (x % 4294967296), .int .u32 (x / 4294967296)] 175)) (.slice (some ⟨w.heap.size, 0, none⟩) m 2) x) := fun m hm hl => by
  have h := hNat_trim hrow hw32 hm hl
  rw [two_vl] at h
  exact h
 have HB := hide ((Below.refl w.heap.size w).alloc (Nat.le_refl _) (.cells #[.int .u32 (x % 4294967296), .int .u32 (x / 4294967296)] 175))
 clear hrow hw32 hlt
 go_enter Tryz.func151, Tryz.ntmps151
 go_wp2_with fail
 refine (unhide HT).mono ?_
 rintro e w1 ⟨m, rfl, hm, hl, rfl⟩
 have HV := hide (unhide HN m hm hl)
 clear hl
 go_wp2
 go_ret
 exact ⟨_, rfl, unhide HV, unhide HB⟩

theorem drew3h (w : World) (a b c : Nat) : ∃ k, ((w.drewN a).drewN b).drewN c = w.drewN k := ⟨a + b + c, by simp⟩

set_option maxHeartbeats 1000000 in
theorem cmp32_any (va vb : Value) (A B : Int) (w : World) (ha : HNat w va A) (hb : HNat w vb B) :
  Calls Tryz.prog 100 #[va, vb] w fun e w' => e = .returned (.int .i64 (Wh.sg A B)) ∧ ∃ k, w' = w.drewN k := by
 obtain ⟨a, n, c, rfl, hl, h1, h2, h3⟩ := ha
 obtain ⟨a', n', c', rfl, hl', h1', h2', h3'⟩ := hb
 by_cases hlt : n < n'
 ·have hs : Wh.sg A B = -1 := Wh.sg_lt (Wh.Len.lt hl hl' hlt)
  rw [hs]
  clear hs h3 h3'
  have hne : ((n : Int) != (n' : Int)) = true := by rw [bne_iff_ne]; omega
  go_enter Tryz.func100, Tryz.ntmps100
  go_wp2
  go_ret
  exact ⟨rfl, 0, rfl⟩
 by_cases hgt : n' < n
 ·have hs : Wh.sg A B = 1 := Wh.sg_gt (Wh.Len.lt hl' hl hgt)
  rw [hs]
  clear hs h3 h3'
  have hne : ((n : Int) != (n' : Int)) = true := by rw [bne_iff_ne]; omega
  go_enter Tryz.func100, Tryz.ntmps100
  go_wp2
  go_ret
  exact ⟨rfl, 0, rfl⟩
 obtain rfl : n = n' := by omega
 have hA : Wh.vl (Wh.dig A) n = A := Wh.vl_dig_all hl.1 hl.2.1
 have hB : Wh.vl (Wh.dig B) n = B := Wh.vl_dig_all hl'.1 hl'.2.1
 have HS : Hid (∀ i, i < n → (∀ j, i < j → j < n → Wh.dig A j = Wh.dig B j) → (Wh.dig A i < Wh.dig B i → Wh.sg A B = -1) ∧ (Wh.dig B i < Wh.dig A i → Wh.sg A B = 1)) := by
  intro i hi he
  refine ⟨fun h => Wh.sg_lt ?_, fun h => Wh.sg_gt ?_⟩
  ·rw [← hA, ← hB]; exact Wh.vl_lt_of_word (fun j _ => Wh.dig_w _ _) (fun j _ => Wh.dig_w _ _) hi he h
  ·rw [← hA, ← hB]; exact Wh.vl_lt_of_word (fun j _ => Wh.dig_w _ _) (fun j _ => Wh.dig_w _ _) hi (fun j h1 h2 => (he j h1 h2).symm) h
 have HE : Hid ((∀ j, j < n → Wh.dig A j = Wh.dig B j) → Wh.sg A B = 0) := fun h => Wh.sg_eq (by rw [← hA, ← hB]; exact Wh.vl_congr h)
 generalize Wh.sg A B = s at *
 have H3 := hide h3
 have H3' := hide h3'
 clear hA hB hl hl' hlt hgt h3 h3'
 go_enter Tryz.func100, Tryz.ntmps100
 go_wp2
 go_loopw [5] (fun v wr => ∃ m k : Nat, v = .int .i64 ((m : Int) - 1) ∧ m ≤ n ∧ wr = w.drewN k ∧ (∀ j, m ≤ j → j < n → Wh.dig A j = Wh.dig B j)) (fun v _ => (intOf v + 1).toNat)
 case atStart => exact ⟨n, 0, rfl, Nat.le_refl _, rfl, fun j h1 h2 => absurd h1 (Nat.not_le.2 h2)⟩
 case round =>
  obtain ⟨m, k, rfl, hm, rfl, hz⟩ := hrel
  by_cases hm0 : m = 0
  ·subst hm0
   go_wp2
   go_ret
   have := HE.out (fun j h => hz j (Nat.zero_le _) h)
   exact ⟨by rw [this]; rfl, k, rfl⟩
  ·have hp : 0 < m := Nat.pos_of_ne_zero hm0
   have hpn : 0 < n := Nat.lt_of_lt_of_le hp hm
   have hmn : m - 1 < n := by omega
   have hgt : ∀ j, m - 1 < j → j < n → Wh.dig A j = Wh.dig B j := fun j h1 h2 => hz j (by omega) h2
   have HS1 : Hid ((Wh.dig A (m - 1) < Wh.dig B (m - 1) → s = -1) ∧ (Wh.dig B (m - 1) < Wh.dig A (m - 1) → s = 1)) := HS.out (m - 1) hmn hgt
   obtain ⟨b, o, rfl, hlt, hc⟩ := unhide H3 hpn
   obtain ⟨b', o', rfl, hlt', hc'⟩ := unhide H3' hpn
   have HZ : Hid (∀ j, m ≤ j → j < n → Wh.dig A j = Wh.dig B j) := hz
   obtain ⟨x, hx⟩ : ∃ x, Wh.dig A (m - 1) = x := ⟨_, rfl⟩
   obtain ⟨y, hy⟩ : ∃ y, Wh.dig B (m - 1) = y := ⟨_, rfl⟩
   have hcm := hc (m - 1) hmn
   have hcm' := hc' (m - 1) hmn
   have HX : Hid (Wh.dig A (m - 1) = x) := hx
   have HY : Hid (Wh.dig B (m - 1) = y) := hy
   rw [hx] at hcm
   rw [hy] at hcm'
   have e1 : ((m : Int) - 1).toNat = m - 1 := by omega
   have e2 : (0 : Int) ≤ (m : Int) - 1 := by omega
   have e3 : (m : Int) - 1 < (n : Int) := by omega
   clear hc hc' hz H3 H3' hx hy HS HE hgt
   by_cases hxy : x = y
   ·subst hxy
    go_wp2_with fail
    go_quiet (fail)
    go_wp2
    refine ⟨⟨m - 1, k + nq, ?_, by omega, rfl, fun j h1 h2 => ?_⟩, ?_⟩
    ·congr 1; omega
    ·rcases Nat.lt_or_ge j m with h | h
     ·rw [show j = m - 1 by omega, HX.out, HY.out]
     ·exact HZ.out j h h2
    ·simp [intOf]; omega
   ·have hxb : (x != y) = true := by rw [bne_iff_ne]; exact hxy
    by_cases hl : x < y
    ·go_wp2_with fail
     go_quiet (fail)
     go_wp2
     go_quiet (fail)
     go_wp2
     go_ret
     have := HS1.out.1 (by rw [HX.out, HY.out]; exact hl)
     exact ⟨by rw [this]; rfl, drew3h _ _ _ _⟩
    ·have hgt : y < x := by omega
     go_wp2_with fail
     go_quiet (fail)
     go_wp2
     go_quiet (fail)
     go_wp2
     go_ret
     have := HS1.out.2 (by rw [HX.out, HY.out]; exact hgt)
     exact ⟨by rw [this]; rfl, drew3h _ _ _ _⟩
end Go.Proofs.YtcelbgleajpenaaGreatDoor
/- The checker's rows of words of 32 bits that it makes itself; a sum. -/
namespace Go.Proofs.YtcelbgleajpenaaGreatDoor
open Go.RowKit Go.Sort

def halves (xs : List Int) : List Value := xs.map (.int .u32 ·)
theorem halves_get {xs : List Int} {j : Nat} (h : j < xs.length) : (halves xs)[j]? = some (.int .u32 xs[j]!) := by simp [halves, h]
theorem Tryz.infoH : (Tryz.prog.info? 175).map (fun i => (i.zero, i.size, i.bytes)) = some (some (.int .u32 0), 1, 4) := by kernel_rfl

theorem make_halves (k : Nat) (h1 : k ≤ 1099511627776) (w : World) :
  (Instr.makeSlice 82 (.int .i64 (k : Int)) (.int .i64 (k : Int))).run Tryz.prog w = .ok (.slice (some ⟨w.heap.size, 0, none⟩) k k) (w.alloc (.cells (halves (List.replicate k 0)).toArray 175)) := by
 obtain ⟨i, hi, hz0, hz1, hz2⟩ := info_parts Tryz.infoH
 have e : madeCells (Value.int .u32 0).cells ((k : Int).toNat * i.size) = (halves (List.replicate k 0)).toArray := by
  rw [hz1]
  apply Array.ext
  ·simp [madeCells, halves]
  ·intro j h1 h2
   simp [madeCells, halves, Value.cells, Nat.mod_one]
 rw [run_make w 82 175 i (.int .u32 0) Tryz.underlying82 hi hz0 .i64 .i64 k k (by omega) (Int.le_refl _) (by rw [hz2]; omega) (by omega), e]
 simp

structure HOwn (w wr : World) (g : Nat) (xs : List Int) : Prop where
 row : wr.heap[g]? = some (.cells (halves xs).toArray 175)
 bl : Below w.heap.size w wr
 gl : w.heap.size ≤ g

theorem HOwn.start (w : World) (k : Nat) : HOwn w (w.alloc (.cells (halves (List.replicate k 0)).toArray 175)) w.heap.size (List.replicate k 0) :=
 ⟨by rw [show (w.alloc (.cells (halves (List.replicate k 0)).toArray 175)).heap = w.heap.push (.cells (halves (List.replicate k 0)).toArray 175) from rfl, Array.getElem?_push_size], (Below.refl _ _).alloc (Nat.le_refl _) _, Nat.le_refl _⟩
theorem HOwn.lt {w wr : World} {g : Nat} {xs : List Int} (h : HOwn w wr g xs) : g < wr.heap.size := (Array.getElem?_eq_some_iff.1 h.row).1
theorem HOwn.cell {w wr : World} {g : Nat} {xs : List Int} (h : HOwn w wr g xs) {j : Nat} (hj : j < xs.length) : wr.cell? ⟨g, j, none⟩ = some (.int .u32 xs[j]!) ∧ wr.frozen? ⟨g, j, none⟩ = false := by
 refine ⟨?_, by simp [World.frozen?, h.row]⟩
 simp only [World.cell?, h.row]
 have := halves_get (xs := xs) hj
 simpa using this
theorem HOwn.set {w wr : World} {g : Nat} {xs : List Int} (h : HOwn w wr g xs) (j : Nat) (x : Int) : HOwn w (wr.setCell ⟨g, j, none⟩ (.int .u32 x)) g (xs.set j x) := by
 refine ⟨?_, h.bl.setCell h.gl _, h.gl⟩
 rw [setCell_eq]
 simp only [mapBlock, Array.getElem?_modify, h.row, if_true, Option.map_some, onCells]
 simp [halves, List.map_set]
theorem HOwn.drew {w wr : World} {g : Nat} {xs : List Int} (h : HOwn w wr g xs) (k : Nat) : HOwn w (wr.drewN k) g xs := ⟨h.row, ⟨h.bl.os, h.bl.tape, h.bl.output, h.bl.size, h.bl.block⟩, h.gl⟩
theorem HOwn.hrow {w wr : World} {g : Nat} {xs : List Int} (h : HOwn w wr g xs) (hl : xs.length ≤ 9223372036854775807) : HRow wr (some ⟨g, 0, none⟩) xs.length xs.length (fun j => xs[j]!) :=
 ⟨Nat.le_refl _, hl, fun _ => ⟨g, 0, rfl, h.lt, fun j hj => by rw [Nat.zero_add]; exact (h.cell hj).1⟩⟩

end Go.Proofs.YtcelbgleajpenaaGreatDoor
/- The checker's whole numbers: a sign and words in two cells; how they are written anew. -/
namespace Go.Proofs.YtcelbgleajpenaaGreatDoor
open Go.RowKit Go.Sort

theorem bstep {w w1 w2 : World} (h : Below w.heap.size w w1) (k : Below w1.heap.size w1 w2) : Below w.heap.size w w2 := h.trans (k.mono h.size)
theorem abelow (w : World) (o : Obj) : Below w.heap.size w (w.alloc o) := (Below.refl _ _).alloc (Nat.le_refl _) _

theorem HRow.setAt {w : World} {a : Option Addr} {n c : Nat} {f : Nat → Int} (h : HRow w a n c f) (p : Addr) (v : Value) (hp : ∀ x, w.cell? p ≠ some (.int .u32 x)) : HRow (w.setCell p v) a n c f := by
 obtain ⟨h1, h2, h3⟩ := h
 refine ⟨h1, h2, fun hn => ?_⟩
 obtain ⟨b, o, e, hlt, hc⟩ := h3 hn
 refine ⟨b, o, e, by simpa [World.setCell] using hlt, fun j hj => ?_⟩
 have hne : p ≠ ⟨b, o + j, none⟩ := fun e => hp _ (by rw [e]; exact hc j hj)
 rw [World.cell?_setCell_other _ _ _ _ hne]
 exact hc j hj
theorem HNat.setAt {w : World} {v : Value} {N : Int} (h : HNat w v N) (p : Addr) (x : Value) (hp : ∀ x, w.cell? p ≠ some (.int .u32 x)) : HNat (w.setCell p x) v N := by
 obtain ⟨a, n, c, e, hl, hr⟩ := h
 exact ⟨a, n, c, e, hl, hr.setAt p x hp⟩

structure SlotI (w : World) (b o : Nat) : Prop where
 sg : ∃ s, w.cell? ⟨b, o, none⟩ = some (.bool s)
 ab : ∃ a n c, w.cell? ⟨b, o + 1, none⟩ = some (.slice a n c)
 fs : w.frozen? ⟨b, o, none⟩ = false
 fa : w.frozen? ⟨b, o + 1, none⟩ = false
 lt : b < w.heap.size
theorem SlotI.below {w w' : World} {b o : Nat} (h : SlotI w b o) (hb : Below w.heap.size w w') : SlotI w' b o := by
 have fz : ∀ k, w'.frozen? ⟨b, k, none⟩ = w.frozen? ⟨b, k, none⟩ := fun k => by simp only [World.frozen?, hb.block b h.lt]
 refine ⟨?_, ?_, by rw [fz]; exact h.fs, by rw [fz]; exact h.fa, Nat.lt_of_lt_of_le h.lt hb.size⟩
 ·rw [hb.cell (p := ⟨b, o, none⟩) h.lt]; exact h.sg
 ·rw [hb.cell (p := ⟨b, o + 1, none⟩) h.lt]; exact h.ab
theorem SlotI.nos {w : World} {b o : Nat} (h : SlotI w b o) : (∀ x, w.cell? ⟨b, o, none⟩ ≠ some (.int .u32 x)) ∧ (∀ x, w.cell? ⟨b, o + 1, none⟩ ≠ some (.int .u32 x)) := by
 obtain ⟨s, hs⟩ := h.sg
 obtain ⟨a, n, c, ha⟩ := h.ab
 exact ⟨fun x e => (by rw [hs] at e; cases e), fun x e => (by rw [ha] at e; cases e)⟩
structure BInt (w : World) (b o : Nat) (N : Int) : Prop where
 sg : w.cell? ⟨b, o, none⟩ = some (.bool (decide (N < 0)))
 ab : ∃ a n c, w.cell? ⟨b, o + 1, none⟩ = some (.slice a n c) ∧ HNat w (.slice a n c) (N.natAbs : Int)
 fs : w.frozen? ⟨b, o, none⟩ = false
 fa : w.frozen? ⟨b, o + 1, none⟩ = false
 lt : b < w.heap.size
theorem BInt.slot {w : World} {b o : Nat} {N : Int} (h : BInt w b o N) : SlotI w b o := ⟨⟨_, h.sg⟩, by obtain ⟨a, n, c, e, _⟩ := h.ab; exact ⟨a, n, c, e⟩, h.fs, h.fa, h.lt⟩
theorem BInt.below {w w' : World} {b o : Nat} {N : Int} (h : BInt w b o N) (hb : Below w.heap.size w w') : BInt w' b o N := by
 have k := h.slot.below hb
 obtain ⟨a, n, c, e, hn⟩ := h.ab
 refine ⟨by rw [hb.cell (p := ⟨b, o, none⟩) h.lt]; exact h.sg, ⟨a, n, c, ?_, hn.below hb⟩, k.fs, k.fa, k.lt⟩
 rw [hb.cell (p := ⟨b, o + 1, none⟩) h.lt]; exact e

def put (w : World) (b o : Nat) (v : Value) (s : Bool) : World := (w.setCell ⟨b, o + 1, none⟩ v).setCell ⟨b, o, none⟩ (.bool s)
theorem put_size (w : World) (b o : Nat) (v : Value) (s : Bool) : (put w b o v s).heap.size = w.heap.size := by simp [put, World.setCell]
theorem put_other {w : World} {b o : Nat} {v : Value} {s : Bool} {q : Addr} (h1 : q ≠ ⟨b, o, none⟩) (h2 : q ≠ ⟨b, o + 1, none⟩) : (put w b o v s).cell? q = w.cell? q := by
 unfold put
 rw [World.cell?_setCell_other _ _ _ _ (Ne.symm h1), World.cell?_setCell_other _ _ _ _ (Ne.symm h2)]
theorem HNat.put {w : World} {b o : Nat} {v u : Value} {s : Bool} {N : Int} (h : HNat w u N) (k : SlotI w b o) : HNat (put w b o v s) u N := by
 refine (h.setAt _ _ k.nos.2).setAt _ _ fun x => ?_
 rw [World.cell?_setCell_other _ _ _ _ (show (⟨b, o + 1, none⟩ : Addr) ≠ ⟨b, o, none⟩ from fun e => by injection e with _ e; omega)]
 exact k.nos.1 x
theorem put_int {w : World} {b o : Nat} {a : Option Addr} {n c : Nat} {s : Bool} {N : Int} (k : SlotI w b o) (h : HNat w (.slice a n c) (N.natAbs : Int)) (hs : s = decide (N < 0)) : BInt (put w b o (.slice a n c) s) b o N := by
 have ne1 : (⟨b, o, none⟩ : Addr) ≠ ⟨b, o + 1, none⟩ := fun e => by injection e with _ e; omega
 obtain ⟨s0, e0⟩ := k.sg
 obtain ⟨a0, n0, c0, ea⟩ := k.ab
 refine ⟨?_, ⟨a, n, c, ?_, h.put k⟩, by simp [put, k.fs], by simp [put, k.fa], by rw [put_size]; exact k.lt⟩
 ·unfold put
  rw [World.cell?_setCell_same (u := .bool s0) _ _ _ (by rw [World.cell?_setCell_other _ _ _ _ (Ne.symm ne1)]; exact e0), hs]
 ·unfold put
  rw [World.cell?_setCell_other _ _ _ _ ne1]
  exact World.cell?_setCell_same _ _ _ ea
def ApartI (b o b' o' : Nat) : Prop := b = b' → o + 1 < o' ∨ o' + 1 < o
theorem BInt.put {w : World} {b o b' o' : Nat} {v : Value} {s : Bool} {N : Int} (h : BInt w b' o' N) (k : SlotI w b o) (ha : ApartI b o b' o') : BInt (put w b o v s) b' o' N := by
 obtain ⟨a, n, c, e, hn⟩ := h.ab
 have n00 : (⟨b', o', none⟩ : Addr) ≠ ⟨b, o, none⟩ := fun e => by
  injection e with e1 e2
  have := ha e1.symm
  omega
 have n01 : (⟨b', o', none⟩ : Addr) ≠ ⟨b, o + 1, none⟩ := fun e => by
  injection e with e1 e2
  have := ha e1.symm
  omega
 have n10 : (⟨b', o' + 1, none⟩ : Addr) ≠ ⟨b, o, none⟩ := fun e => by
  injection e with e1 e2
  have := ha e1.symm
  omega
 have n11 : (⟨b', o' + 1, none⟩ : Addr) ≠ ⟨b, o + 1, none⟩ := fun e => by
  injection e with e1 e2
  have := ha e1.symm
  omega
 refine ⟨?_, ⟨a, n, c, ?_, hn.put k⟩, by simp [Go.Proofs.YtcelbgleajpenaaGreatDoor.put, h.fs], by simp [Go.Proofs.YtcelbgleajpenaaGreatDoor.put, h.fa], by rw [put_size]; exact h.lt⟩
 ·rw [put_other n00 n01]; exact h.sg
 ·rw [put_other n10 n11]; exact e
theorem Below.put {B : Nat} {w0 w : World} {b o : Nat} {v : Value} {s : Bool} (h : Below B w0 w) (hb : B ≤ b) : Below B w0 (put w b o v s) := (h.setCell (p := ⟨b, o + 1, none⟩) hb v).setCell (p := ⟨b, o, none⟩) hb (.bool s)

set_option maxHeartbeats 1000000 in
theorem give_any (b o : Nat) (neg : Bool) (a : Option Addr) (n c : Nat) (w : World) (k : SlotI w b o) :
  Calls Tryz.prog 101 #[.pointer (some ⟨b, o, none⟩), .bool neg, .slice a n c] w fun e w' => e = .returned (.pointer (some ⟨b, o, none⟩)) ∧ w' = put w b o (.slice a n c) (neg && decide (0 < n)) := by
 obtain ⟨s0, e0⟩ := k.sg
 obtain ⟨a0, n0, c0, ea⟩ := k.ab
 have f0 := k.fs
 have f1 := k.fa
 have ne1 : (⟨b, o + 1, none⟩ : Addr) ≠ ⟨b, o, none⟩ := fun e => by injection e with _ e; omega
 have e2 : (w.setCell ⟨b, o + 1, none⟩ (.slice a n c)).cell? ⟨b, o, none⟩ = some (.bool s0) := by rw [World.cell?_setCell_other _ _ _ _ ne1]; exact e0
 clear k
 cases neg
 ·go_enter Tryz.func101, Tryz.ntmps101
  go_wp2
  go_ret
  exact ⟨rfl, rfl⟩
 ·go_enter Tryz.func101, Tryz.ntmps101
  go_wp2
  go_ret
  exact ⟨rfl, by simp [put]⟩
end Go.Proofs.YtcelbgleajpenaaGreatDoor
namespace Go.Proofs.YtcelbgleajpenaaGreatDoor
open Go.RowKit Go.Sort

def SmH (N : Int) : Prop := N < Wh.pw 1000000
theorem SmH.len {N : Int} {n : Nat} (h : SmH N) (hl : Wh.Len N n) : n ≤ 1000000 := by
 rcases Nat.lt_or_ge 1000000 n with h1 | h1
 ·rcases hl.2.2 with h0 | h0
  ·omega
  ·have h2 := Wh.pw_mono (m := 1000000) (n := n - 1) (by omega)
   have h3 : N < Wh.pw 1000000 := h
   generalize Wh.pw 1000000 = P at *
   omega
 ·exact h1
def lv (xs : List Int) (n : Nat) : Int := Wh.vl (fun j => xs[j]!) n
theorem vl_upd (f : Nat → Int) (k : Nat) (x : Int) : ∀ n, k < n → Wh.vl (fun j => if j = k then x else f j) n = Wh.vl f n + Wh.pw k * (x - f k)
 | 0, h => by omega
 | n + 1, h => by
  rw [Wh.vl_succ, Wh.vl_succ]
  by_cases e : k = n
  ·subst e
   rw [if_pos rfl, Wh.vl_congr (g := f) (fun j hj => if_neg (by omega))]
   rw [Int.mul_sub]; omega
  ·rw [vl_upd f k x n (by omega), if_neg (Ne.symm e)]
   omega
theorem lv_set {xs : List Int} {k n : Nat} (x : Int) (hk : k < xs.length) (hn : k < n) : lv (xs.set k x) n = lv xs n + Wh.pw k * (x - xs[k]!) := by
 unfold lv
 rw [← vl_upd _ k x n hn]
 refine Wh.vl_congr fun j hj => ?_
 by_cases e : j = k
 ·subst e; rw [if_pos rfl]; simp [hk]
 ·rw [if_neg e]; simp [Ne.symm e]
theorem w_set {xs : List Int} {k : Nat} {x : Int} (h : ∀ j, j < xs.length → Wh.W32 xs[j]!) (hx : Wh.W32 x) : ∀ j, j < (xs.set k x).length → Wh.W32 (xs.set k x)[j]! := fun j hj => by
 rw [List.length_set] at hj
 by_cases e : k = j
 ·subst e; simp [hj]; exact hx
 ·rw [show (xs.set k x)[j]! = xs[j]! by simp [e]]; exact h j hj
theorem get_set {xs : List Int} {k j : Nat} {x : Int} (h : j ≠ k) : (xs.set k x)[j]! = xs[j]! := by simp [Ne.symm h]
theorem mul_step {S c x y r p Y : Int} (hY : S + p * c = Y) : S + p * ((c + (x * y + r)) % 4294967296 - r) + 4294967296 * p * ((c + (x * y + r)) / 4294967296) = Y + p * (x * y) := by
 have e := Int.mul_ediv_add_emod (c + (x * y + r)) 4294967296
 generalize (c + (x * y + r)) % 4294967296 = u at *
 generalize (c + (x * y + r)) / 4294967296 = v at *
 have e2 : p * (u - r) + 4294967296 * p * v = p * (4294967296 * v + u) - p * r := by grind
 rw [Int.add_assoc, e2, e]
 grind
theorem mul_fit {c x y r : Int} (hc : Wh.W32 c) (hx : Wh.W32 x) (hy : Wh.W32 y) (hr : Wh.W32 r) : 0 ≤ x * y ∧ x * y ≤ 18446744065119617025 ∧ 0 ≤ c + (x * y + r) ∧ c + (x * y + r) < 18446744073709551616 := by
 obtain ⟨c0, c1⟩ := hc
 obtain ⟨x0, x1⟩ := hx
 obtain ⟨y0, y1⟩ := hy
 obtain ⟨r0, r1⟩ := hr
 have h1 : 0 ≤ x * y := Int.mul_nonneg x0 y0
 have h2 : x * y ≤ 4294967295 * 4294967295 := Int.mul_le_mul (by omega) (by omega) y0 (by omega)
 omega

set_option maxHeartbeats 4000000 in
set_option maxRecDepth 100000 in
set_option linter.unusedSimpArgs false in
theorem mul32_any (va vb : Value) (A B : Int) (w : World) (ha : HNat w va A) (hb : HNat w vb B) (sa : SmH A) (sb : SmH B) :
  Calls Tryz.prog 102 #[va, vb] w fun e w' => ∃ v, e = .returned v ∧ HNat w' v (A * B) ∧ Below w.heap.size w w' := by
 obtain ⟨a, n, c, rfl, hl, h1, h2, h3⟩ := ha
 obtain ⟨a', m, c', rfl, hl', h1', h2', h3'⟩ := hb
 have hn6 : n ≤ 1000000 := sa.len hl
 have hm6 : m ≤ 1000000 := sb.len hl'
 clear sa sb
 by_cases hn0 : n = 0
 ·subst hn0
  have hA := hl.zero
  subst hA
  clear h3 h3'
  go_enter Tryz.func102, Tryz.ntmps102
  go_wp2
  go_ret
  exact ⟨_, rfl, by rw [Int.zero_mul]; exact hNat_zero _ _ _ (by decide), Below.refl _ _⟩
 by_cases hm0 : m = 0
 ·subst hm0
  have hB := hl'.zero
  subst hB
  have nn : ((n : Int) == 0) = false := by simp; omega
  clear h3 h3'
  go_enter Tryz.func102, Tryz.ntmps102
  go_wp2
  go_ret
  exact ⟨_, rfl, by rw [Int.mul_zero]; exact hNat_zero _ _ _ (by decide), Below.refl _ _⟩
 have nn : ((n : Int) == 0) = false := by simp; omega
 have mm : ((m : Int) == 0) = false := by simp; omega
 obtain ⟨L, hL⟩ : ∃ L, n + m = L := ⟨_, rfl⟩
 have HL := hide hL
 have qmk := make_halves L (by omega) w
 have S0 := HOwn.start w L
 obtain ⟨W0, hW0⟩ : ∃ W, w.alloc (.cells (halves (List.replicate L 0)).toArray 175) = W := ⟨_, rfl⟩
 obtain ⟨g, hg⟩ : ∃ g, w.heap.size = g := ⟨_, rfl⟩
 rw [hW0, hg] at qmk S0
 have HS0 := hide S0
 have H3 := hide h3
 have H3' := hide h3'
 have e4 : IntKind.i64.wrap ((n : Int) + (m : Int)) = (L : Int) := by rw [IntKind.wrap_i64]; omega
 have HLA := hide hl
 have HLB := hide hl'
 have HN0 := hide hn0
 have HM0 := hide hm0
 have hn6' : (n : Int) ≤ 1000000 := by omega
 have hm6' : (m : Int) ≤ 1000000 := by omega
 clear S0 h3 h3' hl hl' hg hW0 hL hn0 hm0
 go_enter Tryz.func102, Tryz.ntmps102
 go_wp2_with fail
 clear qmk
 go_loopw [6] (fun vi wr => ∃ (i : Nat) (xs : List Int), vi = .int .i64 (i : Int) ∧ i ≤ n ∧ HOwn w wr g xs ∧ xs.length = L ∧ (∀ k, k < xs.length → Wh.W32 xs[k]!) ∧ lv xs L = Wh.vl (Wh.dig A) i * B ∧ ∀ k, i + m ≤ k → k < L → xs[k]! = 0) (fun vi _ => n - (intOf vi).toNat)
 case atStart => exact ⟨0, _, rfl, Nat.zero_le _, unhide HS0, by simp, fun k hk => by simp at hk; simp [hk]; exact ⟨by decide, by decide⟩, by unfold lv; rw [Wh.vl_zeros _ _ (fun j hj => by simp [hj])]; simp [Wh.vl], fun k h1 h2 => by simp [h2]⟩
 case round =>
  obtain ⟨i, xs, rfl, hi, own, hxl, hw32, hval, hzero⟩ := hrel
  have HOW := hide own
  have HXL := hide hxl
  have HW := hide hw32
  have HVA := hide hval
  have HZE := hide hzero
  clear own hxl hw32 hval hzero HS0
  by_cases hlt : i < n
  ·have f1 : (i : Int) < (n : Int) := by omega
   have f0 : (0 : Int) ≤ (i : Int) := by omega
   have f3 : IntKind.i64.wrap ((i : Int) + 1) = (i : Int) + 1 := by rw [IntKind.wrap_i64]; omega
   go_wp2_with fail
   go_loopw [7, 8] (fun vc vj wr => ∃ (j : Nat) (cy : Int) (ys : List Int), vc = .int .u64 cy ∧ vj = .int .i64 (j : Int) ∧ j ≤ m ∧ Wh.W32 cy ∧ HOwn w wr g ys ∧ ys.length = L ∧ (∀ k, k < ys.length → Wh.W32 ys[k]!) ∧ lv ys L + Wh.pw (i + j) * cy = lv xs L + Wh.dig A i * Wh.pw i * Wh.vl (Wh.dig B) j ∧ ∀ k, i + m ≤ k → k < L → ys[k]! = 0) (fun _ vj _ => m - (intOf vj).toNat)
   case atStart => exact ⟨0, 0, xs, rfl, rfl, Nat.zero_le _, ⟨by decide, by decide⟩, unhide HOW, unhide HXL, unhide HW, by simp [Wh.vl], unhide HZE⟩
   case round =>
    obtain ⟨j, cy, ys, rfl, rfl, hj, hcy, own, hyl, hw32, hval, hzero⟩ := hrel
    have HOY := hide own
    have HYL := hide hyl
    have HWY := hide hw32
    have HVY := hide hval
    have HZY := hide hzero
    have HCY := hide hcy
    clear hyl hw32 hval hzero hcy HOW HXL HW HZE
    by_cases hlj : j < m
    ·have j1 : (j : Int) < (m : Int) := by omega
     have j0 : (0 : Int) ≤ (j : Int) := by omega
     have j3 : IntKind.i64.wrap ((j : Int) + 1) = (j : Int) + 1 := by rw [IntKind.wrap_i64]; omega
     obtain ⟨q, hq⟩ : ∃ q, i + j = q := ⟨_, rfl⟩
     have HQ := hide hq
     have j4 : IntKind.i64.wrap ((i : Int) + (j : Int)) = (q : Int) := by rw [IntKind.wrap_i64]; omega
     have j5 : (q : Int) < (L : Int) := by have := unhide HL; omega
     have j6 : (0 : Int) ≤ (q : Int) := by omega
     obtain ⟨b, o, rfl, hbl, hca⟩ := unhide H3 (by omega)
     obtain ⟨b', o', rfl, hbl', hcb⟩ := unhide H3' (by omega)
     have hij : q < ys.length := by have := unhide HYL; have := unhide HL; omega
     have ca := hca i hlt
     have cb := hcb j hlj
     rw [← own.bl.cell (p := ⟨b, o + i, none⟩) hbl] at ca
     rw [← own.bl.cell (p := ⟨b', o' + j, none⟩) hbl'] at cb
     have ⟨cr, fr⟩ := own.cell hij
     obtain ⟨x, hx⟩ : ∃ x, Wh.dig A i = x := ⟨_, rfl⟩
     obtain ⟨y, hy⟩ : ∃ y, Wh.dig B j = y := ⟨_, rfl⟩
     obtain ⟨r, hr⟩ : ∃ r, ys[q]! = r := ⟨_, rfl⟩
     have wx : Wh.W32 x := by rw [← hx]; exact Wh.dig_w _ _
     have wy : Wh.W32 y := by rw [← hy]; exact Wh.dig_w _ _
     have wr' : Wh.W32 r := by rw [← hr]; exact unhide HWY _ hij
     have fit := mul_fit (unhide HCY) wx wy wr'
     have ux : IntKind.u64.wrap x = x := by rw [IntKind.wrap_u64]; have := wx.1; have := wx.2; omega
     have uy : IntKind.u64.wrap y = y := by rw [IntKind.wrap_u64]; have := wy.1; have := wy.2; omega
     have ur : IntKind.u64.wrap r = r := by rw [IntKind.wrap_u64]; have := wr'.1; have := wr'.2; omega
     obtain ⟨z, hz⟩ : ∃ z, x * y = z := ⟨_, rfl⟩
     rw [hz] at fit
     have uz : IntKind.u64.wrap z = z := by rw [IntKind.wrap_u64]; omega
     have uzr : IntKind.u64.wrap (z + r) = z + r := by rw [IntKind.wrap_u64]; have := wr'.1; have := (unhide HCY).1; omega
     obtain ⟨v, hv⟩ : ∃ v, cy + (z + r) = v := ⟨_, rfl⟩
     rw [hv] at fit
     have uv : IntKind.u64.wrap v = v := by rw [IntKind.wrap_u64]; omega
     have uq : IntKind.u32.wrap v = v % 4294967296 := by rw [IntKind.wrap_u32]
     rw [hx] at ca
     rw [hy] at cb
     rw [hr] at cr
     have HX := hide hx
     have HY := hide hy
     have HR := hide hr
     have HZ := hide hz
     have HV := hide hv
     have HFIT := hide fit
     clear own hca hcb hx hy hr wx wy wr' fit hij hq hz hv
     go_wp2_with fail
     go_quiet (fail)
     rw [unhide HZ, uz, uzr, unhide HV, uv]
     have hij : q < ys.length := by have := unhide HYL; have := unhide HL; have := unhide HQ; omega
     have own2 := (unhide HOY).drew nq
     have ⟨cr2, fr2⟩ := own2.cell hij
     have own3 := own2.set q (v % 4294967296)
     obtain ⟨W5, hW5⟩ : ∃ W, (wr.drewN nq).setCell ⟨g, q, none⟩ (.int .u32 (v % 4294967296)) = W := ⟨_, rfl⟩
     rw [hW5] at own3
     have HO3 := hide own3
     clear own2 own3 ca cb cr fr ux uy ur uz uzr uv hij
     go_wp2_with fail
     have fit := unhide HFIT
     have hq := unhide HQ
     have hval := unhide HVY
     have hyl := unhide HYL
     have hL := unhide HL
     have hij : q < ys.length := by omega
     refine ⟨⟨j + 1, v / 4294967296, ys.set q (v % 4294967296), rfl, by go_num, hlj, ⟨by omega, by omega⟩, unhide HO3, by rw [List.length_set]; exact hyl, w_set (unhide HWY) ⟨by omega, by omega⟩, ?_, fun k h1 h2 => by rw [get_set (by omega)]; exact unhide HZY k h1 h2⟩, by simp [intOf]; omega⟩
     rw [lv_set _ hij (by omega), unhide HR, show i + (j + 1) = q + 1 by omega, Wh.pw_succ, Wh.vl_succ, unhide HY, unhide HX]
     rw [unhide HX, hq] at hval
     have st := mul_step (x := x) (y := y) (r := r) hval
     rw [unhide HZ, unhide HV] at st
     rw [st, ← unhide HZ, ← hq, Wh.pw_add]
     grind
    ·obtain rfl : j = m := by omega
     have j1 : ¬ (j : Int) < (j : Int) := by omega
     obtain ⟨q, hq⟩ : ∃ q, i + j = q := ⟨_, rfl⟩
     have hL := unhide HL
     have hyl := unhide HYL
     have j4 : IntKind.i64.wrap ((i : Int) + (j : Int)) = (q : Int) := by rw [IntKind.wrap_i64]; omega
     have j5 : (q : Int) < (L : Int) := by omega
     have j6 : (0 : Int) ≤ (q : Int) := by omega
     have hij : q < ys.length := by omega
     have cy0 := (unhide HCY).1
     have cy1 := (unhide HCY).2
     have uc : IntKind.u32.wrap cy = cy := by rw [IntKind.wrap_u32]; omega
     have ⟨cr2, fr2⟩ := own.cell hij
     have own3 := own.set q cy
     obtain ⟨W5, hW5⟩ : ∃ W, wr.setCell ⟨g, q, none⟩ (.int .u32 cy) = W := ⟨_, rfl⟩
     rw [hW5] at own3
     have HO3 := hide own3
     have HQ := hide hq
     have HIJ := hide hij
     clear own own3 hq hL hyl hij cy0 cy1
     go_wp2_with fail
     (try simp only [Exit.inBlock, Exit.then])
     go_wp2_with fail
     have hq := unhide HQ
     have hval := unhide HVY
     have hL := unhide HL
     have hyl := unhide HYL
     have hij := unhide HIJ
     refine ⟨⟨i + 1, ys.set q cy, by go_num, hlt, unhide HO3, by rw [List.length_set]; exact hyl, w_set (unhide HWY) (unhide HCY), ?_, fun k h1 h2 => by rw [get_set (by omega)]; exact unhide HZY k (by omega) h2⟩, by simp [intOf]; omega⟩
     rw [lv_set _ hij (by omega), unhide HZY q (by omega) (by omega), Int.sub_zero, ← hq, hval, unhide HVA, Wh.vl_succ, Wh.vl_dig_all (unhide HLB).1 (unhide HLB).2.1]
     grind
  ·obtain rfl : i = n := by omega
   have f1 : ¬ (i : Int) < (i : Int) := by omega
   have hxl := unhide HXL
   have hrow := (unhide HOW).hrow (by have := unhide HL; omega)
   rw [hxl] at hrow
   have HTR := hide (trim32_any _ L L _ wr hrow (fun j hj => unhide HW j (by omega)))
   have HHN : Hid (∀ k, k ≤ L → Wh.Len (Wh.vl (fun j => xs[j]!) L) k → HNat wr (.slice (some ⟨g, 0, none⟩) k L) (A * B)) := fun k hk hl => by
    have h := hNat_trim hrow (fun j hj => unhide HW j (by omega)) hk hl
    have hv := unhide HVA
    unfold lv at hv
    rw [hv, Wh.vl_dig_all (unhide HLA).1 (unhide HLA).2.1] at h
    exact h
   have HBB := hide (unhide HOW).bl
   clear hrow hxl
   go_wp2_with fail
   (try simp only [Exit.inBlock, Exit.then])
   go_wp2_with fail
   refine (unhide HTR).mono ?_
   rintro e w9 ⟨k, rfl, hk, hl9, rfl⟩
   have HV9 := hide (unhide HHN k hk hl9)
   clear hl9
   go_wp2
   go_ret
   exact ⟨_, rfl, unhide HV9, unhide HBB⟩
end Go.Proofs.YtcelbgleajpenaaGreatDoor
/- The checker's division by a word; numbers of up to two words; a twin. -/
namespace Go.Proofs.YtcelbgleajpenaaGreatDoor
open Go.RowKit Go.Sort

theorem or32 {r x : Int} (r0 : 0 ≤ r) (r1 : r < 4294967296) (hx : Wh.W32 x) : bits .or .u64 (r * 4294967296) x = r * 4294967296 + x := by
 obtain ⟨x0, x1⟩ := hx
 exact bits_join .u64 64 (by decide) (fun n h1 h2 => by rw [IntKind.wrap_u64]; omega) 32 _ _ (by omega) (by omega) (by omega) x0 (by omega) (by omega)
theorem small_step {S d r x p V A t u v : Int} (h : S * d + 4294967296 * p * r + (V + p * x) = A) (ht : r * 4294967296 + x = t) (hd : d * u + v = t) : (S + p * (u - 0)) * d + p * v + V = A := by
 rw [← h]
 have e : p * (d * u + v) = p * (r * 4294967296 + x) := by rw [hd, ht]
 grind

set_option maxHeartbeats 4000000 in
set_option maxRecDepth 100000 in
set_option linter.unusedSimpArgs false in
theorem small_any (va : Value) (A d : Int) (w : World) (ha : HNat w va A) (sa : SmH A) (hd : 1 ≤ d) (hd2 : d < 4294967296) :
  Calls Tryz.prog 176 #[va, .int .u32 d] w fun e w' => ∃ v, e = .returned (.tuple #[v, .int .u32 (A % d)]) ∧ HNat w' v (A / d) ∧ Below w.heap.size w w' := by
 obtain ⟨a, n, c, rfl, hl, h1, h2, h3⟩ := ha
 have hn6 : n ≤ 1000000 := sa.len hl
 have qmk := make_halves n (by omega) w
 have S0 := HOwn.start w n
 obtain ⟨W0, hW0⟩ : ∃ W, w.alloc (.cells (halves (List.replicate n 0)).toArray 175) = W := ⟨_, rfl⟩
 obtain ⟨g, hg⟩ : ∃ g, w.heap.size = g := ⟨_, rfl⟩
 rw [hW0, hg] at qmk S0
 have HS0 := hide S0
 have H3 := hide h3
 have HLA := hide hl
 have e4 : IntKind.i64.wrap ((n : Int) - 1) = (n : Int) - 1 := by rw [IntKind.wrap_i64]; omega
 have ud : IntKind.u64.wrap d = d := by rw [IntKind.wrap_u64]; omega
 have dz : (d == 0) = false := by simp; omega
 clear S0 h3 hl hg hW0 sa
 go_enter Tryz.func176, Tryz.ntmps176
 go_wp2_with fail
 clear qmk
 go_loopw [7, 8] (fun vr vi wr => ∃ (m : Nat) (r : Int) (xs : List Int), vr = .int .u64 r ∧ vi = .int .i64 ((m : Int) - 1) ∧ m ≤ n ∧ 0 ≤ r ∧ r < d ∧ HOwn w wr g xs ∧ xs.length = n ∧ (∀ k, k < xs.length → Wh.W32 xs[k]!) ∧ lv xs n * d + Wh.pw m * r + Wh.vl (Wh.dig A) m = A ∧ ∀ k, k < m → xs[k]! = 0) (fun _ vi _ => (intOf vi + 1).toNat)
 case atStart => exact ⟨n, 0, _, rfl, rfl, Nat.le_refl _, by omega, by omega, unhide HS0, by simp, fun k hk => by simp at hk; simp [hk]; exact ⟨by decide, by decide⟩, by unfold lv; rw [Wh.vl_zeros _ _ (fun j hj => by simp [hj]), Wh.vl_dig_all (unhide HLA).1 (unhide HLA).2.1]; simp, fun k hk => by simp [hk]⟩
 case round =>
  obtain ⟨m, r, xs, rfl, rfl, hm, r0, r1, own, hxl, hw32, hval, hzero⟩ := hrel
  have HOW := hide own
  have HXL := hide hxl
  have HW := hide hw32
  have HVA := hide hval
  have HZE := hide hzero
  clear hxl hw32 hval hzero HS0
  by_cases hm0 : m = 0
  ·subst hm0
   have hrow := (unhide HOW).hrow (by have := unhide HXL; omega)
   rw [unhide HXL] at hrow
   have hA : lv xs n * d + r = A := by have h := unhide HVA; simpa [Wh.vl, Wh.pw] using h
   have hq : lv xs n = A / d ∧ r = A % d := by
    rw [← hA]
    constructor
    ·rw [Int.add_comm, Int.add_mul_ediv_right _ _ (by omega), Int.ediv_eq_zero_of_lt r0 r1]; omega
    ·rw [Int.add_comm, Int.add_mul_emod_self_right, Int.emod_eq_of_lt r0 r1]
   have HTR := hide (trim32_any _ n n _ wr hrow (fun j hj => unhide HW j (by have := unhide HXL; omega)))
   have HHN : Hid (∀ k, k ≤ n → Wh.Len (Wh.vl (fun j => xs[j]!) n) k → HNat wr (.slice (some ⟨g, 0, none⟩) k n) (A / d)) := fun k hk hl => by
    have h := hNat_trim hrow (fun j hj => unhide HW j (by have := unhide HXL; omega)) hk hl
    have hv := hq.1
    unfold lv at hv
    rw [hv] at h
    exact h
   have HBB := hide own.bl
   have ur : IntKind.u32.wrap r = r := by rw [IntKind.wrap_u32]; omega
   have HR := hide hq.2
   clear hrow hA hq own
   go_wp2_with fail
   (try simp only [Exit.inBlock, Exit.then])
   go_wp2_with fail
   refine (unhide HTR).mono ?_
   rintro e w9 ⟨k, rfl, hk, hl9, rfl⟩
   have HV9 := hide (unhide HHN k hk hl9)
   clear hl9
   go_wp2
   exact bodyPost_ret (v := .tuple #[.slice (some ⟨g, 0, none⟩) k n, .int .u32 r]) (by simp [results, Tryz.results176, go_sem]) rfl ⟨_, by rw [← unhide HR], unhide HV9, unhide HBB⟩
  ·obtain ⟨k, hk⟩ : ∃ k, m = k + 1 := ⟨m - 1, by omega⟩
   subst hk
   have f0 : (0 : Int) ≤ (k : Int) := by omega
   have f1 : (k : Int) < (n : Int) := by omega
   have f2 : ((k + 1 : Nat) : Int) - 1 = (k : Int) := by omega
   have f3 : IntKind.i64.wrap ((k : Int) - 1) = (k : Int) - 1 := by rw [IntKind.wrap_i64]; omega
   rw [f2]
   obtain ⟨b, o, rfl, hbl, hca⟩ := unhide H3 (by omega)
   have ca := hca k (by omega)
   rw [← own.bl.cell (p := ⟨b, o + k, none⟩) hbl] at ca
   have hkl : k < xs.length := by have := unhide HXL; omega
   have ⟨cr2, fr2⟩ := own.cell hkl
   obtain ⟨x, hx⟩ : ∃ x, Wh.dig A k = x := ⟨_, rfl⟩
   have wx : Wh.W32 x := by rw [← hx]; exact Wh.dig_w _ _
   rw [hx] at ca
   have ux : IntKind.u64.wrap x = x := by rw [IntKind.wrap_u64]; have := wx.1; have := wx.2; omega
   have us : IntKind.u64.wrap (r * 4294967296) = r * 4294967296 := by rw [IntKind.wrap_u64]; omega
   have uo := or32 r0 (by omega) wx
   obtain ⟨t, ht⟩ : ∃ t, r * 4294967296 + x = t := ⟨_, rfl⟩
   rw [ht] at uo
   have t0 : 0 ≤ t := by have := wx.1; omega
   have t1 : t < d * 4294967296 := by have := wx.2; omega
   have td0 : 0 ≤ t / d := Int.ediv_nonneg t0 (by omega)
   have td1 : t / d < 4294967296 := Int.ediv_lt_of_lt_mul (by omega) (by rw [Int.mul_comm]; exact t1)
   have tm0 : 0 ≤ t % d := Int.emod_nonneg _ (by omega)
   have tm1 : t % d < d := Int.emod_lt_of_pos _ (by omega)
   have tde := Int.mul_ediv_add_emod t d
   obtain ⟨u, hu⟩ : ∃ u, t / d = u := ⟨_, rfl⟩
   obtain ⟨v, hv⟩ : ∃ v, t % d = v := ⟨_, rfl⟩
   rw [hu] at td0 td1 tde
   rw [hv] at tm0 tm1 tde
   have utd : t.tdiv d = u := by rw [Int.tdiv_eq_ediv_of_nonneg t0]; exact hu
   have uu : IntKind.u64.wrap u = u := by rw [IntKind.wrap_u64]; omega
   have um : u % 4294967296 = u := by omega
   have uvv : t % d = v := hv
   have own3 := own.set k u
   obtain ⟨W5, hW5⟩ : ∃ W, wr.setCell ⟨g, k, none⟩ (.int .u32 u) = W := ⟨_, rfl⟩
   rw [hW5] at own3
   have HO3 := hide own3
   have HX := hide hx
   have HT := hide ht
   have HTDE := hide tde
   have HKL := hide hkl
   have HTT := hide (⟨td0, td1, tm0, tm1⟩ : 0 ≤ u ∧ u < 4294967296 ∧ 0 ≤ v ∧ v < d)
   clear own own3 hca hx ht wx tde hkl td0 td1 tm0 tm1 t1 hm0 f2
   go_wp2_with fail
   have hkl := unhide HKL
   have tt := unhide HTT
   refine ⟨⟨k, v, xs.set k u, by rw [hv], rfl, by omega, tt.2.2.1, tt.2.2.2, unhide HO3, by rw [List.length_set]; exact unhide HXL, w_set (unhide HW) ⟨tt.1, tt.2.1⟩, ?_, fun j hj => by rw [get_set (by omega)]; exact unhide HZE j (by omega)⟩, by simp [intOf] <;> omega⟩
   have hval := unhide HVA
   rw [Wh.pw_succ, Wh.vl_succ, unhide HX] at hval
   rw [lv_set _ hkl (by have := unhide HXL; omega), unhide HZE k (by omega)]
   exact small_step hval (unhide HT) (unhide HTDE)
end Go.Proofs.YtcelbgleajpenaaGreatDoor
