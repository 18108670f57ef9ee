/- The checker's whole numbers, by words of 32 bits: without noughts, of 64 bits, compared. -/
import Derived.Test.YtcelbgleajpenaaGreatDoorM11
import Derived.Test.YtcelbgleajpenaaGreatDoorA1
import Derived.Laws.MakeOwn
import Derived.Sort.Row
namespace Go.Proofs.YtcelbgleajpenaaGreatDoor
open Go.RowKit

/-- A row of words in memory: n of them, word j is f j. -/
def HRow (w : World) (a : Option Addr) (n c : Nat) (f : Nat → Int) : Prop :=
  n ≤ c ∧ c ≤ 9223372036854775807 ∧ (0 < n → ∃ b o, a = some ⟨b, o, none⟩ ∧ b < w.heap.size ∧ ∀ j, j < n → w.cell? ⟨b, o + j, none⟩ = some (.int .u32 (f j)))

/-- A number in memory. -/
def HNat (w : World) (v : Value) (N : Int) : Prop := ∃ a n c, v = .slice a n c ∧ Wh.Len N n ∧ HRow w a n c (Wh.dig N)

theorem HRow.below {w w' : World} {a : Option Addr} {n c : Nat} {f : Nat → Int} (h : HRow w a n c f) (hb : Below w.heap.size w w') : HRow w' a n c f := by
  obtain ⟨h1, h2, h3⟩ := h
  refine ⟨h1, h2, fun hn => ?_⟩
  obtain ⟨b, o, e, hlt, hc⟩ := h3 hn
  refine ⟨b, o, e, Nat.lt_of_lt_of_le hlt hb.size, fun j hj => ?_⟩
  rw [hb.cell (p := ⟨b, o + j, none⟩) hlt]
  exact hc j hj

theorem HNat.below {w w' : World} {v : Value} {N : Int} (h : HNat w v N) (hb : Below w.heap.size w w') : HNat w' v N := by
  obtain ⟨a, n, c, e, hl, hr⟩ := h
  exact ⟨a, n, c, e, hl, hr.below hb⟩

theorem HNat.nn {w : World} {v : Value} {N : Int} (h : HNat w v N) : 0 ≤ N := by
  obtain ⟨a, n, c, e, hl, hr⟩ := h
  exact hl.1

theorem hNat_zero (w : World) (a : Option Addr) (c : Nat) (hc : c ≤ 9223372036854775807) : HNat w (.slice a 0 c) 0 :=
  ⟨a, 0, c, rfl, ⟨by decide, by decide, Or.inl rfl⟩, ⟨by omega, hc, fun h => by omega⟩⟩

theorem trim_len32 {f : Nat → Int} {n m : Nat} (hf : ∀ j, j < n → Wh.W32 (f j)) (hm : m ≤ n) (hz : ∀ j, m ≤ j → j < n → f j = 0) (ht : m = 0 ∨ f (m - 1) ≠ 0) : Wh.Len (Wh.vl f n) m := by
  rw [Wh.vl_ext f hm hz]
  have b := Wh.vl_bd (f := f) (n := m) (fun j hj => hf j (by omega))
  refine ⟨b.1, b.2, ?_⟩
  rcases Nat.eq_zero_or_pos m with h | h
  · exact Or.inl h
  · obtain ⟨k, rfl⟩ : ∃ k, m = k + 1 := ⟨m - 1, by omega⟩
    rcases ht with ht | ht
    · omega
    · exact Or.inr (Wh.le_of_top (fun j hj => hf j (by omega)) ht)

/-- What 'trimmed' gives is the number. -/
theorem hNat_trim {w : World} {a : Option Addr} {n c m : Nat} {f : Nat → Int} (h : HRow w a n c f) (hf : ∀ j, j < n → Wh.W32 (f j)) (hm : m ≤ n) (hl : Wh.Len (Wh.vl f n) m) : HNat w (.slice a m c) (Wh.vl f n) := by
  obtain ⟨h1, h2, h3⟩ := h
  refine ⟨a, m, c, rfl, hl, by omega, h2, fun hp => ?_⟩
  obtain ⟨b, o, e, hlt, hc⟩ := h3 (by omega)
  exact ⟨b, o, e, hlt, fun j hj => by rw [hc j (by omega), Wh.dig_vl hf (by omega)]⟩

set_option maxHeartbeats 1000000 in
theorem trim32_any (a : Option Addr) (n c : Nat) (f : Nat → Int) (w : World) (h : HRow w a n c f) (hf : ∀ j, j < n → Wh.W32 (f j)) :
    Calls Tryz.prog 138 #[.slice a n c] w fun e w' => ∃ m, e = .returned (.slice a m c) ∧ m ≤ n ∧ Wh.Len (Wh.vl f n) m ∧ w' = w := by
  obtain ⟨h1, h2, h3⟩ := h
  have H3 := hide h3
  clear h3
  go_enter Tryz.func138, Tryz.ntmps138
  go_wp2
  go_loop [3] (fun v => ∃ m : Nat, v = .int .i64 (m : Int) ∧ m ≤ n ∧ (∀ j, m ≤ j → j < n → f j = 0)) (fun v => (intOf v).toNat)
  case atStart => exact ⟨n, rfl, Nat.le_refl _, fun j h1 h2 => absurd h1 (Nat.not_le.2 h2)⟩
  case round =>
    obtain ⟨m, rfl, hm, hz⟩ := hrel
    have HZ : Hid (∀ j, m ≤ j → j < n → f j = 0) := hz
    clear hz
    have q1 : (m : Int) ≤ (c : Int) := by omega
    by_cases hm0 : m = 0
    · subst hm0
      go_wp2
      go_ret
      exact ⟨0, rfl, hm, trim_len32 hf hm (unhide HZ) (Or.inl rfl), rfl⟩
    · have hp : 0 < m := Nat.pos_of_ne_zero hm0
      have hmn : m - 1 < n := by omega
      have hpn : 0 < n := by omega
      obtain ⟨b, o, rfl, hlt, hc⟩ := unhide H3 hpn
      obtain ⟨x, hx⟩ : ∃ x, f (m - 1) = x := ⟨_, rfl⟩
      have hcm := hc (m - 1) hmn
      rw [hx] at hcm
      have HX : Hid (f (m - 1) = x) := hx
      have e0 : (0 : Int) < (m : Int) := by omega
      have e1 : ((m : Int) - 1).toNat = m - 1 := by omega
      have e2 : (0 : Int) ≤ (m : Int) - 1 := by omega
      have e3 : (m : Int) - 1 < (n : Int) := by omega
      clear hc H3 hx
      by_cases hx0 : x = 0
      · subst hx0
        go_wp2
        go_round
        case rel => exact ⟨m - 1, by congr 1; omega, by omega, fun j h1 h2 => by
          rcases Nat.lt_or_ge j m with h | h
          · rw [show j = m - 1 by omega]; exact HX.out
          · exact HZ.out j h h2⟩
        case measure => simp [intOf]; omega
      · have hxb : (x == 0) = false := by simpa using hx0
        go_wp2
        go_ret
        exact ⟨m, rfl, hm, trim_len32 hf hm HZ.out (Or.inr (by rw [HX.out]; exact hx0)), rfl⟩

/-- A number of 64 bits in two words. -/
theorem two_vl (x : Int) : Wh.vl (fun j => if j = 0 then x % 4294967296 else x / 4294967296) 2 = x := by
  simp [Wh.vl, Wh.pw]
  omega

set_option maxHeartbeats 1000000 in
theorem words_any (x : Int) (h0 : 0 ≤ x) (h1 : x < 18446744073709551616) (w : World) :
    Calls Tryz.prog 151 #[.int .u64 x] w fun e w' => ∃ v, e = .returned v ∧ HNat w' v x ∧ Below w.heap.size w w' := by
  have hlt : w.heap.size < (w.alloc (.cells #[.int .u32 (x % 4294967296), .int .u32 (x / 4294967296)] 175)).heap.size := by
    rw [show (w.alloc (.cells #[.int .u32 (x % 4294967296), .int .u32 (x / 4294967296)] 175)).heap = w.heap.push (.cells #[.int .u32 (x % 4294967296), .int .u32 (x / 4294967296)] 175) from rfl, Array.size_push]
    omega
  have hrow : HRow (w.alloc (.cells #[.int .u32 (x % 4294967296), .int .u32 (x / 4294967296)] 175)) (some ⟨w.heap.size, 0, none⟩) 2 2 (fun j => if j = 0 then x % 4294967296 else x / 4294967296) := by
    refine ⟨by decide, by decide, fun _ => ⟨_, 0, rfl, hlt, fun j hj => ?_⟩⟩
    have : j = 0 ∨ j = 1 := by omega
    rcases this with rfl | rfl
    · simp
    · simp
  have hw32 : ∀ j, j < 2 → Wh.W32 ((fun j => if j = 0 then x % 4294967296 else x / 4294967296) j) := fun j _ => by
    dsimp only
    split
    · exact ⟨by omega, by omega⟩
    · exact ⟨by omega, by omega⟩
  have HT := hide (trim32_any _ 2 2 _ _ hrow hw32)
  have HN : Hid (∀ m, m ≤ 2 → Wh.Len (Wh.vl (fun j => if j = 0 then x % 4294967296 else x / 4294967296) 2) m → HNat (w.alloc (.cells #[.int .u32 (x % 4294967296), .int .u32 (x / 4294967296)] 175)) (.slice (some ⟨w.heap.size, 0, none⟩) m 2) x) := fun m hm hl => by
    have h := hNat_trim hrow hw32 hm hl
    rw [two_vl] at h
    exact h
  have HB := hide ((Below.refl w.heap.size w).alloc (Nat.le_refl _) (.cells #[.int .u32 (x % 4294967296), .int .u32 (x / 4294967296)] 175))
  clear hrow hw32 hlt
  go_enter Tryz.func151, Tryz.ntmps151
  go_wp2_with fail
  refine (unhide HT).mono ?_
  rintro e w1 ⟨m, rfl, hm, hl, rfl⟩
  have HV := hide (unhide HN m hm hl)
  clear hl
  go_wp2
  go_ret
  exact ⟨_, rfl, unhide HV, unhide HB⟩

theorem drew3h (w : World) (a b c : Nat) : ∃ k, ((w.drewN a).drewN b).drewN c = w.drewN k := ⟨a + b + c, by simp⟩

set_option maxHeartbeats 1000000 in
theorem cmp32_any (va vb : Value) (A B : Int) (w : World) (ha : HNat w va A) (hb : HNat w vb B) :
    Calls Tryz.prog 100 #[va, vb] w fun e w' => e = .returned (.int .i64 (Wh.sg A B)) ∧ ∃ k, w' = w.drewN k := by
  obtain ⟨a, n, c, rfl, hl, h1, h2, h3⟩ := ha
  obtain ⟨a', n', c', rfl, hl', h1', h2', h3'⟩ := hb
  by_cases hlt : n < n'
  · have hs : Wh.sg A B = -1 := Wh.sg_lt (Wh.Len.lt hl hl' hlt)
    rw [hs]
    clear hs h3 h3'
    have hne : ((n : Int) != (n' : Int)) = true := by rw [bne_iff_ne]; omega
    go_enter Tryz.func100, Tryz.ntmps100
    go_wp2
    go_ret
    exact ⟨rfl, 0, rfl⟩
  by_cases hgt : n' < n
  · have hs : Wh.sg A B = 1 := Wh.sg_gt (Wh.Len.lt hl' hl hgt)
    rw [hs]
    clear hs h3 h3'
    have hne : ((n : Int) != (n' : Int)) = true := by rw [bne_iff_ne]; omega
    go_enter Tryz.func100, Tryz.ntmps100
    go_wp2
    go_ret
    exact ⟨rfl, 0, rfl⟩
  obtain rfl : n = n' := by omega
  have hA : Wh.vl (Wh.dig A) n = A := Wh.vl_dig_all hl.1 hl.2.1
  have hB : Wh.vl (Wh.dig B) n = B := Wh.vl_dig_all hl'.1 hl'.2.1
  have HS : Hid (∀ i, i < n → (∀ j, i < j → j < n → Wh.dig A j = Wh.dig B j) → (Wh.dig A i < Wh.dig B i → Wh.sg A B = -1) ∧ (Wh.dig B i < Wh.dig A i → Wh.sg A B = 1)) := by
    intro i hi he
    refine ⟨fun h => Wh.sg_lt ?_, fun h => Wh.sg_gt ?_⟩
    · rw [← hA, ← hB]; exact Wh.vl_lt_of_word (fun j _ => Wh.dig_w _ _) (fun j _ => Wh.dig_w _ _) hi he h
    · rw [← hA, ← hB]; exact Wh.vl_lt_of_word (fun j _ => Wh.dig_w _ _) (fun j _ => Wh.dig_w _ _) hi (fun j h1 h2 => (he j h1 h2).symm) h
  have HE : Hid ((∀ j, j < n → Wh.dig A j = Wh.dig B j) → Wh.sg A B = 0) := fun h => Wh.sg_eq (by rw [← hA, ← hB]; exact Wh.vl_congr h)
  generalize Wh.sg A B = s at *
  have H3 := hide h3
  have H3' := hide h3'
  clear hA hB hl hl' hlt hgt h3 h3'
  go_enter Tryz.func100, Tryz.ntmps100
  go_wp2
  go_loopw [5] (fun v wr => ∃ m k : Nat, v = .int .i64 ((m : Int) - 1) ∧ m ≤ n ∧ wr = w.drewN k ∧ (∀ j, m ≤ j → j < n → Wh.dig A j = Wh.dig B j)) (fun v _ => (intOf v + 1).toNat)
  case atStart => exact ⟨n, 0, rfl, Nat.le_refl _, rfl, fun j h1 h2 => absurd h1 (Nat.not_le.2 h2)⟩
  case round =>
    obtain ⟨m, k, rfl, hm, rfl, hz⟩ := hrel
    by_cases hm0 : m = 0
    · subst hm0
      go_wp2
      go_ret
      have := HE.out (fun j h => hz j (Nat.zero_le _) h)
      exact ⟨by rw [this]; rfl, k, rfl⟩
    · have hp : 0 < m := Nat.pos_of_ne_zero hm0
      have hpn : 0 < n := Nat.lt_of_lt_of_le hp hm
      have hmn : m - 1 < n := by omega
      have hgt : ∀ j, m - 1 < j → j < n → Wh.dig A j = Wh.dig B j := fun j h1 h2 => hz j (by omega) h2
      have HS1 : Hid ((Wh.dig A (m - 1) < Wh.dig B (m - 1) → s = -1) ∧ (Wh.dig B (m - 1) < Wh.dig A (m - 1) → s = 1)) := HS.out (m - 1) hmn hgt
      obtain ⟨b, o, rfl, hlt, hc⟩ := unhide H3 hpn
      obtain ⟨b', o', rfl, hlt', hc'⟩ := unhide H3' hpn
      have HZ : Hid (∀ j, m ≤ j → j < n → Wh.dig A j = Wh.dig B j) := hz
      obtain ⟨x, hx⟩ : ∃ x, Wh.dig A (m - 1) = x := ⟨_, rfl⟩
      obtain ⟨y, hy⟩ : ∃ y, Wh.dig B (m - 1) = y := ⟨_, rfl⟩
      have hcm := hc (m - 1) hmn
      have hcm' := hc' (m - 1) hmn
      have HX : Hid (Wh.dig A (m - 1) = x) := hx
      have HY : Hid (Wh.dig B (m - 1) = y) := hy
      rw [hx] at hcm
      rw [hy] at hcm'
      have e1 : ((m : Int) - 1).toNat = m - 1 := by omega
      have e2 : (0 : Int) ≤ (m : Int) - 1 := by omega
      have e3 : (m : Int) - 1 < (n : Int) := by omega
      clear hc hc' hz H3 H3' hx hy HS HE hgt
      by_cases hxy : x = y
      · subst hxy
        go_wp2_with fail
        go_quiet (fail)
        go_wp2
        refine ⟨⟨m - 1, k + nq, ?_, by omega, rfl, fun j h1 h2 => ?_⟩, ?_⟩
        · congr 1; omega
        · rcases Nat.lt_or_ge j m with h | h
          · rw [show j = m - 1 by omega, HX.out, HY.out]
          · exact HZ.out j h h2
        · simp [intOf]; omega
      · have hxb : (x != y) = true := by rw [bne_iff_ne]; exact hxy
        by_cases hl : x < y
        · go_wp2_with fail
          go_quiet (fail)
          go_wp2
          go_quiet (fail)
          go_wp2
          go_ret
          have := HS1.out.1 (by rw [HX.out, HY.out]; exact hl)
          exact ⟨by rw [this]; rfl, drew3h _ _ _ _⟩
        · have hgt : y < x := by omega
          go_wp2_with fail
          go_quiet (fail)
          go_wp2
          go_quiet (fail)
          go_wp2
          go_ret
          have := HS1.out.2 (by rw [HX.out, HY.out]; exact hgt)
          exact ⟨by rw [this]; rfl, drew3h _ _ _ _⟩
end Go.Proofs.YtcelbgleajpenaaGreatDoor
/- The checker's rows of words of 32 bits that it makes itself; a sum. -/
namespace Go.Proofs.YtcelbgleajpenaaGreatDoor
open Go.RowKit Go.Sort

def halves (xs : List Int) : List Value := xs.map (.int .u32 ·)
theorem halves_get {xs : List Int} {j : Nat} (h : j < xs.length) : (halves xs)[j]? = some (.int .u32 xs[j]!) := by simp [halves, h]
theorem Tryz.infoH : (Tryz.prog.info? 175).map (fun i => (i.zero, i.size, i.bytes)) = some (some (.int .u32 0), 1, 4) := by kernel_rfl

theorem make_halves (k : Nat) (h1 : k ≤ 1099511627776) (w : World) :
    (Instr.makeSlice 82 (.int .i64 (k : Int)) (.int .i64 (k : Int))).run Tryz.prog w = .ok (.slice (some ⟨w.heap.size, 0, none⟩) k k) (w.alloc (.cells (halves (List.replicate k 0)).toArray 175)) := by
  obtain ⟨i, hi, hz0, hz1, hz2⟩ := info_parts Tryz.infoH
  have e : madeCells (Value.int .u32 0).cells ((k : Int).toNat * i.size) = (halves (List.replicate k 0)).toArray := by
    rw [hz1]
    apply Array.ext
    · simp [madeCells, halves]
    · intro j h1 h2
      simp [madeCells, halves, Value.cells, Nat.mod_one]
  rw [run_make w 82 175 i (.int .u32 0) Tryz.underlying82 hi hz0 .i64 .i64 k k (by omega) (Int.le_refl _) (by rw [hz2]; omega) (by omega), e]
  simp

/-- A row of the call's own in block g. -/
structure HOwn (w wr : World) (g : Nat) (xs : List Int) : Prop where
  row : wr.heap[g]? = some (.cells (halves xs).toArray 175)
  bl : Below w.heap.size w wr
  gl : w.heap.size ≤ g

theorem HOwn.start (w : World) (k : Nat) : HOwn w (w.alloc (.cells (halves (List.replicate k 0)).toArray 175)) w.heap.size (List.replicate k 0) :=
  ⟨by rw [show (w.alloc (.cells (halves (List.replicate k 0)).toArray 175)).heap = w.heap.push (.cells (halves (List.replicate k 0)).toArray 175) from rfl, Array.getElem?_push_size], (Below.refl _ _).alloc (Nat.le_refl _) _, Nat.le_refl _⟩
theorem HOwn.lt {w wr : World} {g : Nat} {xs : List Int} (h : HOwn w wr g xs) : g < wr.heap.size := (Array.getElem?_eq_some_iff.1 h.row).1
theorem HOwn.cell {w wr : World} {g : Nat} {xs : List Int} (h : HOwn w wr g xs) {j : Nat} (hj : j < xs.length) : wr.cell? ⟨g, j, none⟩ = some (.int .u32 xs[j]!) ∧ wr.frozen? ⟨g, j, none⟩ = false := by
  refine ⟨?_, by simp [World.frozen?, h.row]⟩
  simp only [World.cell?, h.row]
  have := halves_get (xs := xs) hj
  simpa using this
theorem HOwn.set {w wr : World} {g : Nat} {xs : List Int} (h : HOwn w wr g xs) (j : Nat) (x : Int) : HOwn w (wr.setCell ⟨g, j, none⟩ (.int .u32 x)) g (xs.set j x) := by
  refine ⟨?_, h.bl.setCell h.gl _, h.gl⟩
  rw [setCell_eq]
  simp only [mapBlock, Array.getElem?_modify, h.row, if_true, Option.map_some, onCells]
  simp [halves, List.map_set]
theorem HOwn.drew {w wr : World} {g : Nat} {xs : List Int} (h : HOwn w wr g xs) (k : Nat) : HOwn w (wr.drewN k) g xs := ⟨h.row, ⟨h.bl.os, h.bl.tape, h.bl.output, h.bl.size, h.bl.block⟩, h.gl⟩
theorem HOwn.hrow {w wr : World} {g : Nat} {xs : List Int} (h : HOwn w wr g xs) (hl : xs.length ≤ 9223372036854775807) : HRow wr (some ⟨g, 0, none⟩) xs.length xs.length (fun j => xs[j]!) :=
  ⟨Nat.le_refl _, hl, fun _ => ⟨g, 0, rfl, h.lt, fun j hj => by rw [Nat.zero_add]; exact (h.cell hj).1⟩⟩

end Go.Proofs.YtcelbgleajpenaaGreatDoor
/- The checker's whole numbers: a sign and words in two cells; how they are written anew. -/
namespace Go.Proofs.YtcelbgleajpenaaGreatDoor
open Go.RowKit Go.Sort

theorem bstep {w w1 w2 : World} (h : Below w.heap.size w w1) (k : Below w1.heap.size w1 w2) : Below w.heap.size w w2 := h.trans (k.mono h.size)
theorem abelow (w : World) (o : Obj) : Below w.heap.size w (w.alloc o) := (Below.refl _ _).alloc (Nat.le_refl _) _

theorem HRow.setAt {w : World} {a : Option Addr} {n c : Nat} {f : Nat → Int} (h : HRow w a n c f) (p : Addr) (v : Value) (hp : ∀ x, w.cell? p ≠ some (.int .u32 x)) : HRow (w.setCell p v) a n c f := by
  obtain ⟨h1, h2, h3⟩ := h
  refine ⟨h1, h2, fun hn => ?_⟩
  obtain ⟨b, o, e, hlt, hc⟩ := h3 hn
  refine ⟨b, o, e, by simpa [World.setCell] using hlt, fun j hj => ?_⟩
  have hne : p ≠ ⟨b, o + j, none⟩ := fun e => hp _ (by rw [e]; exact hc j hj)
  rw [World.cell?_setCell_other _ _ _ _ hne]
  exact hc j hj
theorem HNat.setAt {w : World} {v : Value} {N : Int} (h : HNat w v N) (p : Addr) (x : Value) (hp : ∀ x, w.cell? p ≠ some (.int .u32 x)) : HNat (w.setCell p x) v N := by
  obtain ⟨a, n, c, e, hl, hr⟩ := h
  exact ⟨a, n, c, e, hl, hr.setAt p x hp⟩

/-- A place for a whole number: a sign and a row. -/
structure SlotI (w : World) (b o : Nat) : Prop where
  sg : ∃ s, w.cell? ⟨b, o, none⟩ = some (.bool s)
  ab : ∃ a n c, w.cell? ⟨b, o + 1, none⟩ = some (.slice a n c)
  fs : w.frozen? ⟨b, o, none⟩ = false
  fa : w.frozen? ⟨b, o + 1, none⟩ = false
  lt : b < w.heap.size
theorem SlotI.below {w w' : World} {b o : Nat} (h : SlotI w b o) (hb : Below w.heap.size w w') : SlotI w' b o := by
  have fz : ∀ k, w'.frozen? ⟨b, k, none⟩ = w.frozen? ⟨b, k, none⟩ := fun k => by simp only [World.frozen?, hb.block b h.lt]
  refine ⟨?_, ?_, by rw [fz]; exact h.fs, by rw [fz]; exact h.fa, Nat.lt_of_lt_of_le h.lt hb.size⟩
  · rw [hb.cell (p := ⟨b, o, none⟩) h.lt]; exact h.sg
  · rw [hb.cell (p := ⟨b, o + 1, none⟩) h.lt]; exact h.ab
theorem SlotI.nos {w : World} {b o : Nat} (h : SlotI w b o) : (∀ x, w.cell? ⟨b, o, none⟩ ≠ some (.int .u32 x)) ∧ (∀ x, w.cell? ⟨b, o + 1, none⟩ ≠ some (.int .u32 x)) := by
  obtain ⟨s, hs⟩ := h.sg
  obtain ⟨a, n, c, ha⟩ := h.ab
  exact ⟨fun x e => (by rw [hs] at e; cases e), fun x e => (by rw [ha] at e; cases e)⟩
/-- A whole number. -/
structure BInt (w : World) (b o : Nat) (N : Int) : Prop where
  sg : w.cell? ⟨b, o, none⟩ = some (.bool (decide (N < 0)))
  ab : ∃ a n c, w.cell? ⟨b, o + 1, none⟩ = some (.slice a n c) ∧ HNat w (.slice a n c) (N.natAbs : Int)
  fs : w.frozen? ⟨b, o, none⟩ = false
  fa : w.frozen? ⟨b, o + 1, none⟩ = false
  lt : b < w.heap.size
theorem BInt.slot {w : World} {b o : Nat} {N : Int} (h : BInt w b o N) : SlotI w b o := ⟨⟨_, h.sg⟩, by obtain ⟨a, n, c, e, _⟩ := h.ab; exact ⟨a, n, c, e⟩, h.fs, h.fa, h.lt⟩
theorem BInt.below {w w' : World} {b o : Nat} {N : Int} (h : BInt w b o N) (hb : Below w.heap.size w w') : BInt w' b o N := by
  have k := h.slot.below hb
  obtain ⟨a, n, c, e, hn⟩ := h.ab
  refine ⟨by rw [hb.cell (p := ⟨b, o, none⟩) h.lt]; exact h.sg, ⟨a, n, c, ?_, hn.below hb⟩, k.fs, k.fa, k.lt⟩
  rw [hb.cell (p := ⟨b, o + 1, none⟩) h.lt]; exact e

/-- The world where a number is written anew. -/
def put (w : World) (b o : Nat) (v : Value) (s : Bool) : World := (w.setCell ⟨b, o + 1, none⟩ v).setCell ⟨b, o, none⟩ (.bool s)
theorem put_size (w : World) (b o : Nat) (v : Value) (s : Bool) : (put w b o v s).heap.size = w.heap.size := by simp [put, World.setCell]
theorem put_other {w : World} {b o : Nat} {v : Value} {s : Bool} {q : Addr} (h1 : q ≠ ⟨b, o, none⟩) (h2 : q ≠ ⟨b, o + 1, none⟩) : (put w b o v s).cell? q = w.cell? q := by
  unfold put
  rw [World.cell?_setCell_other _ _ _ _ (Ne.symm h1), World.cell?_setCell_other _ _ _ _ (Ne.symm h2)]
theorem HNat.put {w : World} {b o : Nat} {v u : Value} {s : Bool} {N : Int} (h : HNat w u N) (k : SlotI w b o) : HNat (put w b o v s) u N := by
  refine (h.setAt _ _ k.nos.2).setAt _ _ fun x => ?_
  rw [World.cell?_setCell_other _ _ _ _ (show (⟨b, o + 1, none⟩ : Addr) ≠ ⟨b, o, none⟩ from fun e => by injection e with _ e; omega)]
  exact k.nos.1 x
theorem put_int {w : World} {b o : Nat} {a : Option Addr} {n c : Nat} {s : Bool} {N : Int} (k : SlotI w b o) (h : HNat w (.slice a n c) (N.natAbs : Int)) (hs : s = decide (N < 0)) : BInt (put w b o (.slice a n c) s) b o N := by
  have ne1 : (⟨b, o, none⟩ : Addr) ≠ ⟨b, o + 1, none⟩ := fun e => by injection e with _ e; omega
  obtain ⟨s0, e0⟩ := k.sg
  obtain ⟨a0, n0, c0, ea⟩ := k.ab
  refine ⟨?_, ⟨a, n, c, ?_, h.put k⟩, by simp [put, k.fs], by simp [put, k.fa], by rw [put_size]; exact k.lt⟩
  · unfold put
    rw [World.cell?_setCell_same (u := .bool s0) _ _ _ (by rw [World.cell?_setCell_other _ _ _ _ (Ne.symm ne1)]; exact e0), hs]
  · unfold put
    rw [World.cell?_setCell_other _ _ _ _ ne1]
    exact World.cell?_setCell_same _ _ _ ea
/-- Two places that don't touch. -/
def ApartI (b o b' o' : Nat) : Prop := b = b' → o + 1 < o' ∨ o' + 1 < o
theorem BInt.put {w : World} {b o b' o' : Nat} {v : Value} {s : Bool} {N : Int} (h : BInt w b' o' N) (k : SlotI w b o) (ha : ApartI b o b' o') : BInt (put w b o v s) b' o' N := by
  obtain ⟨a, n, c, e, hn⟩ := h.ab
  have n00 : (⟨b', o', none⟩ : Addr) ≠ ⟨b, o, none⟩ := fun e => by
    injection e with e1 e2
    have := ha e1.symm
    omega
  have n01 : (⟨b', o', none⟩ : Addr) ≠ ⟨b, o + 1, none⟩ := fun e => by
    injection e with e1 e2
    have := ha e1.symm
    omega
  have n10 : (⟨b', o' + 1, none⟩ : Addr) ≠ ⟨b, o, none⟩ := fun e => by
    injection e with e1 e2
    have := ha e1.symm
    omega
  have n11 : (⟨b', o' + 1, none⟩ : Addr) ≠ ⟨b, o + 1, none⟩ := fun e => by
    injection e with e1 e2
    have := ha e1.symm
    omega
  refine ⟨?_, ⟨a, n, c, ?_, hn.put k⟩, by simp [Go.Proofs.YtcelbgleajpenaaGreatDoor.put, h.fs], by simp [Go.Proofs.YtcelbgleajpenaaGreatDoor.put, h.fa], by rw [put_size]; exact h.lt⟩
  · rw [put_other n00 n01]; exact h.sg
  · rw [put_other n10 n11]; exact e
theorem Below.put {B : Nat} {w0 w : World} {b o : Nat} {v : Value} {s : Bool} (h : Below B w0 w) (hb : B ≤ b) : Below B w0 (put w b o v s) := (h.setCell (p := ⟨b, o + 1, none⟩) hb v).setCell (p := ⟨b, o, none⟩) hb (.bool s)

set_option maxHeartbeats 1000000 in
theorem give_any (b o : Nat) (neg : Bool) (a : Option Addr) (n c : Nat) (w : World) (k : SlotI w b o) :
    Calls Tryz.prog 101 #[.pointer (some ⟨b, o, none⟩), .bool neg, .slice a n c] w fun e w' => e = .returned (.pointer (some ⟨b, o, none⟩)) ∧ w' = put w b o (.slice a n c) (neg && decide (0 < n)) := by
  obtain ⟨s0, e0⟩ := k.sg
  obtain ⟨a0, n0, c0, ea⟩ := k.ab
  have f0 := k.fs
  have f1 := k.fa
  have ne1 : (⟨b, o + 1, none⟩ : Addr) ≠ ⟨b, o, none⟩ := fun e => by injection e with _ e; omega
  have e2 : (w.setCell ⟨b, o + 1, none⟩ (.slice a n c)).cell? ⟨b, o, none⟩ = some (.bool s0) := by rw [World.cell?_setCell_other _ _ _ _ ne1]; exact e0
  clear k
  cases neg
  · go_enter Tryz.func101, Tryz.ntmps101
    go_wp2
    go_ret
    exact ⟨rfl, rfl⟩
  · go_enter Tryz.func101, Tryz.ntmps101
    go_wp2
    go_ret
    exact ⟨rfl, by simp [put]⟩
end Go.Proofs.YtcelbgleajpenaaGreatDoor
