/- Decimal digits by nineteen at a time: plain mathematics. -/
import Derived.Test.YtcelbgleajpenaaGreatDoorA9
import Derived.Lib.Repeat
import Derived.Test.YtcelbgleajpenaaGreatDoorA11
import Derived.Test.YtcelbgleajpenaaGreatDoorA10
namespace Go.Dd

def pad (k r : Nat) : List UInt8 := List.replicate (k - (Lib.decDigits r).length) 48 ++ Lib.decDigits r

theorem dec_lt {r : Nat} (h : r < 10) : Lib.decDigits r = [UInt8.ofNat (48 + r)] := by
 unfold Lib.decDigits; rw [dif_pos h]
theorem dec_ge {r : Nat} (h : ¬ r < 10) : Lib.decDigits r = Lib.decDigits (r / 10) ++ [UInt8.ofNat (48 + r % 10)] := by
 conv => lhs; unfold Lib.decDigits
 rw [dif_neg h]

theorem pad_succ (k r : Nat) (hk : 1 ≤ k) : pad (k + 1) r = pad k (r / 10) ++ [UInt8.ofNat (48 + r % 10)] := by
 unfold pad
 by_cases h : r < 10
 ·have h0 : r / 10 = 0 := by omega
  have h1 : r % 10 = r := by omega
  rw [h0, h1, dec_lt h, dec_lt (by decide : (0 : Nat) < 10)]
  show List.replicate (k + 1 - 1) 48 ++ _ = List.replicate (k - 1) 48 ++ [UInt8.ofNat (48 + 0)] ++ _
  rw [show UInt8.ofNat (48 + 0) = (48 : UInt8) from rfl, ← List.replicate_succ', Nat.sub_add_cancel hk]
  rfl
 ·rw [dec_ge h]
  rw [← List.append_assoc]
  congr 2
  simp

theorem dec_join (k : Nat) (hk : 1 ≤ k) : ∀ (H r : Nat), 0 < H → r < 10 ^ k → Lib.decDigits (H * 10 ^ k + r) = Lib.decDigits H ++ pad k r := by
 induction k with
 | zero => omega
 | succ k ih =>
  intro H r hH hr
  rcases Nat.eq_zero_or_pos k with h0 | h0
  ·subst h0
   rw [Nat.zero_add, Nat.pow_one] at hr ⊢
   rw [dec_ge (by omega)]
   have e1 : (H * 10 + r) / 10 = H := by omega
   have e2 : (H * 10 + r) % 10 = r := by omega
   rw [e1, e2]
   unfold pad
   rw [dec_lt hr]
   rfl
  ·have hp : 0 < 10 ^ k := Nat.pow_pos (by decide)
   rw [Nat.pow_succ] at hr ⊢
   have hHp : 10 ^ k ≤ H * 10 ^ k := Nat.le_mul_of_pos_left _ hH
   have e0 : H * (10 ^ k * 10) = H * 10 ^ k * 10 := by rw [Nat.mul_assoc]
   rw [e0, dec_ge (by omega)]
   have e1 : (H * 10 ^ k * 10 + r) / 10 = H * 10 ^ k + r / 10 := by omega
   have e2 : (H * 10 ^ k * 10 + r) % 10 = r % 10 := by omega
   rw [e1, e2, ih h0 H (r / 10) hH (by omega), pad_succ k r h0, List.append_assoc]

def dvr : List Nat → Nat → Nat
 | [], x => x
 | d :: ds, x => d + 10000000000000000000 * dvr ds x
theorem dvr_append (ds : List Nat) (r x : Nat) : dvr (ds ++ [r]) x = dvr ds (r + 10000000000000000000 * x) := by
 induction ds with
 | nil => rfl
 | cons d ds ih => simp only [List.cons_append, dvr, ih]
theorem dvr_drop {ds : List Nat} {m : Nat} (h : m < ds.length) : dvr (ds.drop m) 0 = ds[m]! + 10000000000000000000 * dvr (ds.drop (m + 1)) 0 := by
 rw [List.drop_eq_getElem_cons h]
 simp only [dvr]
 rw [getElem!_pos ds m h]
theorem dvr_pos {ds : List Nat} (hl : 0 < ds[ds.length - 1]!) {m : Nat} (h : m < ds.length) : 0 < dvr (ds.drop m) 0 := by
 obtain ⟨k, hk⟩ : ∃ k, ds.length - 1 = m + k := ⟨ds.length - 1 - m, by omega⟩
 induction k generalizing m with
 | zero =>
  rw [dvr_drop h]
  rw [hk, Nat.add_zero] at hl
  omega
 | succ k ih =>
  have := ih (m := m + 1) (by omega) (by omega)
  rw [dvr_drop h]
  omega

theorem dec_chunk (H r : Nat) (hH : 0 < H) (hr : r < 10000000000000000000) : Lib.decDigits (r + 10000000000000000000 * H) = Lib.decDigits H ++ pad 19 r := by
 have := dec_join 19 (by decide) H r hH hr
 rw [← this]
 congr 1
 show r + 10000000000000000000 * H = H * 10000000000000000000 + r
 omega
theorem dec_len_le (k : Nat) : ∀ r, r < 10 ^ (k + 1) → (Lib.decDigits r).length ≤ k + 1 := by
 induction k with
 | zero => intro r hr; rw [dec_lt (by simpa using hr)]; simp
 | succ k ih =>
  intro r hr
  by_cases h : r < 10
  ·rw [dec_lt h]; simp
  ·rw [dec_ge h, List.length_append]
   have := ih (r / 10) (by rw [Nat.pow_succ] at hr; omega)
   simp
   omega
theorem dec_len19 {r : Nat} (hr : r < 10000000000000000000) : (Lib.decDigits r).length ≤ 19 := dec_len_le 18 r hr
theorem repeat48 (k : Nat) : Lib.repeatL [48] k = List.replicate k 48 := by
 induction k with
 | zero => rfl
 | succ k ih => simp only [Lib.repeatL, ih]; rfl
end Go.Dd
/- A number's text: numbers of any length. The first part: chunks of nineteen digits. -/
namespace Go.Proofs.YtcelbgleajpenaaGreatDoor
open Go.RowKit Go.Sort Go.Shelf Go.Dd

theorem head_put {w : World} {g : Nat} {d d' : Array Int} (h : HeadRow w g d) (hs : d'.size = d.size) : HeadRow (putRow enc w g 0 d') g d' := by
 obtain ⟨cur, h, hc⟩ := h
 refine ⟨putCells enc 0 d' cur, ?_, fun j hj => ?_⟩
 ·simp only [putRow, mapBlock, Array.getElem?_modify, h, if_true, Option.map_some, onCells]
 ·have hj' := hc j (by omega)
  simp only [putCells, Array.getElem?_mapIdx, hj', Option.map_some]
  rw [if_pos (by omega), Nat.sub_zero]

theorem head_cut {w : World} {g m : Nat} {d : Array Int} {N : Int} (h : HeadRow w g d) (hw : ∀ j, j < d.size → Wd.W64 d[j]!) (hv : Wd.vl (fun j => d[j]!) d.size = N) (hm : m ≤ d.size) : HeadRow w g (dgs N m) := by
 obtain ⟨cur, h, hc⟩ := h
 refine ⟨cur, h, fun j hj => ?_⟩
 rw [dgs_size] at hj
 rw [hc j (by omega), dgs_get N m j hj, ← hv, Wd.dig_vl hw (by omega)]

def u64s (ds : List Nat) : List Value := ds.map (fun (d : Nat) => Value.int .u64 (d : Int))
theorem u64s_append (ds : List Nat) (r : Nat) : u64s (ds ++ [r]) = u64s ds ++ [.int .u64 (r : Int)] := by simp [u64s]

theorem owns_kept {w w' : World} {B : Nat} {v : Value} {n : Nat} {xs : List Value} (h : w.ownsRow B 134 1 v n xs) (hk : ∀ k o, B ≤ k → w.heap[k]? = some o → w'.heap[k]? = some o) : w'.ownsRow B 134 1 v n xs := by
 obtain ⟨h1, h2 | ⟨g, cap, cur, e, hb, hh, r⟩⟩ := h
 ·exact ⟨h1, Or.inl h2⟩
 ·exact ⟨h1, Or.inr ⟨g, cap, cur, e, hb, hk g _ hb hh, r⟩⟩

theorem owns_block {w : World} {B : Nat} {v : Value} {n : Nat} {xs : List Value} (h : w.ownsRow B 134 1 v n xs) : ∀ k, v.ownBlock = some k → B ≤ k := by
 obtain ⟨_, ⟨rfl, _⟩ | ⟨g, cap, cur, rfl, hb, _⟩⟩ := h
 ·intro k hk; cases hk
 ·intro k hk
  have : g = k := Option.some.inj hk
  omega

theorem pow_chunk (ds : List Nat) (x : Nat) : 10000000000000000000 ^ ds.length * x ≤ dvr ds x := by
 induction ds with
 | nil => simp [dvr]
 | cons d ds ih =>
  simp only [dvr, List.length_cons, Nat.pow_succ]
  have : 10000000000000000000 ^ ds.length * 10000000000000000000 * x = 10000000000000000000 * (10000000000000000000 ^ ds.length * x) := by
   rw [Nat.mul_right_comm, Nat.mul_comm]
  rw [this]
  have := Nat.mul_le_mul_left 10000000000000000000 ih
  omega

theorem pw_chunk (n : Nat) : Wd.pw n ≤ ((10000000000000000000 ^ (2 * n) : Nat) : Int) := by
 induction n with
 | zero => decide
 | succ n ih =>
  rw [Wd.pw_succ, show 2 * (n + 1) = 2 * n + 1 + 1 by omega, Nat.pow_succ, Nat.pow_succ, Int.natCast_mul, Int.natCast_mul]
  have hp := Wd.pw_pos n
  generalize ((10000000000000000000 ^ (2 * n) : Nat) : Int) = X at *
  omega

theorem chunk_count {N : Int} {n : Nat} {ds : List Nat} {x : Nat} (hN : N < Wd.pw n) (h : N.toNat = dvr ds x) (hx : 0 < x) : ds.length < 2 * n := by
 rcases Nat.lt_or_ge ds.length (2 * n) with h1 | h1
 ·exact h1
 ·exfalso
  have a := pow_chunk ds x
  have b : 10000000000000000000 ^ (2 * n) ≤ 10000000000000000000 ^ ds.length := Nat.pow_le_pow_right (by decide) h1
  have c : 10000000000000000000 ^ ds.length * 1 ≤ 10000000000000000000 ^ ds.length * x := Nat.mul_le_mul_left _ hx
  have d := Int.lt_of_lt_of_le hN (pw_chunk n)
  have hX : 0 < 10000000000000000000 ^ (2 * n) := Nat.pow_pos (by decide)
  generalize 10000000000000000000 ^ (2 * n) = X at *
  omega

structure TextAt (w wr : World) (Bp g cap m : Nat) (N Nk : Int) (ds : List Nat) (vp : Value) : Prop where
 hd : HeadRow wr g (dgs Nk m)
 ln : Wd.Len Nk m
 mc : m ≤ cap
 ow : wr.ownsRow Bp 134 1 vp ds.length (u64s ds)
 lt : ∀ d ∈ ds, d < 10000000000000000000
 eq : N.toNat = dvr ds Nk.toNat
 tp : Nk = 0 → ds ≠ [] ∧ 0 < ds[ds.length - 1]!
 bl : Below w.heap.size w wr
 bp : Bp ≤ wr.heap.size

theorem TextAt.step {w wr w3 w4 : World} {Bp g cap m m' z g' cap' : Nat} {N Nk : Int} {ds : List Nat} {vp : Value} {d' : Array Int}
  (h : TextAt w wr Bp g cap m N Nk ds vp) (hN : 0 < Nk) (hgB : g < Bp) (hwg : w.heap.size ≤ g) (hs : d'.size = m) (hw : ∀ j, j < m → Wd.W64 d'[j]!) (hv : Wd.vl (fun j => d'[j]!) m = Nk / 10000000000000000000)
  (e3 : w3 = ((putRow enc wr g 0 d').drewN z).alloc (.cells #[.int .u64 (Nk % 10000000000000000000)] 134))
  (ow : w4.ownsRow Bp 134 1 (.slice (some ⟨g', 0, none⟩) (ds.length + 1) cap') (ds.length + 1) (u64s ds ++ [.int .u64 (Nk % 10000000000000000000)])) (b4 : Below Bp w3 w4) (hm : m' ≤ m) (hl : Wd.Len (Nk / 10000000000000000000) m') :
  TextAt w w4 Bp g cap m' N (Nk / 10000000000000000000) (ds ++ [(Nk % 10000000000000000000).toNat]) (.slice (some ⟨g', 0, none⟩) (ds.length + 1) cap') := by
 have hsz := h.hd.lt
 have m0 : 0 ≤ Nk % 10000000000000000000 := by omega
 have h1 := head_put h.hd (d' := d') (by rw [dgs_size]; exact hs)
 have h2 : HeadRow w3 g d' := by
  rw [e3]
  refine HeadRow.below (B := (putRow enc wr g 0 d').heap.size) (w := (putRow enc wr g 0 d').drewN z) h1 ?_ (by rw [size_putRow]; exact hsz)
  exact Below.alloc (B := (putRow enc wr g 0 d').heap.size) (Below.refl _ ((putRow enc wr g 0 d').drewN z)) (Nat.le_refl (putRow enc wr g 0 d').heap.size) _
 have h4 := h2.below b4 hgB
 have b3 : Below w.heap.size w w3 := by
  rw [e3]
  refine ((h.bl.trans (below_putRow d' hwg)).trans (below_drew _ _ z)).alloc ?_ _
  show w.heap.size ≤ (putRow enc wr g 0 d').heap.size
  rw [size_putRow]; omega
 refine ⟨head_cut h4 (by rw [hs]; exact hw) (by rw [hs]; exact hv) (by omega), hl, by have := h.mc; omega, ?_, ?_, ?_, ?_, b3.trans (b4.mono (by omega)), ?_⟩
 ·rw [List.length_append, u64s_append, Int.toNat_of_nonneg m0]; exact ow
 ·intro d hd
  rcases List.mem_append.1 hd with hd | hd
  ·exact h.lt d hd
  ·rw [List.mem_singleton.1 hd]; omega
 ·rw [dvr_append, h.eq]
  congr 1
  omega
 ·intro h0
  refine ⟨by simp, ?_⟩
  rw [List.length_append, List.length_singleton, Nat.add_sub_cancel, getElem!_pos _ _ (by simp), List.getElem_append_right (by omega)]
  simp
  omega
 ·have := b4.size
  rw [e3] at this
  have e5 : (((putRow enc wr g 0 d').drewN z).alloc (.cells #[.int .u64 (Nk % 10000000000000000000)] 134)).heap.size = wr.heap.size + 1 := by
   rw [alloc_heap, Array.size_push]
   show (putRow enc wr g 0 d').heap.size + 1 = _
   rw [size_putRow]
  rw [e5] at this
  have := h.bp
  omega
end Go.Proofs.YtcelbgleajpenaaGreatDoor
/- A number's text: numbers of any length. The walk. -/
namespace Go.Proofs.YtcelbgleajpenaaGreatDoor
open Go.RowKit Go.Sort Go.Shelf Go.Dd

theorem TextAt.nat {w wr : World} {Bp g cap m : Nat} {N Nk : Int} {ds : List Nat} {vp : Value} (T : TextAt w wr Bp g cap m N Nk ds vp) (hc : cap ≤ 9223372036854775807) : NatIs wr (.slice (some ⟨g, 0, none⟩) m cap) Nk := ⟨_, _, _, rfl, T.ln, by
 have := T.hd.rowIs (c := cap) (by rw [dgs_size]; exact T.mc) hc
 rw [dgs_size] at this
 refine ⟨this.1, this.2.1, fun hp => ?_⟩
 obtain ⟨b, o, e, hlt, hcl⟩ := this.2.2 hp
 exact ⟨b, o, e, hlt, fun j hj => by rw [hcl j hj]; exact congrArg (fun x => some (Value.int .u64 x)) (dgs_get Nk m j hj)⟩⟩

theorem TextAt.row {w wr w2 w4 : World} {Bp g cap m z : Nat} {N Nk r : Int} {ds : List Nat} {vp : Value} {d' : Array Int}
  (h : TextAt w wr Bp g cap m N Nk ds vp) (hgB : g < Bp) (hs : d'.size = m) (e2 : w2 = (putRow enc wr g 0 d').drewN z) (b4 : Below Bp (w2.alloc (.cells #[.int .u64 r] 134)) w4) (hc : cap ≤ 9223372036854775807) : RowIs w4 (some ⟨g, 0, none⟩) m cap (fun j => d'[j]!) := by
 have h1 := head_put h.hd (d' := d') (by rw [dgs_size]; exact hs)
 have h2 : HeadRow (w2.alloc (.cells #[.int .u64 r] 134)) g d' := by
  rw [e2]
  refine HeadRow.below (B := (putRow enc wr g 0 d').heap.size) (w := (putRow enc wr g 0 d').drewN z) h1 ?_ (by rw [size_putRow]; exact h.hd.lt)
  exact Below.alloc (B := (putRow enc wr g 0 d').heap.size) (Below.refl _ ((putRow enc wr g 0 d').drewN z)) (Nat.le_refl (putRow enc wr g 0 d').heap.size) _
 have := (h2.below b4 hgB).rowIs (c := cap) (by rw [hs]; exact h.mc) hc
 rw [hs] at this
 exact this

theorem owns_cells {w : World} {B : Nat} {v : Value} {ds : List Nat} (h : w.ownsRow B 134 1 v ds.length (u64s ds)) (hn : 0 < ds.length) :
  ∃ g cap, v = .slice (some ⟨g, 0, none⟩) ds.length cap ∧ g < w.heap.size ∧ ds.length ≤ cap ∧ cap ≤ 9223372036854775807 ∧ ∀ w', Below w.heap.size w w' → ∀ j, j < ds.length → w'.cell? ⟨g, j, none⟩ = some (.int .u64 (ds[j]! : Nat)) := by
 obtain ⟨h1, ⟨_, h2⟩ | ⟨g, cap, cur, rfl, hb, hh, hc1, hc2, hs, ht⟩⟩ := h
 ·omega
 ·have hlt := (Array.getElem?_eq_some_iff.1 hh).1
  refine ⟨g, cap, rfl, hlt, hc1, hc2, fun w' hb' j hj => ?_⟩
  rw [hb'.cell (p := ⟨g, j, none⟩) hlt]
  simp only [World.cell?, hh]
  have : (cur.toList.take (ds.length * 1))[j]? = (u64s ds)[j]? := by rw [ht]
  rw [List.getElem?_take_of_lt (by omega)] at this
  rw [getElem!_pos ds j hj]
  simp [u64s, hj] at this
  simpa using this

theorem builder_below {B b : Nat} {bs : List Value} {w w' : World} (h : Lib.BuilderAt 170 5 B b (.pointer (some ⟨b, 0, none⟩)) bs w) (hb : Below w.heap.size w w') : Lib.BuilderAt 170 5 B b (.pointer (some ⟨b, 0, none⟩)) bs w' := by
 obtain ⟨h1, v, h2, ⟨h3, h4⟩, h5⟩ := h
 refine ⟨h1, v, ?_, ⟨h3, ?_⟩, h5⟩
 ·rw [hb.block b (Array.getElem?_eq_some_iff.1 h2).1]; exact h2
 ·rcases h4 with h4 | ⟨g, cap, cur, e, hg, hh, r⟩
  ·exact Or.inl h4
  ·exact Or.inr ⟨g, cap, cur, e, hg, by rw [hb.block g (Array.getElem?_eq_some_iff.1 hh).1]; exact hh, r⟩

set_option maxHeartbeats 4000000 in
set_option maxRecDepth 100000 in
theorem text_long (a : Option Addr) (n c : Nat) (N : Int) (w : World) (hl : Wd.Len N n) (hr : RowIs w a n c (Wd.dig N)) (hp : 0 < N) (hS : Sm N) (htab : Tab w) :
  Calls Tryz.prog 93 #[.slice a n c] w fun e w' => e = .returned (.string ⟨(Lib.decDigits N.toNat).toArray⟩) ∧ Below w.heap.size w w' := by
 have hn0 : 0 < n := by
  rcases Nat.eq_zero_or_pos n with h | h
  ·subst h; have := hl.zero; omega
  ·exact h
 have hnK := hS.len hl
 have HC := hide (clone_nat a n c N w hl hr hn0 hS)
 have HT := hide htab
 have HL := hide hl
 obtain ⟨ti, hi, hz0, hz1, hz2⟩ := info_parts Tryz.info54
 have HI := hide hi
 have HZ := hide hz0
 have hcc := hr.2.1
 have hnc := hr.1
 have HKN : Hid (∀ ds : List Nat, N.toNat = dvr ds 0 → 0 < ds[ds.length - 1]! → 0 < ds.length → ds.length ≤ 2199023255552) := by
  intro ds h1 h2 h3
  obtain ⟨es, r, rfl⟩ : ∃ es r, ds = es ++ [r] := ⟨ds.dropLast, ds.getLast (List.length_pos_iff.1 h3), (List.dropLast_concat_getLast _).symm⟩
  rw [dvr_append] at h1
  have hr0 : 0 < r := by
   rw [List.length_append, List.length_singleton, Nat.add_sub_cancel, getElem!_pos _ _ (by simp), List.getElem_append_right (by omega)] at h2
   simpa using h2
  have := chunk_count hl.2.1 h1 (by omega)
  rw [List.length_append, List.length_singleton]
  omega
 clear htab hl hr hS hi hz0
 obtain ⟨numOf, numEq⟩ := exists_numOf
 have NUM := hide numEq
 clear numEq
 go_enter Tryz.func93, Tryz.ntmps93
 go_wp2_with fail
 refine (unhide HC).mono ?_
 rintro e w1 ⟨g, cap, rfl, hh1, hg1, hq1, hq1', hb1⟩
 have hgB := hh1.lt
 have T0 : TextAt w w1 w1.heap.size g cap n N N [] (.slice none 0 0) := ⟨hh1, unhide HL, hq1, owns_nil w1 w1.heap.size, fun d hd => (by cases hd), rfl, fun h => (by omega), hb1, Nat.le_refl _⟩
 have HT0 := hide T0
 clear T0 hh1 hb1 HC
 go_wp2_with fail
 go_loopw [3, 4] (fun vp vl wr => ∃ (m : Nat) (Nk : Int) (ds : List Nat) (a1 : Option Addr) (n1 c1 : Nat), vp = .slice a1 n1 c1 ∧ vl = .slice (some ⟨g, 0, none⟩) m cap ∧ TextAt w wr w1.heap.size g cap m N Nk ds (.slice a1 n1 c1)) (fun _ vl wr => numOf wr vl)
 case atStart => exact ⟨n, N, [], _, _, _, rfl, rfl, unhide HT0⟩
 case round =>
  obtain ⟨m, Nk, ds, a1, n1, c1, rfl, rfl, T⟩ := hrel
  have HTT := hide T
  by_cases hm : m = 0
  ·subst hm
   obtain ⟨wq, rfl⟩ : ∃ W : World, W = wr := ⟨_, rfl⟩
   have hNk : Nk = 0 := T.ln.zero
   subst hNk
   obtain ⟨hdn, hdl⟩ := T.tp rfl
   have hk0 : 0 < ds.length := List.length_pos_iff.2 hdn
   have hNeq : N.toNat = dvr ds 0 := T.eq
   have hkn : ds.length ≤ 2199023255552 := unhide HKN ds hNeq hdl hk0
   obtain ⟨gp, cp, epv, hgp, hcp, hcp', HPC⟩ := owns_cells T.ow hk0
   injection epv with e1 e2 e3
   subst e1; subst e2; subst e3
   have hbl := T.bl
   have hlt := T.lt
   have hds : ∀ j, j < ds.length → ds[j]! < 10000000000000000000 := fun j hj => by rw [getElem!_pos ds j hj]; exact hlt _ (List.getElem_mem hj)
   have hTab : Tab wq := tab_below (unhide HT) hbl
   have hal : RowKit.Below wq.heap.size wq (wq.alloc (.cells #[.pointer none, .slice none 0 0] 170)) := alloc_below _ _
   have hc1 := HPC _ hal (ds.length - 1) (by omega)
   have hF := fmtUint_any ds[ds.length - 1]! (by have := hds (ds.length - 1) (by omega); omega) (wq.alloc (.cells #[.pointer none, .slice none 0 0] 170)) (tab_below hTab hal)
   have hsz : (wq.alloc (.cells #[.pointer none, .slice none 0 0] 170)).heap.size = wq.heap.size + 1 := by simp
   rw [hsz] at hF
   obtain ⟨tp, htp⟩ : ∃ t, ds[ds.length - 1]! = t := ⟨_, rfl⟩
   rw [htp] at hF hc1
   have hdt : dvr (ds.drop (ds.length - 1)) 0 = tp := by
    rw [dvr_drop (by omega), htp, show ds.length - 1 + 1 = ds.length by omega, List.drop_length]; rfl
   have HDT := hide hdt
   have tpl := dec_len19 (show tp < 10000000000000000000 by rw [← htp]; exact hds _ (by omega))
   have HF := hide hF
   have HPCC := hide HPC
   have HDS := hide hds
   have HBL := hide hbl
   have HTB := hide hTab
   have HNE := hide hNeq
   have HDL := hide hdl
   have i1 : ((ds.length : Int) - 1).toNat = ds.length - 1 := by omega
   have kz : ((ds.length : Int) == 0) = false := by rw [beq_eq_false_iff_ne]; omega
   clear T HTT HT0 hF HPC hds hbl hTab hNeq hlt hal hsz hdl htp hdt
   go_wp2_with fail
   refine (unhide HF).mono ?_
   rintro e w4 ⟨rfl, hb4⟩
   have hbu := fresh_builder (w := wq) (Below.refl _ _) hb4
   have hb04 : RowKit.Below wq.heap.size wq w4 := (alloc_below wq (.cells #[.pointer none, .slice none 0 0] 170)).trans (hb4.mono (Nat.le_succ _))
   have HWS := hide (writeString_any wq.heap.size wq.heap.size [] ⟨(Lib.decDigits tp).toArray⟩ w4 hbu (by show 0 + (Lib.decDigits tp).toArray.size ≤ _; simp; omega) hb04.size)
   have HB04 := hide hb04
   clear hbu hb04 hb4 HF hc1
   go_wp2_with fail
   refine (unhide HWS).mono ?_
   rintro e w5 ⟨rfl, hbu5, hb5⟩
   rw [List.nil_append, Lib.strCells_toArray, ← unhide HDT] at hbu5
   have HB05 := hide ((unhide HB04).trans hb5)
   have HBU5 := hide hbu5
   have HLN := hide (show (Lib.decDigits (dvr (ds.drop (ds.length - 1)) 0)).length ≤ 19 * (ds.length - (ds.length - 1)) by rw [unhide HDT, show ds.length - (ds.length - 1) = 1 by omega]; omega)
   clear hbu5 hb5 HWS HB04
   go_wp2_with fail
   go_loopw [6] (fun vi w6 => ∃ mm : Nat, vi = .int .i64 ((mm : Int) - 1) ∧ mm ≤ ds.length - 1 ∧ Lib.BuilderAt 170 5 wq.heap.size wq.heap.size (.pointer (some ⟨wq.heap.size, 0, none⟩)) (Lib.byteCells (Lib.decDigits (dvr (ds.drop mm) 0))) w6 ∧ (Lib.decDigits (dvr (ds.drop mm) 0)).length ≤ 19 * (ds.length - mm) ∧ RowKit.Below wq.heap.size wq w6) (fun vi _ => (intOf vi + 1).toNat)
   case atStart => exact ⟨ds.length - 1, by congr 1; omega, Nat.le_refl _, unhide HBU5, unhide HLN, unhide HB05⟩
   case round =>
    obtain ⟨mm, rfl, hmm, BU, ln, b6⟩ := hrel
    by_cases hm0 : mm = 0
    ·subst hm0
     rw [List.drop_zero, ← unhide HNE] at BU
     have HST := hide (Tryz.Builder_String wq.heap.size wq.heap.size (Lib.decDigits N.toNat) _ (Or.inr BU) (dec_ne _))
     have HB6 := hide b6
     clear BU ln b6
     go_wp2_with fail
     refine (unhide HST).mono ?_
     rintro e w7 ⟨rfl, hb7⟩
     go_wp2
     go_ret
     exact ⟨rfl, (unhide HBL).trans (((unhide HB6).trans hb7).mono (unhide HBL).size)⟩
    ·obtain ⟨i, rfl⟩ : ∃ i, mm = i + 1 := ⟨mm - 1, by omega⟩
     have en : ((i + 1 : Nat) : Int) - 1 = (i : Int) := by omega
     obtain ⟨d, hd⟩ : ∃ d, ds[i]! = d := ⟨_, rfl⟩
     have hdl := unhide HDS i (by omega)
     rw [hd] at hdl
     have hci := unhide HPCC _ b6 i (by omega)
     rw [hd] at hci
     have hF := fmtUint_any d (by omega) _ (tab_below (unhide HTB) b6)
     have hH := dvr_pos (m := i + 1) (unhide HDL) (by omega)
     have hch := dec_chunk (dvr (ds.drop (i + 1)) 0) d hH hdl
     have hdr : dvr (ds.drop i) 0 = d + 10000000000000000000 * dvr (ds.drop (i + 1)) 0 := by rw [dvr_drop (by omega), hd]
     rw [← hdr] at hch
     have dl := dec_len19 hdl
     have HF := hide hF
     have HBU := hide BU
     have HLN := hide ln
     have HB6 := hide b6
     have HCH := hide hch
     have hi0 : (0 : Int) ≤ (i : Int) := by omega
     have hi1 : (i : Int) < (ds.length : Int) := by omega
     rw [en]
     clear hF BU ln b6 hch hdr hH en hd hm0
     go_wp2_with fail
     refine (unhide HF).mono ?_
     rintro e w7 ⟨rfl, hb7⟩
     have HBU7 := hide (builder_below (unhide HBU) hb7)
     have HB7 := hide (below_on (unhide HB6) hb7)
     have hlc : (((⟨(Lib.decDigits d).toArray⟩ : ByteArray).size : Nat) : Int) = ((Lib.decDigits d).length : Int) := by simp [ByteArray.size]
     clear hb7 HF HBU HB6 hci
     go_wp2_with fail
     have ec : (19 : Int) - ((Lib.decDigits d).length : Int) = ((19 - (Lib.decDigits d).length : Nat) : Int) := by omega
     rw [ec]
     refine (Tryz.strings_Repeat ⟨#[48]⟩ (19 - (Lib.decDigits d).length) w7 (by omega) (by show 1 * _ ≤ _; omega)).mono ?_
     rintro e w8 ⟨rfl, hb8⟩
     have hrl : (Lib.repeatL (⟨#[48]⟩ : ByteArray).data.toList (19 - (Lib.decDigits d).length)) = List.replicate (19 - (Lib.decDigits d).length) 48 := repeat48 _
     rw [hrl]
     have ln := unhide HLN
     have HWS := hide (writeString_any wq.heap.size wq.heap.size _ ⟨(List.replicate (19 - (Lib.decDigits d).length) (48 : UInt8)).toArray⟩ w8 (Or.inr (builder_below (unhide HBU7) hb8)) (by rw [Lib.byteCells_length]; show _ + (List.replicate (19 - (Lib.decDigits d).length) (48 : UInt8)).toArray.size ≤ _; simp; omega) (Nat.le_trans (unhide HB7).size hb8.size))
     have HB8 := hide (below_on (unhide HB7) hb8)
     clear hb8 HBU7 HB7 ln hrl ec
     go_wp2_with fail
     refine (unhide HWS).mono ?_
     rintro e w9 ⟨rfl, hbu9, hb9⟩
     rw [Lib.strCells_toArray, ← Lib.byteCells_append] at hbu9
     have ln := unhide HLN
     have HWS2 := hide (writeString_any wq.heap.size wq.heap.size _ ⟨(Lib.decDigits d).toArray⟩ w9 (Or.inr hbu9) (by rw [Lib.byteCells_length, List.length_append, List.length_replicate]; show _ + (Lib.decDigits d).toArray.size ≤ _; simp; omega) (Nat.le_trans (unhide HB8).size hb9.size))
     have HB9 := hide ((unhide HB8).trans hb9)
     clear hb9 hbu9 HB8 HWS ln
     go_wp2_with fail
     refine (unhide HWS2).mono ?_
     rintro e w10 ⟨rfl, hbu10, hb10⟩
     rw [Lib.strCells_toArray, ← Lib.byteCells_append, List.append_assoc] at hbu10
     have hpad : Lib.decDigits (dvr (ds.drop (i + 1)) 0) ++ (List.replicate (19 - (Lib.decDigits d).length) 48 ++ Lib.decDigits d) = Lib.decDigits (dvr (ds.drop i) 0) := (unhide HCH).symm
     rw [hpad] at hbu10
     have hln : (Lib.decDigits (dvr (ds.drop i) 0)).length ≤ 19 * (ds.length - i) := by
      rw [← hpad, List.length_append, List.length_append, List.length_replicate]
      have := unhide HLN
      omega
     have HBU10 := hide hbu10
     have HLN10 := hide hln
     have HB10 := hide ((unhide HB9).trans hb10)
     clear hbu10 hln hb10 HB9 HWS2 hpad HLN HCH
     go_wp2_with fail
     exact ⟨⟨i, rfl, by omega, unhide HBU10, unhide HLN10, unhide HB10⟩, by simp [intOf]⟩
  ·have hNk : 0 < Nk := Wd.Len.pos T.ln (by omega)
   have hcnt := chunk_count (unhide HL).2.1 T.eq (show 0 < Nk.toNat by omega)
   have hbp := T.bp
   have hmc := T.mc
   have MS := unhide NUM _ _ _ (T.nat hq1')
   have HMS := hide MS
   have hdv := divideInto_any g 0 cap (dgs Nk m) m 10000000000000000000 wr (dgs_size Nk m) T.hd.holds (dgs_w Nk m) (by omega) (by decide) (by decide)
   rw [dgs_vl, Wd.vl_dig_all T.ln.1 T.ln.2.1] at hdv
   have HDV := hide hdv
   clear T hdv MS HT0
   go_wp2_with fail
   refine (unhide HDV).mono ?_
   rintro e w2 ⟨rfl, d', z, hds, hw2, hdw, hdv⟩
   obtain ⟨r, hr⟩ : ∃ r, Nk % 10000000000000000000 = r := ⟨_, rfl⟩
   have hw2s : w2.heap.size = wr.heap.size := by rw [hw2]; show (putRow enc wr g 0 d').heap.size = _; rw [size_putRow]
   have hown3 : (w2.alloc (.cells #[.int .u64 r] 134)).ownsRow w1.heap.size 134 1 (.slice a1 n1 c1) ds.length (u64s ds) := by
    refine owns_kept (unhide HTT).ow (fun k o hk ho => ?_)
    have hkl := (Array.getElem?_eq_some_iff.1 ho).1
    rw [alloc_heap, Array.getElem?_push, if_neg (by omega), hw2]
    show (putRow enc wr g 0 d').heap[k]? = _
    simp only [putRow, mapBlock, Array.getElem?_modify]
    rw [if_neg (by omega)]
    exact ho
   have HO3 := hide hown3
   have HW2 := hide hw2
   have HDW := hide hdw
   have HDVV := hide hdv
   have HR := hide hr
   rw [hr]
   have hlen8 : (ds.length + 1) * 8 ≤ 140737488355328 := by omega
   have hlen63 : ds.length + 1 ≤ maxLen := by unfold maxLen; omega
   have hbase3 : w1.heap.size ≤ (w2.alloc (.cells #[.int .u64 r] 134)).heap.size := by rw [alloc_heap, Array.size_push]; omega
   have HB3 := hide hbase3
   clear hown3 hdw hdv HDV hr hw2 hbase3 hw2s
   go_wp2_with (at_builtin; go_loud (refine wpList_append_lies _ rfl _ _ _ rfl w1.heap.size 134 ti (.int .u64 0) 1 8 Tryz.underlying34 (unhide HI) (unhide HZ) hz1 hz2 rfl (by omega) _ ds.length (u64s ds) rfl (unhide HO3) ⟨w2.heap.size, 0, none⟩ 1 1 [.int .u64 r] rfl rfl (news_one r) (fun u hu => by rw [List.mem_singleton.1 hu]; rfl) (by decide) hlen63 hlen8 (unhide HB3) (w2.heap.size + 1) (by simp) ?_; intro g4 cap4 w4 hown4 hgrow hat hlt4))
   have b4 : RowKit.Below w1.heap.size (w2.alloc (.cells #[.int .u64 r] 134)) w4 := Below.grown (Below.refl _ _) hgrow (unhide HB3) (owns_block (unhide HO3))
   have HRW := hide ((unhide HTT).row hgB hds (unhide HW2) b4 hq1')
   have HO4 := hide hown4
   have HB4 := hide b4
   clear hown4 hgrow hat b4 hlt4
   go_wp2_with fail
   refine (trimmed_any _ _ _ _ _ (unhide HRW) (unhide HDW)).mono ?_
   rintro e w5 ⟨m', rfl, hm', hlm', hw5⟩
   obtain rfl := hw5.symm
   rw [unhide HDVV] at hlm'
   have T4 : TextAt w w4 w1.heap.size g cap m' N (Nk / 10000000000000000000) (ds ++ [r.toNat]) (.slice (some ⟨g4, 0, none⟩) (ds.length + 1) cap4) := by
    have := unhide HR
    subst this
    exact (unhide HTT).step (w3 := w2.alloc (.cells #[.int .u64 (Nk % 10000000000000000000)] 134)) (z := z) hNk hgB hg1 hds (unhide HDW) (unhide HDVV) (by rw [unhide HW2]) (unhide HO4) (unhide HB4) hm' hlm'
   have HT4 := hide T4
   have HM4 := hide (unhide NUM _ _ _ (T4.nat hq1'))
   clear T4 hlm' HO4 HB4 HRW HO3 HDW HDVV HW2
   go_wp2_with fail
   refine ⟨⟨m', _, _, _, _, _, rfl, rfl, unhide HT4⟩, ?_⟩
   rw [unhide HM4, unhide HMS]
   omega

theorem text_any (v : Value) (N : Int) (w : World) (h : NatIs w v N) (hS : Sm N) (htab : Tab w) :
  Calls Tryz.prog 93 #[v] w fun e w' => e = .returned (.string ⟨(Lib.decDigits N.toNat).toArray⟩) ∧ Below w.heap.size w w' := by
 rcases Int.lt_or_le 0 N with h0 | h0
 ·obtain ⟨a, n, c, rfl, hl, hr⟩ := h
  exact text_long a n c N w hl hr h0 hS htab
 ·exact text_small v N w h (by omega) htab
end Go.Proofs.YtcelbgleajpenaaGreatDoor
