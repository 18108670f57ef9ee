/- Decimal digits by nineteen at a time: plain mathematics. -/
import Derived.Test.YtfnbjenneodcdaaA9
import Derived.Lib.Repeat
import Derived.Test.YtfnbjenneodcdaaA11
import Derived.Test.YtfnbjenneodcdaaA10
namespace Go.Dd

/-- The digits of r with noughts ahead, k in all. -/
def pad (k r : Nat) : List UInt8 := List.replicate (k - (Lib.decDigits r).length) 48 ++ Lib.decDigits r

theorem dec_lt {r : Nat} (h : r < 10) : Lib.decDigits r = [UInt8.ofNat (48 + r)] := by
  unfold Lib.decDigits; rw [dif_pos h]
theorem dec_ge {r : Nat} (h : ¬ r < 10) : Lib.decDigits r = Lib.decDigits (r / 10) ++ [UInt8.ofNat (48 + r % 10)] := by
  conv => lhs; unfold Lib.decDigits
  rw [dif_neg h]

theorem pad_succ (k r : Nat) (hk : 1 ≤ k) : pad (k + 1) r = pad k (r / 10) ++ [UInt8.ofNat (48 + r % 10)] := by
  unfold pad
  by_cases h : r < 10
  · have h0 : r / 10 = 0 := by omega
    have h1 : r % 10 = r := by omega
    rw [h0, h1, dec_lt h, dec_lt (by decide : (0 : Nat) < 10)]
    show List.replicate (k + 1 - 1) 48 ++ _ = List.replicate (k - 1) 48 ++ [UInt8.ofNat (48 + 0)] ++ _
    rw [show UInt8.ofNat (48 + 0) = (48 : UInt8) from rfl, ← List.replicate_succ', Nat.sub_add_cancel hk]
    rfl
  · rw [dec_ge h]
    rw [← List.append_assoc]
    congr 2
    simp

theorem dec_join (k : Nat) (hk : 1 ≤ k) : ∀ (H r : Nat), 0 < H → r < 10 ^ k → Lib.decDigits (H * 10 ^ k + r) = Lib.decDigits H ++ pad k r := by
  induction k with
  | zero => omega
  | succ k ih =>
    intro H r hH hr
    rcases Nat.eq_zero_or_pos k with h0 | h0
    · subst h0
      rw [Nat.zero_add, Nat.pow_one] at hr ⊢
      rw [dec_ge (by omega)]
      have e1 : (H * 10 + r) / 10 = H := by omega
      have e2 : (H * 10 + r) % 10 = r := by omega
      rw [e1, e2]
      unfold pad
      rw [dec_lt hr]
      rfl
    · have hp : 0 < 10 ^ k := Nat.pow_pos (by decide)
      rw [Nat.pow_succ] at hr ⊢
      have hHp : 10 ^ k ≤ H * 10 ^ k := Nat.le_mul_of_pos_left _ hH
      have e0 : H * (10 ^ k * 10) = H * 10 ^ k * 10 := by rw [Nat.mul_assoc]
      rw [e0, dec_ge (by omega)]
      have e1 : (H * 10 ^ k * 10 + r) / 10 = H * 10 ^ k + r / 10 := by omega
      have e2 : (H * 10 ^ k * 10 + r) % 10 = r % 10 := by omega
      rw [e1, e2, ih h0 H (r / 10) hH (by omega), pad_succ k r h0, List.append_assoc]

/-- A number by chunks of nineteen digits, the least first, and what is above them. -/
def dvr : List Nat → Nat → Nat
  | [], x => x
  | d :: ds, x => d + 10000000000000000000 * dvr ds x
theorem dvr_append (ds : List Nat) (r x : Nat) : dvr (ds ++ [r]) x = dvr ds (r + 10000000000000000000 * x) := by
  induction ds with
  | nil => rfl
  | cons d ds ih => simp only [List.cons_append, dvr, ih]
theorem dvr_drop {ds : List Nat} {m : Nat} (h : m < ds.length) : dvr (ds.drop m) 0 = ds[m]! + 10000000000000000000 * dvr (ds.drop (m + 1)) 0 := by
  rw [List.drop_eq_getElem_cons h]
  simp only [dvr]
  rw [getElem!_pos ds m h]
theorem dvr_pos {ds : List Nat} (hl : 0 < ds[ds.length - 1]!) {m : Nat} (h : m < ds.length) : 0 < dvr (ds.drop m) 0 := by
  obtain ⟨k, hk⟩ : ∃ k, ds.length - 1 = m + k := ⟨ds.length - 1 - m, by omega⟩
  induction k generalizing m with
  | zero =>
    rw [dvr_drop h]
    rw [hk, Nat.add_zero] at hl
    omega
  | succ k ih =>
    have := ih (m := m + 1) (by omega) (by omega)
    rw [dvr_drop h]
    omega

/-- One chunk more. -/
theorem dec_chunk (H r : Nat) (hH : 0 < H) (hr : r < 10000000000000000000) : Lib.decDigits (r + 10000000000000000000 * H) = Lib.decDigits H ++ pad 19 r := by
  have := dec_join 19 (by decide) H r hH hr
  rw [← this]
  congr 1
  show r + 10000000000000000000 * H = H * 10000000000000000000 + r
  omega
theorem dec_len_le (k : Nat) : ∀ r, r < 10 ^ (k + 1) → (Lib.decDigits r).length ≤ k + 1 := by
  induction k with
  | zero => intro r hr; rw [dec_lt (by simpa using hr)]; simp
  | succ k ih =>
    intro r hr
    by_cases h : r < 10
    · rw [dec_lt h]; simp
    · rw [dec_ge h, List.length_append]
      have := ih (r / 10) (by rw [Nat.pow_succ] at hr; omega)
      simp
      omega
theorem dec_len19 {r : Nat} (hr : r < 10000000000000000000) : (Lib.decDigits r).length ≤ 19 := dec_len_le 18 r hr
theorem repeat48 (k : Nat) : Lib.repeatL [48] k = List.replicate k 48 := by
  induction k with
  | zero => rfl
  | succ k ih => simp only [Lib.repeatL, ih]; rfl
end Go.Dd
/- A number's text: numbers of any length. The first part: chunks of nineteen digits. -/
namespace Go.Proofs.Ytfnbjenneodcdaa
open Go.RowKit Go.Sort Go.Shelf Go.Dd

theorem head_put {w : World} {g : Nat} {d d' : Array Int} (h : HeadRow w g d) (hs : d'.size = d.size) : HeadRow (putRow enc w g 0 d') g d' := by
  obtain ⟨cur, h, hc⟩ := h
  refine ⟨putCells enc 0 d' cur, ?_, fun j hj => ?_⟩
  · simp only [putRow, mapBlock, Array.getElem?_modify, h, if_true, Option.map_some, onCells]
  · have hj' := hc j (by omega)
    simp only [putCells, Array.getElem?_mapIdx, hj', Option.map_some]
    rw [if_pos (by omega), Nat.sub_zero]

theorem head_cut {w : World} {g m : Nat} {d : Array Int} {N : Int} (h : HeadRow w g d) (hw : ∀ j, j < d.size → Wd.W64 d[j]!) (hv : Wd.vl (fun j => d[j]!) d.size = N) (hm : m ≤ d.size) : HeadRow w g (dgs N m) := by
  obtain ⟨cur, h, hc⟩ := h
  refine ⟨cur, h, fun j hj => ?_⟩
  rw [dgs_size] at hj
  rw [hc j (by omega), dgs_get N m j hj, ← hv, Wd.dig_vl hw (by omega)]

def u64s (ds : List Nat) : List Value := ds.map (fun (d : Nat) => Value.int .u64 (d : Int))
theorem u64s_length (ds : List Nat) : (u64s ds).length = ds.length := by simp [u64s]
theorem u64s_append (ds : List Nat) (r : Nat) : u64s (ds ++ [r]) = u64s ds ++ [.int .u64 (r : Int)] := by simp [u64s]

theorem owns_kept {w w' : World} {B : Nat} {v : Value} {n : Nat} {xs : List Value} (h : w.ownsRow B 60 1 v n xs) (hk : ∀ k o, B ≤ k → w.heap[k]? = some o → w'.heap[k]? = some o) : w'.ownsRow B 60 1 v n xs := by
  obtain ⟨h1, h2 | ⟨g, cap, cur, e, hb, hh, r⟩⟩ := h
  · exact ⟨h1, Or.inl h2⟩
  · exact ⟨h1, Or.inr ⟨g, cap, cur, e, hb, hk g _ hb hh, r⟩⟩

theorem owns_block {w : World} {B : Nat} {v : Value} {n : Nat} {xs : List Value} (h : w.ownsRow B 60 1 v n xs) : ∀ k, v.ownBlock = some k → B ≤ k := by
  obtain ⟨_, ⟨rfl, _⟩ | ⟨g, cap, cur, rfl, hb, _⟩⟩ := h
  · intro k hk; cases hk
  · intro k hk
    have : g = k := Option.some.inj hk
    omega

theorem pow_chunk (ds : List Nat) (x : Nat) : 10000000000000000000 ^ ds.length * x ≤ dvr ds x := by
  induction ds with
  | nil => simp [dvr]
  | cons d ds ih =>
    simp only [dvr, List.length_cons, Nat.pow_succ]
    have : 10000000000000000000 ^ ds.length * 10000000000000000000 * x = 10000000000000000000 * (10000000000000000000 ^ ds.length * x) := by
      rw [Nat.mul_right_comm, Nat.mul_comm]
    rw [this]
    have := Nat.mul_le_mul_left 10000000000000000000 ih
    omega

theorem pw_chunk (n : Nat) : Wd.pw n ≤ ((10000000000000000000 ^ (2 * n) : Nat) : Int) := by
  induction n with
  | zero => decide
  | succ n ih =>
    rw [Wd.pw_succ, show 2 * (n + 1) = 2 * n + 1 + 1 by omega, Nat.pow_succ, Nat.pow_succ, Int.natCast_mul, Int.natCast_mul]
    have hp := Wd.pw_pos n
    generalize ((10000000000000000000 ^ (2 * n) : Nat) : Int) = X at *
    omega

theorem chunk_count {N : Int} {n : Nat} {ds : List Nat} {x : Nat} (hN : N < Wd.pw n) (h : N.toNat = dvr ds x) (hx : 0 < x) : ds.length < 2 * n := by
  rcases Nat.lt_or_ge ds.length (2 * n) with h1 | h1
  · exact h1
  · exfalso
    have a := pow_chunk ds x
    have b : 10000000000000000000 ^ (2 * n) ≤ 10000000000000000000 ^ ds.length := Nat.pow_le_pow_right (by decide) h1
    have c : 10000000000000000000 ^ ds.length * 1 ≤ 10000000000000000000 ^ ds.length * x := Nat.mul_le_mul_left _ hx
    have d := Int.lt_of_lt_of_le hN (pw_chunk n)
    have hX : 0 < 10000000000000000000 ^ (2 * n) := Nat.pow_pos (by decide)
    generalize 10000000000000000000 ^ (2 * n) = X at *
    omega

/-- What the loop that divides by 10^19 keeps. -/
structure TextAt (w wr : World) (Bp g cap m : Nat) (N Nk : Int) (ds : List Nat) (vp : Value) : Prop where
  hd : HeadRow wr g (dgs Nk m)
  ln : Wd.Len Nk m
  mc : m ≤ cap
  ow : wr.ownsRow Bp 60 1 vp ds.length (u64s ds)
  lt : ∀ d ∈ ds, d < 10000000000000000000
  eq : N.toNat = dvr ds Nk.toNat
  tp : Nk = 0 → ds ≠ [] ∧ 0 < ds[ds.length - 1]!
  bl : Below w.heap.size w wr
  bp : Bp ≤ wr.heap.size

theorem TextAt.step {w wr w3 w4 : World} {Bp g cap m m' z g' cap' : Nat} {N Nk : Int} {ds : List Nat} {vp : Value} {d' : Array Int}
    (h : TextAt w wr Bp g cap m N Nk ds vp) (hN : 0 < Nk) (hgB : g < Bp) (hwg : w.heap.size ≤ g) (hs : d'.size = m) (hw : ∀ j, j < m → Wd.W64 d'[j]!) (hv : Wd.vl (fun j => d'[j]!) m = Nk / 10000000000000000000)
    (e3 : w3 = ((putRow enc wr g 0 d').drewN z).alloc (.cells #[.int .u64 (Nk % 10000000000000000000)] 60))
    (ow : w4.ownsRow Bp 60 1 (.slice (some ⟨g', 0, none⟩) (ds.length + 1) cap') (ds.length + 1) (u64s ds ++ [.int .u64 (Nk % 10000000000000000000)])) (b4 : Below Bp w3 w4) (hm : m' ≤ m) (hl : Wd.Len (Nk / 10000000000000000000) m') :
    TextAt w w4 Bp g cap m' N (Nk / 10000000000000000000) (ds ++ [(Nk % 10000000000000000000).toNat]) (.slice (some ⟨g', 0, none⟩) (ds.length + 1) cap') := by
  have hsz := h.hd.lt
  have m0 : 0 ≤ Nk % 10000000000000000000 := by omega
  have h1 := head_put h.hd (d' := d') (by rw [dgs_size]; exact hs)
  have h2 : HeadRow w3 g d' := by
    rw [e3]
    refine HeadRow.below (B := (putRow enc wr g 0 d').heap.size) (w := (putRow enc wr g 0 d').drewN z) h1 ?_ (by rw [size_putRow]; exact hsz)
    exact Below.alloc (B := (putRow enc wr g 0 d').heap.size) (Below.refl _ ((putRow enc wr g 0 d').drewN z)) (Nat.le_refl (putRow enc wr g 0 d').heap.size) _
  have h4 := h2.below b4 hgB
  have b3 : Below w.heap.size w w3 := by
    rw [e3]
    refine ((h.bl.trans (below_putRow d' hwg)).trans (below_drew _ _ z)).alloc ?_ _
    show w.heap.size ≤ (putRow enc wr g 0 d').heap.size
    rw [size_putRow]; omega
  refine ⟨head_cut h4 (by rw [hs]; exact hw) (by rw [hs]; exact hv) (by omega), hl, by have := h.mc; omega, ?_, ?_, ?_, ?_, b3.trans (b4.mono (by omega)), ?_⟩
  · rw [List.length_append, u64s_append, Int.toNat_of_nonneg m0]; exact ow
  · intro d hd
    rcases List.mem_append.1 hd with hd | hd
    · exact h.lt d hd
    · rw [List.mem_singleton.1 hd]; omega
  · rw [dvr_append, h.eq]
    congr 1
    omega
  · intro h0
    refine ⟨by simp, ?_⟩
    rw [List.length_append, List.length_singleton, Nat.add_sub_cancel, getElem!_pos _ _ (by simp), List.getElem_append_right (by omega)]
    simp
    omega
  · have := b4.size
    rw [e3] at this
    have e5 : (((putRow enc wr g 0 d').drewN z).alloc (.cells #[.int .u64 (Nk % 10000000000000000000)] 60)).heap.size = wr.heap.size + 1 := by
      rw [alloc_heap, Array.size_push]
      show (putRow enc wr g 0 d').heap.size + 1 = _
      rw [size_putRow]
    rw [e5] at this
    have := h.bp
    omega
end Go.Proofs.Ytfnbjenneodcdaa
/- A number's text: numbers of any length. The walk. -/
namespace Go.Proofs.Ytfnbjenneodcdaa
open Go.RowKit Go.Sort Go.Shelf Go.Dd

theorem TextAt.nat {w wr : World} {Bp g cap m : Nat} {N Nk : Int} {ds : List Nat} {vp : Value} (T : TextAt w wr Bp g cap m N Nk ds vp) (hc : cap ≤ 9223372036854775807) : NatIs wr (.slice (some ⟨g, 0, none⟩) m cap) Nk := ⟨_, _, _, rfl, T.ln, by
  have := T.hd.rowIs (c := cap) (by rw [dgs_size]; exact T.mc) hc
  rw [dgs_size] at this
  refine ⟨this.1, this.2.1, fun hp => ?_⟩
  obtain ⟨b, o, e, hlt, hcl⟩ := this.2.2 hp
  exact ⟨b, o, e, hlt, fun j hj => by rw [hcl j hj]; exact congrArg (fun x => some (Value.int .u64 x)) (dgs_get Nk m j hj)⟩⟩

theorem TextAt.row {w wr w2 w4 : World} {Bp g cap m z : Nat} {N Nk r : Int} {ds : List Nat} {vp : Value} {d' : Array Int}
    (h : TextAt w wr Bp g cap m N Nk ds vp) (hgB : g < Bp) (hs : d'.size = m) (e2 : w2 = (putRow enc wr g 0 d').drewN z) (b4 : Below Bp (w2.alloc (.cells #[.int .u64 r] 60)) w4) (hc : cap ≤ 9223372036854775807) : RowIs w4 (some ⟨g, 0, none⟩) m cap (fun j => d'[j]!) := by
  have h1 := head_put h.hd (d' := d') (by rw [dgs_size]; exact hs)
  have h2 : HeadRow (w2.alloc (.cells #[.int .u64 r] 60)) g d' := by
    rw [e2]
    refine HeadRow.below (B := (putRow enc wr g 0 d').heap.size) (w := (putRow enc wr g 0 d').drewN z) h1 ?_ (by rw [size_putRow]; exact h.hd.lt)
    exact Below.alloc (B := (putRow enc wr g 0 d').heap.size) (Below.refl _ ((putRow enc wr g 0 d').drewN z)) (Nat.le_refl (putRow enc wr g 0 d').heap.size) _
  have := (h2.below b4 hgB).rowIs (c := cap) (by rw [hs]; exact h.mc) hc
  rw [hs] at this
  exact this

/-- The chunks, in whatever world has the blocks that are there now. -/
theorem owns_cells {w : World} {B : Nat} {v : Value} {ds : List Nat} (h : w.ownsRow B 60 1 v ds.length (u64s ds)) (hn : 0 < ds.length) :
    ∃ g cap, v = .slice (some ⟨g, 0, none⟩) ds.length cap ∧ g < w.heap.size ∧ ds.length ≤ cap ∧ cap ≤ 9223372036854775807 ∧ ∀ w', Below w.heap.size w w' → ∀ j, j < ds.length → w'.cell? ⟨g, j, none⟩ = some (.int .u64 (ds[j]! : Nat)) := by
  obtain ⟨h1, ⟨_, h2⟩ | ⟨g, cap, cur, rfl, hb, hh, hc1, hc2, hs, ht⟩⟩ := h
  · omega
  · have hlt := (Array.getElem?_eq_some_iff.1 hh).1
    refine ⟨g, cap, rfl, hlt, hc1, hc2, fun w' hb' j hj => ?_⟩
    rw [hb'.cell (p := ⟨g, j, none⟩) hlt]
    simp only [World.cell?, hh]
    have : (cur.toList.take (ds.length * 1))[j]? = (u64s ds)[j]? := by rw [ht]
    rw [List.getElem?_take_of_lt (by omega)] at this
    rw [getElem!_pos ds j hj]
    simp [u64s, hj] at this
    simpa using this

end Go.Proofs.Ytfnbjenneodcdaa
