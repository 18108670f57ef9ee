/- Rows of the call's own that are filled place by place; Unit. -/
import Derived.Test.YtcelbgleajpenaaGreatDoorRZ4z
import Derived.Test.YtcelbgleajpenaaGreatDoorM87
import Derived.Test.YtcelbgleajpenaaGreatDoorBG
import Derived.Test.YtcelbgleajpenaaGreatDoorB29
import Derived.Test.YtcelbgleajpenaaGreatDoorBI
namespace Go.Proofs.YtcelbgleajpenaaGreatDoor
open Go.RowKit Go.Sort Go.Shelf

theorem den_numr (q : Rat) : q * (q.den : Rat) = (q.num : Rat) := by
  have h0 : (q.den : Rat) ≠ 0 := by simp [q.den_nz]
  have e : q = (q.num : Rat) / (q.den : Rat) := by rw [← Rat.mkRat_eq_div, Rat.mkRat_self]
  calc q * (q.den : Rat) = (q.num : Rat) / (q.den : Rat) * (q.den : Rat) := congrArg (· * (q.den : Rat)) e
    _ = (q.num : Rat) := Rat.div_mul_cancel h0
/-- Ovrer this denominator the fraction is whole, and below so many words. -/
def Ovr (q : Rat) (D t : Nat) : Prop := ∃ z : Int, q * (D : Rat) = (z : Rat) ∧ (z.natAbs : Int) < Wd.pw t
theorem Ovr.rs {q : Rat} {D t : Nat} (h : Ovr q D t) (hD : D ≠ 0) (hd : (D : Int) < Wd.pw t) : RS q t := by
  obtain ⟨z, e, hz⟩ := h
  have h0 : (D : Rat) ≠ 0 := by simpa using hD
  have e2 : q = mkRat z D := by
    rw [Rat.mkRat_eq_div, ← e]
    exact (Rat.mul_div_cancel h0).symm
  have m := mkRat_bd z D hD
  rw [← e2] at m
  exact ⟨by omega, by omega⟩
theorem Iv_rs {q : Rat} {D t : Nat} (h : Rsk.Iv q D) (h0 : 0 ≤ q) (h1 : q ≤ 1) (hD : D ≠ 0) (ht : (D : Int) < Wd.pw t) : RS q t := by
  obtain ⟨z, hz⟩ := h
  refine Ovr.rs ⟨z, hz, ?_⟩ hD ht
  have hDp : (0 : Rat) ≤ (D : Rat) := Rat.natCast_nonneg
  have e0 : (0 : Rat) ≤ (z : Rat) := by rw [← hz]; exact Rat.mul_nonneg h0 hDp
  have e1 : (z : Rat) ≤ (((D : Nat) : Int) : Rat) := by
    rw [← hz]
    have := Rat.mul_nonneg (show (0 : Rat) ≤ 1 - q by grind) hDp
    show q * (D : Rat) ≤ (D : Rat)
    grind
  have e2 : 0 ≤ z := Rat.intCast_nonneg.1 e0
  have e3 : z ≤ ((D : Nat) : Int) := Rat.intCast_le_intCast.1 e1
  omega
theorem den_Iv (q : Rat) : Rsk.Iv q q.den := ⟨q.num, den_numr q⟩
theorem PAt.one {w0 w : World} {x : Nat} {qs : List Rat} (hb : Below w0.heap.size w0 w) (hx : BRz w x 0 qs[0]!) : PAt w0 (w.alloc (.cells #[.pointer (some ⟨x, 0, none⟩)] 31)) w0.heap.size (.slice (some ⟨w.heap.size, 0, none⟩) 1 1) [x] qs := by
  refine ⟨⟨by simp [ptrs], Or.inr ⟨w.heap.size, 1, #[.pointer (some ⟨x, 0, none⟩)], rfl, hb.size, heap_alloc_new w _, Nat.le_refl _, by decide, rfl, rfl⟩⟩, fun g hg => ?_, fun j hj => ?_, below_step hb (alloc_below w _), Nat.le_refl _⟩
  · have : w.heap.size = g := Option.some.inj hg
    rw [← this]
    exact ptrly_of (heap_alloc_new w _) (fun u hu => by
      have := List.mem_singleton.1 (Array.mem_toList_iff.2 hu)
      exact is_ptr x u (by rw [this]; exact List.mem_singleton.2 rfl))
  · obtain rfl : j = 0 := by simp at hj; omega
    exact hx.below (alloc_below w _)
theorem PAt.list {w wr : World} {B : Nat} {v : Value} {gs : List Nat} {f : Nat → Rat} {N k : Nat} (h : PAt w wr B v gs (row f N)) (hg : gs.length = k) (hk : k ≤ N) : RList wr v (row f k) :=
  rlist_of (qs := row f k) h.own (by rw [row_length, hg]) (fun j hj => by
    have := h.rat j hj
    rw [row_get (by omega)] at this
    rw [row_get (by omega)]
    exact this)
end Go.Proofs.YtcelbgleajpenaaGreatDoor
namespace Go.Proofs.YtcelbgleajpenaaGreatDoor
open Go.RowKit Go.Sort Go.Shelf

/-- Cells of pointers, or none. -/
def pcells (os : List (Option Nat)) : List Value := os.map fun o => .pointer (o.map fun g => ⟨g, 0, none⟩)
theorem pcells_set (os : List (Option Nat)) (j x : Nat) : pcells (os.set j (some x)) = (pcells os).set j (.pointer (some ⟨x, 0, none⟩)) := by simp [pcells, List.map_set]
theorem make_ptrs (k : Nat) (h1 : k ≤ 1099511627776) (w : World) :
    (Instr.makeSlice 29 (.int .i64 (k : Int)) (.int .i64 (k : Int))).run Tryz.prog w = .ok (.slice (some ⟨w.heap.size, 0, none⟩) k k) (w.alloc (.cells (pcells (List.replicate k none)).toArray 31)) := by
  obtain ⟨i, hi, hz0, hz1, hz2⟩ := info_parts Tryz.infoP
  have e : madeCells (Value.pointer none).cells ((k : Int).toNat * i.size) = (pcells (List.replicate k none)).toArray := by
    rw [hz1]
    apply Array.ext
    · simp [madeCells, pcells]
    · intro j h1 h2
      simp [madeCells, pcells, Value.cells, Nat.mod_one]
  rw [run_make w 29 31 i (.pointer none) Tryz.underlying29 hi hz0 .i64 .i64 k k (by omega) (Int.le_refl _) (by rw [hz2]; omega) (by omega), e]
  simp
theorem BInt.setPtr {w : World} {b o : Nat} {N : Int} {p : Addr} {q : Option Addr} {v : Value} (h : BInt w b o N) (hp : w.cell? p = some (.pointer q)) : BInt (w.setCell p v) b o N := by
  obtain ⟨a, n, c, e, hn⟩ := h.ab
  have n0 : p ≠ ⟨b, o, none⟩ := fun e' => by rw [e', h.sg] at hp; cases hp
  have n1 : p ≠ ⟨b, o + 1, none⟩ := fun e' => by rw [e', e] at hp; cases hp
  refine ⟨?_, ⟨a, n, c, ?_, hn.setAt _ _ (fun x e' => by rw [hp] at e'; cases e')⟩, by simp [h.fs], by simp [h.fa], by simpa [World.setCell] using h.lt⟩
  · rw [World.cell?_setCell_other _ _ _ _ n0]; exact h.sg
  · rw [World.cell?_setCell_other _ _ _ _ n1]; exact e
theorem BRz.setPtr {w : World} {b o : Nat} {q : Rat} {p : Addr} {r : Option Addr} {v : Value} (h : BRz w b o q) (hp : w.cell? p = some (.pointer r)) : BRz (w.setCell p v) b o q :=
  ⟨h.1.setPtr hp, h.2.imp (fun k => k.setPtr hp) (fun k => ⟨k.1, k.2.setPtr hp⟩)⟩
/-- A row of the call's own: what is known of its places. -/
structure PRow (w wr : World) (g K : Nat) (os : List (Option Nat)) (F : Nat → Option Rat) : Prop where
  blk : wr.heap[g]? = some (.cells (pcells os).toArray 31)
  len : os.length = K
  rat : ∀ j q, j < K → F j = some q → ∃ x, os[j]! = some x ∧ BRz wr x 0 q
  bl : Below w.heap.size w wr
  gl : w.heap.size ≤ g
theorem PRow.keep {w wr w' : World} {g K : Nat} {os : List (Option Nat)} {F : Nat → Option Rat} (h : PRow w wr g K os F) (hb : Below wr.heap.size wr w') : PRow w w' g K os F :=
  ⟨by rw [hb.block _ (Array.getElem?_eq_some_iff.1 h.blk).1]; exact h.blk, h.len, fun j q hj e => by obtain ⟨x, e1, r⟩ := h.rat j q hj e; exact ⟨x, e1, r.below hb⟩, bstep h.bl hb, h.gl⟩
theorem PRow.cell {w wr : World} {g K : Nat} {os : List (Option Nat)} {F : Nat → Option Rat} (h : PRow w wr g K os F) {j : Nat} (hj : j < K) : wr.cell? ⟨g, j, none⟩ = some (.pointer (os[j]!.map fun g => ⟨g, 0, none⟩)) ∧ wr.frozen? ⟨g, j, none⟩ = false := by
  have hl := h.len
  refine ⟨?_, by simp [World.frozen?, h.blk]⟩
  simp only [World.cell?, h.blk]
  simp [pcells, show j < os.length by omega]
theorem PRow.at {w wr : World} {g K : Nat} {os : List (Option Nat)} {F : Nat → Option Rat} (h : PRow w wr g K os F) {j : Nat} {q : Rat} (hj : j < K) (e : F j = some q) : ∃ x, wr.cell? ⟨g, j, none⟩ = some (.pointer (some ⟨x, 0, none⟩)) ∧ BRz wr x 0 q := by
  obtain ⟨x, e1, r⟩ := h.rat j q hj e
  have c := (h.cell hj).1
  rw [e1] at c
  exact ⟨x, c, r⟩
def upF (F : Nat → Option Rat) (j : Nat) (q : Rat) : Nat → Option Rat := fun i => if i = j then some q else F i
theorem PRow.set {w wr : World} {g K : Nat} {os : List (Option Nat)} {F : Nat → Option Rat} {j x : Nat} {q : Rat} (h : PRow w wr g K os F) (hj : j < K) (hr : BRz wr x 0 q) :
    PRow w (wr.setCell ⟨g, j, none⟩ (.pointer (some ⟨x, 0, none⟩))) g K (os.set j (some x)) (upF F j q) := by
  have hp := (h.cell hj).1
  have hl := h.len
  refine ⟨?_, by rw [List.length_set]; exact hl, fun k p hk e => ?_, h.bl.setCell h.gl _, h.gl⟩
  · rw [setCell_eq]
    simp only [mapBlock, Array.getElem?_modify, h.blk, if_true, Option.map_some, onCells]
    rw [pcells_set]
    simp
  · unfold upF at e
    by_cases c : k = j
    · rw [if_pos c] at e
      injection e with e
      subst c e
      exact ⟨x, by simp [show k < os.length by omega], hr.setPtr hp⟩
    · rw [if_neg c] at e
      obtain ⟨y, ey, ry⟩ := h.rat k p hk e
      exact ⟨y, by simp [show j ≠ k by omega]; simpa using ey, ry.setPtr hp⟩
theorem PRow.other {w wr : World} {g K : Nat} {os : List (Option Nat)} {F : Nat → Option Rat} {p : Addr} {r : Option Addr} {v : Value} (h : PRow w wr g K os F) (hp : wr.cell? p = some (.pointer r)) (hg : p.block ≠ g) (hw : w.heap.size ≤ p.block) : PRow w (wr.setCell p v) g K os F :=
  ⟨by rw [heap_setCell_other wr p g v (fun e => hg e.symm)]; exact h.blk, h.len, fun j q hj e => by obtain ⟨x, e1, r1⟩ := h.rat j q hj e; exact ⟨x, e1, r1.setPtr hp⟩, h.bl.setCell hw _, h.gl⟩
theorem PRow.congr {w wr : World} {g K : Nat} {os : List (Option Nat)} {F G : Nat → Option Rat} (h : PRow w wr g K os F) (e : ∀ j, j < K → G j = F j) : PRow w wr g K os G :=
  ⟨h.blk, h.len, fun j q hj e1 => h.rat j q hj (by rw [← e j hj]; exact e1), h.bl, h.gl⟩
theorem PRow.list {w wr : World} {g K : Nat} {os : List (Option Nat)} {F : Nat → Option Rat} {f : Nat → Rat} (h : PRow w wr g K os F) (hK : K ≤ 1000000) (hF : ∀ j, j < K → F j = some (f j)) : RList wr (.slice (some ⟨g, 0, none⟩) K K) (row f K) := by
  refine ⟨some ⟨g, 0, none⟩, K, by rw [row_length], by rw [row_length]; omega, by omega, fun _ => ⟨g, 0, rfl, (Array.getElem?_eq_some_iff.1 h.blk).1, fun j hj => ?_⟩⟩
  rw [row_length] at hj
  obtain ⟨x, e, r⟩ := h.at hj (hF j hj)
  exact ⟨x, by rw [Nat.zero_add]; exact e, by rw [row_get hj]; exact r⟩
theorem PRow.new {w0 w : World} (hb : Below w0.heap.size w0 w) (K : Nat) : PRow w0 (w.alloc (.cells (pcells (List.replicate K none)).toArray 31)) w.heap.size K (List.replicate K none) (fun _ => none) :=
  ⟨heap_alloc_new w _, by simp, (fun j q _ e => absurd (show (none : Option Rat) = some q from e) (by simp)), bstep hb (alloc_below w _), hb.size⟩
theorem PRow.lt {w wr : World} {g K : Nat} {os : List (Option Nat)} {F : Nat → Option Rat} (h : PRow w wr g K os F) : g < wr.heap.size := (Array.getElem?_eq_some_iff.1 h.blk).1
set_option maxHeartbeats 16000000 in
set_option maxRecDepth 100000 in
set_option linter.unusedSimpArgs false in
theorem refUnit_any (K k : Nat) (hk : k < K) (hK : K ≤ 1000) (w : World) :
    Calls Tryz.prog 68 #[.int .i64 (K : Int), .int .i64 (k : Int)] w fun e w' => ∃ g os, e = .returned (.slice (some ⟨g, 0, none⟩) K K) ∧ PRow w w' g K os (fun j => some (if j = k then 1 else 0)) := by
  have qmk := make_ptrs K (by omega) w
  have S0 := PRow.new (Below.refl w.heap.size w) K
  obtain ⟨W1, hW1⟩ : ∃ W, w.alloc (.cells (pcells (List.replicate K none)).toArray 31) = W := ⟨_, rfl⟩
  obtain ⟨g, hg⟩ : ∃ g, w.heap.size = g := ⟨_, rfl⟩
  rw [hW1] at S0 qmk
  rw [hg] at qmk
  have S0' : PRow w W1 g K (List.replicate K none) (fun _ => none) := by rw [← hg]; exact S0
  have HS0 := hide S0'
  have HK : Hid (k < K ∧ K ≤ 1000) := ⟨hk, hK⟩
  have jk0 : (0 : Int) ≤ (k : Int) := by omega
  have jk1 : (k : Int) < (K : Int) := by omega
  clear S0 S0' hW1 hg
  go_enter Tryz.func68, Tryz.ntmps68
  go_wp2_with fail
  clear qmk
  go_loopw [11] (fun vi wr => ∃ (i : Nat) (os : List (Option Nat)), vi = .int .i64 (i : Int) ∧ i ≤ K ∧ PRow w wr g K os (fun j => if j < i then some 0 else none)) (fun vi _ => K - (intOf vi).toNat)
  case atStart => exact ⟨0, _, rfl, Nat.zero_le _, (unhide HS0).congr (fun j _ => by rw [if_neg (by omega)])⟩
  case round =>
    obtain ⟨i, os, rfl, hi, T⟩ := hrel
    clear HS0
    by_cases hlt : i < K
    · have HLT := hide hlt
      have j0 : (0 : Int) ≤ (i : Int) := by omega
      have j1 : (i : Int) < (K : Int) := by omega
      have HI := hide (refIntz_any 0 (by decide) (by decide) wr)
      have HT := hide T
      clear T hlt
      go_wp2_with fail
      refine (unhide HI).mono ?_
      rintro e w2 ⟨b2, rfl, -, z2, hb2⟩
      have T2 := (unhide HT).keep hb2
      have ⟨kc, kf⟩ := T2.cell (unhide HLT)
      have S2 := T2.set (unhide HLT) z2
      have HN := hide (S2.congr (G := fun j => if j < i + 1 then some (0 : Rat) else none) (fun j _ => by
        show _ = (if j = i then some ((0 : Int) : Rat) else if j < i then some 0 else none)
        by_cases c : j = i
        · rw [if_pos c, if_pos (by omega), show ((0 : Int) : Rat) = 0 by simp]
        · rw [if_neg c]
          by_cases d : j < i
          · rw [if_pos d, if_pos (by omega)]
          · rw [if_neg d, if_neg (by omega)]))
      clear T2 S2 z2 hb2 HI HT
      go_wp2_with fail
      exact ⟨⟨i + 1, _, by go_num, unhide HLT, unhide HN⟩, by have := unhide HLT; simp [intOf]; omega⟩
    · obtain rfl : i = K := by omega
      have j1 : ¬ (i : Int) < (i : Int) := by omega
      have HI := hide (refIntz_any 1 (by decide) (by decide) wr)
      have HT := hide T
      clear T
      go_wp2_with fail
      refine (unhide HI).mono ?_
      rintro e w2 ⟨b2, rfl, -, z2, hb2⟩
      have T2 := (unhide HT).keep hb2
      have ⟨kc, kf⟩ := T2.cell (unhide HK).1
      have S2 := T2.set (unhide HK).1 z2
      have HN := hide (S2.congr (G := fun j => some (if j = k then (1 : Rat) else 0)) (fun j hj => by
        show _ = (if j = k then some ((1 : Int) : Rat) else if j < i then some 0 else none)
        by_cases c : j = k
        · rw [if_pos c, if_pos c, show ((1 : Int) : Rat) = 1 by simp]
        · rw [if_neg c, if_neg c, if_pos hj]))
      clear T2 S2 z2 hb2 HI HT
      go_wp2
      (try simp only [Exit.inBlock, Exit.then])
      (try go_wp2)
      go_ret
      exact ⟨g, _, rfl, unhide HN⟩
end Go.Proofs.YtcelbgleajpenaaGreatDoor
