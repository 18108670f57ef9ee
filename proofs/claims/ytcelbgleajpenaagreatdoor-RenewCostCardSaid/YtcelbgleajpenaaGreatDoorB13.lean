/- The checker's fractions made of whole numbers. -/
import Derived.Test.YtcelbgleajpenaaGreatDoorB12
namespace Go.Proofs.YtcelbgleajpenaaGreatDoor
open Go.RowKit Go.Sort Go.Shelf

theorem div_one (x : Int) : Rat.divInt x 1 = (x : Rat) := (div_abs (D := 1) (by decide)).symm.trans (Rat.mk_eq_mkRat x 1 (by decide) (by simp)).symm
def lay (w : World) (b o : Nat) (s : Bool) (v : Value) : World := (w.setCell ⟨b, o, none⟩ (.bool s)).setCell ⟨b, o + 1, none⟩ v
theorem lay_size (w : World) (b o : Nat) (s : Bool) (v : Value) : (lay w b o s v).heap.size = w.heap.size := by simp [lay, World.setCell]
theorem lay_other {w : World} {b o : Nat} {v : Value} {s : Bool} {q : Addr} (h1 : q ≠ ⟨b, o, none⟩) (h2 : q ≠ ⟨b, o + 1, none⟩) : (lay w b o s v).cell? q = w.cell? q := by
 unfold lay
 rw [World.cell?_setCell_other _ _ _ _ (Ne.symm h2), World.cell?_setCell_other _ _ _ _ (Ne.symm h1)]
theorem HNat.lay {w : World} {b o : Nat} {v u : Value} {s : Bool} {N : Int} (h : HNat w u N) (k : SlotI w b o) : HNat (lay w b o s v) u N := by
 refine (h.setAt _ _ k.nos.1).setAt _ _ fun x => ?_
 rw [World.cell?_setCell_other _ _ _ _ (show (⟨b, o, none⟩ : Addr) ≠ ⟨b, o + 1, none⟩ from fun e => by injection e with _ e; omega)]
 exact k.nos.2 x
theorem lay_int {w : World} {b o : Nat} {a : Option Addr} {n c : Nat} {s : Bool} {N : Int} (k : SlotI w b o) (h : HNat w (.slice a n c) (N.natAbs : Int)) (hs : s = decide (N < 0)) : BInt (lay w b o s (.slice a n c)) b o N := by
 have ne1 : (⟨b, o, none⟩ : Addr) ≠ ⟨b, o + 1, none⟩ := fun e => by injection e with _ e; omega
 obtain ⟨s0, e0⟩ := k.sg
 obtain ⟨a0, n0, c0, ea⟩ := k.ab
 refine ⟨?_, ⟨a, n, c, ?_, h.lay k⟩, by simp [Go.Proofs.YtcelbgleajpenaaGreatDoor.lay, k.fs], by simp [Go.Proofs.YtcelbgleajpenaaGreatDoor.lay, k.fa], by rw [lay_size]; exact k.lt⟩
 ·unfold Go.Proofs.YtcelbgleajpenaaGreatDoor.lay
  rw [World.cell?_setCell_other _ _ _ _ (Ne.symm ne1), World.cell?_setCell_same _ _ _ e0, hs]
 ·unfold Go.Proofs.YtcelbgleajpenaaGreatDoor.lay
  exact World.cell?_setCell_same (u := .slice a0 n0 c0) _ _ _ (by rw [World.cell?_setCell_other _ _ _ _ ne1]; exact ea)
theorem BInt.lay {w : World} {b o b' o' : Nat} {v : Value} {s : Bool} {N : Int} (h : BInt w b' o' N) (k : SlotI w b o) (ha : ApartI b o b' o') : BInt (lay w b o s v) b' o' N := by
 obtain ⟨a, n, c, e, hn⟩ := h.ab
 have n00 : (⟨b', o', none⟩ : Addr) ≠ ⟨b, o, none⟩ := fun e => by
  injection e with e1 e2
  have := ha e1.symm
  omega
 have n01 : (⟨b', o', none⟩ : Addr) ≠ ⟨b, o + 1, none⟩ := fun e => by
  injection e with e1 e2
  have := ha e1.symm
  omega
 have n10 : (⟨b', o' + 1, none⟩ : Addr) ≠ ⟨b, o, none⟩ := fun e => by
  injection e with e1 e2
  have := ha e1.symm
  omega
 have n11 : (⟨b', o' + 1, none⟩ : Addr) ≠ ⟨b, o + 1, none⟩ := fun e => by
  injection e with e1 e2
  have := ha e1.symm
  omega
 refine ⟨?_, ⟨a, n, c, ?_, hn.lay k⟩, by simp [Go.Proofs.YtcelbgleajpenaaGreatDoor.lay, h.fs], by simp [Go.Proofs.YtcelbgleajpenaaGreatDoor.lay, h.fa], by rw [lay_size]; exact h.lt⟩
 ·rw [lay_other n00 n01]; exact h.sg
 ·rw [lay_other n10 n11]; exact e
theorem SlotI.lay {w : World} {b o b' o' : Nat} {v : Value} {s : Bool} (h : SlotI w b' o') (ha : ApartI b o b' o') : SlotI (lay w b o s v) b' o' := by
 have n00 : (⟨b', o', none⟩ : Addr) ≠ ⟨b, o, none⟩ := fun e => by
  injection e with e1 e2
  have := ha e1.symm
  omega
 have n01 : (⟨b', o', none⟩ : Addr) ≠ ⟨b, o + 1, none⟩ := fun e => by
  injection e with e1 e2
  have := ha e1.symm
  omega
 have n10 : (⟨b', o' + 1, none⟩ : Addr) ≠ ⟨b, o, none⟩ := fun e => by
  injection e with e1 e2
  have := ha e1.symm
  omega
 have n11 : (⟨b', o' + 1, none⟩ : Addr) ≠ ⟨b, o + 1, none⟩ := fun e => by
  injection e with e1 e2
  have := ha e1.symm
  omega
 refine ⟨?_, ?_, by simp [Go.Proofs.YtcelbgleajpenaaGreatDoor.lay, h.fs], by simp [Go.Proofs.YtcelbgleajpenaaGreatDoor.lay, h.fa], by rw [lay_size]; exact h.lt⟩
 ·rw [lay_other n00 n01]; exact h.sg
 ·rw [lay_other n10 n11]; exact h.ab
theorem Below.lay {B : Nat} {w0 w : World} {b o : Nat} {v : Value} {s : Bool} (h : Below B w0 w) (hb : B ≤ b) : Below B w0 (lay w b o s v) := (h.setCell (p := ⟨b, o, none⟩) hb (.bool s)).setCell (p := ⟨b, o + 1, none⟩) hb v

set_option maxHeartbeats 4000000 in
set_option maxRecDepth 100000 in
set_option linter.unusedSimpArgs false in
theorem setFrac_any (P : Nat → Prop) (dv : Divs P) (b o ba oa bb ob : Nat) (N D : Int) (w : World) (k : SlotR w b o) (x : BInt w ba oa N) (y : BInt w bb ob D) (hD : D ≠ 0) (pn : P N.natAbs) (pd : P D.natAbs) :
  Calls Tryz.prog 84 #[.pointer (some ⟨b, o, none⟩), .pointer (some ⟨ba, oa, none⟩), .pointer (some ⟨bb, ob, none⟩)] w (MakesAt w b o (Rat.divInt N D)) := by
 obtain ⟨a2, n2, c2, ea2, hn2⟩ := y.ab
 have hz2 : ((n2 : Int) == 0) = false := len_nz hn2 (by omega)
 have bA := abelow w (.cells #[.bool false, .slice none 0 0] 84)
 have kA := slot_new w
 obtain ⟨W0, hW0⟩ : ∃ W, w.alloc (.cells #[.bool false, .slice none 0 0] 84) = W := ⟨_, rfl⟩
 obtain ⟨g, hg⟩ : ∃ g, w.heap.size = g := ⟨_, rfl⟩
 rw [hW0] at bA
 rw [hW0, hg] at kA
 have HS1 := hide (iset_any g 0 ba oa N W0 kA (x.below bA) (dv.sm _ pn))
 have HBA := hide bA
 have HKA := hide kA
 have HGG := hide hg
 have HK := hide k
 have HY := hide y
 have HD := hide (And.intro hD (And.intro pn pd))
 have HDV := hide dv
 clear x y k kA bA hn2 dv pn pd hD
 go_enter Tryz.func84, Tryz.ntmps84
 go_wp2_with fail
 clear hW0 hg
 refine (unhide HS1).mono ?_
 intro e w1 hG
 have i1 := hG.int (unhide HKA)
 have hb1 : Below w.heap.size w w1 := hG.bl (unhide HBA) (Nat.le_of_eq (unhide HGG))
 obtain ⟨rfl, _⟩ := hG
 have bB := abelow w1 (.cells #[.bool false, .slice none 0 0] 84)
 have kB := slot_new w1
 obtain ⟨W1, hW1⟩ : ∃ W, w1.alloc (.cells #[.bool false, .slice none 0 0] 84) = W := ⟨_, rfl⟩
 obtain ⟨g', hg'⟩ : ∃ g, w1.heap.size = g := ⟨_, rfl⟩
 rw [hW1] at bB
 rw [hW1, hg'] at kB
 have hne : g < g' := by have := i1.lt; omega
 have HS2 := hide (iset_any g' 0 bb ob D W1 kB ((unhide HY).below (bstep hb1 bB)) ((unhide HDV).sm _ (unhide HD).2.2))
 have HB1 := hide hb1
 have HBB := hide bB
 have HKB := hide kB
 have HGB := hide hg'
 have HI1 := hide (i1.below bB)
 clear i1 hb1 bB kB
 go_wp2_with fail
 clear hW1 hg'
 refine (unhide HS2).mono ?_
 intro e w2 hG
 have j1 := hG.other (unhide HKB) (unhide HI1) (fun e => by omega)
 have j2 := hG.int (unhide HKB)
 have hb2 : Below w1.heap.size w1 w2 := hG.bl (unhide HBB) (Nat.le_of_eq (unhide HGB))
 obtain ⟨rfl, _⟩ := hG
 have HB2 := hide (bstep (unhide HB1) hb2)
 have kz := (unhide HK).below (unhide HB2)
 have HKZ := hide kz
 obtain ⟨p1, p2, p3, p4, hp⟩ := j1.ab
 obtain ⟨q1, q2, q3, q4, hq⟩ := j2.ab
 have ps := j1.sg
 have qs := j2.sg
 obtain ⟨⟨s0, y0⟩, ⟨a0, n0, c0, y1⟩, f0, f1, l0⟩ := kz.1
 obtain ⟨⟨s3, y2⟩, ⟨a3, n3, c3, y3⟩, f2, f3, l3⟩ := kz.2
 have hzg : b < g := by have := (unhide HK).1.lt; have := unhide HGG; omega
 clear kz j1 j2 hb2
 go_wp2_with fail
 have m1 := lay_int (unhide HKZ).1 hp rfl
 have k2 := (unhide HKZ).2.lay (v := .slice p1 p2 p3) (s := decide (N < 0)) (apart02 b o)
 have m2 := lay_int k2 (hq.lay (unhide HKZ).1) rfl
 have m3 := m1.lay (v := .slice q1 q2 q3) (s := decide (D < 0)) k2 (apart20 b o)
 refine (norm_any P (unhide HDV) b o N D _ m3 m2 (unhide HD).1 (unhide HD).2.1 (unhide HD).2.2).mono ?_
 rintro e w5 ⟨rfl, hr, hf⟩
 have HR := hide hr
 have HF : Hid (∀ w0 : World, Below w0.heap.size w0 w → w0.heap.size ≤ b → Below w0.heap.size w0 w5) := fun w0 h0 hb => hf w0 (Below.lay (Below.lay (bstep h0 (unhide HB2)) hb) hb) hb
 clear hr hf m1 k2 m2 m3 hp hq
 go_wp2
 go_ret
 exact ⟨rfl, unhide HR, unhide HF⟩

set_option maxHeartbeats 4000000 in
set_option maxRecDepth 100000 in
set_option linter.unusedSimpArgs false in
theorem rset64_any (b o : Nat) (x : Int) (h0 : -9223372036854775808 ≤ x) (h1 : x ≤ 9223372036854775807) (w : World) (k : SlotR w b o) :
  Calls Tryz.prog 41 #[.pointer (some ⟨b, o, none⟩), .int .i64 x] w (MakesAt w b o (x : Rat)) := by
 have HK := hide k
 have HN := hide (newInt_any x h0 h1 w)
 clear k
 go_enter Tryz.func41, Tryz.ntmps41
 go_wp2_with fail
 refine (unhide HN).mono ?_
 rintro e w1 ⟨b1, rfl, hb1, hi1, hl1⟩
 have HI := hide hi1
 have HL := hide hl1
 clear hi1 hl1
 go_wp2_with fail
 refine (newInt_any 1 (by decide) (by decide) w1).mono ?_
 rintro e w2 ⟨b2, rfl, hb2, hi2, hl2⟩
 have HB := hide (bstep (unhide HL) hl2)
 have HS := hide (setFrac_any _ divs_small b o b1 0 b2 0 x 1 w2 ((unhide HK).below (unhide HB)) ((unhide HI).below hl2) hi2 (by decide) (show _ < _ by omega) (by decide))
 clear hi2 hl2
 go_wp2_with fail
 refine (unhide HS).mono ?_
 rintro e w3 ⟨rfl, hr, hf⟩
 have HR := hide hr
 have HF : Hid (∀ w0 : World, Below w0.heap.size w0 w → w0.heap.size ≤ b → Below w0.heap.size w0 w3) := fun w0 h0 hb => hf w0 (bstep h0 (unhide HB)) hb
 clear hr hf HS
 go_wp2
 go_ret
 exact ⟨rfl, by rw [← div_one x]; exact unhide HR, unhide HF⟩

theorem slotR_of {W : World} {g : Nat} {T : TypeId} (h : W.heap[g]? = some (.cells #[.bool false, .slice none 0 0, .bool false, .slice none 0 0] T)) : SlotR W g 0 :=
 ⟨⟨⟨false, by simp [World.cell?, h]⟩, ⟨none, 0, 0, by simp [World.cell?, h]⟩, by simp [World.frozen?, h], by simp [World.frozen?, h], (Array.getElem?_eq_some_iff.1 h).1⟩, ⟨⟨false, by simp [World.cell?, h]⟩, ⟨none, 0, 0, by simp [World.cell?, h]⟩, by simp [World.frozen?, h], by simp [World.frozen?, h], (Array.getElem?_eq_some_iff.1 h).1⟩⟩
theorem slotR_new (w : World) : SlotR (w.alloc (.cells #[.bool false, .slice none 0 0, .bool false, .slice none 0 0] 86)) w.heap.size 0 := slotR_of (heap_alloc_new w _)
def NewsR (w : World) (q : Rat) (e : Ending) (w' : World) : Prop := ∃ b, e = .returned (.pointer (some ⟨b, 0, none⟩)) ∧ w.heap.size ≤ b ∧ BRat w' b 0 q ∧ Below w.heap.size w w'

set_option maxHeartbeats 4000000 in
set_option maxRecDepth 100000 in
set_option linter.unusedSimpArgs false in
theorem refInt_any (x : Int) (h0 : -9223372036854775808 ≤ x) (h1 : x ≤ 9223372036854775807) (w : World) :
  Calls Tryz.prog 12 #[.int .i64 x] w (NewsR w (x : Rat)) := by
 have k := slotR_new w
 have bA := abelow w (.cells #[.bool false, .slice none 0 0, .bool false, .slice none 0 0] 86)
 obtain ⟨W0, hW0⟩ : ∃ W, w.alloc (.cells #[.bool false, .slice none 0 0, .bool false, .slice none 0 0] 86) = W := ⟨_, rfl⟩
 obtain ⟨g, hg⟩ : ∃ g, w.heap.size = g := ⟨_, rfl⟩
 rw [hW0, hg] at k
 rw [hW0] at bA
 have HS := hide (rset64_any g 0 x h0 h1 W0 k)
 have HB := hide bA
 have HG := hide hg
 clear k bA
 go_enter Tryz.func12, Tryz.ntmps12
 go_wp2_with fail
 clear hW0 hg
 refine (unhide HS).mono ?_
 rintro e w1 ⟨rfl, hr, hf⟩
 have HR := hide hr
 have HF := hide (hf w (unhide HB) (Nat.le_of_eq (unhide HG)))
 clear hr hf HS
 go_wp2
 go_ret
 exact ⟨g, rfl, Nat.le_of_eq (unhide HG), unhide HR, unhide HF⟩
end Go.Proofs.YtcelbgleajpenaaGreatDoor
