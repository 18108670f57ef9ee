/- The checker's whole numbers: a sign and words in two cells; how they are written anew. -/
import Derived.Test.YtfpmgnlddlcpoaaGreatDoorB2
namespace Go.Proofs.YtfpmgnlddlcpoaaGreatDoor
open Go.RowKit Go.Sort

theorem bstep {w w1 w2 : World} (h : Below w.heap.size w w1) (k : Below w1.heap.size w1 w2) : Below w.heap.size w w2 := h.trans (k.mono h.size)
theorem abelow (w : World) (o : Obj) : Below w.heap.size w (w.alloc o) := (Below.refl _ _).alloc (Nat.le_refl _) _

theorem HRow.setAt {w : World} {a : Option Addr} {n c : Nat} {f : Nat → Int} (h : HRow w a n c f) (p : Addr) (v : Value) (hp : ∀ x, w.cell? p ≠ some (.int .u32 x)) : HRow (w.setCell p v) a n c f := by
  obtain ⟨h1, h2, h3⟩ := h
  refine ⟨h1, h2, fun hn => ?_⟩
  obtain ⟨b, o, e, hlt, hc⟩ := h3 hn
  refine ⟨b, o, e, by simpa [World.setCell] using hlt, fun j hj => ?_⟩
  have hne : p ≠ ⟨b, o + j, none⟩ := fun e => hp _ (by rw [e]; exact hc j hj)
  rw [World.cell?_setCell_other _ _ _ _ hne]
  exact hc j hj
theorem HNat.setAt {w : World} {v : Value} {N : Int} (h : HNat w v N) (p : Addr) (x : Value) (hp : ∀ x, w.cell? p ≠ some (.int .u32 x)) : HNat (w.setCell p x) v N := by
  obtain ⟨a, n, c, e, hl, hr⟩ := h
  exact ⟨a, n, c, e, hl, hr.setAt p x hp⟩

/-- A place for a whole number: a sign and a row. -/
structure SlotI (w : World) (b o : Nat) : Prop where
  sg : ∃ s, w.cell? ⟨b, o, none⟩ = some (.bool s)
  ab : ∃ a n c, w.cell? ⟨b, o + 1, none⟩ = some (.slice a n c)
  fs : w.frozen? ⟨b, o, none⟩ = false
  fa : w.frozen? ⟨b, o + 1, none⟩ = false
  lt : b < w.heap.size
theorem SlotI.below {w w' : World} {b o : Nat} (h : SlotI w b o) (hb : Below w.heap.size w w') : SlotI w' b o := by
  have fz : ∀ k, w'.frozen? ⟨b, k, none⟩ = w.frozen? ⟨b, k, none⟩ := fun k => by simp only [World.frozen?, hb.block b h.lt]
  refine ⟨?_, ?_, by rw [fz]; exact h.fs, by rw [fz]; exact h.fa, Nat.lt_of_lt_of_le h.lt hb.size⟩
  · rw [hb.cell (p := ⟨b, o, none⟩) h.lt]; exact h.sg
  · rw [hb.cell (p := ⟨b, o + 1, none⟩) h.lt]; exact h.ab
theorem SlotI.nos {w : World} {b o : Nat} (h : SlotI w b o) : (∀ x, w.cell? ⟨b, o, none⟩ ≠ some (.int .u32 x)) ∧ (∀ x, w.cell? ⟨b, o + 1, none⟩ ≠ some (.int .u32 x)) := by
  obtain ⟨s, hs⟩ := h.sg
  obtain ⟨a, n, c, ha⟩ := h.ab
  exact ⟨fun x e => (by rw [hs] at e; cases e), fun x e => (by rw [ha] at e; cases e)⟩
/-- A whole number. -/
structure BInt (w : World) (b o : Nat) (N : Int) : Prop where
  sg : w.cell? ⟨b, o, none⟩ = some (.bool (decide (N < 0)))
  ab : ∃ a n c, w.cell? ⟨b, o + 1, none⟩ = some (.slice a n c) ∧ HNat w (.slice a n c) (N.natAbs : Int)
  fs : w.frozen? ⟨b, o, none⟩ = false
  fa : w.frozen? ⟨b, o + 1, none⟩ = false
  lt : b < w.heap.size
theorem BInt.slot {w : World} {b o : Nat} {N : Int} (h : BInt w b o N) : SlotI w b o := ⟨⟨_, h.sg⟩, by obtain ⟨a, n, c, e, _⟩ := h.ab; exact ⟨a, n, c, e⟩, h.fs, h.fa, h.lt⟩
theorem BInt.below {w w' : World} {b o : Nat} {N : Int} (h : BInt w b o N) (hb : Below w.heap.size w w') : BInt w' b o N := by
  have k := h.slot.below hb
  obtain ⟨a, n, c, e, hn⟩ := h.ab
  refine ⟨by rw [hb.cell (p := ⟨b, o, none⟩) h.lt]; exact h.sg, ⟨a, n, c, ?_, hn.below hb⟩, k.fs, k.fa, k.lt⟩
  rw [hb.cell (p := ⟨b, o + 1, none⟩) h.lt]; exact e

/-- The world where a number is written anew. -/
def put (w : World) (b o : Nat) (v : Value) (s : Bool) : World := (w.setCell ⟨b, o + 1, none⟩ v).setCell ⟨b, o, none⟩ (.bool s)
theorem put_size (w : World) (b o : Nat) (v : Value) (s : Bool) : (put w b o v s).heap.size = w.heap.size := by simp [put, World.setCell]
theorem put_other {w : World} {b o : Nat} {v : Value} {s : Bool} {q : Addr} (h1 : q ≠ ⟨b, o, none⟩) (h2 : q ≠ ⟨b, o + 1, none⟩) : (put w b o v s).cell? q = w.cell? q := by
  unfold put
  rw [World.cell?_setCell_other _ _ _ _ (Ne.symm h1), World.cell?_setCell_other _ _ _ _ (Ne.symm h2)]
theorem HNat.put {w : World} {b o : Nat} {v u : Value} {s : Bool} {N : Int} (h : HNat w u N) (k : SlotI w b o) : HNat (put w b o v s) u N := by
  refine (h.setAt _ _ k.nos.2).setAt _ _ fun x => ?_
  rw [World.cell?_setCell_other _ _ _ _ (show (⟨b, o + 1, none⟩ : Addr) ≠ ⟨b, o, none⟩ from fun e => by injection e with _ e; omega)]
  exact k.nos.1 x
theorem put_int {w : World} {b o : Nat} {a : Option Addr} {n c : Nat} {s : Bool} {N : Int} (k : SlotI w b o) (h : HNat w (.slice a n c) (N.natAbs : Int)) (hs : s = decide (N < 0)) : BInt (put w b o (.slice a n c) s) b o N := by
  have ne1 : (⟨b, o, none⟩ : Addr) ≠ ⟨b, o + 1, none⟩ := fun e => by injection e with _ e; omega
  obtain ⟨s0, e0⟩ := k.sg
  obtain ⟨a0, n0, c0, ea⟩ := k.ab
  refine ⟨?_, ⟨a, n, c, ?_, h.put k⟩, by simp [put, k.fs], by simp [put, k.fa], by rw [put_size]; exact k.lt⟩
  · unfold put
    rw [World.cell?_setCell_same (u := .bool s0) _ _ _ (by rw [World.cell?_setCell_other _ _ _ _ (Ne.symm ne1)]; exact e0), hs]
  · unfold put
    rw [World.cell?_setCell_other _ _ _ _ ne1]
    exact World.cell?_setCell_same _ _ _ ea
/-- Two places that don't touch. -/
def ApartI (b o b' o' : Nat) : Prop := b = b' → o + 1 < o' ∨ o' + 1 < o
theorem BInt.put {w : World} {b o b' o' : Nat} {v : Value} {s : Bool} {N : Int} (h : BInt w b' o' N) (k : SlotI w b o) (ha : ApartI b o b' o') : BInt (put w b o v s) b' o' N := by
  obtain ⟨a, n, c, e, hn⟩ := h.ab
  have n00 : (⟨b', o', none⟩ : Addr) ≠ ⟨b, o, none⟩ := fun e => by
    injection e with e1 e2
    have := ha e1.symm
    omega
  have n01 : (⟨b', o', none⟩ : Addr) ≠ ⟨b, o + 1, none⟩ := fun e => by
    injection e with e1 e2
    have := ha e1.symm
    omega
  have n10 : (⟨b', o' + 1, none⟩ : Addr) ≠ ⟨b, o, none⟩ := fun e => by
    injection e with e1 e2
    have := ha e1.symm
    omega
  have n11 : (⟨b', o' + 1, none⟩ : Addr) ≠ ⟨b, o + 1, none⟩ := fun e => by
    injection e with e1 e2
    have := ha e1.symm
    omega
  refine ⟨?_, ⟨a, n, c, ?_, hn.put k⟩, by simp [Go.Proofs.YtfpmgnlddlcpoaaGreatDoor.put, h.fs], by simp [Go.Proofs.YtfpmgnlddlcpoaaGreatDoor.put, h.fa], by rw [put_size]; exact h.lt⟩
  · rw [put_other n00 n01]; exact h.sg
  · rw [put_other n10 n11]; exact e
theorem SlotI.put {w : World} {b o b' o' : Nat} {v : Value} {s : Bool} (h : SlotI w b' o') (ha : ApartI b o b' o') : SlotI (put w b o v s) b' o' := by
  have n00 : (⟨b', o', none⟩ : Addr) ≠ ⟨b, o, none⟩ := fun e => by
    injection e with e1 e2
    have := ha e1.symm
    omega
  have n01 : (⟨b', o', none⟩ : Addr) ≠ ⟨b, o + 1, none⟩ := fun e => by
    injection e with e1 e2
    have := ha e1.symm
    omega
  have n10 : (⟨b', o' + 1, none⟩ : Addr) ≠ ⟨b, o, none⟩ := fun e => by
    injection e with e1 e2
    have := ha e1.symm
    omega
  have n11 : (⟨b', o' + 1, none⟩ : Addr) ≠ ⟨b, o + 1, none⟩ := fun e => by
    injection e with e1 e2
    have := ha e1.symm
    omega
  refine ⟨?_, ?_, by simp [Go.Proofs.YtfpmgnlddlcpoaaGreatDoor.put, h.fs], by simp [Go.Proofs.YtfpmgnlddlcpoaaGreatDoor.put, h.fa], by rw [put_size]; exact h.lt⟩
  · rw [put_other n00 n01]; exact h.sg
  · rw [put_other n10 n11]; exact h.ab
theorem Below.put {B : Nat} {w0 w : World} {b o : Nat} {v : Value} {s : Bool} (h : Below B w0 w) (hb : B ≤ b) : Below B w0 (put w b o v s) := (h.setCell (p := ⟨b, o + 1, none⟩) hb v).setCell (p := ⟨b, o, none⟩) hb (.bool s)

set_option maxHeartbeats 1000000 in
theorem give_any (b o : Nat) (neg : Bool) (a : Option Addr) (n c : Nat) (w : World) (k : SlotI w b o) :
    Calls Tryz.prog 52 #[.pointer (some ⟨b, o, none⟩), .bool neg, .slice a n c] w fun e w' => e = .returned (.pointer (some ⟨b, o, none⟩)) ∧ w' = put w b o (.slice a n c) (neg && decide (0 < n)) := by
  obtain ⟨s0, e0⟩ := k.sg
  obtain ⟨a0, n0, c0, ea⟩ := k.ab
  have f0 := k.fs
  have f1 := k.fa
  have ne1 : (⟨b, o + 1, none⟩ : Addr) ≠ ⟨b, o, none⟩ := fun e => by injection e with _ e; omega
  have e2 : (w.setCell ⟨b, o + 1, none⟩ (.slice a n c)).cell? ⟨b, o, none⟩ = some (.bool s0) := by rw [World.cell?_setCell_other _ _ _ _ ne1]; exact e0
  clear k
  cases neg
  · go_enter Tryz.func52, Tryz.ntmps52
    go_wp2
    go_ret
    exact ⟨rfl, rfl⟩
  · go_enter Tryz.func52, Tryz.ntmps52
    go_wp2
    go_ret
    exact ⟨rfl, by simp [put]⟩
end Go.Proofs.YtfpmgnlddlcpoaaGreatDoor
