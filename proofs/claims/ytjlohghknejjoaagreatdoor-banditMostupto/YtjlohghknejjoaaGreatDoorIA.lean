/- Acts in memory; rows of them that grow. -/
import Derived.Test.YtjlohghknejjoaaGreatDoorN1
namespace Go.Proofs.YtjlohghknejjoaaGreatDoor
open Go.RowKit Go.Sort Go.Shelf

/-- An act: what it brings, and what comes next. -/
def ActIs (w : World) (t : Tri) (l : Sl) (k : Rat × List Rat) : Prop := RatIs w t.val k.1 ∧ LawIs w l.val k.2
theorem ActIs.below {w w' : World} {t : Tri} {l : Sl} {k : Rat × List Rat} (h : ActIs w t l k) (hb : Below w.heap.size w w') : ActIs w' t l k := ⟨h.1.below hb, h.2.below hb⟩
/-- A row of acts. -/
def ActsAre (w : World) (v : Value) (ks : List (Rat × List Rat)) : Prop := ∃ (a : Option Addr) (c : Nat), v = .slice a ks.length c ∧ ks.length ≤ c ∧ c ≤ 9223372036854775807 ∧
  (0 < ks.length → ∃ b o, a = some ⟨b, o, none⟩ ∧ b < w.heap.size ∧ ∀ j, j < ks.length → ∃ (t : Tri) (l : Sl), (w.cell? ⟨b, o + j * 4, none⟩ = some (.bool t.s) ∧ w.cell? ⟨b, o + j * 4 + 1, none⟩ = some (.slice t.a1 t.n1 t.c1) ∧ w.cell? ⟨b, o + j * 4 + 2, none⟩ = some (.slice t.a2 t.n2 t.c2) ∧ w.cell? ⟨b, o + j * 4 + 3, none⟩ = some (.slice l.a l.n l.c)) ∧ ActIs w t l ks[j]!)
theorem ActsAre.below {w w' : World} {v : Value} {ks : List (Rat × List Rat)} (h : ActsAre w v ks) (hb : Below w.heap.size w w') : ActsAre w' v ks := by
  obtain ⟨a, c, e, h1, h2, h3⟩ := h
  refine ⟨a, c, e, h1, h2, fun hp => ?_⟩
  obtain ⟨b, o, ea, hlt, hc⟩ := h3 hp
  refine ⟨b, o, ea, Nat.lt_of_lt_of_le hlt hb.size, fun j hj => ?_⟩
  obtain ⟨t, l, ⟨c0, c1, c2, c3⟩, r⟩ := hc j hj
  refine ⟨t, l, ?_, r.below hb⟩
  rw [hb.cell (p := ⟨b, o + j * 4, none⟩) hlt, hb.cell (p := ⟨b, o + j * 4 + 1, none⟩) hlt, hb.cell (p := ⟨b, o + j * 4 + 2, none⟩) hlt, hb.cell (p := ⟨b, o + j * 4 + 3, none⟩) hlt]
  exact ⟨c0, c1, c2, c3⟩
def zA : Array Value := #[.bool false, .slice none 0 0, .slice none 0 0, .slice none 0 0]
end Go.Proofs.YtjlohghknejjoaaGreatDoor
/- Rows of rows of acts in memory; rows of them that grow. -/
namespace Go.Proofs.YtjlohghknejjoaaGreatDoor
open Go.RowKit Go.Sort Go.Shelf

/-- A row of rows of acts. -/
def StatesAre (w : World) (v : Value) (ks : List (List (Rat × List Rat))) : Prop := ∃ (a : Option Addr) (c : Nat), v = .slice a ks.length c ∧ ks.length ≤ c ∧ c ≤ 9223372036854775807 ∧
  (0 < ks.length → ∃ b o, a = some ⟨b, o, none⟩ ∧ b < w.heap.size ∧ ∀ j, j < ks.length → ∃ l : Sl, w.cell? ⟨b, o + j, none⟩ = some (.slice l.a l.n l.c) ∧ ActsAre w l.val ks[j]!)
theorem StatesAre.below {w w' : World} {v : Value} {ks : List (List (Rat × List Rat))} (h : StatesAre w v ks) (hb : Below w.heap.size w w') : StatesAre w' v ks := by
  obtain ⟨a, c, e, h1, h2, h3⟩ := h
  refine ⟨a, c, e, h1, h2, fun hp => ?_⟩
  obtain ⟨b, o, ea, hlt, hc⟩ := h3 hp
  refine ⟨b, o, ea, Nat.lt_of_lt_of_le hlt hb.size, fun j hj => ?_⟩
  obtain ⟨l, c0, r⟩ := hc j hj
  refine ⟨l, ?_, r.below hb⟩
  rw [hb.cell (p := ⟨b, o + j, none⟩) hlt]
  exact c0
theorem ownsSt_block {w : World} {B : Nat} {v : Value} {n : Nat} {xs : List Value} (h : w.ownsRow B 71 1 v n xs) : ∀ k, v.ownBlock = some k → B ≤ k ∧ k < w.heap.size := by
  intro k hk
  obtain ⟨h1, ⟨rfl, _⟩ | ⟨g, cap, cur, rfl, hb, hh, hr⟩⟩ := h
  · cases hk
  · have : g = k := Option.some.inj hk
    subst this
    exact ⟨hb, (Array.getElem?_eq_some_iff.1 hh).1⟩
theorem Tryz.infoAs : (Tryz.prog.info? 71).map (fun i => (i.zero, i.size, i.bytes)) = some (some (.slice none 0 0), 1, 24) := by kernel_rfl
end Go.Proofs.YtjlohghknejjoaaGreatDoor
