/- Joined texts: the document's Joined. -/
import Derived.Test.YtnmmfcoclpapdaaGreatDoorB62
import Derived.Test.YtnmmfcoclpapdaaGreatDoorB43
namespace Go.Proofs.YtnmmfcoclpapdaaGreatDoor
open Go.RowKit Go.Sort Go.Shelf

theorem joins_any (v : Value) (ts : List (List UInt8)) (w : World) (h : SRow w v ts) (hn : ts.length ≤ 1000000) (hl : (Lib.join ts [32]).length ≤ 140737488355328) :
    Calls Tryz.prog 93 #[v, .string ⟨#[32]⟩] w fun e w' => e = .returned (.string ⟨(Lib.join ts [32]).toArray⟩) ∧ Below w.heap.size w w' := by
  obtain ⟨a, c, rfl, h1, h2, h3⟩ := h
  have em : (ts.map fun t => (⟨t.toArray⟩ : ByteArray)).map (·.data.toList) = ts := by simp [Function.comp_def]
  have el : (ts.map fun t => (⟨t.toArray⟩ : ByteArray)).length = ts.length := by simp
  by_cases h0 : 0 < ts.length
  · obtain ⟨b, o, rfl, hb, hc⟩ := h3 h0
    have key := join_any b o c (ts.map fun t => (⟨t.toArray⟩ : ByteArray)) ⟨#[32]⟩ w (fun j x hx => by
      rw [List.getElem?_map] at hx
      obtain ⟨t, ht, rfl⟩ := Option.map_eq_some_iff.1 hx
      obtain ⟨hj, he⟩ := List.getElem?_eq_some_iff.1 ht
      rw [hc j hj, getElem!_pos ts j hj, he]) hb (by rw [el]; omega) (by rw [el]; exact h1) (by rw [em]; exact hl)
    rw [em, el] at key
    exact key
  · have e0 : ts = [] := List.length_eq_zero_iff.1 (by omega)
    subst e0
    refine (join_none ⟨#[32]⟩ c a w).mono ?_
    rintro e w' ⟨rfl, rfl⟩
    exact ⟨by simp [Lib.join, List.intercalate], Below.refl _ _⟩

set_option maxRecDepth 100000 in
theorem refJoined_any (v : Value) (ts : List (List UInt8)) (w : World) (h : SRow w v ts) (hn : ts.length ≤ 1000000) (hl : (Lib.join ts [32]).length ≤ 140737488355328) :
    Calls Tryz.prog 37 #[v] w fun e w' => e = .returned (.string ⟨(Lib.join ts [32]).toArray⟩) ∧ Below w.heap.size w w' := by
  have HJ := hide (joins_any v ts w h hn hl)
  obtain ⟨S, hS⟩ : ∃ S : ByteArray, ⟨(Lib.join ts [32]).toArray⟩ = S := ⟨_, rfl⟩
  rw [hS] at HJ ⊢
  clear h hn hl hS
  go_enter Tryz.func37, Tryz.ntmps37
  go_wp2_with fail
  refine (unhide HJ).mono ?_
  rintro e w1 ⟨rfl, hb⟩
  have HB := hide hb
  clear hb HJ
  go_wp2
  go_ret
  exact ⟨rfl, unhide HB⟩
end Go.Proofs.YtnmmfcoclpapdaaGreatDoor
