/- walk.Ways, Above and Ahead; the ballot. -/
import Derived.Test.YtdicbnchkfclaaaDoorK1
import Derived.Test.YtdicbnchkfclaaaDoorShelf2
import Derived.Test.YtdicbnchkfclaaaDoorW26
import Derived.Test.YtdicbnchkfclaaaDoorA12
import Derived.Test.YtdicbnchkfclaaaDoorA15
import Derived.Test.YtdicbnchkfclaaaDoorA16
namespace Go.Proofs.YtdicbnchkfclaaaDoor
open Go.RowKit Go.Sort Go.Shelf

theorem below_grow (w : World) (k : Nat) (os : Array Obj) : Below w.heap.size w (grow (w.drewN k) os) := by
  refine ⟨rfl, rfl, rfl, by simp [grow], fun i hi => ?_⟩
  simp only [grow]
  rw [Array.getElem?_append_left (by simpa using hi)]
  rfl

theorem itoa_any (n : Int) (h0 : -9223372036854775808 ≤ n) (h1 : n ≤ 9223372036854775807) (w : World) (htab : Tab w) :
    Calls Tryd.prog 53 #[.int .i64 n] w fun e w' => e = .returned (.string ⟨(Lib.itoa n).toArray⟩) ∧ Below w.heap.size w w' :=
  (Tryd.strconv_Itoa n h0 h1 w htab).mono (by rintro e w' ⟨rfl, k, os, rfl⟩; exact ⟨rfl, below_grow _ _ _⟩)

/-- A whole number's text is a fraction's. -/
theorem itoa_text (n : Nat) : Lib.itoa (n : Int) = qtext (((n : Int) : Rat)) := by
  have h1 : (((n : Int) : Rat)).num = (n : Int) := rfl
  have h2 : (((n : Int) : Rat)).den = 1 := rfl
  unfold Lib.itoa qtext upperText
  rw [h1, h2, if_neg (by omega), if_neg (by omega), if_pos rfl]
  simp

theorem Ways_any (N : Nat) (z : Int) (hN : N ≤ 60) (h0 : -900 ≤ z) (h1 : z ≤ 900) (w : World) (htab : Tab w) :
    Calls Tryd.prog 25 #[.int .i64 (N : Int), .int .i64 z] w fun e w' => e = .returned (.tuple #[.string ⟨(Lib.itoa (waysv N z)).toArray⟩, .nilIface]) ∧ Below w.heap.size w w' := by
  have HO := hide (outside_any (N : Int) (by omega) (by omega) w)
  have HW := hide (ways_any N z hN (by omega) (by omega) w)
  have b := waysv_bd hN z
  have HI := hide (itoa_any (waysv N z) (by omega) (by omega) w htab)
  generalize waysv N z = x at *
  clear b
  go_enter Tryd.func25, Tryd.ntmps25
  go_wp2_with fail
  refine (unhide HO).mono ?_
  rintro e w1 ⟨rfl, rfl⟩
  go_wp2_with fail
  refine (unhide HW).mono ?_
  rintro e w2 ⟨rfl, rfl⟩
  go_wp2_with fail
  refine (unhide HI).mono ?_
  rintro e w3 ⟨rfl, hb⟩
  have HB := hide hb
  clear hb
  go_wp2
  go_ret2
  exact ⟨rfl, unhide HB⟩

theorem abovev_bd {N : Nat} (hN : N ≤ 60) (z : Int) : -9223372036854775808 ≤ abovev N z ∧ abovev N z ≤ 9223372036854775807 := by
  have b1 := waysv_bd hN z
  have b2 := waysv_bd hN (z + 2)
  unfold abovev
  split <;> omega

theorem Above_any (N : Nat) (z : Int) (hN : N ≤ 60) (h0 : -900 ≤ z) (h1 : z ≤ 900) (w : World) (htab : Tab w) :
    Calls Tryd.prog 26 #[.int .i64 (N : Int), .int .i64 z] w fun e w' => e = .returned (.tuple #[.string ⟨(Lib.itoa (abovev N z)).toArray⟩, .nilIface]) ∧ Below w.heap.size w w' := by
  have HO := hide (outside_any (N : Int) (by omega) (by omega) w)
  have HW := hide (above_any N z hN (by omega) (by omega) w)
  have b := abovev_bd hN z
  have HI := hide (itoa_any (abovev N z) (by omega) (by omega) w htab)
  generalize abovev N z = x at *
  clear b
  go_enter Tryd.func26, Tryd.ntmps26
  go_wp2_with fail
  refine (unhide HO).mono ?_
  rintro e w1 ⟨rfl, rfl⟩
  go_wp2_with fail
  refine (unhide HW).mono ?_
  rintro e w2 ⟨rfl, rfl⟩
  go_wp2_with fail
  refine (unhide HI).mono ?_
  rintro e w3 ⟨rfl, hb⟩
  have HB := hide hb
  clear hb
  go_wp2
  go_ret2
  exact ⟨rfl, unhide HB⟩

/-- How likely one is ahead all the time. -/
def aheadq (one other : Nat) : Rat := if one ≤ other then 0 else Rat.divInt ((one : Int) - other) ((one : Int) + other)

set_option maxHeartbeats 2000000 in
theorem Ahead_any (one other : Nat) (h1 : one ≤ 1000000000) (h2 : other ≤ 1000000000) (w : World) :
    Calls Tryd.prog 24 #[.int .i64 (one : Int), .int .i64 (other : Int)] w fun e w' => ∃ v, e = .returned (.tuple #[v, .nilIface]) ∧ RatIs w' v (aheadq one other) ∧ Below w.heap.size w w' := by
  have d1 : ¬ (one : Int) < 0 := by omega
  have d2 : ¬ (1000000000 : Int) < (one : Int) := by omega
  have d3 : ¬ (other : Int) < 0 := by omega
  have d4 : ¬ (1000000000 : Int) < (other : Int) := by omega
  have hb0 := alloc_below w (.cells #[.bool false, .slice none 0 0, .slice none 0 0] 36)
  by_cases hle : one ≤ other
  · have e : aheadq one other = 0 := by unfold aheadq; rw [if_pos hle]
    rw [e]
    have hle' : (one : Int) ≤ (other : Int) := by omega
    have HB := hide hb0
    clear e hb0
    go_enter Tryd.func24, Tryd.ntmps24
    go_wp2
    exact bodyPost_ret (v := .tuple #[.agg #[.bool false, .slice none 0 0, .slice none 0 0], .nilIface]) (by simp [results, Tryd.results24, go_sem]) rfl ⟨_, rfl, rat_zero _, unhide HB⟩
  · have e : aheadq one other = Rat.divInt ((one : Int) - other) ((one : Int) + other) := by unfold aheadq; rw [if_neg hle]
    rw [e]
    have hle' : ¬ (one : Int) ≤ (other : Int) := by omega
    have HO := hide (of_any ((one : Int) - other) ((one : Int) + other) (by omega) (by omega) (by omega) (by omega) (by omega) (w.alloc (.cells #[.bool false, .slice none 0 0, .slice none 0 0] 36)))
    have HB := hide hb0
    clear e hb0
    go_enter Tryd.func24, Tryd.ntmps24
    go_wp2_with fail
    refine (unhide HO).mono ?_
    rintro e w2 ⟨v2, rfl, hv2, hb2⟩
    obtain ⟨t, rfl, hr2⟩ := tri_of hv2
    have hbx : w2.heap[w.heap.size]? = some (.cells #[.bool false, .slice none 0 0, .slice none 0 0] 36) := by
      rw [hb2.block _ (by rw [alloc_heap, Array.size_push]; omega)]
      exact heap_alloc_new w _
    have ⟨g0, g1, g2, f0, f1, f2⟩ := box_cell hbx
    have rb := rat_boxed (w0 := w) hr2 hbx (below_step (unhide HB) hb2) (Nat.le_refl _) (.bool t.s) (.slice t.a1 t.n1 t.c1) (.slice t.a2 t.n2 t.c2)
    have RB := hide rb
    simp only [Tri.val]
    clear rb hv2 hr2 hb2 hbx
    go_wp2
    have rb := unhide RB
    exact bodyPost_ret (v := .tuple #[.agg #[.bool t.s, .slice t.a1 t.n1 t.c1, .slice t.a2 t.n2 t.c2], .nilIface]) (by simp [results, Tryd.results24, go_sem, g0, g1, g2]) rfl ⟨_, rfl, rb.1, rb.2⟩
end Go.Proofs.YtdicbnchkfclaaaDoor
