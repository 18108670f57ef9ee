/- Share, where a kind is wrong. -/
import Derived.Test.YtigilnkcjblhcaaDoorQ16
namespace Go.Proofs.YtigilnkcjblhcaaDoor
open Go.RowKit Go.Sort Go.Shelf

/-- What Share says of kinds that may not be. -/
def ShareErr (w : World) (e : Ending) (w' : World) : Prop := ∃ k : Int, e = .returned (.tuple #[.slice none 0 0, .slice none 0 0, .iface 62 (.int .i64 k)]) ∧ Below w.heap.size w w'

set_option maxHeartbeats 8000000 in
set_option maxRecDepth 100000 in
set_option linter.unusedSimpArgs false in
theorem share_bad (v : Value) (ks : List (Rat × Int)) (L : Nat) (w : World) (h : KindsAre w v ks) (no : ¬ OkK ks) (hl : ks.length ≤ 6) (hL : L ≤ 12) :
    Calls Tryd.prog 21 #[v, .int .i64 (L : Int)] w (ShareErr w) := by
  obtain ⟨a, c, rfl, h1, h2, h3⟩ := h
  have H3 := hide h3
  have HNO := hide no
  have f1 : ¬ (20 : Int) < (ks.length : Int) := by omega
  have f2 : ¬ (L : Int) < 0 := by omega
  have f3 : ¬ (100 : Int) < (L : Int) := by omega
  clear h3 no
  go_enter Tryd.func21, Tryd.ntmps21
  go_wp2_with fail
  go_loopw [27] (fun vi wr => ∃ i : Nat, vi = .int .i64 (i : Int) ∧ i ≤ ks.length ∧ Below w.heap.size w wr ∧ ∀ j, j < i → 0 ≤ (ks[j]!).1.num ∧ 1 ≤ (ks[j]!).2 ∧ (ks[j]!).2 ≤ 100) (fun vi _ => ks.length - (intOf vi).toNat)
  case atStart => exact ⟨0, rfl, Nat.zero_le _, Below.refl _ _, fun j h => absurd h (Nat.not_lt_zero _)⟩
  case round =>
    obtain ⟨i, rfl, hi, hb, hall⟩ := hrel
    by_cases hlt : i < ks.length
    · obtain ⟨b, o, rfl, hblt, hcs⟩ := unhide H3 (by omega)
      obtain ⟨tk, ⟨k0, k1, k2, k3⟩, kr⟩ := hcs i hlt
      obtain ⟨q, hq⟩ : ∃ q, (ks[i]!).1 = q := ⟨_, rfl⟩
      obtain ⟨z, hz⟩ : ∃ z : Int, (ks[i]!).2 = z := ⟨_, rfl⟩
      rw [hq] at kr
      rw [hz] at k3
      rw [← hb.cell (p := ⟨b, o + i * 4, none⟩) hblt] at k0
      rw [← hb.cell (p := ⟨b, o + i * 4 + 1, none⟩) hblt] at k1
      rw [← hb.cell (p := ⟨b, o + i * 4 + 2, none⟩) hblt] at k2
      rw [← hb.cell (p := ⟨b, o + i * 4 + 3, none⟩) hblt] at k3
      have Y0 := KBox.new z (kr.below hb)
      have bA := alloc_below wr (.cells #[.bool tk.s, .slice tk.a1 tk.n1 tk.c1, .slice tk.a2 tk.n2 tk.c2, .int .i64 z] 56)
      have HB1 := hide (below_step hb bA)
      obtain ⟨W2, hW2⟩ : ∃ W, wr.alloc (.cells #[.bool tk.s, .slice tk.a1 tk.n1 tk.c1, .slice tk.a2 tk.n2 tk.c2, .int .i64 z] 56) = W := ⟨_, rfl⟩
      obtain ⟨bk, hbk⟩ : ∃ g, wr.heap.size = g := ⟨_, rfl⟩
      rw [hW2] at Y0 HB1
      rw [hbk] at Y0
      have HY1 := hide Y0
      have e1 : (i : Int) < (ks.length : Int) := by omega
      have e0 : (0 : Int) ≤ (i : Int) := by omega
      have ⟨c0, c1, c2, c3⟩ := Y0.cells _ (Below.refl _ _)
      have hsg := sign_any tk.val q W2 Y0.2
      have HQ1 := hide hq
      have HZ1 := hide hz
      simp only [Tri.val] at hsg
      clear Y0 bA kr hcs hq hz hb
      have HALL := hide hall
      clear hall
      by_cases hng : q.num < 0
      · rw [Int.sign_eq_neg_one_of_neg hng] at hsg
        have HX := hide hsg
        clear hsg
        go_wp2_with fail
        clear hW2 hbk k0 k1 k2 k3 c0 c1 c2 c3
        refine (unhide HX).mono ?_
        rintro e w3 ⟨rfl, hb3⟩
        have HB3 := hide (below_step (unhide HB1) hb3)
        clear hb3 HX
        go_wp2
        exact bodyPost_ret (v := .tuple #[.slice none 0 0, .slice none 0 0, .iface 62 (.int .i64 1)]) (by simp [results, Tryd.results21, go_sem]) rfl ⟨1, rfl, unhide HB3⟩
      · have HSG : Hid (∃ x : Int, 0 ≤ x ∧ x ≤ 1 ∧ Calls Tryd.prog 16 #[.agg #[.bool tk.s, .slice tk.a1 tk.n1 tk.c1, .slice tk.a2 tk.n2 tk.c2]] W2 fun e w' => e = .returned (.int .i64 x) ∧ Below W2.heap.size W2 w') := ⟨q.num.sign, Int.sign_nonneg_iff.2 (Int.not_lt.1 hng), (sign_bd _).2, hsg⟩
        obtain ⟨x, x0, x1, hx⟩ := unhide HSG
        have HX := hide hx
        clear hsg HSG hx
        go_wp2_with fail
        clear hW2 hbk k0 k1 k2 k3 c0 c1 c2 c3
        refine (unhide HX).mono ?_
        rintro e w3 ⟨rfl, hb3⟩
        have ⟨c0, c1, c2, c3⟩ := (unhide HY1).cells _ hb3
        have HB3 := hide (below_step (unhide HB1) hb3)
        clear hb3 HX
        by_cases hz1 : z < 1
        · go_wp2
          exact bodyPost_ret (v := .tuple #[.slice none 0 0, .slice none 0 0, .iface 62 (.int .i64 2)]) (by simp [results, Tryd.results21, go_sem]) rfl ⟨2, rfl, unhide HB3⟩
        · by_cases hz2 : 100 < z
          · go_wp2
            exact bodyPost_ret (v := .tuple #[.slice none 0 0, .slice none 0 0, .iface 62 (.int .i64 2)]) (by simp [results, Tryd.results21, go_sem]) rfl ⟨2, rfl, unhide HB3⟩
          · have HN : Hid (∀ j, j < i + 1 → 0 ≤ (ks[j]!).1.num ∧ 1 ≤ (ks[j]!).2 ∧ (ks[j]!).2 ≤ 100) := fun j hj => by
              rcases Nat.lt_or_ge j i with h | h
              · exact unhide HALL j h
              · obtain rfl : j = i := by omega
                rw [unhide HQ1, unhide HZ1]
                exact ⟨by omega, by omega, by omega⟩
            go_wp2
            exact ⟨⟨i + 1, by go_num, hlt, unhide HB3, unhide HN⟩, by simp [intOf]; omega⟩
    · obtain rfl : i = ks.length := by omega
      have e1 : ¬ (ks.length : Int) < (ks.length : Int) := by omega
      exact absurd (fun j hj => hall j hj) (unhide HNO)
end Go.Proofs.YtigilnkcjblhcaaDoor
