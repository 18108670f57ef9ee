/- What BirthLines needs of Share's numbers. -/
import Derived.Test.YtigilnkcjblhcaaDoorQ19
import Derived.Test.YtigilnkcjblhcaaDoorK1
namespace Go.Proofs.YtigilnkcjblhcaaDoor
open Go.RowKit Go.Sort Go.Shelf

section
variable {ks : List (Rat × Int)} (ok : OkK ks) (hr : ∀ j, j < ks.length → RS (ks[j]!).1 1) (hl : ks.length ≤ 6) {L : Nat} (hL : L ≤ 12)
include ok hr hl hL
theorem uvk_RS : ∀ j, j < L + 1 → RS (Bth.uv (bOf ks L) j) 100000 := fun j hj =>
  (uv_RS (b := bOf ks L) (J := 20) (M := L) (by omega) (fun s hs => (show RS (atR (ldl ks L ks.length) s) 20 from (ldl_RS ok hr L ks.length (Nat.le_refl _) s (by omega)).mono (by omega))) j (by omega)).mono (ubd_fit (show j ≤ 12 by omega))
theorem usk_RS : ∀ j, j ≤ L → RS (Bth.us (bOf ks L) j) 1500000 := fun j hj => by
  have hrr : ∀ j, j < (row (Bth.uv (bOf ks L)) (L + 1)).length → RS (row (Bth.uv (bOf ks L)) (L + 1))[j]! 100000 := fun j hj => by rw [row_length] at hj; rw [row_get hj]; exact uvk_RS ok hr hl hL j hj
  have h := qsum_RS hrr (j + 1) (by rw [row_length]; omega)
  rw [qsum_row _ _ _ (by omega)] at h
  exact h.mono (by omega)
theorem takenV_RS : ∀ j, j < L + 1 → RS (takenV ks L j) 1700000 := fun j hj =>
  (RS.div' (uvk_RS ok hr hl hL j hj) (usk_RS ok hr hl hL L (Nat.le_refl _)) (pos_num (Bth.us_pos (bOf_nn ok L) L))).mono (by omega)
theorem lostV_RS (i : Nat) : RS (lostV ks L i) 3100000 := by
  unfold lostV Bth.gone
  split
  · exact (RS.sub' onei_RS (RS.div' (usk_RS ok hr hl hL _ (by omega)) (usk_RS ok hr hl hL L (Nat.le_refl _)) (pos_num (Bth.us_pos (bOf_nn ok L) L)))).mono (by omega)
  · exact onei_RS.mono (by omega)
end
theorem lostV_mono {ks : List (Rat × Int)} (ok : OkK ks) (L : Nat) {i k : Nat} (h : (ks[k]!).2 ≤ (ks[i]!).2) : lostV ks L k ≤ lostV ks L i :=
  Bth.gone_mono (bOf_nn ok L) L (by omega)
theorem taken_sum {ks : List (Rat × Int)} (ok : OkK ks) (L : Nat) : qsum (row (takenV ks L) (L + 1)) (row (takenV ks L) (L + 1)).length = ((1 : Int) : Rat) := by
  rw [row_length, qsum_row _ _ _ (Nat.le_refl _)]
  exact Bth.taken_one (bOf_nn ok L) L
theorem okK_one {a : Rat} (h : 0 ≤ a.num) : OkK [(a, 1)] := fun j hj => by
  obtain rfl : j = 0 := by simp at hj; exact hj
  exact ⟨h, Int.le_refl 1, show (1 : Int) ≤ 100 by decide⟩
theorem not_okK_one {a : Rat} (h : a.num < 0) : ¬ OkK [(a, 1)] := fun ok => by
  have := (ok 0 Nat.one_pos).1
  have e : ([(a, (1 : Int))][0]!).1 = a := rfl
  rw [e] at this; omega
theorem rsK_one {a : Rat} (h : RS a 1) : ∀ j, j < [(a, (1 : Int))].length → RS ([(a, (1 : Int))][j]!).1 1 := fun j hj => by
  obtain rfl : j = 0 := by simp at hj; exact hj
  exact h
theorem bOf_one (a : Rat) (L s : Nat) : bOf [(a, 1)] L s = if s = 1 ∧ 1 ≤ L then a else 0 := by
  unfold bOf atR
  show (if (([(a, (1 : Int))][0]!).2) ≤ (L : Int) then (ldl [(a, 1)] L 0).set ([(a, (1 : Int))][0]!).2.toNat ((ldl [(a, 1)] L 0)[([(a, (1 : Int))][0]!).2.toNat]! + ([(a, (1 : Int))][0]!).1 * ((([(a, (1 : Int))][0]!).2 : Int) : Rat)) else ldl [(a, 1)] L 0)[s]! = _
  have e1 : ([(a, (1 : Int))][0]!) = (a, 1) := rfl
  rw [e1]
  show (if (1 : Int) ≤ (L : Int) then (ldl [(a, 1)] L 0).set 1 ((ldl [(a, 1)] L 0)[1]! + a * ((1 : Int) : Rat)) else ldl [(a, 1)] L 0)[s]! = _
  rcases Nat.lt_or_ge s (L + 1) with h | h
  · by_cases h1 : (1 : Int) ≤ (L : Int)
    · rw [if_pos h1, set_get (by rw [ldl_length]; exact h), ldl_zero _ _ (show 1 < L + 1 by omega), ldl_zero _ _ h]
      by_cases hs : s = 1
      · rw [if_pos hs.symm, if_pos ⟨hs, by omega⟩, Rat.zero_add]
        exact Rat.mul_one a
      · rw [if_neg (fun e => hs e.symm), if_neg (fun e => hs e.1)]
    · rw [if_neg h1, ldl_zero _ _ h, if_neg (fun e => h1 (by omega))]
  · have hn : ¬ (s = 1 ∧ 1 ≤ L) := fun e => by omega
    rw [if_neg hn]
    by_cases h1 : (1 : Int) ≤ (L : Int)
    · rw [if_pos h1, List.getElem!_eq_getElem?_getD, List.getElem?_eq_none (by rw [List.length_set, ldl_length]; exact h)]; rfl
    · rw [if_neg h1, List.getElem!_eq_getElem?_getD, List.getElem?_eq_none (by rw [ldl_length]; exact h)]; rfl
theorem lostV_one {a : Rat} (h : 0 ≤ a) (L : Nat) : lostV [(a, 1)] L 0 = Bth.eb a L :=
  Bth.gone_one h (fun hl => by rw [bOf_one, if_pos ⟨rfl, hl⟩]) (fun s hs => by rw [bOf_one, if_neg (fun e => by omega)])
/-- A literal row of one kind. -/
theorem kinds_one {w : World} {t : Tri} {a : Rat} (h : RatIs w t.val a) : KindsAre (w.alloc (.cells #[.bool t.s, .slice t.a1 t.n1 t.c1, .slice t.a2 t.n2 t.c2, .int .i64 1] 56)) (.slice (some ⟨w.heap.size, 0, none⟩) 1 1) [(a, 1)] := by
  refine ⟨_, 1, rfl, Nat.le_refl _, by decide, fun _ => ⟨w.heap.size, 0, rfl, by rw [alloc_heap, Array.size_push]; omega, fun j hj => ?_⟩⟩
  obtain rfl : j = 0 := by simp at hj; exact hj
  refine ⟨t, ?_, h.below (alloc_below w _)⟩
  have h' := heap_alloc_new w (.cells #[.bool t.s, .slice t.a1 t.n1 t.c1, .slice t.a2 t.n2 t.c2, .int .i64 1] 56)
  obtain ⟨W, hW⟩ : ∃ W, w.alloc (.cells #[.bool t.s, .slice t.a1 t.n1 t.c1, .slice t.a2 t.n2 t.c2, .int .i64 1] 56) = W := ⟨_, rfl⟩
  rw [hW] at h' ⊢
  refine ⟨?_, ?_, ?_, ?_⟩ <;> simp [World.cell?, h']
end Go.Proofs.YtigilnkcjblhcaaDoor
